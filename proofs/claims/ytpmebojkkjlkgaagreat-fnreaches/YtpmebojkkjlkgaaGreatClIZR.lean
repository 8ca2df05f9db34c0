import Derived.Lib.SliceRun
import Derived.Test.YtpmebojkkjlkgaaGreatPoFZR
namespace Go.Proofs.YtpmebojkkjlkgaaGreat
open Go.RowKit
theorem strs_src {w : World} {b off n : Nat} {S : Nat -> ByteArray} (hc : ∀ i, i < n -> w.cell? ⟨b, off + i, none⟩ = some (.string (S i))) (j : Nat) (u : Value) (h : (strs S n)[j]? = some u) : w.cell? ((⟨b, off, none⟩ : Addr).add j) = some u := by
 have hj : j < n := by
  have := (List.getElem?_eq_some_iff.1 h).1
  rwa [strs_len] at this
 rw [strs_get S n j hj] at h
 rw [Addr.add_lit]
 exact (hc j hj).trans h
theorem strs_one (S : Nat -> ByteArray) (n : Nat) (u : Value) (h : u ∈ strs S n) : u.oneCell' = true := by
 unfold strs at h
 obtain ⟨i, _, rfl⟩ := List.mem_map.1 h
 rfl
theorem encG_src {w : World} {b off n : Nat} {M : Nat -> ByteArray} {L : Nat -> Int} (h1 : ∀ i, i < n -> w.cell? ⟨b, off + i * 2, none⟩ = some (.string (M i))) (h2 : ∀ i, i < n -> w.cell? ⟨b, off + i * 2 + 1, none⟩ = some (.int .i64 (L i))) (j : Nat) (u : Value) (h : (encG M L n)[j]? = some u) : w.cell? ((⟨b, off, none⟩ : Addr).add j) = some u := by
 have hj : j < n * 2 := by
  have := (List.getElem?_eq_some_iff.1 h).1
  rwa [encG_len] at this
 have hi := encG_get M L n (j / 2) (by omega)
 rcases (by omega : j = j / 2 * 2 ∨ j = j / 2 * 2 + 1) with e | e
 ·rw [e, hi.1] at h
  have := (h1 (j / 2) (by omega)).trans h
  rw [<- e] at this
  rw [Addr.add_lit]
  exact this
 ·rw [e, hi.2] at h
  have := (h2 (j / 2) (by omega)).trans h
  rw [show off + j / 2 * 2 + 1 = off + j by omega] at this
  rw [Addr.add_lit]
  exact this
theorem encG_one (M : Nat -> ByteArray) (L : Nat -> Int) (n : Nat) (u : Value) (h : u ∈ encG M L n) : u.oneCell' = true := by
 unfold encG at h
 obtain ⟨i, _, hi⟩ := List.mem_flatMap.1 h
 simp only [List.mem_cons, List.not_mem_nil, or_false] at hi
 rcases hi with rfl | rfl <;> rfl
theorem OwnG.slw {w : World} {base n : Nat} {v : Value} {M : Nat -> ByteArray} {L : Nat -> Int} (h : OwnG w base v n M L) (hs : ∀ i, i < n -> (M i).size <= maxLen) :
  ∃ a cap, v = .slice a n cap ∧ SlG w a n cap M L ∧ SlW w base a n 2 := by
 rcases row_cells h with ⟨rfl, rfl⟩ | ⟨g, cap, rfl, hg, hlt, hn, hc, hx, hf⟩
 ·exact ⟨none, 0, rfl, ⟨Nat.le_refl _, by decide, hs, Or.inl rfl⟩, Or.inl rfl⟩
 ·refine ⟨_, cap, rfl, ⟨hn, hc, hs, Or.inr ⟨g, 0, rfl, hlt, fun i hi => ?_, fun i hi => ?_⟩⟩, Or.inr ⟨g, 0, rfl, hg, hlt, fun i hi => ⟨?_, hf _⟩⟩⟩
  ·rw [show 0 + i * 2 = 0 + (i * 2) by omega, hx _ (by omega)]; exact (encG_get M L n i hi).1
  ·rw [show 0 + i * 2 + 1 = 0 + (i * 2 + 1) by omega, hx _ (by omega)]; exact (encG_get M L n i hi).2
  ·exact ⟨_, (hx i hi).trans (List.getElem?_eq_getElem (by rw [encG_len]; omega))⟩

section
variable (w : World) (B o : Nat) (e : Ev) (pa : Option Addr) (cp : Nat) (aa : Option Addr) (ca : Nat) (ga : Option Addr) (cg : Nat)
end
theorem Tryz.infoEvent : (Tryz.prog.info? 43).map (fun i => (i.zero, i.size, i.bytes)) = some (some (.agg #[.string ByteArray.empty, .string ByteArray.empty, .string ByteArray.empty, .bool false, .string ByteArray.empty, .int .i64 0, .slice none 0 0, .slice none 0 0, .string ByteArray.empty, .slice none 0 0]), 10, 168) := by kernel_rfl
def EvReach (e : Ev) : Prop := e.np * 16 <= 140737488351232 ∧ e.na * 16 <= 140737488351232 ∧ e.ng * 24 <= 140737488351232
def Iv (a : Option Addr) (n lo hi : Nat) : Prop := n = 0 ∨ ∃ b off, a = some ⟨b, off, none⟩ ∧ lo <= b ∧ b < hi
theorem SlW.iv {w : World} {base n sz : Nat} {a : Option Addr} (h : SlW w base a n sz) : Iv a n base w.heap.size :=
 h.imp id fun ⟨b, off, e, h1, h2, _⟩ => ⟨b, off, e, h1, h2⟩
theorem Iv.wide {a : Option Addr} {n lo hi lo' hi' : Nat} (h : Iv a n lo hi) (h1 : lo' <= lo) (h2 : hi <= hi') : Iv a n lo' hi' :=
 h.imp id fun ⟨b, off, e, q1, q2⟩ => ⟨b, off, e, by omega, by omega⟩
theorem SlS.setF {w : World} {a : Option Addr} {n cap C j lo hi : Nat} {S : Nat -> ByteArray} (h : SlS w a n cap S) (hv : Iv a n lo hi) (hC : C < lo ∨ hi <= C) (x : Value) : SlS (w.setCell ⟨C, j, none⟩ x) a n cap S := by
 refine ⟨h.le, h.max, h.size, ?_⟩
 rcases hv with h0 | ⟨b, off, rfl, h1, h2⟩
 ·exact Or.inl h0
 ·refine h.cells.imp id fun ⟨b', off', e, hlt, hc⟩ => ⟨b', off', e, by simpa [World.setCell] using hlt, fun i hi => ?_⟩
  have e2 : b = b' := by injection e with e; injection e
  rw [far_block (by omega)]
  exact hc i hi
structure CE (w : World) (B : Nat) (c0 : Array Value) (wx : World) : Prop where
 a0 : ∀ o, wx.cell? ⟨B, o, none⟩ = c0[o]?
 a1 : ∀ o, o < 10 -> ∃ v, wx.cell? ⟨B + 1, o, none⟩ = some v
 f0 : ∀ o, wx.frozen? ⟨B, o, none⟩ = false
 f1 : ∀ o, wx.frozen? ⟨B + 1, o, none⟩ = false
 size : B + 1 < wx.heap.size
 hB : B = w.heap.size
 below : Below w.heap.size w wx
theorem CE.mono {w wx wy : World} {B : Nat} {c0 : Array Value} (h : CE w B c0 wx) (hb : Below wx.heap.size wx wy) : CE w B c0 wy :=
 have hs := h.size
 ⟨fun o => (hb.cell (by show B < _; omega)).trans (h.a0 o), fun o ho => (h.a1 o ho).imp fun _ hv => (hb.cell (by exact hs)).trans hv,
  fun o => (hb.frozen (by show B < _; omega)).trans (h.f0 o), fun o => (hb.frozen (by exact hs)).trans (h.f1 o), Nat.lt_of_lt_of_le hs hb.size, h.hB, h.below.trans (hb.mono h.below.size)⟩
theorem CE.set {w wx : World} {B : Nat} {c0 : Array Value} (h : CE w B c0 wx) (j : Nat) (hj : j < c0.size) (x : Value) : CE w B (c0.setIfInBounds j x) (wx.setCell ⟨B, j, none⟩ x) := by
 refine ⟨fun o => ?_, fun o ho => by rw [far_block (by omega)]; exact h.a1 o ho, fun o => by rw [World.frozen?_setCell]; exact h.f0 o, fun o => by rw [World.frozen?_setCell]; exact h.f1 o, by simpa [World.setCell] using h.size, h.hB, h.below.setCell (by have := h.hB; show _ <= B; omega) _⟩
 by_cases e : o = j
 ·subst e
  rw [set_same ⟨c0[o], by rw [h.a0]; exact Array.getElem?_eq_getElem hj⟩]
  simp [hj]
 ·rw [set_far e, h.a0, Array.getElem?_setIfInBounds_ne (by omega)]
theorem CE.start {w : World} {c0 c1 : Array Value} {t0 t1 : TypeId} (h : c1.size = 10) : CE w w.heap.size c0 ((w.alloc (.cells c0 t0)).alloc (.cells c1 t1)) := by
 refine ⟨fun o => ?_, fun o ho => ⟨c1[o], ?_⟩, fun o => ?_, fun o => World.frozen?_alloc_at _ _ _ _ (by simp), by simp, rfl, ((Below.refl _ _).alloc (Nat.le_refl _) _).alloc (by simp) _⟩
 ·rw [World.cell?_alloc_past _ _ _ (by simp), World.cell?_alloc_at _ _ _ _ rfl]
 ·rw [World.cell?_alloc_at _ _ _ _ (by simp)]
  exact Array.getElem?_eq_getElem (by omega)
 ·rw [World.frozen?_alloc_past _ _ _ (by simp)]
  exact World.frozen?_alloc_at _ _ _ _ rfl
def blk (a : Option Addr) : Option Nat := a.map (·.block)
theorem grown_refl (w : World) (row : Option Nat) : w.grownBy w row := ⟨rfl, rfl, rfl, Nat.le_refl _, fun _ _ _ => rfl⟩
structure Ls where
 pa : Option Addr
 cp : Nat
 aa : Option Addr
 ca : Nat
 ga : Option Addr
 cg : Nat
 lo : Nat
 m1 : Nat
 m2 : Nat
 hi : Nat
theorem SlS.grownI {w w' : World} {a : Option Addr} {n cap lo hi : Nat} {S : Nat -> ByteArray} {row : Option Nat} (h : SlS w a n cap S) (hg : w.grownBy w' row) (hv : Iv a n lo hi) (hr : ∀ b, row = some b -> b < lo ∨ hi <= b) : SlS w' a n cap S := by
 refine ⟨h.le, h.max, h.size, ?_⟩
 rcases hv with h0 | ⟨b, off, rfl, h1, h2⟩
 ·exact Or.inl h0
 ·refine h.cells.imp id fun ⟨b', off', e, hlt, hc⟩ => ⟨b', off', e, Nat.lt_of_lt_of_le hlt hg.size, fun i hi => ?_⟩
  have e2 : b = b' := by injection e with e; injection e
  exact (hg.cell_far _ hlt (fun e3 => by have := hr b' e3.symm; omega)).trans (hc i hi)
theorem SlG.grownI {w w' : World} {a : Option Addr} {n cap lo hi : Nat} {M : Nat -> ByteArray} {L : Nat -> Int} {row : Option Nat} (h : SlG w a n cap M L) (hg : w.grownBy w' row) (hv : Iv a n lo hi) (hr : ∀ b, row = some b -> b < lo ∨ hi <= b) : SlG w' a n cap M L := by
 refine ⟨h.le, h.max, h.size, ?_⟩
 rcases hv with h0 | ⟨b, off, rfl, h1, h2⟩
 ·exact Or.inl h0
 ·refine h.cells.imp id fun ⟨b', off', e, hlt, hc, hl⟩ => ⟨b', off', e, Nat.lt_of_lt_of_le hlt hg.size, fun i hi => ?_, fun i hi => ?_⟩
  all_goals
   have e2 : b = b' := by injection e with e; injection e
  ·exact (hg.cell_far _ hlt (fun e3 => by have := hr b' e3.symm; omega)).trans (hc i hi)
  ·exact (hg.cell_far _ hlt (fun e3 => by have := hr b' e3.symm; omega)).trans (hl i hi)
def evL (e : Ev) (t : Ls) : List Value := [.string e.id, .string e.sd, .string e.ty, .bool e.st, .string e.key, .int .i64 e.tm, .slice t.pa e.np t.cp, .slice t.aa e.na t.ca, .string e.val, .slice t.ga e.ng t.cg]
def encV (E : Nat -> Ev) (T : Nat -> Ls) (n : Nat) : List Value := (List.range n).flatMap fun i => evL (E i) (T i)
theorem encV_snoc (E : Nat -> Ev) (T : Nat -> Ls) (n : Nat) : encV E T n ++ evL (E n) (T n) = encV E T (n + 1) := by simp [encV, List.range_succ]
theorem encV_len (E : Nat -> Ev) (T : Nat -> Ls) (n : Nat) : (encV E T n).length = n * 10 := by
 induction n with
 | zero => rfl
 | succ n ih => rw [<- encV_snoc, List.length_append, ih]; simp [evL]; omega
theorem encV_get (E : Nat -> Ev) (T : Nat -> Ls) : ∀ n i r, i < n -> r < 10 -> (encV E T n)[i * 10 + r]? = (evL (E i) (T i))[r]?
 | 0, _, _, h, _ => absurd h (Nat.not_lt_zero _)
 | n + 1, i, r, h, hr => by
  rw [<- encV_snoc]
  by_cases e : i = n
  ·subst e
   rw [List.getElem?_append_right (by rw [encV_len]; omega), encV_len]
   congr 1
   omega
  ·rw [List.getElem?_append_left (by rw [encV_len]; omega)]
   exact encV_get E T n i r (by omega) hr
theorem encV_congr {E : Nat -> Ev} {T T' : Nat -> Ls} : ∀ {n}, (∀ i, i < n -> T i = T' i) -> encV E T n = encV E T' n
 | 0, _ => rfl
 | n + 1, h => by rw [<- encV_snoc, <- encV_snoc, encV_congr (fun i hi => h i (by omega)), h n (by omega)]
theorem evL_one (e : Ev) (t : Ls) (u : Value) (h : u ∈ evL e t) : u.oneCell' = true := by
 unfold evL at h
 simp only [List.mem_cons, List.not_mem_nil, or_false] at h
 rcases h with rfl | rfl | rfl | rfl | rfl | rfl | rfl | rfl | rfl | rfl <;> rfl
theorem evL_cells (W : World) (e : Ev) (t : Ls) (ty : TypeId) (j : Nat) (u : Value) (h : (evL e t)[j]? = some u) : (W.alloc (.cells #[.string e.id, .string e.sd, .string e.ty, .bool e.st, .string e.key, .int .i64 e.tm, .slice t.pa e.np t.cp, .slice t.aa e.na t.ca, .string e.val, .slice t.ga e.ng t.cg] ty)).cell? ((⟨W.heap.size, 0, none⟩ : Addr).add j) = some u := by
 rw [Addr.add_lit, Nat.zero_add, World.cell?_alloc_at _ _ _ _ rfl]
 rw [<- h]
 unfold evL
 rw [List.getElem?_toArray]
structure QC (Q : World -> Ev -> Ls -> Prop) : Prop where
 below : ∀ {w w' : World} {e : Ev} {t : Ls}, Q w e t -> Below w.heap.size w w' -> Q w' e t
 grown : ∀ {w w' : World} {e : Ev} {t : Ls} {row : Option Nat}, Q w e t -> w.grownBy w' row -> (∀ b, row = some b -> b < t.lo ∨ t.hi <= b) -> Q w' e t
 ok : ∀ {w : World} {e : Ev} {t : Ls}, Q w e t -> EvOk w e t.pa t.cp t.aa t.ca t.ga t.cg
 hi : ∀ {w : World} {e : Ev} {t : Ls}, Q w e t -> t.lo <= t.hi ∧ t.hi <= w.heap.size
structure QJ (w : World) (e : Ev) (t : Ls) : Prop where
 ok : EvOk w e t.pa t.cp t.aa t.ca t.ga t.cg
 ip : Iv t.pa e.np t.lo t.hi
 ia : Iv t.aa e.na t.lo t.hi
 ig : Iv t.ga e.ng t.lo t.hi
 hh : t.lo <= t.hi ∧ t.hi <= w.heap.size
theorem qcJ : QC QJ := ⟨fun h hb => ⟨h.ok.below hb, h.ip, h.ia, h.ig, h.hh.1, Nat.le_trans h.hh.2 hb.size⟩,
 fun h hg hr => ⟨⟨h.ok.hid, h.ok.hsd, h.ok.hty, h.ok.hkey, h.ok.hval, h.ok.hp.grownI hg h.ip hr, h.ok.ha.grownI hg h.ia hr, h.ok.hg.grownI hg h.ig hr⟩, h.ip, h.ia, h.ig, h.hh.1, Nat.le_trans h.hh.2 hg.size⟩, fun h => h.ok, fun h => h.hh⟩
structure RowV (Q : World -> Ev -> Ls -> Prop) (w : World) (base : Nat) (v : Value) (n : Nat) (E : Nat -> Ev) (T : Nat -> Ls) : Prop where
 own : w.ownsRow base 43 10 v n (encV E T n)
 q : ∀ i, i < n -> Q w (E i) (T i)
 low : ∀ i, i < n -> base <= (T i).lo
 ord : ∀ i j, i < j -> j < n -> (T i).hi <= (T j).lo
 apart : ∀ g, v.ownBlock = some g -> ∀ i, i < n -> g < (T i).lo ∨ (T i).hi <= g
theorem RowV.below {Q : World -> Ev -> Ls -> Prop} (c : QC Q) {w w' : World} {base n : Nat} {v : Value} {E : Nat -> Ev} {T : Nat -> Ls} (h : RowV Q w base v n E T) (hb : Below w.heap.size w w') : RowV Q w' base v n E T :=
 ⟨ownsRow_blw h.own hb, fun i hi => c.below (h.q i hi) hb, h.low, h.ord, h.apart⟩
theorem RowV.new {Q : World -> Ev -> Ls -> Prop} (w : World) (base : Nat) (hb : base <= w.heap.size) (E : Nat -> Ev) (T : Nat -> Ls) : RowV Q (w.alloc (.cells #[] 43)) base (.slice (some ⟨w.heap.size, 0, none⟩) 0 0) 0 E T :=
 ⟨⟨rfl, Or.inr ⟨w.heap.size, 0, #[], rfl, hb, by show (w.heap.push _)[w.heap.size]? = _; simp, Nat.le_refl _, by decide, rfl, rfl⟩⟩, fun i hi => absurd hi (Nat.not_lt_zero _), fun i hi => absurd hi (Nat.not_lt_zero _), fun i j _ hj => absurd hj (Nat.not_lt_zero _), fun g _ i hi => absurd hi (Nat.not_lt_zero _)⟩
def extT (T : Nat -> Ls) (n : Nat) (t : Ls) : Nat -> Ls := fun i => if i = n then t else T i
theorem RowV.snoc {Q : World -> Ev -> Ls -> Prop} (c : QC Q) {w w' : World} {base n g cap : Nat} {v : Value} {E : Nat -> Ev} {T : Nat -> Ls} {t : Ls} (h : RowV Q w base v n E T) (ht : Q w (E n) t) (h1 : base <= t.lo) (h2 : ∀ i, i < n -> (T i).hi <= t.lo) (h3 : ∀ g, v.ownBlock = some g -> g < t.lo ∨ t.hi <= g)
  (hown : w'.ownsRow base 43 10 (.slice (some ⟨g, 0, none⟩) (n + 1) cap) (n + 1) (encV E T n ++ evL (E n) t)) (hgr : w.grownBy w' v.ownBlock) (hg : v.ownBlock = some g ∨ w.heap.size <= g) : RowV Q w' base (.slice (some ⟨g, 0, none⟩) (n + 1) cap) (n + 1) E (extT T n t) := by
 have e1 : extT T n t n = t := if_pos rfl
 have e2 : ∀ i, i < n -> extT T n t i = T i := fun i hi => if_neg (by omega)
 have e3 : encV E T n = encV E (extT T n t) n := encV_congr fun i hi => (e2 i hi).symm
 have hrow : ∀ i, i < n -> ∀ b, v.ownBlock = some b -> b < (T i).lo ∨ (T i).hi <= b := fun i hi b hb => h.apart b hb i hi
 have hgi : ∀ i, i < n -> g < (T i).lo ∨ (T i).hi <= g := fun i hi => by
  rcases hg with q | q
  ·exact h.apart g q i hi
  ·exact Or.inr (Nat.le_trans (c.hi (h.q i hi)).2 q)
 have hgt : g < t.lo ∨ t.hi <= g := by
  rcases hg with q | q
  ·exact h3 g q
  ·exact Or.inr (Nat.le_trans (c.hi ht).2 q)
 refine ⟨?_, fun i hi => ?_, fun i hi => ?_, fun i j hij hj => ?_, fun g' hg' i hi => ?_⟩
 ·rw [<- encV_snoc, e1, <- e3]; exact hown
 ·by_cases e : i = n
  ·subst e; rw [e1]; exact c.grown ht hgr h3
  ·rw [e2 i (by omega)]; exact c.grown (h.q i (by omega)) hgr (hrow i (by omega))
 ·by_cases e : i = n
  ·subst e; rw [e1]; exact h1
  ·rw [e2 i (by omega)]; exact h.low i (by omega)
 ·by_cases e : j = n
  ·subst e; rw [e1, e2 i hij]; exact h2 i hij
  ·rw [e2 i (by omega), e2 j (by omega)]; exact h.ord i j hij (by omega)
 ·have hgg : g = g' := by
   have : some g = some g' := hg'
   injection this
  subst hgg
  by_cases e : i = n
  ·subst e; rw [e1]; exact hgt
  ·rw [e2 i (by omega)]; exact hgi i (by omega)
theorem RowV.cells {Q : World -> Ev -> Ls -> Prop} {w : World} {base n : Nat} {v : Value} {E : Nat -> Ev} {T : Nat -> Ls} (h : RowV Q w base v n E T) :
  (v = .slice none 0 0 ∧ n = 0) ∨ ∃ g cap, v = .slice (some ⟨g, 0, none⟩) n cap ∧ base <= g ∧ g < w.heap.size ∧ n <= cap ∧ cap <= maxLen ∧ (∀ i, i < n -> EvCells w g (i * 10) (E i) (T i).pa (T i).cp (T i).aa (T i).ca (T i).ga (T i).cg) ∧ ∀ o, w.frozen? ⟨g, o, none⟩ = false := by
 rcases row_cells h.own with h0 | ⟨g, cap, hv, hg, hlt, hn, hc, hx, hf⟩
 ·exact Or.inl h0
 ·refine Or.inr ⟨g, cap, hv, hg, hlt, hn, hc, fun i hi => ?_, hf⟩
  have hr : ∀ r, r < 10 -> w.cell? ⟨g, i * 10 + r, none⟩ = (evL (E i) (T i))[r]? := fun r hr => by
   have := hx (i * 10 + r) (by omega)
   rw [Nat.zero_add] at this
   rw [this]
   exact encV_get E T n i r hi hr
  exact ⟨hr 0 (by decide), hr 1 (by decide), hr 2 (by decide), hr 3 (by decide), hr 4 (by decide), hr 5 (by decide), hr 6 (by decide), hr 7 (by decide), hr 8 (by decide), hr 9 (by decide)⟩
theorem RowV.slv {Q : World -> Ev -> Ls -> Prop} (c : QC Q) {w : World} {base n : Nat} {v : Value} {E : Nat -> Ev} {T : Nat -> Ls} (h : RowV Q w base v n E T) : ∃ a cap, v = .slice a n cap ∧ SlV w a n cap E := by
 rcases h.cells with ⟨rfl, rfl⟩ | ⟨g, cap, rfl, hg, hlt, hn, hc, hx, hf⟩
 ·exact ⟨none, 0, rfl, ⟨Nat.le_refl _, by decide, Or.inl rfl⟩⟩
 ·exact ⟨_, cap, rfl, ⟨hn, hc, Or.inr ⟨g, 0, rfl, hlt, fun i hi => by rw [Nat.zero_add]; exact ⟨_, _, _, _, _, _, hx i hi, c.ok (h.q i hi)⟩⟩⟩⟩
theorem own_kept {w w' : World} {base e size n : Nat} {v : Value} {xs : List Value} (h : w.ownsRow base e size v n xs) (hk : ∀ g, v.ownBlock = some g -> w'.heap[g]? = w.heap[g]?) : w'.ownsRow base e size v n xs := by
 obtain ⟨h1, h2⟩ := h
 refine ⟨h1, ?_⟩
 rcases h2 with h2 | ⟨g, cap, cur, rfl, hg, hh, r⟩
 ·exact Or.inl h2
 ·exact Or.inr ⟨g, cap, cur, rfl, hg, (hk g rfl).trans hh, r⟩
def Bk (a : Option Addr) (n g s : Nat) : Prop := n = 0 ∨ ∃ b off, a = some ⟨b, off, none⟩ ∧ (b = g ∨ b = s)
theorem Bk.of {a : Option Addr} {n c g s lo hi : Nat} (hv : Iv a n lo hi) (h : (Value.slice a n c).ownBlock = some g ∨ (Value.slice a n c).ownBlock = some s) : Bk a n g s := by
 rcases hv with h0 | ⟨b, off, rfl, _, _⟩
 ·exact Or.inl h0
 ·refine Or.inr ⟨b, off, rfl, ?_⟩
  rcases h with h | h
  ·have : some b = some g := h
   injection this with this
   exact Or.inl this
  ·have : some b = some s := h
   injection this with this
   exact Or.inr this
theorem SlS.grownN {w w' : World} {a : Option Addr} {n cap g s r : Nat} {S : Nat -> ByteArray} (h : SlS w a n cap S) (hg : w.grownBy w' (some r)) (hv : Bk a n g s) (h1 : r ≠ g) (h2 : r ≠ s) : SlS w' a n cap S := by
 refine ⟨h.le, h.max, h.size, ?_⟩
 rcases hv with h0 | ⟨b, off, rfl, hb⟩
 ·exact Or.inl h0
 ·refine h.cells.imp id fun ⟨b', off', e, hlt, hc⟩ => ⟨b', off', e, Nat.lt_of_lt_of_le hlt hg.size, fun i hi => ?_⟩
  have e2 : b = b' := by injection e with e; injection e
  exact (hg.cell_far _ hlt (fun e3 => by
   have e4 : some b' = some r := e3
   injection e4 with e4
   omega)).trans (hc i hi)
theorem CE.grown {w wx wy : World} {B g : Nat} {c0 : Array Value} (h : CE w B c0 wx) (hg : wx.grownBy wy (some g)) (h1 : B + 1 < g) : CE w B c0 wy := by
 have hs := h.size
 have n0 : some B ≠ some g := fun e => by injection e; omega
 have n1 : some (B + 1) ≠ some g := fun e => by injection e; omega
 exact ⟨fun o => (hg.cell_far _ (by show B < _; omega) n0).trans (h.a0 o), fun o ho => (h.a1 o ho).imp fun _ hv => (hg.cell_far _ (by exact hs) n1).trans hv,
  fun o => (hg.frozen_far _ (by show B < _; omega) n0).trans (h.f0 o), fun o => (hg.frozen_far _ (by exact hs) n1).trans (h.f1 o), Nat.lt_of_lt_of_le hs hg.size, h.hB, h.below.grown hg h.below.size (fun k hk => by injection hk with hk; have := h.hB; omega)⟩
def CpQ (Q : World -> Ev -> Ls -> Prop) (w : World) (e : Ev) (x : Ending) (w' : World) : Prop := ∃ t : Ls, x = .returned (.agg #[.string e.id, .string e.sd, .string e.ty, .bool e.st, .string e.key, .int .i64 e.tm, .slice t.pa e.np t.cp, .slice t.aa e.na t.ca, .string e.val, .slice t.ga e.ng t.cg]) ∧ Q w' e t ∧ w.heap.size <= t.lo ∧ Below w.heap.size w w'
structure QS (Q : World -> Ev -> Ls -> Prop) : Prop where
 c : QC Q
 s : ∀ {w : World} {e : Ev} {t : Ls} {C j : Nat} {x : Value}, Q w e t -> (C < t.lo ∨ t.hi <= C) -> Q (w.setCell ⟨C, j, none⟩ x) e t
 cp : ∀ (e : Ev) {pa aa ga : Option Addr} {cp ca cg : Nat} (w : World), EvReach e -> EvOk w e pa cp aa ca ga cg -> Calls Tryz.prog 44 #[.agg #[.string e.id, .string e.sd, .string e.ty, .bool e.st, .string e.key, .int .i64 e.tm, .slice pa e.np cp, .slice aa e.na ca, .string e.val, .slice ga e.ng cg]] w (CpQ Q w e)
end Go.Proofs.YtpmebojkkjlkgaaGreat
