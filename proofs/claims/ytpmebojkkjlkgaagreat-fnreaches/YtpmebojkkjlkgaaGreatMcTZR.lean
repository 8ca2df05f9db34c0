import Derived.Test.YtpmebojkkjlkgaaGreatCovTZR
namespace Go.Proofs.YtpmebojkkjlkgaaGreat
open Go.RowKit
structure St (w2 wr : World) (sv : Value) (i : Nat) (rv : Value) (j : Nat) (ev : Value) (ch : Nat) (F : Nat -> Nat) (f : Nat -> Sp) (rn : Nat -> Nat) (X : Nat -> Nat -> Int) (T : Nat -> Lr) : Prop where
 b0 : wr.cell? ⟨w2.heap.size, 0, none⟩ = some sv
 b1 : wr.cell? ⟨w2.heap.size, 1, none⟩ = some rv
 z0 : wr.frozen? ⟨w2.heap.size, 0, none⟩ = false
 z1 : wr.frozen? ⟨w2.heap.size, 1, none⟩ = false
 co : CovO wr (w2.heap.size + 1) sv i rv j f rn X T
 en : OwnI wr (w2.heap.size + 1) ev ch (fun c => ((F c : Nat) : Int))
 ap : ∀ g, ev.ownBlock = some g -> ∀ p, p < j -> g < (T p).lo ∨ (T p).hi <= g
 bel : Below w2.heap.size w2 wr
 sz : w2.heap.size < wr.heap.size
section
variable {w2 wr X0 w' : World} {i j ch : Nat} {sv rv ev : Value} {F G : Nat -> Nat} {f : Nat -> Sp} {rn : Nat -> Nat} {X : Nat -> Nat -> Int} {T : Nat -> Lr}
theorem St.below (h : St w2 wr sv i rv j ev ch F f rn X T) (hb : Below wr.heap.size wr w') : St w2 w' sv i rv j ev ch F f rn X T :=
 ⟨(hb.cell (by exact h.sz)).trans h.b0, (hb.cell (by exact h.sz)).trans h.b1, (hb.frozen (by exact h.sz)).trans h.z0, (hb.frozen (by exact h.sz)).trans h.z1, h.co.below hb, h.en.below hb, h.ap, h.bel.trans (hb.mono h.bel.size), Nat.lt_of_lt_of_le h.sz hb.size⟩
theorem St.neE (h : St w2 wr sv i rv j ev ch F f rn X T) : (∀ g, sv.ownBlock = some g -> some g ≠ ev.ownBlock) ∧ (∀ g, rv.ownBlock = some g -> some g ≠ ev.ownBlock) :=
 ⟨fun g hg e => typApart h.co.s h.en (by decide) g hg e.symm, fun g hg e => typApart h.co.r.own h.en (by decide) g hg e.symm⟩
theorem St.far (h : St w2 wr sv i rv j ev ch F f rn X T) (hb : Below wr.heap.size wr X0) {row : Option Nat} (hgr : X0.grownBy w' row) (hrow : ∀ q, row = some q -> w2.heap.size + 1 <= q) :
  w'.cell? ⟨w2.heap.size, 0, none⟩ = some sv ∧ w'.cell? ⟨w2.heap.size, 1, none⟩ = some rv ∧ w'.frozen? ⟨w2.heap.size, 0, none⟩ = false ∧ w'.frozen? ⟨w2.heap.size, 1, none⟩ = false ∧ Below w2.heap.size w2 w' ∧ w2.heap.size < w'.heap.size := by
 have hX := h.below hb
 have hne : some w2.heap.size ≠ row := fun e => by have := hrow _ e.symm; omega
 exact ⟨(hgr.cell_far _ (by exact hX.sz) hne).trans hX.b0, (hgr.cell_far _ (by exact hX.sz) hne).trans hX.b1, (hgr.frozen_far _ (by exact hX.sz) hne).trans hX.z0, (hgr.frozen_far _ (by exact hX.sz) hne).trans hX.z1, hX.bel.grown hgr (by have := hX.bel.size; omega) (fun q hq => by have := hrow q hq; omega), Nat.lt_of_lt_of_le hX.sz hgr.size⟩
theorem St.pushE {gg cc : Nat} (h : St w2 wr sv i rv j ev ch F f rn X T) (hb : Below wr.heap.size wr X0) (hown : w'.ownsRow (w2.heap.size + 1) 3 1 (.slice (some ⟨gg, 0, none⟩) (ch + 1) cc) (ch + 1) (ints (fun c => ((F c : Nat) : Int)) ch ++ [.int .i64 0])) (hgr : X0.grownBy w' ev.ownBlock) (hgg : ev.ownBlock = some gg ∨ X0.heap.size <= gg) (hF : F ch = 0) : St w2 w' sv i rv j (.slice (some ⟨gg, 0, none⟩) (ch + 1) cc) (ch + 1) F f rn X T := by
 have hX := h.below hb
 obtain ⟨q0, q1, q2, q3, q4, q5⟩ := h.far hb hgr (fun q hq => (rowGt h.en q hq).1)
 have hne := hX.neE
 refine ⟨q0, q1, q2, q3, hX.co.grownX hgr hne.1 hne.2 (fun p hp b hb' => hX.ap b hb' p hp), OwnI.snoc hown (by show (0 : Int) = ((F ch : Nat) : Int); rw [hF]; rfl), fun g hg p hp => ?_, q4, q5⟩
 have := ownInj hg
 subst this
 rcases hgg with q | q
 ·exact hX.ap _ q p hp
 ·exact Or.inr (Nat.le_trans (hX.co.r.q p hp).hh.2 q)
theorem St.putE {g cc c y : Nat} (h : St w2 wr sv i rv j (.slice (some ⟨g, 0, none⟩) ch cc) ch F f rn X T) (hG : ∀ i, i < ch -> G i = if i = c then y else F i) : St w2 (wr.setCell ⟨g, c, none⟩ (.int .i64 ((y : Nat) : Int))) sv i rv j (.slice (some ⟨g, 0, none⟩) ch cc) ch G f rn X T := by
 have hgr : wr.grownBy (wr.setCell ⟨g, c, none⟩ (.int .i64 ((y : Nat) : Int))) (some g) := (World.ownsRow.stored h.en c (.int .i64 ((y : Nat) : Int))).2
 obtain ⟨q0, q1, q2, q3, q4, q5⟩ := h.far (Below.refl _ _) hgr (fun q hq => (rowGt h.en q hq).1)
 have hne := h.neE
 refine ⟨q0, q1, q2, q3, h.co.grownX hgr hne.1 hne.2 (fun p hp b hb' => h.ap b hb' p hp), h.en.putY fun i hi => ?_, h.ap, q4, q5⟩
 show ((G i : Nat) : Int) = _
 rw [hG i hi]
 by_cases e : i = c
 ·rw [if_pos e, if_pos e]
 ·rw [if_neg e, if_neg e]
theorem St.cellE {g cc c : Nat} (h : St w2 wr sv i rv j (.slice (some ⟨g, 0, none⟩) ch cc) ch F f rn X T) (hc : c < ch) : (∃ v, wr.cell? ⟨g, c, none⟩ = some v) ∧ wr.frozen? ⟨g, c, none⟩ = false := by
 rcases rowCells h.en with ⟨q, _⟩ | ⟨g', cap', q, _, _, _, _, hx, hf⟩
 ·cases q
 ·have : g = g' := by injection q with q; injection q with q; injection q
  subst this
  have := hx c (by omega)
  rw [Nat.zero_add, ints_get _ _ c hc] at this
  exact ⟨⟨_, this⟩, hf c⟩
theorem St.pushS {gg cc : Nat} (h : St w2 wr sv i rv j ev ch F f rn X T) (hb : Below wr.heap.size wr X0) (hown : w'.ownsRow (w2.heap.size + 1) 35 2 (.slice (some ⟨gg, 0, none⟩) (i + 1) cc) (i + 1) (encS f i ++ spV (f i))) (hgr : X0.grownBy w' sv.ownBlock) (hgg : sv.ownBlock = some gg ∨ X0.heap.size <= gg) :
  w'.cell? ⟨w2.heap.size, 0, none⟩ = some sv ∧ w'.frozen? ⟨w2.heap.size, 0, none⟩ = false ∧ St w2 (w'.setCell ⟨w2.heap.size, 0, none⟩ (.slice (some ⟨gg, 0, none⟩) (i + 1) cc)) (.slice (some ⟨gg, 0, none⟩) (i + 1) cc) (i + 1) rv j ev ch F f rn X T := by
 have hX := h.below hb
 obtain ⟨q0, q1, q2, q3, q4, q5⟩ := h.far hb hgr (fun q hq => (rowGt h.co.s q hq).1)
 have hco := hX.co.pushS hown hgr hgg
 have hen : OwnI w' (w2.heap.size + 1) ev ch (fun c => ((F c : Nat) : Int)) := rowKept hX.en (fun g hg => hgr.block g (rowGt hX.en g hg).2 (fun e => hX.neE.1 g e.symm hg.symm))
 exact ⟨q0, q2, set_same ⟨_, q0⟩, by rw [set_far (by omega)]; exact q1, by rw [World.frozen?_setCell]; exact q2, by rw [World.frozen?_setCell]; exact q3, hco.setB (Nat.lt_succ_self _), rowKept hen (fun g hg => Below.heap_setCell _ _ _ _ (by show g ≠ w2.heap.size; have := rowGt hen g hg; omega)), h.ap, q4.setCell (Nat.le_refl _) _, by simpa [World.setCell] using q5⟩
theorem St.pushR {t : Lr} {gg cc : Nat} (h : St w2 wr sv i rv j ev ch F f rn X T) (hb : Below wr.heap.size wr X0) (ht : QR X0 (rn j) (X j) t) (hlo : wr.heap.size <= t.lo) (hown : w'.ownsRow (w2.heap.size + 1) 36 1 (.slice (some ⟨gg, 0, none⟩) (j + 1) cc) (j + 1) (encR rn T j ++ [.slice t.a (rn j) t.c])) (hgr : X0.grownBy w' rv.ownBlock) (hgg : rv.ownBlock = some gg ∨ X0.heap.size <= gg) :
  w'.cell? ⟨w2.heap.size, 1, none⟩ = some rv ∧ w'.frozen? ⟨w2.heap.size, 1, none⟩ = false ∧ St w2 (w'.setCell ⟨w2.heap.size, 1, none⟩ (.slice (some ⟨gg, 0, none⟩) (j + 1) cc)) sv i (.slice (some ⟨gg, 0, none⟩) (j + 1) cc) (j + 1) ev ch F f rn X (extR T j t) := by
 have hX := h.below hb
 obtain ⟨q0, q1, q2, q3, q4, q5⟩ := h.far hb hgr (fun q hq => (rowGt h.co.r.own q hq).1)
 have hco := h.co.pushR hb (by have := h.sz; omega) ht hlo hown hgr hgg
 have hen : OwnI w' (w2.heap.size + 1) ev ch (fun c => ((F c : Nat) : Int)) := rowKept hX.en (fun g hg => hgr.block g (rowGt hX.en g hg).2 (fun e => hX.neE.2 g e.symm hg.symm))
 refine ⟨q1, q3, by rw [set_far (by omega)]; exact q0, set_same ⟨_, q1⟩, by rw [World.frozen?_setCell]; exact q2, by rw [World.frozen?_setCell]; exact q3, hco.setB (Nat.lt_succ_self _), rowKept hen (fun g hg => Below.heap_setCell _ _ _ _ (by show g ≠ w2.heap.size; have := rowGt hen g hg; omega)), fun g hg p hp => ?_, q4.setCell (Nat.le_refl _) _, by simpa [World.setCell] using q5⟩
 unfold extR
 by_cases e : p = j
 ·rw [if_pos e]; exact Or.inl (by have := rowGt h.en g hg; omega)
 ·rw [if_neg e]; exact h.ap g hg p (by omega)
theorem St.shapes (h : St w2 wr sv i rv j ev ch F f rn X T) : (∃ a c, sv = .slice a i c ∧ SlP wr a i c (spC f) (spQ f)) ∧ (∃ a c, rv = .slice a j c ∧ SlL wr a j c rn X) ∧ ∃ a c, ev = .slice a ch c ∧ SlI wr a ch c (fun c => ((F c : Nat) : Int)) := ⟨h.co.s.sl, h.co.r.sl, h.en.sl⟩
end
structure TL (w2 w4 w6 : World) (sa : Option Addr) (scap k : Nat) (ra8 : Option Addr) (rc8 eg ec ch : Nat) (spk : Sp) (G : Nat -> Nat) (f : Nat -> Sp) (rn : Nat -> Nat) (X : Nat -> Nat -> Int) (T : Nat -> Lr) : Prop where
 e0 : ∃ v, w6.cell? ⟨eg, spk.c, none⟩ = some v
 e1 : w6.frozen? ⟨eg, spk.c, none⟩ = false
 p0 : w6.cell? ⟨w4.heap.size, 0, none⟩ = some (.int .i64 ((spk.c : Nat) : Int))
 p1 : w6.cell? ⟨w4.heap.size, 1, none⟩ = some (.int .i64 ((spk.q : Nat) : Int))
 y0 : (w6.setCell ⟨eg, spk.c, none⟩ (.int .i64 ((spk.q : Nat) : Int))).cell? ⟨w2.heap.size, 0, none⟩ = some (.slice sa k scap)
 y1 : (w6.setCell ⟨eg, spk.c, none⟩ (.int .i64 ((spk.q : Nat) : Int))).cell? ⟨w4.heap.size, 0, none⟩ = some (.int .i64 ((spk.c : Nat) : Int))
 y2 : (w6.setCell ⟨eg, spk.c, none⟩ (.int .i64 ((spk.q : Nat) : Int))).cell? ⟨w4.heap.size, 1, none⟩ = some (.int .i64 ((spk.q : Nat) : Int))
 own : (w6.setCell ⟨eg, spk.c, none⟩ (.int .i64 ((spk.q : Nat) : Int))).ownsRow (w2.heap.size + 1) 35 2 (.slice sa k scap) k (encS f k)
 gc : ∀ (j : Nat) (u : Value), (spV spk)[j]? = some u -> ((w6.setCell ⟨eg, spk.c, none⟩ (.int .i64 ((spk.q : Nat) : Int))).alloc (.cells #[.int .i64 ((spk.c : Nat) : Int), .int .i64 ((spk.q : Nat) : Int)] 35)).cell? ((⟨w6.heap.size, 0, none⟩ : Addr).add j) = some u
 m0 : w2.heap.size + 1 <= ((w6.setCell ⟨eg, spk.c, none⟩ (.int .i64 ((spk.q : Nat) : Int))).alloc (.cells #[.int .i64 ((spk.c : Nat) : Int), .int .i64 ((spk.q : Nat) : Int)] 35)).heap.size
 W8 : Hid (∀ (wx : World) (gg cc : Nat), wx.ownsRow (w2.heap.size + 1) 35 2 (.slice (some ⟨gg, 0, none⟩) (k + 1) cc) (k + 1) (encS f k ++ spV spk) -> ((w6.setCell ⟨eg, spk.c, none⟩ (.int .i64 ((spk.q : Nat) : Int))).alloc (.cells #[.int .i64 ((spk.c : Nat) : Int), .int .i64 ((spk.q : Nat) : Int)] 35)).grownBy wx (Value.slice sa k scap).ownBlock -> ((Value.slice sa k scap).ownBlock = some gg ∨ gg = w6.heap.size + 1) -> (wx.cell? ⟨w2.heap.size, 0, none⟩ = some (.slice sa k scap) ∧ wx.frozen? ⟨w2.heap.size, 0, none⟩ = false) ∧ St w2 (wx.setCell ⟨w2.heap.size, 0, none⟩ (.slice (some ⟨gg, 0, none⟩) (k + 1) cc)) (.slice (some ⟨gg, 0, none⟩) (k + 1) cc) (k + 1) (.slice ra8 k rc8) k (.slice (some ⟨eg, 0, none⟩) ch ec) ch G f rn X T ∧ ((wx.setCell ⟨w2.heap.size, 0, none⟩ (.slice (some ⟨gg, 0, none⟩) (k + 1) cc)).cell? ⟨w4.heap.size, 0, none⟩ = some (.int .i64 ((spk.c : Nat) : Int)) ∧ (wx.setCell ⟨w2.heap.size, 0, none⟩ (.slice (some ⟨gg, 0, none⟩) (k + 1) cc)).cell? ⟨w4.heap.size, 1, none⟩ = some (.int .i64 ((spk.q : Nat) : Int))) ∧ w4.heap.size < (wx.setCell ⟨w2.heap.size, 0, none⟩ (.slice (some ⟨gg, 0, none⟩) (k + 1) cc)).heap.size)
theorem tl_of {w2 w4 w6 : World} {sa : Option Addr} {scap k : Nat} {ra8 : Option Addr} {rc8 eg ec ch : Nat} {spk : Sp} {F G : Nat -> Nat} {f : Nat -> Sp} {rn : Nat -> Nat} {X : Nat -> Nat -> Int} {T : Nat -> Lr} (H6 : St w2 w6 (.slice sa k scap) k (.slice ra8 k rc8) k (.slice (some ⟨eg, 0, none⟩) ch ec) ch F f rn X T) (hf : f k = spk) (hsc : spk.c < ch) (hG : ∀ i, i < ch -> G i = if i = spk.c then spk.q else F i)
  (p60 : w6.cell? ⟨w4.heap.size, 0, none⟩ = some (.int .i64 ((spk.c : Nat) : Int))) (p61 : w6.cell? ⟨w4.heap.size, 1, none⟩ = some (.int .i64 ((spk.q : Nat) : Int))) (hPe : w4.heap.size ≠ eg) (hP6 : w4.heap.size < w6.heap.size) (hSg : ∀ g, (Value.slice sa k scap).ownBlock = some g -> g < w4.heap.size) (h24 : w2.heap.size < w4.heap.size) : TL w2 w4 w6 sa scap k ra8 rc8 eg ec ch spk G f rn X T := by
 obtain ⟨e60, e61⟩ := H6.cellE hsc
 have H7 : St w2 (w6.setCell ⟨eg, spk.c, none⟩ (.int .i64 ((spk.q : Nat) : Int))) (.slice sa k scap) k (.slice ra8 k rc8) k (.slice (some ⟨eg, 0, none⟩) ch ec) ch G f rn X T := H6.putE hG
 have p70 : (w6.setCell ⟨eg, spk.c, none⟩ (.int .i64 ((spk.q : Nat) : Int))).cell? ⟨w4.heap.size, 0, none⟩ = some (.int .i64 ((spk.c : Nat) : Int)) := by rw [far_block (fun e => hPe e.symm)]; exact p60
 have p71 : (w6.setCell ⟨eg, spk.c, none⟩ (.int .i64 ((spk.q : Nat) : Int))).cell? ⟨w4.heap.size, 1, none⟩ = some (.int .i64 ((spk.q : Nat) : Int)) := by rw [far_block (fun e => hPe e.symm)]; exact p61
 have hz : (w6.setCell ⟨eg, spk.c, none⟩ (.int .i64 ((spk.q : Nat) : Int))).heap.size = w6.heap.size := by simp [World.setCell]
 refine ⟨e60, e61, p60, p61, H7.b0, p70, p71, H7.co.s, fun j u hj => ?_, ?_, fun wx gg cc hown hgr hgg => ?_⟩
 ·have := spV_cells (w6.setCell ⟨eg, spk.c, none⟩ (.int .i64 ((spk.q : Nat) : Int))) spk 35 j u hj
  rw [hz] at this
  exact this
 ·have := H6.sz
  rw [World.size_alloc, hz]
  omega
 ·generalize hw7 : (w6.setCell ⟨eg, spk.c, none⟩ (.int .i64 ((spk.q : Nat) : Int))) = w7 at *
  have hP7 : w4.heap.size < w7.heap.size := by omega
  have hX7 : Below w7.heap.size w7 (w7.alloc (.cells #[.int .i64 ((spk.c : Nat) : Int), .int .i64 ((spk.q : Nat) : Int)] 35)) := (Below.refl _ _).alloc (Nat.le_refl _) _
  obtain ⟨q1, q2, q3⟩ := H7.pushS hX7 (by rw [hf]; exact hown) hgr (hgg.imp id fun e => by rw [e, World.size_alloc, hz]; exact Nat.le_refl _)
  have hne : some w4.heap.size ≠ (Value.slice sa k scap).ownBlock := fun e => by have := hSg _ e.symm; omega
  have hPX : w4.heap.size < (w7.alloc (.cells #[.int .i64 ((spk.c : Nat) : Int), .int .i64 ((spk.q : Nat) : Int)] 35)).heap.size := by rw [World.size_alloc]; omega
  have far : ∀ o, wx.cell? ⟨w4.heap.size, o, none⟩ = w7.cell? ⟨w4.heap.size, o, none⟩ := fun o => (hgr.cell_far _ (by exact hPX) hne).trans (hX7.cell (by exact hP7))
  refine ⟨⟨q1, q2⟩, q3, ⟨by rw [far_block (by omega)]; exact (far 0).trans p70, by rw [far_block (by omega)]; exact (far 1).trans p71⟩, ?_⟩
  have := hgr.size
  rw [World.size_alloc] at this
  simp only [World.setCell, Array.size_modify]
  omega
end Go.Proofs.YtpmebojkkjlkgaaGreat
