import Derived.Test.YtgocjlpbokhoeaaStoM
import Derived.Test.YtgocjlpbokhoeaaAnEM
import Derived.Test.YtgocjlpbokhoeaaOwnGM
namespace Go.Proofs.Ytgocjlpbokhoeaa
open Go.RowKit
structure Lg where
  a : Option Addr
  c : Nat
  lo : Nat
  hi : Nat
def gpL (g : Grp) (t : Lg) : List Value := [.int .i64 g.par, .slice t.a g.sets.length t.c]
def encP (G : Nat → Grp) (T : Nat → Lg) (n : Nat) : List Value := (List.range n).flatMap fun i => gpL (G i) (T i)
theorem encP_snoc (G : Nat → Grp) (T : Nat → Lg) (n : Nat) : encP G T n ++ gpL (G n) (T n) = encP G T (n + 1) := by simp [encP, List.range_succ]
theorem encP_len (G : Nat → Grp) (T : Nat → Lg) (n : Nat) : (encP G T n).length = n * 2 := by
  induction n with
  | zero => rfl
  | succ n ih => rw [← encP_snoc, List.length_append, ih]; simp [gpL]; omega
theorem encP_get (G : Nat → Grp) (T : Nat → Lg) : ∀ n i r, i < n → r < 2 → (encP G T n)[i * 2 + r]? = (gpL (G i) (T i))[r]?
  | 0, _, _, h, _ => absurd h (Nat.not_lt_zero _)
  | n + 1, i, r, h, hr => by
    rw [← encP_snoc]
    by_cases e : i = n
    · subst e
      rw [List.getElem?_append_right (by rw [encP_len]; omega), encP_len]
      congr 1
      omega
    · rw [List.getElem?_append_left (by rw [encP_len]; omega)]
      exact encP_get G T n i r (by omega) hr
theorem encP_congr {G G' : Nat → Grp} {T T' : Nat → Lg} : ∀ {n}, (∀ i, i < n → G i = G' i) → (∀ i, i < n → T i = T' i) → encP G T n = encP G' T' n
  | 0, _, _ => rfl
  | n + 1, h, h' => by rw [← encP_snoc, ← encP_snoc, encP_congr (fun i hi => h i (by omega)) (fun i hi => h' i (by omega)), h n (by omega), h' n (by omega)]
theorem gpL_one (g : Grp) (t : Lg) (u : Value) (h : u ∈ gpL g t) : u.oneCell' = true := by
  unfold gpL at h
  simp only [List.mem_cons, List.not_mem_nil, or_false] at h
  rcases h with rfl | rfl <;> rfl
theorem gpL_cells (W : World) (g : Grp) (t : Lg) (ty : TypeId) (j : Nat) (u : Value) (h : (gpL g t)[j]? = some u) : (W.alloc (.cells #[.int .i64 g.par, .slice t.a g.sets.length t.c] ty)).cell? ((⟨W.heap.size, 0, none⟩ : Addr).add j) = some u := by
  rw [Addr.add_lit, Nat.zero_add, World.cell?_alloc_at _ _ _ _ rfl]
  rw [← h]
  unfold gpL
  rw [List.getElem?_toArray]
def IvE (a : Option Addr) (n lo hi : Nat) : Prop := n = 0 ∨ ∃ b off, a = some ⟨b, off, none⟩ ∧ lo ≤ b ∧ b < hi
theorem SlE.kept {w w' : World} {a : Option Addr} {cap lo hi : Nat} {l : List Ent} (h : SlE w a cap l) (hs : w.heap.size ≤ w'.heap.size) (hv : IvE a l.length lo hi) (hk : ∀ b, lo ≤ b → b < hi → w'.heap[b]? = w.heap[b]?) : SlE w' a cap l := by
  refine ⟨h.le, h.max, h.size, ?_⟩
  rcases hv with h0 | ⟨b, off, rfl, h1, h2⟩
  · exact Or.inl (List.eq_nil_of_length_eq_zero h0)
  · refine h.cells.imp id fun ⟨b', off', e, hlt, c1, c2, c3⟩ => ?_
    have e2 : b = b' := by injection e with e; injection e
    subst e2
    have hc : ∀ o, w'.cell? ⟨b, o, none⟩ = w.cell? ⟨b, o, none⟩ := fun o => World.cell?_of_block (a := ⟨b, o, none⟩) (hk b h1 h2)
    exact ⟨b, off', e, Nat.lt_of_lt_of_le hlt hs, fun i hi => (hc _).trans (c1 i hi), fun i hi => (hc _).trans (c2 i hi), fun i hi => (hc _).trans (c3 i hi)⟩
theorem frozen_of_block {w w' : World} {b o : Nat} (h : w'.heap[b]? = w.heap[b]?) : w'.frozen? ⟨b, o, none⟩ = w.frozen? ⟨b, o, none⟩ := by simp [World.frozen?, h]
theorem Wr0.kept {w w' : World} {a : Option Addr} {n m lo hi base : Nat} (h : Wr0 w base a (n * m)) (hs : w.heap.size ≤ w'.heap.size) (hv : IvE a n lo hi) (hk : ∀ b, lo ≤ b → b < hi → w'.heap[b]? = w.heap[b]?) : Wr0 w' base a (n * m) := by
  rcases hv with h0 | ⟨b, off, rfl, h1, h2⟩
  · exact Or.inl (by rw [h0, Nat.zero_mul])
  · refine h.imp id fun ⟨b', off', e, q1, q2, hc⟩ => ?_
    have e2 : b = b' := by injection e with e; injection e
    subst e2
    exact ⟨b, off', e, q1, Nat.lt_of_lt_of_le q2 hs, fun i hi => ⟨(hc i hi).1.imp fun _ hx => (World.cell?_of_block (a := ⟨b, off' + i, none⟩) (hk b h1 h2)).trans hx, (frozen_of_block (hk b h1 h2)).trans (hc i hi).2⟩⟩
theorem own_keptP {w w' : World} {base e size n : Nat} {v : Value} {xs : List Value} (h : w.ownsRow base e size v n xs) (hk : ∀ g, v.ownBlock = some g → w'.heap[g]? = w.heap[g]?) : w'.ownsRow base e size v n xs := by
  obtain ⟨h1, h2⟩ := h
  refine ⟨h1, ?_⟩
  rcases h2 with h2 | ⟨g, cap, cur, rfl, hg, hh, r⟩
  · exact Or.inl h2
  · exact Or.inr ⟨g, cap, cur, rfl, hg, (hk g rfl).trans hh, r⟩
structure QP (w : World) (g : Grp) (t : Lg) : Prop where
  sl : SlE w t.a t.c g.sets
  wr : Wr0 w t.lo t.a (g.sets.length * 3)
  iv : IvE t.a g.sets.length t.lo t.hi
  hh : t.lo ≤ t.hi ∧ t.hi ≤ w.heap.size
  ow : OwnE w t.lo (.slice t.a g.sets.length t.c) g.sets
  oh : ∀ b, (Value.slice t.a g.sets.length t.c).ownBlock = some b → b < t.hi
theorem QP.kept {w w' : World} {g : Grp} {t : Lg} (h : QP w g t) (hs : w.heap.size ≤ w'.heap.size) (hk : ∀ b, t.lo ≤ b → b < t.hi → w'.heap[b]? = w.heap[b]?) : QP w' g t :=
  ⟨h.sl.kept hs h.iv hk, h.wr.kept hs h.iv hk, h.iv, ⟨h.hh.1, Nat.le_trans h.hh.2 hs⟩, own_keptP h.ow (fun g hg => hk g (World.ownsRow.lt h.ow g hg).1 (h.oh g hg)), h.oh⟩
theorem QP.below {w w' : World} {g : Grp} {t : Lg} (h : QP w g t) (hb : Below w.heap.size w w') : QP w' g t :=
  h.kept hb.size fun b _ h2 => hb.block b (Nat.lt_of_lt_of_le h2 h.hh.2)
theorem OwnE.qp {w : World} {base : Nat} {v : Value} {l : List Ent} (h : OwnE w base v l) (hs : AllOk l) (par : Int) (hb : base ≤ w.heap.size) : ∃ a c, v = .slice a l.length c ∧ QP w ⟨par, l⟩ ⟨a, c, base, w.heap.size⟩ := by
  obtain ⟨a, c, rfl, h1⟩ := h.sl hs.at
  have h2 := h.wr0 rfl
  refine ⟨a, c, rfl, h1, h2, ?_, ⟨hb, Nat.le_refl _⟩, h, fun b hb' => (World.ownsRow.lt h b hb').2⟩
  rcases h2 with h0 | ⟨b, off, e, q1, q2, _⟩
  · exact Or.inl (by show l.length = 0; omega)
  · exact Or.inr ⟨b, off, e, q1, q2⟩
structure RowP (w : World) (base : Nat) (v : Value) (n : Nat) (G : Nat → Grp) (T : Nat → Lg) : Prop where
  own : w.ownsRow base 46 2 v n (encP G T n)
  q : ∀ i, i < n → QP w (G i) (T i)
  low : ∀ i, i < n → base ≤ (T i).lo
  ord : ∀ i j, i < j → j < n → (T i).hi ≤ (T j).lo
  apart : ∀ g, v.ownBlock = some g → ∀ i, i < n → g < (T i).lo ∨ (T i).hi ≤ g
theorem RowP.kept {w w' : World} {base n : Nat} {v : Value} {G : Nat → Grp} {T : Nat → Lg} (h : RowP w base v n G T) (hs : w.heap.size ≤ w'.heap.size) (h1 : ∀ g, v.ownBlock = some g → w'.heap[g]? = w.heap[g]?) (h2 : ∀ i, i < n → ∀ b, (T i).lo ≤ b → b < (T i).hi → w'.heap[b]? = w.heap[b]?) : RowP w' base v n G T :=
  ⟨own_keptP h.own h1, fun i hi => (h.q i hi).kept hs (h2 i hi), h.low, h.ord, h.apart⟩
theorem RowP.cells {w : World} {base n : Nat} {v : Value} {G : Nat → Grp} {T : Nat → Lg} (h : RowP w base v n G T) :
    (v = .slice none 0 0 ∧ n = 0) ∨ ∃ g cap, v = .slice (some ⟨g, 0, none⟩) n cap ∧ base ≤ g ∧ g < w.heap.size ∧ n ≤ cap ∧ cap ≤ maxLen ∧ (∀ i, i < n → w.cell? ⟨g, i * 2, none⟩ = some (.int .i64 (G i).par) ∧ w.cell? ⟨g, i * 2 + 1, none⟩ = some (.slice (T i).a (G i).sets.length (T i).c)) ∧ ∀ o, w.frozen? ⟨g, o, none⟩ = false := by
  rcases row_cells h.own with h0 | ⟨g, cap, hv, hg, hlt, hn, hc, hx, hf⟩
  · exact Or.inl h0
  · refine Or.inr ⟨g, cap, hv, hg, hlt, hn, hc, fun i hi => ?_, hf⟩
    have hr : ∀ r, r < 2 → w.cell? ⟨g, i * 2 + r, none⟩ = (gpL (G i) (T i))[r]? := fun r hr => by
      have := hx (i * 2 + r) (by omega)
      rw [Nat.zero_add] at this
      rw [this]
      exact encP_get G T n i r hi hr
    exact ⟨hr 0 (by decide), hr 1 (by decide)⟩
theorem RowP.gt {w : World} {base n : Nat} {v : Value} {G : Nat → Grp} {T : Nat → Lg} (h : RowP w base v n G T) : ∀ g, v.ownBlock = some g → base ≤ g ∧ g < w.heap.size := fun g hg => by
  rcases h.cells with ⟨q, _⟩ | ⟨g', cap', q, q1, q2, _⟩
  · rw [q] at hg; cases hg
  · rw [q] at hg
    have : some g' = some g := hg
    injection this with this
    omega
theorem RowP.slt {w : World} {base n : Nat} {v : Value} {G : Nat → Grp} {T : Nat → Lg} (h : RowP w base v n G T) : ∃ a cap, v = .slice a n cap ∧ SlT w a n cap G := by
  rcases h.cells with ⟨rfl, rfl⟩ | ⟨g, cap, rfl, hg, hlt, hn, hc, hx, hf⟩
  · exact ⟨none, 0, rfl, ⟨Nat.le_refl _, by decide, Or.inl rfl⟩⟩
  · exact ⟨_, cap, rfl, ⟨hn, hc, Or.inr ⟨g, 0, rfl, hlt, fun i hi => by rw [Nat.zero_add]; exact ⟨_, _, (hx i hi).1, (hx i hi).2, (h.q i hi).sl⟩⟩⟩⟩
theorem RowP.below {w w' : World} {base n : Nat} {v : Value} {G : Nat → Grp} {T : Nat → Lg} (h : RowP w base v n G T) (hb : Below w.heap.size w w') : RowP w' base v n G T :=
  h.kept hb.size (fun g hg => hb.block g (h.gt g hg).2) fun i hi b _ h2 => hb.block b (Nat.lt_of_lt_of_le h2 (h.q i hi).hh.2)
theorem RowP.setB {w : World} {base n C j : Nat} {v x : Value} {G : Nat → Grp} {T : Nat → Lg} (h : RowP w base v n G T) (h1 : ∀ g, v.ownBlock = some g → g ≠ C) (h2 : ∀ i, i < n → C < (T i).lo ∨ (T i).hi ≤ C) : RowP (w.setCell ⟨C, j, none⟩ x) base v n G T :=
  h.kept (by simp [World.setCell]) (fun g hg => Below.heap_setCell _ _ _ _ (by exact h1 g hg)) fun i hi b q1 q2 => Below.heap_setCell _ _ _ _ (by show b ≠ C; have := h2 i hi; omega)
theorem RowP.base_le {w : World} {base base' n : Nat} {v : Value} {G : Nat → Grp} {T : Nat → Lg} (h : RowP w base v n G T) (hb : base' ≤ base) : RowP w base' v n G T := by
  refine ⟨?_, h.q, fun i hi => Nat.le_trans hb (h.low i hi), h.ord, h.apart⟩
  obtain ⟨h1, h2⟩ := h.own
  refine ⟨h1, ?_⟩
  rcases h2 with h2 | ⟨g, cap, cur, hv, hg, r⟩
  · exact Or.inl h2
  · exact Or.inr ⟨g, cap, cur, hv, Nat.le_trans hb hg, r⟩
theorem RowP.congG {w : World} {base n : Nat} {v : Value} {G G' : Nat → Grp} {T : Nat → Lg} (h : RowP w base v n G T) (hG : ∀ i, i < n → G i = G' i) : RowP w base v n G' T :=
  ⟨by rw [← encP_congr hG (fun _ _ => rfl)]; exact h.own, fun i hi => by rw [← hG i hi]; exact h.q i hi, h.low, h.ord, h.apart⟩
theorem RowP.none (w : World) (base : Nat) (G : Nat → Grp) (T : Nat → Lg) : RowP w base (.slice none 0 0) 0 G T :=
  ⟨⟨rfl, Or.inl ⟨rfl, rfl⟩⟩, fun _ hi => absurd hi (Nat.not_lt_zero _), fun _ hi => absurd hi (Nat.not_lt_zero _), fun _ _ _ hj => absurd hj (Nat.not_lt_zero _), fun _ _ _ hi => absurd hi (Nat.not_lt_zero _)⟩
theorem RowP.new (w : World) (base : Nat) (hb : base ≤ w.heap.size) (G : Nat → Grp) (T : Nat → Lg) : RowP (w.alloc (.cells #[] 46)) base (.slice (some ⟨w.heap.size, 0, .none⟩) 0 0) 0 G T :=
  ⟨⟨rfl, Or.inr ⟨w.heap.size, 0, #[], rfl, hb, by show (w.heap.push _)[w.heap.size]? = _; simp, Nat.le_refl _, by decide, rfl, rfl⟩⟩, fun _ hi => absurd hi (Nat.not_lt_zero _), fun _ hi => absurd hi (Nat.not_lt_zero _), fun _ _ _ hj => absurd hj (Nat.not_lt_zero _), fun _ _ _ hi => absurd hi (Nat.not_lt_zero _)⟩
def extL (T : Nat → Lg) (n : Nat) (t : Lg) : Nat → Lg := fun i => if i = n then t else T i
def extP (G : Nat → Grp) (n : Nat) (g : Grp) : Nat → Grp := fun i => if i = n then g else G i
theorem QP.grown {w w' : World} {g : Grp} {t : Lg} {row : Option Nat} (h : QP w g t) (hg : w.grownBy w' row) (hr : ∀ b, row = some b → b < t.lo ∨ t.hi ≤ b) : QP w' g t :=
  h.kept hg.size fun b h1 h2 => hg.block b (Nat.lt_of_lt_of_le h2 h.hh.2) (fun e => by have := hr b e.symm; omega)
theorem RowP.snoc {w w' : World} {base n g cap : Nat} {v : Value} {G : Nat → Grp} {T : Nat → Lg} {t : Lg} (h : RowP w base v n G T) (ht : QP w (G n) t) (h1 : base ≤ t.lo) (h2 : ∀ i, i < n → (T i).hi ≤ t.lo) (h3 : ∀ g, v.ownBlock = some g → g < t.lo ∨ t.hi ≤ g)
    (hown : w'.ownsRow base 46 2 (.slice (some ⟨g, 0, .none⟩) (n + 1) cap) (n + 1) (encP G T n ++ gpL (G n) t)) (hgr : w.grownBy w' v.ownBlock) (hg : v.ownBlock = some g ∨ w.heap.size ≤ g) : RowP w' base (.slice (some ⟨g, 0, .none⟩) (n + 1) cap) (n + 1) G (extL T n t) := by
  have e1 : extL T n t n = t := if_pos rfl
  have e2 : ∀ i, i < n → extL T n t i = T i := fun i hi => if_neg (by omega)
  have e3 : encP G T n = encP G (extL T n t) n := encP_congr (fun _ _ => rfl) fun i hi => (e2 i hi).symm
  have hrow : ∀ i, i < n → ∀ b, v.ownBlock = some b → b < (T i).lo ∨ (T i).hi ≤ b := fun i hi b hb => h.apart b hb i hi
  have hgi : ∀ i, i < n → g < (T i).lo ∨ (T i).hi ≤ g := fun i hi => by
    rcases hg with q | q
    · exact h.apart g q i hi
    · exact Or.inr (Nat.le_trans (h.q i hi).hh.2 q)
  have hgt : g < t.lo ∨ t.hi ≤ g := by
    rcases hg with q | q
    · exact h3 g q
    · exact Or.inr (Nat.le_trans ht.hh.2 q)
  refine ⟨?_, fun i hi => ?_, fun i hi => ?_, fun i j hij hj => ?_, fun g' hg' i hi => ?_⟩
  · rw [← encP_snoc, e1, ← e3]; exact hown
  · by_cases e : i = n
    · subst e; rw [e1]; exact ht.grown hgr h3
    · rw [e2 i (by omega)]; exact (h.q i (by omega)).grown hgr (hrow i (by omega))
  · by_cases e : i = n
    · subst e; rw [e1]; exact h1
    · rw [e2 i (by omega)]; exact h.low i (by omega)
  · by_cases e : j = n
    · subst e; rw [e1, e2 i hij]; exact h2 i hij
    · rw [e2 i (by omega), e2 j (by omega)]; exact h.ord i j hij (by omega)
  · have hgg : g = g' := by
      have : some g = some g' := hg'
      injection this
    subst hgg
    by_cases e : i = n
    · subst e; rw [e1]; exact hgt
    · rw [e2 i (by omega)]; exact hgi i (by omega)
end Go.Proofs.Ytgocjlpbokhoeaa
