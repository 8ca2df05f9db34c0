import Derived.Test.YtjmhdjjkfglbgabCdZ
namespace Go.Proofs.Ytjmhdjjkfglbgab
open Go.RowKit

theorem SlI.mkd {w w' : World} {lo hi : Nat} {a : Option Addr} {n cap : Nat} {X : Nat → Int} (h : SlI w a n cap X) (hm : Mkd lo hi w w') (hA : n = 0 ∨ ∃ b off, a = some ⟨b, off, none⟩ ∧ (b < lo ∨ hi ≤ b)) : SlI w' a n cap X := by
  refine ⟨h.le, h.max, ?_⟩
  rcases hA with h0 | ⟨b, off, rfl, ho⟩
  · exact Or.inl h0
  · rcases h.cells with h0 | ⟨b', off', e, hlt, hc⟩
    · exact Or.inl h0
    · have e2 : b = b' := by injection e with e; injection e
      subst e2
      exact Or.inr ⟨b, off', e, Nat.lt_of_lt_of_le hlt hm.size, fun i hi => (World.cell?_of_block (a := ⟨b, off' + i, none⟩) (hm.block b hlt ho)).trans (hc i hi)⟩
theorem SlI.low {w : World} {a : Option Addr} {n cap : Nat} {X : Nat → Int} (h : SlI w a n cap X) {lo hi : Nat} (hl : w.heap.size ≤ lo) : n = 0 ∨ ∃ b off, a = some ⟨b, off, none⟩ ∧ (b < lo ∨ hi ≤ b) :=
  h.cells.imp id fun ⟨b, off, e, hlt, _⟩ => ⟨b, off, e, Or.inl (by omega)⟩
theorem OwnI.high {w : World} {base n cap : Nat} {a : Option Addr} {X : Nat → Int} (h : OwnI w base (.slice a n cap) n X) {lo hi : Nat} (hb : hi ≤ base) : n = 0 ∨ ∃ b off, a = some ⟨b, off, none⟩ ∧ (b < lo ∨ hi ≤ b) := by
  rcases h.cells with ⟨_, h0⟩ | ⟨g, c, e, hg, _⟩
  · exact Or.inl h0
  · injection e with e1 _ _
    exact Or.inr ⟨g, 0, e1, Or.inr (by omega)⟩
theorem OwnI.wr {w : World} {base n cap : Nat} {a : Option Addr} {X : Nat → Int} (h : OwnI w base (.slice a n cap) n X) : Wr w base w.heap.size a n := by
  rcases h.cells with ⟨_, h0⟩ | ⟨g, c, e, hg, hlt, _, _, hc⟩
  · exact Or.inl h0
  · injection e with e1 e2 e3
    subst e1
    exact Or.inr ⟨g, 0, rfl, hg, hlt, hlt, fun i hi => ⟨⟨_, hc i hi⟩, World.ownsRow.frozenAt h (0 + i)⟩⟩
theorem Wr0.lt {w : World} {lo b off n hi : Nat} (h : Wr0 w lo (some ⟨b, off, none⟩) n) (hb : b < hi) : Wr w lo hi (some ⟨b, off, none⟩) n :=
  h.imp id fun ⟨b', off', e, h1, h3, hc⟩ => ⟨b', off', e, h1, by
    have e2 : b = b' := by injection e with e; injection e
    omega, h3, hc⟩
theorem RowsW.below {w w' : World} {b off n hi : Nat} {rn : Nat → Nat} (h : RowsW w b off n hi rn) (hb : b < w.heap.size) (hbl : Below w.heap.size w w') : RowsW w' b off n hi rn := fun i hi' => by
  obtain ⟨ra, rc, q1, q2, q3, q4⟩ := h i hi'
  exact ⟨ra, rc, (hbl.cell (by exact hb)).trans q1, q2, q3, q4.below hbl⟩
theorem RowsW.mkd {w w' : World} {b off n hi lo' hi' : Nat} {rn : Nat → Nat} (h : RowsW w b off n hi rn) (hb : b < w.heap.size) (hm : Mkd lo' hi' w w') (ho : b < lo' ∨ hi' ≤ b) : RowsW w' b off n hi rn := fun i hi' => by
  obtain ⟨ra, rc, q1, q2, q3, q4⟩ := h i hi'
  exact ⟨ra, rc, (World.cell?_of_block (a := ⟨b, off + i, none⟩) (hm.block b hb ho)).trans q1, q2, q3, q4.mkd hm⟩
theorem Dr.mkd {w w' : World} (h : Dr w w') (lo hi : Nat) : Mkd lo hi w w' := by
  obtain ⟨q, rfl⟩ := h
  exact ⟨rfl, rfl, rfl, Nat.le_refl _, fun _ _ _ => rfl, fun _ _ => rfl, fun _ _ h => h⟩
end Go.Proofs.Ytjmhdjjkfglbgab
