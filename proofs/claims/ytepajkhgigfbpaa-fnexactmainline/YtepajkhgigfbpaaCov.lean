import Derived.Test.YtepajkhgigfbpaaBase
namespace Go.Proofs.Ytepajkhgigfbpaa
open Go.RowKit

/-- the slice (a, n, cap) holds the numbers X 0 .. X (n-1). -/
structure SlI (w : World) (a : Option Addr) (n cap : Nat) (X : Nat → Int) : Prop where
  le : n ≤ cap
  max : cap ≤ maxLen
  cells : n = 0 ∨ ∃ b off, a = some ⟨b, off, none⟩ ∧ b < w.heap.size ∧ ∀ i, i < n → w.cell? ⟨b, off + i, none⟩ = some (.int .i64 (X i))

theorem SlI.below {w w' : World} {a : Option Addr} {n cap : Nat} {X : Nat → Int} (h : SlI w a n cap X) (hb : Below w.heap.size w w') : SlI w' a n cap X :=
  ⟨h.le, h.max, h.cells.imp id fun ⟨b, off, e, hlt, hc⟩ => ⟨b, off, e, Nat.lt_of_lt_of_le hlt hb.size, fun i hi => (hb.cell (by exact hlt)).trans (hc i hi)⟩⟩
theorem SlI.set {w : World} {b off n cap C j : Nat} {X : Nat → Int} (h : SlI w (some ⟨b, off, none⟩) n cap X) (hC : C ≠ b) (x : Value) : SlI (w.setCell ⟨C, j, none⟩ x) (some ⟨b, off, none⟩) n cap X :=
  ⟨h.le, h.max, h.cells.imp id fun ⟨b', off', e, hlt, hc⟩ => ⟨b', off', e, by simpa [World.setCell] using hlt, fun i hi => by
    have e2 : b = b' := by injection e with e; injection e
    rw [far_block (by omega)]; exact hc i hi⟩⟩

/-- the slice (a, n, cap) holds the pairs of numbers (C i, Q i). -/
structure SlP (w : World) (a : Option Addr) (n cap : Nat) (C Q : Nat → Int) : Prop where
  le : n ≤ cap
  max : cap ≤ maxLen
  cells : n = 0 ∨ ∃ b off, a = some ⟨b, off, none⟩ ∧ b < w.heap.size ∧ (∀ i, i < n → w.cell? ⟨b, off + i * 2, none⟩ = some (.int .i64 (C i))) ∧ ∀ i, i < n → w.cell? ⟨b, off + i * 2 + 1, none⟩ = some (.int .i64 (Q i))

theorem SlP.below {w w' : World} {a : Option Addr} {n cap : Nat} {C Q : Nat → Int} (h : SlP w a n cap C Q) (hb : Below w.heap.size w w') : SlP w' a n cap C Q :=
  ⟨h.le, h.max, h.cells.imp id fun ⟨b, off, e, hlt, hc, hl⟩ => ⟨b, off, e, Nat.lt_of_lt_of_le hlt hb.size, fun i hi => (hb.cell (by exact hlt)).trans (hc i hi), fun i hi => (hb.cell (by exact hlt)).trans (hl i hi)⟩⟩
theorem SlP.set {w : World} {b off n cap C j : Nat} {M L : Nat → Int} (h : SlP w (some ⟨b, off, none⟩) n cap M L) (hC : C ≠ b) (x : Value) : SlP (w.setCell ⟨C, j, none⟩ x) (some ⟨b, off, none⟩) n cap M L :=
  ⟨h.le, h.max, h.cells.imp id fun ⟨b', off', e, hlt, hc, hl⟩ => ⟨b', off', e, by simpa [World.setCell] using hlt, fun i hi => by
      have e2 : b = b' := by injection e with e; injection e
      rw [far_block (by omega)]; exact hc i hi, fun i hi => by
      have e2 : b = b' := by injection e with e; injection e
      rw [far_block (by omega)]; exact hl i hi⟩⟩

/-- at (B, o) lies a slice of the n numbers X. -/
def RowAt (w : World) (B o n : Nat) (X : Nat → Int) : Prop := ∃ ra rc, w.cell? ⟨B, o, none⟩ = some (.slice ra n rc) ∧ SlI w ra n rc X
theorem RowAt.below {w w' : World} {B o n : Nat} {X : Nat → Int} (h : RowAt w B o n X) (hb : Below w.heap.size w w') (hlt : B < w.heap.size) : RowAt w' B o n X := by
  obtain ⟨ra, rc, h1, h2⟩ := h
  exact ⟨ra, rc, (hb.cell (by exact hlt)).trans h1, h2.below hb⟩

/-- the slice (a, n, cap) holds n rows; row i has rn i numbers X i. -/
structure SlL (w : World) (a : Option Addr) (n cap : Nat) (rn : Nat → Nat) (X : Nat → Nat → Int) : Prop where
  le : n ≤ cap
  max : cap ≤ maxLen
  cells : n = 0 ∨ ∃ b off, a = some ⟨b, off, none⟩ ∧ b < w.heap.size ∧ ∀ i, i < n → RowAt w b (off + i) (rn i) (X i)

theorem SlL.below {w w' : World} {a : Option Addr} {n cap : Nat} {rn : Nat → Nat} {X : Nat → Nat → Int} (h : SlL w a n cap rn X) (hb : Below w.heap.size w w') : SlL w' a n cap rn X :=
  ⟨h.le, h.max, h.cells.imp id fun ⟨b, off, e, hlt, hc⟩ => ⟨b, off, e, Nat.lt_of_lt_of_le hlt hb.size, fun i hi => (hc i hi).below hb hlt⟩⟩

/-- at (B, o) lies a slice of the n numbers X, in a block of its own above B. -/
def RowNew (w : World) (B o n : Nat) (X : Nat → Int) : Prop := ∃ b, B < b ∧ w.cell? ⟨B, o, none⟩ = some (.slice (some ⟨b, 0, none⟩) n n) ∧ SlI w (some ⟨b, 0, none⟩) n n X
theorem RowNew.below {w w' : World} {B o n : Nat} {X : Nat → Int} (h : RowNew w B o n X) (hb : Below w.heap.size w w') (hlt : B < w.heap.size) : RowNew w' B o n X := by
  obtain ⟨b, h1, h2, h3⟩ := h
  exact ⟨b, h1, (hb.cell (by exact hlt)).trans h2, h3.below hb⟩
theorem RowNew.at {w : World} {B o n : Nat} {X : Nat → Int} (h : RowNew w B o n X) : RowAt w B o n X := by
  obtain ⟨b, _, h2, h3⟩ := h
  exact ⟨_, _, h2, h3⟩
theorem RowNew.put {w : World} {B o o' n : Nat} {X : Nat → Int} (h : RowNew w B o n X) (ho : o ≠ o') (x : Value) : RowNew (w.setCell ⟨B, o', none⟩ x) B o n X := by
  obtain ⟨b, h1, h2, h3⟩ := h
  exact ⟨b, h1, by rw [set_far ho]; exact h2, h3.set (by omega) _⟩
theorem RowNew.set {w : World} {B o n C j : Nat} {X : Nat → Int} (h : RowNew w B o n X) (hC : C < B) (x : Value) : RowNew (w.setCell ⟨C, j, none⟩ x) B o n X := by
  obtain ⟨b, h1, h2, h3⟩ := h
  exact ⟨b, h1, by rw [far_block (by omega)]; exact h2, h3.set (by omega) _⟩
end Go.Proofs.Ytepajkhgigfbpaa
