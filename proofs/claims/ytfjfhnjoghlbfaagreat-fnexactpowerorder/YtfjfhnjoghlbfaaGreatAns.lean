/-
  Answers that are a row of texts and a code; such rows under marks.
-/
import Derived.Test.YtfjfhnjoghlbfaaGreatOwnB
import Derived.Test.YtfjfhnjoghlbfaaGreatLawA
namespace Go.Proofs.YtfjfhnjoghlbfaaGreat
open Go.RowKit

/-- the answer is the texts S 0 .. S (nl-1), in a row of the call's own, and the code c. -/
def AnsU (nl : Nat) (S : Nat → ByteArray) (c : Int) (w : World) (e : Ending) (w' : World) : Prop := Below w.heap.size w w' ∧
  ∃ a cap, e = .returned (.tuple #[.slice a nl cap, .int .i64 c]) ∧ SlS w' a nl cap S ∧ Wr0 w' w.heap.size a nl
theorem ansU_of {w w' : World} {v : Value} {L : List ByteArray} (c : Int) (hb : Below w.heap.size w w') (ho : OwnL w' w.heap.size v L) (hs : ∀ s ∈ L, s.size ≤ maxLen) : AnsU L.length (getL L) c w (.returned (.tuple #[v, .int .i64 c])) w' := by
  obtain ⟨a, cap, rfl, h1, h2⟩ := ho.sl hs
  exact ⟨hb, a, cap, rfl, h1, h2⟩

theorem SlS.low {w : World} {a : Option Addr} {n cap base : Nat} {S : Nat → ByteArray} (h : SlS w a n cap S) (hb : w.heap.size ≤ base) : LowS a n base :=
  h.cells.imp id fun ⟨b, off, e, hlt, _⟩ => ⟨b, off, e, by omega⟩
theorem SlS.mkd {w w' : World} {a : Option Addr} {n cap lo hi : Nat} {S : Nat → ByteArray} (h : SlS w a n cap S) (hm : Mkd lo hi w w') (hf : FarS a n lo hi) : SlS w' a n cap S := by
  refine ⟨h.le, h.max, h.size, ?_⟩
  rcases h.cells with h0 | ⟨b, off, rfl, hlt, hc⟩
  · exact Or.inl h0
  · rcases hf with h0 | ⟨b', off', e, hf⟩
    · exact Or.inl h0
    · injection e with e; injection e with e1 e2 _
      subst e1 e2
      exact Or.inr ⟨b, off, rfl, Nat.lt_of_lt_of_le hlt hm.size, fun i hi => by rw [hm.cell hlt hf]; exact hc i hi⟩
theorem Wr0.slw {w : World} {a : Option Addr} {n base : Nat} (h : Wr0 w base a n) : SlW w base a n 1 :=
  h.imp id fun ⟨b, off, e, h1, h3, hc⟩ => ⟨b, off, e, h1, h3, fun i hi => hc i (by omega)⟩
theorem Wr0.row {w : World} {a : Option Addr} {n base : Nat} (h : Wr0 w base a n) (b : Nat) (hb : rowOf a n = some b) : base ≤ b := by
  rcases h with h0 | ⟨b', off, rfl, h1, _⟩
  · unfold rowOf at hb; rw [if_pos h0] at hb; cases hb
  · unfold rowOf at hb
    split at hb
    · cases hb
    · have : b' = b := by simpa [blk] using hb
      omega
theorem SlS.grownL {w w' : World} {a : Option Addr} {n cap base : Nat} {S : Nat → ByteArray} {row : Option Nat} (h : SlS w a n cap S) (hg : w.grownBy w' row) (hr : ∀ b, row = some b → base ≤ b) (hl : LowS a n base) : SlS w' a n cap S := by
  refine ⟨h.le, h.max, h.size, ?_⟩
  rcases h.cells with h0 | ⟨b, off, rfl, hlt, hc⟩
  · exact Or.inl h0
  · rcases hl with h0 | ⟨b', off', e, hl⟩
    · exact Or.inl h0
    · injection e with e; injection e with e1 e2 _
      subst e1 e2
      refine Or.inr ⟨b, off, rfl, Nat.lt_of_lt_of_le hlt hg.size, fun i hi => ?_⟩
      rw [World.cell?_of_block (a := ⟨b, off + i, none⟩) (hg.block b hlt (fun e => by have := hr b e.symm; omega))]
      exact hc i hi
end Go.Proofs.YtfjfhnjoghlbfaaGreat
