/-
  spec's l6Event, l6FromAuth, l6Power.
-/
import Derived.Test.YtnkpikknkooblaaGreatTpA
import Derived.Test.YtnkpikknkooblaaGreatRmB
namespace Go.Proofs.YtnkpikknkooblaaGreat
open Go.RowKit

/-- the answer is the event e. -/
def EePost (w : World) (e : Ev) (x : Ending) (w' : World) : Prop := Below w.heap.size w w' ∧
  ∃ pa cp aa ca ga cg, x = .returned (e.val' pa cp aa ca ga cg) ∧ EvOk w' e pa cp aa ca ga cg

/-- in l6Event: the room's box, the result's ten cells. -/
structure EZ (w : World) (x : Value) (W : World) : Prop where
  sz : w.heap.size + 1 + 1 ≤ W.heap.size
  bl : Below w.heap.size w W
  rb : W.cell? ⟨w.heap.size, 0, none⟩ = some x
  rs : ∀ o, o < 10 → ∃ v, W.cell? ⟨w.heap.size + 1, o, none⟩ = some v
  rf : ∀ o, W.frozen? ⟨w.heap.size + 1, o, none⟩ = false
theorem EZ.drew {w W : World} {x : Value} (h : EZ w x W) : EZ w x W.drew := ⟨h.sz, h.bl.drew, h.rb, h.rs, h.rf⟩
theorem EZ.call {w W W' : World} {x : Value} (h : EZ w x W) (hb : Below W.heap.size W W') : EZ w x W' :=
  ⟨Nat.le_trans h.sz hb.size, h.bl.trans (hb.mono h.bl.size), (hb.cell (by have := h.sz; show w.heap.size < _; omega)).trans h.rb, fun o ho => by
    obtain ⟨v, hv⟩ := h.rs o ho
    exact ⟨v, (hb.cell (by have := h.sz; show w.heap.size + 1 < _; omega)).trans hv⟩, fun o => (hb.frozen (by have := h.sz; show w.heap.size + 1 < _; omega)).trans (h.rf o)⟩

/-- an event with IsState, this type and this key. -/
def evP (kind key : ByteArray) (e : Ev) : Bool := e.st && e.ty.toList == kind.toList && e.key.toList == key.toList
/-- the Id of the first such event that e rests on. -/
def frV (E : Nat → Ev) (n : Nat) (P : Ev → Bool) (e : Ev) : ByteArray := if 0 ≤ scTo E n P e e.na then (E (scTo E n P e e.na).toNat).id else ⟨#[]⟩
theorem frV_hit {E : Nat → Ev} {n : Nat} {P : Ev → Bool} {e : Ev} {k y : Nat} (hk : k < e.na) (h0 : ∀ i, i < k → P (E (posV E n (e.Av i)).toNat) = false) (hy : posV E n (e.Av k) = (y : Int)) (h1 : P (E y) = true) : (E y).id = frV E n P e := by
  unfold frV
  rw [scTo_hit hk h0 hy h1, if_pos (by omega), Int.toNat_natCast]
theorem frV_miss {E : Nat → Ev} {n : Nat} {P : Ev → Bool} {e : Ev} (h0 : ∀ i, i < e.na → P (E (posV E n (e.Av i)).toNat) = false) : (⟨#[]⟩ : ByteArray) = frV E n P e := by
  unfold frV
  rw [scTo_miss _ h0, if_neg (by omega)]
end Go.Proofs.YtnkpikknkooblaaGreat
