/-
  spec.l4Changes.
-/
import Derived.Test.YtbpcdpeidhhjdaaEntA
import Derived.Test.YtbpcdpeidhhjdaaLawEA
namespace Go.Proofs.Ytbpcdpeidhhjdaa
open Go.RowKit

theorem newE (w W : World) (hW : w.heap.size ≤ W.heap.size) : OwnE (W.alloc (.cells #[] 53)) w.heap.size (.slice (some ⟨W.heap.size, 0, none⟩) 0 0) [] :=
  ⟨rfl, Or.inr ⟨W.heap.size, 0, #[], rfl, hW, by show (W.heap.push _)[W.heap.size]? = _; simp, Nat.le_refl _, by decide, rfl, rfl⟩⟩

set_option maxHeartbeats 1000000 in
theorem changes_sl {a : Option Addr} {cap : Nat} {l : List Ent} (w : World) (h : SlE w a cap l) :
    Calls Try.prog 39 #[.slice a l.length cap] w fun e w' => e = .returned (.bool (chB l)) ∧ Below w.heap.size w w' := by
  have hle := Nat.le_trans h.le h.max
  unfold maxLen at hle
  by_cases h6 : l.length ≤ 600
  · have hv : Hid (chB l = ordB l) := by unfold Hid chB; rw [decide_eq_true h6]; rfl
    go_enter Try.func39, Try.ntmps39
    go_wp2_with fail
    refine (inOrder_sl _ h).mono ?_
    rintro e w1 ⟨rfl, hb1⟩
    go_wp2
    go_ret
    exact ⟨by rw [hv.out]; rfl, hb1⟩
  · have hv : Hid (chB l = false) := by unfold Hid chB; rw [decide_eq_false h6]; rfl
    go_enter Try.func39, Try.ntmps39
    go_wp2
    go_ret
    exact ⟨by rw [hv.out]; rfl, Below.refl _ _⟩
end Go.Proofs.Ytbpcdpeidhhjdaa
