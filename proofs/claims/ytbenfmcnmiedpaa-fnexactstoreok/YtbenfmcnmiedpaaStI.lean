/-
  impl.StoreOk.
-/
import Derived.Test.YtbenfmcnmiedpaaLyT
namespace Go.Proofs.Ytbenfmcnmiedpaa
open Go.RowKit

set_option maxHeartbeats 400000 in
theorem storeI_sl {a : Option Addr} {n cap : Nat} {G : Nat → Grp} (w : World) (h : SlT w a n cap G) :
    Calls Try.prog 29 #[.agg #[.slice a n cap]] w fun e w' => e = .returned (.bool (stoB G n)) ∧ Below w.heap.size w w' := by
  have hb0 : ∀ o, Below w.heap.size w (w.alloc o) := fun o => (Below.refl _ _).alloc (Nat.le_refl _) _
  go_enter Try.func29, Try.ntmps29
  go_wp2_with fail
  refine (layersOf_sl _ (h.below (hb0 _))).mono ?_
  rintro e w1 ⟨hb1, hp⟩
  have hw1 := (hb0 (.cells #[.slice a n cap] 50)).trans (hb1.mono (by simp))
  rcases hp with ⟨ht, la, lc, X, rfl, _, _⟩ | ⟨hf, rfl⟩
  · have hv : Hid (stoB G n = true) := ht
    clear ht
    go_wp2
    go_ret
    exact ⟨ret_bool hv.out.symm, hw1⟩
  · have hv : Hid (stoB G n = false) := hf
    clear hf
    go_wp2
    go_ret
    exact ⟨ret_bool hv.out.symm, hw1⟩
end Go.Proofs.Ytbenfmcnmiedpaa
