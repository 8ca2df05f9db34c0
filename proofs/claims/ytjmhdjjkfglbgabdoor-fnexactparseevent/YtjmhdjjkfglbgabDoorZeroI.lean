import Derived.Test.YtjmhdjjkfglbgabDoorRefsI
import Derived.Test.YtjmhdjjkfglbgabDoorGrantsI
import Derived.Test.YtjmhdjjkfglbgabDoorSl
namespace Go.Proofs.YtjmhdjjkfglbgabDoor
open Go.RowKit

theorem countWords_zero (a : Option Addr) (cap : Nat) (w : World) :
    Calls Tryd.prog 62 #[.slice a 0 cap] w fun e w' => e = .returned (.int .i64 0) ∧ w' = w := by
  go_enter Tryd.func62, Tryd.ntmps62
  go_wp2
  go_step3
  go_wp2
  go_step3
  go_wp2
  refine wp_loop_rounds 1 ?_
  rw [rounds_succ]
  go_wp2
  rw [Exit.noGoto_ret]
  go_ret
  exact ⟨rfl, rfl⟩

theorem allWords_zero (a : Option Addr) (cap : Nat) (w : World) :
    Calls Tryd.prog 31 #[.slice a 0 cap] w fun e w' => e = .returned (.bool true) ∧ w' = w := by
  go_enter Tryd.func31, Tryd.ntmps31
  go_wp2_with (go_at_call 62; refine (countWords_zero a cap _).mono ?_; rintro e w' ⟨rfl, rfl⟩)
  go_ret
  exact ⟨rfl, rfl⟩

theorem refsI_zero (a : Option Addr) (cap : Nat) (id : ByteArray) (w : World) :
    Calls Tryd.prog 33 #[.slice a 0 cap, .string id] w fun e w' => e = .returned (.bool true) ∧ w' = w := by
  go_enter Tryd.func33, Tryd.ntmps33
  go_wp2_with (go_at_call 31; refine (allWords_zero a cap _).mono ?_; rintro e w' ⟨rfl, rfl⟩)
  refine wp_loop_rounds 1 ?_
  rw [rounds_succ]
  go_wp2
  go_ret
  exact ⟨rfl, rfl⟩

theorem grI_zero (a : Option Addr) (cap : Nat) (w : World) :
    Calls Tryd.prog 139 #[.slice a 0 cap] w fun e w' => e = .returned (.bool true) ∧ w' = w := by
  go_enter Tryd.func139, Tryd.ntmps139
  go_wp2
  refine wp_loop_rounds 1 ?_
  rw [rounds_succ]
  go_wp2
  go_ret
  exact ⟨rfl, rfl⟩

theorem refsI_sl {a : Option Addr} {n cap : Nat} {S : Nat → ByteArray} (id : ByteArray) (w : World) (h : SlS w a n cap S) :
    Calls Tryd.prog 33 #[.slice a n cap, .string id] w fun e w' => e = .returned (.bool (refsB S n id)) ∧ w' = w := by
  rcases h.cells with rfl | ⟨b, off, rfl, hb, hc⟩
  · exact refsI_zero a cap id w
  · exact refsI_any b off n cap S id w h.le h.max h.size hc

theorem grI_sl {a : Option Addr} {n cap : Nat} {M : Nat → ByteArray} {L : Nat → Int} (w : World) (h : SlG w a n cap M L) :
    Calls Tryd.prog 139 #[.slice a n cap] w fun e w' => e = .returned (.bool (grB M L n)) ∧ Below w.heap.size w w' := by
  rcases h.cells with rfl | ⟨b, off, rfl, hb, hc, hl⟩
  · refine (grI_zero a cap w).mono ?_
    rintro e w' ⟨rfl, rfl⟩
    exact ⟨rfl, Below.refl _ _⟩
  · exact grI_any b off n cap M L w (Nat.le_trans h.le h.max) hb h.size hc hl
end Go.Proofs.YtjmhdjjkfglbgabDoor
