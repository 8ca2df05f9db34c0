import Derived.Test.YtjmhdjjkfglbgabDoorRefsS
import Derived.Test.YtjmhdjjkfglbgabDoorGrants
import Derived.Test.YtjmhdjjkfglbgabDoorSl
namespace Go.Proofs.YtjmhdjjkfglbgabDoor
open Go.RowKit

theorem refsS_zero (a : Option Addr) (cap : Nat) (id : ByteArray) (w : World) :
    Calls Tryd.prog 24 #[.slice a 0 cap, .string id] w fun e w' => e = .returned (.bool true) ∧ w' = w := by
  go_enter Tryd.func24, Tryd.ntmps24
  go_wp2
  refine wp_loop_rounds 1 ?_
  rw [rounds_succ]
  go_wp2
  go_ret
  exact ⟨rfl, rfl⟩

theorem grS_zero (a : Option Addr) (cap : Nat) (w : World) :
    Calls Tryd.prog 57 #[.slice a 0 cap] w fun e w' => e = .returned (.bool true) ∧ w' = w := by
  go_enter Tryd.func57, Tryd.ntmps57
  go_wp2
  refine wp_loop_rounds 1 ?_
  rw [rounds_succ]
  go_wp2
  go_ret
  exact ⟨rfl, rfl⟩

theorem refsS_sl {a : Option Addr} {n cap : Nat} {S : Nat → ByteArray} (id : ByteArray) (w : World) (h : SlS w a n cap S) :
    Calls Tryd.prog 24 #[.slice a n cap, .string id] w fun e w' => e = .returned (.bool (refsB S n id)) ∧ Dr w w' := by
  rcases h.cells with rfl | ⟨b, off, rfl, hb, hc⟩
  · refine (refsS_zero a cap id w).mono ?_
    rintro e w' ⟨rfl, rfl⟩
    exact ⟨rfl, Dr.refl _⟩
  · exact refsS_any b off n cap S id w h.le h.max h.size hc

theorem grS_sl {a : Option Addr} {n cap : Nat} {M : Nat → ByteArray} {L : Nat → Int} (w : World) (h : SlG w a n cap M L) :
    Calls Tryd.prog 57 #[.slice a n cap] w fun e w' => e = .returned (.bool (grB M L n)) ∧ Dr w w' := by
  rcases h.cells with rfl | ⟨b, off, rfl, hb, hc, hl⟩
  · refine (grS_zero a cap w).mono ?_
    rintro e w' ⟨rfl, rfl⟩
    exact ⟨rfl, Dr.refl _⟩
  · exact grS_any b off n cap M L w (Nat.le_trans h.le h.max) h.size hc hl
end Go.Proofs.YtjmhdjjkfglbgabDoor
