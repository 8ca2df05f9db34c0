import Derived.Test.YtjmhdjjkfglbgabDoorProg
import Derived.Test.YtjmhdjjkfglbgabDoorPureA
import Derived.Test.YtjmhdjjkfglbgabDoorBase
namespace Go.Proofs.YtjmhdjjkfglbgabDoor
open Go.RowKit

set_option maxHeartbeats 400000 in
theorem wordByte_any (c : Int) (w : World) :
    Calls Tryd.prog 56 #[.int .u8 c] w fun e w' => e = .returned (.bool (wbB c)) ∧ w' = w := by
  go_enter Tryd.func56, Tryd.ntmps56
  go_wp2
  all_goals (go_ret; exact ⟨ret_bool (by rw [Bool.eq_iff_iff]; simp [wbB] <;> omega), rfl⟩)

set_option maxHeartbeats 400000 in
theorem word_any (s : ByteArray) (w : World) (hs : s.size ≤ maxLen) :
    Calls Tryd.prog 23 #[.string s] w fun e w' => e = .returned (.bool (isW s)) ∧ w' = w := by
  unfold maxLen at hs
  go_enter Tryd.func23, Tryd.ntmps23
  go_wp2
  go_loop [3] (fun i => ∃ k : Nat, k ≤ s.size ∧ i = .int .i64 k ∧ Hid (((bts s).take k).all wbB = true)) (fun i => s.size - (intOf i).toNat)
  case atStart => exact ⟨0, Nat.zero_le _, rfl, rfl⟩
  case round =>
    obtain ⟨k, hk, rfl, hall⟩ := hrel
    by_cases hlt : k < s.size
    · go_wp2_with (go_at_call 56; refine (wordByte_any _ _).mono ?_; rintro e w' ⟨rfl, rfl⟩)
      · go_ret
        refine ⟨ret_bool ?_, rfl⟩
        rw [isW_of_take s k hlt (by simpa using (by assumption : (!wbB (s[k].toNat : Int)) = true))]
      · go_round
        case rel => exact ⟨k + 1, by omega, by go_num, by unfold Hid; rw [all_take_succ s k hlt, hall.out]; simpa using (by assumption : (!wbB (s[k].toNat : Int)) = false)⟩
        case measure => simp [intOf]; omega
    · go_wp2
      all_goals
        go_ret
        refine ⟨ret_bool ?_, rfl⟩
        rw [isW_of_all s (by rw [← List.take_of_length_le (show (bts s).length ≤ k by rw [bts_len]; omega)]; exact hall.out)]
        rw [Bool.eq_iff_iff]; simp <;> omega

end Go.Proofs.YtjmhdjjkfglbgabDoor
