import Derived.Test.YtjmhdjjkfglbgabDoorHas
namespace Go.Proofs.YtjmhdjjkfglbgabDoor
open Go.RowKit

set_option maxHeartbeats 400000 in
theorem index_any (b off n cap : Nat) (S : Nat → ByteArray) (s : ByteArray) (w : World) (hn : n ≤ maxLen)
    (hc : ∀ i, i < n → w.cell? ⟨b, off + i, none⟩ = some (.string (S i))) :
    Calls Tryd.prog 79 #[.slice (some ⟨b, off, none⟩) n cap, .string s] w fun e w' =>
      ∃ r : Int, e = .returned (.int .i64 r) ∧ Hid (decide (0 ≤ r) = hasB S n s) ∧ w' = w := by
  unfold maxLen at hn
  go_enter Tryd.func79, Tryd.ntmps79
  go_wp2
  go_loop [8] (fun i => ∃ k : Nat, k ≤ n ∧ i = .int .i64 k ∧ Hid (hasB S k s = false)) (fun i => n - (intOf i).toNat)
  case atStart => exact ⟨0, Nat.zero_le _, rfl, rfl⟩
  case round =>
    obtain ⟨k, hk, rfl, hall⟩ := hrel
    by_cases hlt : k < n
    · have hck := hc k hlt
      go_wp2
      · go_ret
        have hE : (s.toList == (S k).toList) = true := by assumption
        exact ⟨_, rfl, by unfold Hid; rw [hasB_of S s n k hlt (by rw [beq_swap]; exact hE)]; simp; try omega, rfl⟩
      · go_round
        have hE : (s.toList == (S k).toList) = false := by assumption
        case rel => exact ⟨k + 1, by omega, by go_num, by unfold Hid hasB; rw [hall.out, beq_swap]; simpa using hE⟩
        case measure => simp [intOf]; omega
    · go_wp2
      go_ret
      refine ⟨_, rfl, ?_, rfl⟩
      unfold Hid
      rw [show n = k by omega, hall.out]; rfl

set_option maxHeartbeats 400000 in
theorem contains_any (b off n cap : Nat) (S : Nat → ByteArray) (s : ByteArray) (w : World) (hn : n ≤ maxLen)
    (hc : ∀ i, i < n → w.cell? ⟨b, off + i, none⟩ = some (.string (S i))) :
    Calls Tryd.prog 63 #[.slice (some ⟨b, off, none⟩) n cap, .string s] w fun e w' => e = .returned (.bool (hasB S n s)) ∧ w' = w := by
  go_enter Tryd.func63, Tryd.ntmps63
  go_wp2_with (go_at_call 79; refine (index_any b off n cap S s _ hn hc).mono ?_; rintro e w' ⟨r, rfl, hr, rfl⟩)
  go_ret
  exact ⟨ret_bool hr.out, rfl⟩
end Go.Proofs.YtjmhdjjkfglbgabDoor
