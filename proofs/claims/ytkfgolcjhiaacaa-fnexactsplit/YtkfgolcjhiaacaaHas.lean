import Derived.Test.YtkfgolcjhiaacaaWord
import Derived.Test.YtkfgolcjhiaacaaPure2
namespace Go.Proofs.Ytkfgolcjhiaacaa
open Go.RowKit

set_option maxHeartbeats 400000 in
theorem has_any (b off n cap : Nat) (S : Nat → ByteArray) (s : ByteArray) (w : World) (hn : n ≤ maxLen)
    (hc : ∀ i, i < n → w.cell? ⟨b, off + i, none⟩ = some (.string (S i))) :
    Calls Try.prog 33 #[.slice (some ⟨b, off, none⟩) n cap, .string s] w fun e w' => e = .returned (.bool (hasB S n s)) ∧ w' = w := by
  unfold maxLen at hn
  go_enter Try.func33, Try.ntmps33
  go_wp2
  go_loop [5] (fun i => ∃ k : Nat, k ≤ n ∧ i = .int .i64 k ∧ Hid (hasB S k s = false)) (fun i => n - (intOf i).toNat)
  case atStart => exact ⟨0, Nat.zero_le _, rfl, rfl⟩
  case round =>
    obtain ⟨k, hk, rfl, hall⟩ := hrel
    by_cases hlt : k < n
    · have hck := hc k hlt
      go_wp2
      · go_ret
        exact ⟨ret_bool (hasB_of S s n k hlt (by assumption)).symm, rfl⟩
      · go_round
        case rel => exact ⟨k + 1, by omega, by go_num, by unfold Hid hasB; rw [hall.out]; simpa using (by assumption : ((S k).toList == s.toList) = false)⟩
        case measure => simp [intOf]; omega
    · go_wp2
      go_ret
      refine ⟨ret_bool ?_, rfl⟩
      rw [show n = k by omega, hall.out]
end Go.Proofs.Ytkfgolcjhiaacaa
