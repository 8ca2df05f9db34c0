import Derived.Test.YtihacnhmiopalaaDoorProg
import Derived.Test.YtihacnhmiopalaaDoorSlZT
namespace Go.Proofs.YtihacnhmiopalaaDoor
open Go.RowKit
set_option maxHeartbeats 400000 in
theorem wordByte_any (c : Int) (w : World) :
  Calls Tryd.prog 31 #[.int .u8 c] w fun e w' => e = .returned (.bool (wbB c)) ∧ w' = w := by
 go_enter Tryd.func31, Tryd.ntmps31
 go_wp2
 all_goals (go_ret; exact ⟨ret_bool (by rw [Bool.eq_iff_iff]; simp [wbB] <;> omega), rfl⟩)
set_option maxHeartbeats 400000 in
theorem word_any (s : ByteArray) (w : World) (hs : s.size <= maxLen) :
  Calls Tryd.prog 14 #[.string s] w fun e w' => e = .returned (.bool (isW s)) ∧ w' = w := by
 unfold maxLen at hs
 go_enter Tryd.func14, Tryd.ntmps14
 go_wp2
 go_loop [3] (fun i => ∃ k : Nat, k <= s.size ∧ i = .int .i64 k ∧ Hid (((bts s).take k).all wbB = true)) (fun i => s.size - (intOf i).toNat)
 case atStart => exact ⟨0, Nat.zero_le _, rfl, rfl⟩
 case round =>
  obtain ⟨k, hk, rfl, hall⟩ := hrel
  by_cases hlt : k < s.size
  ·go_wp2_with (go_at_call 31; refine (wordByte_any _ _).mono ?_; rintro e w' ⟨rfl, rfl⟩)
   ·go_ret
    refine ⟨ret_bool ?_, rfl⟩
    rw [isW_of_take s k hlt (by simpa using (by assumption : (!wbB (s[k].toNat : Int)) = true))]
   ·go_round
    case rel => exact ⟨k + 1, by omega, by go_num, by unfold Hid; rw [all_take_succ s k hlt, hall.out]; simpa using (by assumption : (!wbB (s[k].toNat : Int)) = false)⟩
    case measure => simp [intOf]; omega
  ·go_wp2
   all_goals
    go_ret
    refine ⟨ret_bool ?_, rfl⟩
    rw [isW_of_all s (by rw [<- List.take_of_length_le (show (bts s).length <= k by rw [bts_len]; omega)]; exact hall.out)]
    rw [Bool.eq_iff_iff]; simp <;> omega
set_option maxHeartbeats 400000 in
theorem has_any (b off n cap : Nat) (S : Nat -> ByteArray) (s : ByteArray) (w : World) (hn : n <= maxLen)
  (hc : ∀ i, i < n -> w.cell? ⟨b, off + i, none⟩ = some (.string (S i))) :
  Calls Tryd.prog 32 #[.slice (some ⟨b, off, none⟩) n cap, .string s] w fun e w' => e = .returned (.bool (hasB S n s)) ∧ w' = w := by
 unfold maxLen at hn
 go_enter Tryd.func32, Tryd.ntmps32
 go_wp2
 go_loop [5] (fun i => ∃ k : Nat, k <= n ∧ i = .int .i64 k ∧ Hid (hasB S k s = false)) (fun i => n - (intOf i).toNat)
 case atStart => exact ⟨0, Nat.zero_le _, rfl, rfl⟩
 case round =>
  obtain ⟨k, hk, rfl, hall⟩ := hrel
  by_cases hlt : k < n
  ·have hck := hc k hlt
   go_wp2
   ·go_ret
    exact ⟨ret_bool (hasB_of S s n k hlt (by assumption)).symm, rfl⟩
   ·go_round
    case rel => exact ⟨k + 1, by omega, by go_num, by unfold Hid hasB; rw [hall.out]; simpa using (by assumption : ((S k).toList == s.toList) = false)⟩
    case measure => simp [intOf]; omega
  ·go_wp2
   go_ret
   refine ⟨ret_bool ?_, rfl⟩
   rw [show n = k by omega, hall.out]
set_option maxHeartbeats 1000000 in
theorem refsS_any (b off n cap : Nat) (S : Nat -> ByteArray) (id : ByteArray) (w : World) (hn : n <= cap) (hcap : cap <= maxLen)
  (hs : ∀ i, i < n -> (S i).size <= maxLen)
  (hc : ∀ i, i < n -> w.cell? ⟨b, off + i, none⟩ = some (.string (S i))) :
  Calls Tryd.prog 15 #[.slice (some ⟨b, off, none⟩) n cap, .string id] w fun e w' => e = .returned (.bool (refsB S n id)) ∧ Dr w w' := by
 have hcap2 := hcap
 unfold maxLen at hcap2
 by_cases h10 : n <= 10
 ·go_enter Tryd.func15, Tryd.ntmps15
  go_wp2
  go_loopw [5] (fun i wr => ∃ k : Nat, k <= n ∧ i = .int .i64 k ∧ Hid (refsTo S id k = true) ∧ Dr w wr) (fun i _ => n - (intOf i).toNat)
  case atStart => exact ⟨0, Nat.zero_le _, rfl, rfl, Dr.refl _⟩
  case round =>
   obtain ⟨k, hk, rfl, hall, hdr⟩ := hrel
   have hcr : ∀ i, i < n -> wr.cell? ⟨b, off + i, none⟩ = some (.string (S i)) := fun i hi => (hdr.cell _).trans (hc i hi)
   by_cases hlt : k < n
   ·have hck := hcr k hlt
    have hlen := hs k hlt
    cases h1 : isW (S k)
    ·go_wp2_with fail
     go_quiet ((go_at_call 14; exact Calls.quiet_of_same (word_any _ _ hlen)))
     go_wp2
     go_ret
     exact ⟨ret_bool (by rw [refsB, refsTo_le S id n k hlt (by unfold refsTo; rw [h1]; simp)]; simp), hdr.drewN _⟩
    ·cases h2 : ((S k).toList == id.toList)
     ·cases h3 : hasB S k (S k)
      ·go_wp2_with fail
       go_quiet ((first | (go_at_call 14; exact Calls.quiet_of_same (word_any _ _ hlen)) | (go_at_call 32; exact Calls.quiet_of_same (has_any b off k cap S _ _ (by omega) (fun i hi => hcr i (by omega))))))
       go_wp2
       go_roundw
       case rel => exact ⟨k + 1, by omega, by go_num, by unfold Hid refsTo; rw [hall.out, h1, h2, h3]; rfl, hdr.drewN _⟩
       case measure => simp [intOf]; omega
      ·go_wp2_with fail
       go_quiet ((first | (go_at_call 14; exact Calls.quiet_of_same (word_any _ _ hlen)) | (go_at_call 32; exact Calls.quiet_of_same (has_any b off k cap S _ _ (by omega) (fun i hi => hcr i (by omega))))))
       go_wp2
       go_ret
       exact ⟨ret_bool (by rw [refsB, refsTo_le S id n k hlt (by unfold refsTo; rw [h3]; simp)]; simp), hdr.drewN _⟩
     ·go_wp2_with fail
      go_quiet ((go_at_call 14; exact Calls.quiet_of_same (word_any _ _ hlen)))
      go_wp2
      go_ret
      exact ⟨ret_bool (by rw [refsB, refsTo_le S id n k hlt (by unfold refsTo; rw [h2]; simp)]; simp), hdr.drewN _⟩
   ·go_wp2
    go_ret
    refine ⟨ret_bool ?_, hdr⟩
    rw [refsB, show n = k by omega, hall.out]; simp; omega
 ·go_enter Tryd.func15, Tryd.ntmps15
  go_wp2
  go_ret
  exact ⟨ret_bool (by simp [refsB, h10]), Dr.refl _⟩
end Go.Proofs.YtihacnhmiopalaaDoor
