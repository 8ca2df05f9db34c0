import Derived.Test.YtjmhdjjkfglbgabDoorHas
namespace Go.Proofs.YtjmhdjjkfglbgabDoor
open Go.RowKit

set_option maxHeartbeats 1000000 in
theorem refsS_any (b off n cap : Nat) (S : Nat → ByteArray) (id : ByteArray) (w : World) (hn : n ≤ cap) (hcap : cap ≤ maxLen)
    (hs : ∀ i, i < n → (S i).size ≤ maxLen)
    (hc : ∀ i, i < n → w.cell? ⟨b, off + i, none⟩ = some (.string (S i))) :
    Calls Tryd.prog 24 #[.slice (some ⟨b, off, none⟩) n cap, .string id] w fun e w' => e = .returned (.bool (refsB S n id)) ∧ Dr w w' := by
  have hcap2 := hcap
  unfold maxLen at hcap2
  by_cases h10 : n ≤ 10
  · go_enter Tryd.func24, Tryd.ntmps24
    go_wp2
    go_loopw [5] (fun i wr => ∃ k : Nat, k ≤ n ∧ i = .int .i64 k ∧ Hid (refsTo S id k = true) ∧ Dr w wr) (fun i _ => n - (intOf i).toNat)
    case atStart => exact ⟨0, Nat.zero_le _, rfl, rfl, Dr.refl _⟩
    case round =>
      obtain ⟨k, hk, rfl, hall, hdr⟩ := hrel
      have hcr : ∀ i, i < n → wr.cell? ⟨b, off + i, none⟩ = some (.string (S i)) := fun i hi => (hdr.cell _).trans (hc i hi)
      by_cases hlt : k < n
      · have hck := hcr k hlt
        have hlen := hs k hlt
        cases h1 : isW (S k)
        · go_wp2_with fail
          go_quiet ((go_at_call 23; exact Calls.quiet_of_same (word_any _ _ hlen)))
          go_wp2
          go_ret
          exact ⟨ret_bool (by rw [refsB, refsTo_le S id n k hlt (by unfold refsTo; rw [h1]; simp)]; simp), hdr.drewN _⟩
        · cases h2 : ((S k).toList == id.toList)
          · cases h3 : hasB S k (S k)
            · go_wp2_with fail
              go_quiet ((first | (go_at_call 23; exact Calls.quiet_of_same (word_any _ _ hlen)) | (go_at_call 46; exact Calls.quiet_of_same (has_any b off k cap S _ _ (by omega) (fun i hi => hcr i (by omega))))))
              go_wp2
              go_roundw
              case rel => exact ⟨k + 1, by omega, by go_num, by unfold Hid refsTo; rw [hall.out, h1, h2, h3]; rfl, hdr.drewN _⟩
              case measure => simp [intOf]; omega
            · go_wp2_with fail
              go_quiet ((first | (go_at_call 23; exact Calls.quiet_of_same (word_any _ _ hlen)) | (go_at_call 46; exact Calls.quiet_of_same (has_any b off k cap S _ _ (by omega) (fun i hi => hcr i (by omega))))))
              go_wp2
              go_ret
              exact ⟨ret_bool (by rw [refsB, refsTo_le S id n k hlt (by unfold refsTo; rw [h3]; simp)]; simp), hdr.drewN _⟩
          · go_wp2_with fail
            go_quiet ((go_at_call 23; exact Calls.quiet_of_same (word_any _ _ hlen)))
            go_wp2
            go_ret
            exact ⟨ret_bool (by rw [refsB, refsTo_le S id n k hlt (by unfold refsTo; rw [h2]; simp)]; simp), hdr.drewN _⟩
      · go_wp2
        go_ret
        refine ⟨ret_bool ?_, hdr⟩
        rw [refsB, show n = k by omega, hall.out]; simp; omega
  · go_enter Tryd.func24, Tryd.ntmps24
    go_wp2
    go_ret
    exact ⟨ret_bool (by simp [refsB, h10]), Dr.refl _⟩
end Go.Proofs.YtjmhdjjkfglbgabDoor
