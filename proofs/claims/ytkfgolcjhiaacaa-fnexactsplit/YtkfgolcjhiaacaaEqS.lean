import Derived.Test.YtkfgolcjhiaacaaSl
import Derived.Test.YtkfgolcjhiaacaaProg
import Derived.Deep.RegionWith
namespace Go.Proofs.Ytkfgolcjhiaacaa
open Go.RowKit

theorem eqS_zero (a a' : Option Addr) (cap cap' : Nat) (w : World) :
    Calls Try.prog 9 #[.slice a 0 cap, .slice a' 0 cap'] w fun e w' => e = .returned (.bool true) ∧ w' = w := by
  go_enter Try.func9, Try.ntmps9
  go_wp2
  refine wp_loop_rounds 1 ?_
  rw [rounds_succ]
  go_wp2
  go_ret
  exact ⟨rfl, rfl⟩

set_option maxHeartbeats 400000 in
theorem eqS_any (b off cap b' off' cap' n : Nat) (S : Nat → ByteArray) (w : World) (hn : n ≤ maxLen)
    (hc : ∀ i, i < n → w.cell? ⟨b, off + i, none⟩ = some (.string (S i))) (hc' : ∀ i, i < n → w.cell? ⟨b', off' + i, none⟩ = some (.string (S i))) :
    Calls Try.prog 9 #[.slice (some ⟨b, off, none⟩) n cap, .slice (some ⟨b', off', none⟩) n cap'] w fun e w' => e = .returned (.bool true) ∧ Dr w w' := by
  unfold maxLen at hn
  go_enter Try.func9, Try.ntmps9
  go_wp2
  go_loopw [5] (fun i wr => ∃ k : Nat, k ≤ n ∧ i = .int .i64 k ∧ Dr w wr) (fun i _ => n - (intOf i).toNat)
  case atStart => exact ⟨0, Nat.zero_le _, rfl, Dr.refl _⟩
  case round =>
    obtain ⟨k, hk, rfl, hdr⟩ := hrel
    by_cases hlt : k < n
    · have hck : wr.cell? ⟨b, off + k, none⟩ = some (.string (S k)) := (hdr.cell _).trans (hc k hlt)
      have hck' : wr.cell? ⟨b', off' + k, none⟩ = some (.string (S k)) := (hdr.cell _).trans (hc' k hlt)
      go_wp2_with fail
      go_quiet (fail)
      go_wp2
      go_roundw
      case rel => exact ⟨k + 1, by omega, by go_num, hdr.drewN _⟩
      case measure => simp [intOf]; omega
    · go_wp2
      go_ret
      exact ⟨rfl, hdr⟩

theorem eqS_sl {a a' : Option Addr} {n cap cap' : Nat} {S : Nat → ByteArray} (w : World) (h : SlS w a n cap S) (h' : SlS w a' n cap' S) :
    Calls Try.prog 9 #[.slice a n cap, .slice a' n cap'] w fun e w' => e = .returned (.bool true) ∧ Dr w w' := by
  rcases h.cells with rfl | ⟨b, off, rfl, hb, hc⟩
  · refine (eqS_zero a a' cap cap' w).mono ?_
    rintro e w' ⟨rfl, rfl⟩
    exact ⟨rfl, Dr.refl _⟩
  · rcases h'.cells with rfl | ⟨b', off', rfl, hb', hc'⟩
    · refine (eqS_zero _ a' cap cap' w).mono ?_
      rintro e w' ⟨rfl, rfl⟩
      exact ⟨rfl, Dr.refl _⟩
    · exact eqS_any b off cap b' off' cap' n S w (Nat.le_trans h.le h.max) hc hc'

end Go.Proofs.Ytkfgolcjhiaacaa
