import Derived.Test.YtpdnocfefmobjaaSl
import Derived.Test.YtpdnocfefmobjaaProg
import Derived.Deep.RegionWith
namespace Go.Proofs.Ytpdnocfefmobjaa
open Go.RowKit

theorem eqS_zero (a a' : Option Addr) (cap cap' : Nat) (w : World) :
    Calls Try.prog 27 #[.slice a 0 cap, .slice a' 0 cap'] w fun e w' => e = .returned (.bool true) ∧ w' = w := by
  go_enter Try.func27, Try.ntmps27
  go_wp2
  refine wp_loop_rounds 1 ?_
  rw [rounds_succ]
  go_wp2
  go_ret
  exact ⟨rfl, rfl⟩

set_option maxHeartbeats 400000 in
theorem eqS_any (b off cap b' off' cap' n : Nat) (S : Nat → ByteArray) (w : World) (hn : n ≤ maxLen)
    (hc : ∀ i, i < n → w.cell? ⟨b, off + i, none⟩ = some (.string (S i))) (hc' : ∀ i, i < n → w.cell? ⟨b', off' + i, none⟩ = some (.string (S i))) :
    Calls Try.prog 27 #[.slice (some ⟨b, off, none⟩) n cap, .slice (some ⟨b', off', none⟩) n cap'] w fun e w' => e = .returned (.bool true) ∧ Dr w w' := by
  unfold maxLen at hn
  go_enter Try.func27, Try.ntmps27
  go_wp2
  go_loopw [5] (fun i wr => ∃ k : Nat, k ≤ n ∧ i = .int .i64 k ∧ Dr w wr) (fun i _ => n - (intOf i).toNat)
  case atStart => exact ⟨0, Nat.zero_le _, rfl, Dr.refl _⟩
  case round =>
    obtain ⟨k, hk, rfl, hdr⟩ := hrel
    by_cases hlt : k < n
    · have hck : wr.cell? ⟨b, off + k, none⟩ = some (.string (S k)) := (hdr.cell _).trans (hc k hlt)
      have hck' : wr.cell? ⟨b', off' + k, none⟩ = some (.string (S k)) := (hdr.cell _).trans (hc' k hlt)
      go_wp2_with fail
      go_quiet (fail)
      go_wp2
      go_roundw
      case rel => exact ⟨k + 1, by omega, by go_num, hdr.drewN _⟩
      case measure => simp [intOf]; omega
    · go_wp2
      go_ret
      exact ⟨rfl, hdr⟩

theorem eqS_sl {a a' : Option Addr} {n cap cap' : Nat} {S : Nat → ByteArray} (w : World) (h : SlS w a n cap S) (h' : SlS w a' n cap' S) :
    Calls Try.prog 27 #[.slice a n cap, .slice a' n cap'] w fun e w' => e = .returned (.bool true) ∧ Dr w w' := by
  rcases h.cells with rfl | ⟨b, off, rfl, hb, hc⟩
  · refine (eqS_zero a a' cap cap' w).mono ?_
    rintro e w' ⟨rfl, rfl⟩
    exact ⟨rfl, Dr.refl _⟩
  · rcases h'.cells with rfl | ⟨b', off', rfl, hb', hc'⟩
    · refine (eqS_zero _ a' cap cap' w).mono ?_
      rintro e w' ⟨rfl, rfl⟩
      exact ⟨rfl, Dr.refl _⟩
    · exact eqS_any b off cap b' off' cap' n S w (Nat.le_trans h.le h.max) hc hc'

theorem eqG1_any (s : ByteArray) (lv : Int) (w : World) :
    Calls Try.prog 43 #[.agg #[.string s, .int .i64 lv], .agg #[.string s, .int .i64 lv]] w fun e w' =>
      e = .returned (.bool true) ∧ Below w.heap.size w w' := by
  go_enter Try.func43, Try.ntmps43
  go_wp2
  go_ret
  exact ⟨rfl, ((Below.refl _ _).alloc (Nat.le_refl _) _).alloc (by simp) _⟩

theorem eqG_zero (a a' : Option Addr) (cap cap' : Nat) (w : World) :
    Calls Try.prog 28 #[.slice a 0 cap, .slice a' 0 cap'] w fun e w' => e = .returned (.bool true) ∧ w' = w := by
  go_enter Try.func28, Try.ntmps28
  go_wp2
  refine wp_loop_rounds 1 ?_
  rw [rounds_succ]
  go_wp2
  go_ret
  exact ⟨rfl, rfl⟩

set_option maxHeartbeats 1000000 in
theorem eqG_any (b off cap b' off' cap' n : Nat) (M : Nat → ByteArray) (L : Nat → Int) (w : World) (hn : n ≤ maxLen) (hb : b < w.heap.size) (hb' : b' < w.heap.size)
    (hc : ∀ i, i < n → w.cell? ⟨b, off + i * 2, none⟩ = some (.string (M i))) (hl : ∀ i, i < n → w.cell? ⟨b, off + i * 2 + 1, none⟩ = some (.int .i64 (L i)))
    (hc' : ∀ i, i < n → w.cell? ⟨b', off' + i * 2, none⟩ = some (.string (M i))) (hl' : ∀ i, i < n → w.cell? ⟨b', off' + i * 2 + 1, none⟩ = some (.int .i64 (L i))) :
    Calls Try.prog 28 #[.slice (some ⟨b, off, none⟩) n cap, .slice (some ⟨b', off', none⟩) n cap'] w fun e w' => e = .returned (.bool true) ∧ Below w.heap.size w w' := by
  unfold maxLen at hn
  go_enter Try.func28, Try.ntmps28
  go_wp2
  go_loopw [5] (fun i wr => ∃ k : Nat, k ≤ n ∧ i = .int .i64 k ∧ Below w.heap.size w wr) (fun i _ => n - (intOf i).toNat)
  case atStart => exact ⟨0, Nat.zero_le _, rfl, Below.refl _ _⟩
  case round =>
    obtain ⟨k, hk, rfl, hbel⟩ := hrel
    by_cases hlt : k < n
    · have hck : wr.cell? ⟨b, off + k * 2, none⟩ = some (.string (M k)) := (hbel.cell (by exact hb)).trans (hc k hlt)
      have hlk : wr.cell? ⟨b, off + k * 2 + 1, none⟩ = some (.int .i64 (L k)) := (hbel.cell (by exact hb)).trans (hl k hlt)
      have hck' : wr.cell? ⟨b', off' + k * 2, none⟩ = some (.string (M k)) := (hbel.cell (by exact hb')).trans (hc' k hlt)
      have hlk' : wr.cell? ⟨b', off' + k * 2 + 1, none⟩ = some (.int .i64 (L k)) := (hbel.cell (by exact hb')).trans (hl' k hlt)
      go_wp2_with fail
      go_region_with (go_at_call 43; refine (eqG1_any _ _ _).mono ?_; rintro e w1 ⟨rfl, hb1⟩)
      all_goals
        go_wp2
        go_roundw
        case rel => exact ⟨k + 1, by omega, by go_num, Below.trans (by first | exact hbel | exact hbel.drew | exact hbel.drew.drew) (hb1.mono (by exact hbel.size))⟩
        case measure => simp [intOf]; omega
    · go_wp2
      go_ret
      exact ⟨rfl, hbel⟩

theorem eqG_sl {a a' : Option Addr} {n cap cap' : Nat} {M : Nat → ByteArray} {L : Nat → Int} (w : World) (h : SlG w a n cap M L) (h' : SlG w a' n cap' M L) :
    Calls Try.prog 28 #[.slice a n cap, .slice a' n cap'] w fun e w' => e = .returned (.bool true) ∧ Below w.heap.size w w' := by
  rcases h.cells with rfl | ⟨b, off, rfl, hb, hc, hl⟩
  · refine (eqG_zero a a' cap cap' w).mono ?_
    rintro e w' ⟨rfl, rfl⟩
    exact ⟨rfl, Below.refl _ _⟩
  · rcases h'.cells with rfl | ⟨b', off', rfl, hb', hc', hl'⟩
    · refine (eqG_zero _ a' cap cap' w).mono ?_
      rintro e w' ⟨rfl, rfl⟩
      exact ⟨rfl, Below.refl _ _⟩
    · exact eqG_any b off cap b' off' cap' n M L w (Nat.le_trans h.le h.max) hb hb' hc hl hc' hl'
end Go.Proofs.Ytpdnocfefmobjaa
