import Derived.Test.YtpdnocfefmobjaaMkT
import Derived.Test.YtpdnocfefmobjaaMkD
import Derived.Deep.DeepFit
namespace Go.Proofs.Ytpdnocfefmobjaa
open Go.RowKit

theorem markSw_zero (a : Option Addr) (cap k : Nat) (w : World) :
    Calls Try.prog 30 #[.slice a 0 cap, .int .i64 (k : Int)] w fun e w' => e = .returned (.int .i64 (k : Int)) ∧ w' = w := by
  go_enter Try.func30, Try.ntmps30
  go_wp2
  refine wp_loop_rounds 1 ?_
  rw [rounds_succ]
  go_wp2
  go_ret
  exact ⟨rfl, rfl⟩

set_option maxRecDepth 100000 in
set_option maxHeartbeats 800000 in
theorem markSw_any (lo hi b off n cap k0 : Nat) (w : World) (hn : n ≤ 1000000000) (hk0 : k0 ≤ 1000000000) (hl : lo ≤ b) (hh : b < hi) (hb : b < w.heap.size)
    (hf : ∀ i, i < n → (∃ v, w.cell? ⟨b, off + i, none⟩ = some v) ∧ w.frozen? ⟨b, off + i, none⟩ = false) :
    Calls Try.prog 30 #[.slice (some ⟨b, off, none⟩) n cap, .int .i64 (k0 : Int)] w fun e w' =>
      e = .returned (.int .i64 ((k0 + n : Nat) : Int)) ∧ (∀ i, i < n → w'.cell? ⟨b, off + i, none⟩ = some (.string (mkT (k0 + i)))) ∧ Mkd lo hi w w' := by
  go_enter Try.func30, Try.ntmps30
  go_wp2_with fail
  go_loopw [1, 5] (fun kv iv wr => ∃ j : Nat, j ≤ n ∧ kv = .int .i64 ((k0 + j : Nat) : Int) ∧ iv = .int .i64 (j : Int) ∧ Hid (∀ i, i < j → wr.cell? ⟨b, off + i, none⟩ = some (.string (mkT (k0 + i)))) ∧ Mkd lo hi w wr) (fun _ iv _ => n - (intOf iv).toNat)
  case atStart => exact ⟨0, Nat.zero_le _, rfl, rfl, fun i hi => absurd hi (Nat.not_lt_zero _), Mkd.refl _ _ _⟩
  case round =>
    obtain ⟨j, hj, rfl, rfl, hdone, hmk⟩ := hrel
    have hbr : b < wr.heap.size := Nat.lt_of_lt_of_le hb hmk.size
    by_cases hlt : j < n
    · have hmt : Hid (∀ W, Calls Try.prog 44 #[.int .i64 ((k0 + j : Nat) : Int)] W fun e w' => e = .returned (.string (mkT (k0 + j))) ∧ Below W.heap.size W w') := fun W => mkT_any (k0 + j) W (by omega)
      obtain ⟨hv0, hf0⟩ := hf j hlt
      clear hf
      go_wp2_with fail
      go_fit (hmt.out _)
      rintro e w1 ⟨rfl, hb1⟩
      have hmk1 := hmk.blw hb1
      obtain ⟨v, hv⟩ := hmk1.there ⟨b, off + j, none⟩ hb hv0
      have hfz : w1.frozen? ⟨b, off + j, none⟩ = false := (hmk1.frz ⟨b, off + j, none⟩ hb).trans hf0
      go_wp2
      go_roundw
      case rel =>
        refine ⟨j + 1, by omega, by go_num, by go_num, fun i hi => ?_, hmk1.set hl hh ⟨v, hv⟩⟩
        by_cases e : i = j
        · subst e; exact set_same ⟨_, hv⟩
        · rw [set_far (by omega)]
          exact (hb1.cell (by exact hbr)).trans (hdone.out i (by omega))
      case measure => simp [intOf]; omega
    · have hje : j = n := by omega
      subst hje
      go_wp2
      go_ret
      exact ⟨by first | rfl | (congr 2), hdone.out, hmk⟩

theorem markSw_sl {lo hi : Nat} {a : Option Addr} {n cap k0 : Nat} (w : World) (hn : n ≤ 1000000000) (hk0 : k0 ≤ 1000000000) (hw : Wr w lo hi a n) :
    Calls Try.prog 30 #[.slice a n cap, .int .i64 (k0 : Int)] w fun e w' => e = .returned (.int .i64 ((k0 + n : Nat) : Int)) ∧ Mkd lo hi w w' := by
  by_cases h0 : n = 0
  · subst h0
    refine (markSw_zero a cap k0 w).mono ?_
    rintro e w' ⟨rfl, rfl⟩
    exact ⟨rfl, Mkd.refl _ _ _⟩
  · rcases hw with h' | ⟨b, off, rfl, hl, hh, hb, hf⟩
    · exact absurd h' h0
    · refine (markSw_any lo hi b off n cap k0 w hn hk0 hl hh hb hf).mono ?_
      rintro e w' ⟨rfl, _, hm⟩
      exact ⟨rfl, hm⟩

theorem markGw_zero (a : Option Addr) (cap k : Nat) (w : World) :
    Calls Try.prog 31 #[.slice a 0 cap, .int .i64 (k : Int)] w fun e w' => e = .returned (.int .i64 (k : Int)) ∧ w' = w := by
  go_enter Try.func31, Try.ntmps31
  go_wp2
  refine wp_loop_rounds 1 ?_
  rw [rounds_succ]
  go_wp2
  go_ret
  exact ⟨rfl, rfl⟩

set_option maxRecDepth 100000 in
set_option maxHeartbeats 1600000 in
theorem markGw_any (lo hi b off n cap k0 : Nat) (w : World) (hn : n ≤ 100000000) (hk0 : k0 ≤ 1000000000) (hl : lo ≤ b) (hh : b < hi) (hb : b < w.heap.size)
    (hf : ∀ i, i < n * 2 → (∃ v, w.cell? ⟨b, off + i, none⟩ = some v) ∧ w.frozen? ⟨b, off + i, none⟩ = false) :
    Calls Try.prog 31 #[.slice (some ⟨b, off, none⟩) n cap, .int .i64 (k0 : Int)] w fun e w' =>
      e = .returned (.int .i64 ((k0 + n * 2 : Nat) : Int)) ∧ Mkd lo hi w w' := by
  go_enter Try.func31, Try.ntmps31
  go_wp2_with fail
  go_loopw [1, 5] (fun kv iv wr => ∃ j : Nat, j ≤ n ∧ kv = .int .i64 ((k0 + j * 2 : Nat) : Int) ∧ iv = .int .i64 (j : Int) ∧ Mkd lo hi w wr) (fun _ iv _ => n - (intOf iv).toNat)
  case atStart => exact ⟨0, Nat.zero_le _, rfl, rfl, Mkd.refl _ _ _⟩
  case round =>
    obtain ⟨j, hj, rfl, rfl, hmk⟩ := hrel
    by_cases hlt : j < n
    · have hmt : Hid (∀ W, Calls Try.prog 44 #[.int .i64 ((k0 + j * 2 : Nat) : Int)] W fun e w' => e = .returned (.string (mkT (k0 + j * 2))) ∧ Below W.heap.size W w') := fun W => mkT_any (k0 + j * 2) W (by omega)
      obtain ⟨hv0, hf0⟩ := hf (j * 2) (by omega)
      obtain ⟨hv1, hf1⟩ := hf (j * 2 + 1) (by omega)
      clear hf
      go_wp2_with fail
      go_fit (hmt.out _)
      rintro e w1 ⟨rfl, hb1⟩
      have hmk1 := hmk.blw hb1
      obtain ⟨v, hv⟩ := hmk1.there ⟨b, off + j * 2, none⟩ hb hv0
      have hfz : w1.frozen? ⟨b, off + j * 2, none⟩ = false := (hmk1.frz ⟨b, off + j * 2, none⟩ hb).trans hf0
      obtain ⟨v1, hvv1⟩ := hmk1.there ⟨b, off + j * 2 + 1, none⟩ hb hv1
      have hfz1 : w1.frozen? ⟨b, off + j * 2 + 1, none⟩ = false := (hmk1.frz ⟨b, off + j * 2 + 1, none⟩ hb).trans hf1
      have hmk2 := hmk1.set (x := .string (mkT (k0 + j * 2))) hl hh ⟨v, hv⟩
      have HV : Hid (∃ v, (w1.setCell ⟨b, off + j * 2, none⟩ (.string (mkT (k0 + j * 2)))).cell? ⟨b, off + j * 2 + 1, none⟩ = some v) := hmk2.there ⟨b, off + j * 2 + 1, none⟩ hb hv1
      go_wp2
      go_roundw
      case rel => exact ⟨j + 1, by omega, by go_num, by go_num, hmk2.set hl hh HV.out⟩
      case measure => simp [intOf]; omega
    · have hje : j = n := by omega
      subst hje
      go_wp2
      go_ret
      exact ⟨by first | rfl | (congr 2), hmk⟩

theorem markGw_sl {lo hi : Nat} {a : Option Addr} {n cap k0 : Nat} (w : World) (hn : n ≤ 100000000) (hk0 : k0 ≤ 1000000000) (hw : Wr w lo hi a (n * 2)) :
    Calls Try.prog 31 #[.slice a n cap, .int .i64 (k0 : Int)] w fun e w' => e = .returned (.int .i64 ((k0 + n * 2 : Nat) : Int)) ∧ Mkd lo hi w w' := by
  by_cases h0 : n = 0
  · subst h0
    refine (markGw_zero a cap k0 w).mono ?_
    rintro e w' ⟨rfl, rfl⟩
    exact ⟨rfl, Mkd.refl _ _ _⟩
  · rcases hw with h' | ⟨b, off, rfl, hl, hh, hb, hf⟩
    · omega
    · exact markGw_any lo hi b off n cap k0 w hn hk0 hl hh hb hf
end Go.Proofs.Ytpdnocfefmobjaa
