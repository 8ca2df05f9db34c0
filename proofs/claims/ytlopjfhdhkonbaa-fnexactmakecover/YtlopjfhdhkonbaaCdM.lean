/-
  The marks that the laws write into covers and lists of numbers.
-/
import Derived.Test.YtlopjfhdhkonbaaCdR
import Derived.Test.YtlopjfhdhkonbaaMkD
namespace Go.Proofs.Ytlopjfhdhkonbaa
open Go.RowKit

/-! ### markIntS -/

theorem markI_zero (a : Option Addr) (cap k : Nat) (w : World) :
    Calls Try.prog 45 #[.slice a 0 cap, .int .i64 (k : Int)] w fun e w' => e = .returned (.int .i64 (k : Int)) ∧ w' = w := by
  go_enter Try.func45, Try.ntmps45
  go_wp2
  refine wp_loop_rounds 1 ?_
  rw [rounds_succ]
  go_wp2
  go_ret
  exact ⟨rfl, rfl⟩

set_option maxHeartbeats 800000 in
theorem markI_any (lo hi b off n cap k0 : Nat) (w : World) (hn : n ≤ 1000000000) (hk0 : k0 ≤ 1000000000) (hl : lo ≤ b) (hh : b < hi) (hb : b < w.heap.size)
    (hf : ∀ i, i < n → (∃ v, w.cell? ⟨b, off + i, none⟩ = some v) ∧ w.frozen? ⟨b, off + i, none⟩ = false) :
    Calls Try.prog 45 #[.slice (some ⟨b, off, none⟩) n cap, .int .i64 (k0 : Int)] w fun e w' =>
      e = .returned (.int .i64 ((k0 + n : Nat) : Int)) ∧ (∀ i, i < n → w'.cell? ⟨b, off + i, none⟩ = some (.int .i64 ((k0 + i : Nat) : Int))) ∧ Mkd lo hi w w' := by
  go_enter Try.func45, Try.ntmps45
  go_wp2_with fail
  go_loopw [1, 5] (fun kv iv wr => ∃ j : Nat, j ≤ n ∧ kv = .int .i64 ((k0 + j : Nat) : Int) ∧ iv = .int .i64 (j : Int) ∧ Hid (∀ i, i < j → wr.cell? ⟨b, off + i, none⟩ = some (.int .i64 ((k0 + i : Nat) : Int))) ∧ Mkd lo hi w wr) (fun _ iv _ => n - (intOf iv).toNat)
  case atStart => exact ⟨0, Nat.zero_le _, rfl, rfl, fun i hi => absurd hi (Nat.not_lt_zero _), Mkd.refl _ _ _⟩
  case round =>
    obtain ⟨j, hj, rfl, rfl, hdone, hmk⟩ := hrel
    by_cases hlt : j < n
    · obtain ⟨v, hv⟩ := hmk.there ⟨b, off + j, none⟩ hb (hf j hlt).1
      have hfz : wr.frozen? ⟨b, off + j, none⟩ = false := (hmk.frz ⟨b, off + j, none⟩ hb).trans (hf j hlt).2
      go_wp2
      go_roundw
      case rel =>
        refine ⟨j + 1, by omega, by go_num, by go_num, fun i hi => ?_, hmk.set hl hh ⟨v, hv⟩⟩
        by_cases e : i = j
        · subst e; exact (set_same ⟨v, hv⟩).trans (by first | rfl | (congr 2))
        · rw [set_far (by omega)]; exact hdone.out i (by omega)
      case measure => simp [intOf]; omega
    · have hje : j = n := by omega
      subst hje
      go_wp2
      go_ret
      exact ⟨by first | rfl | (congr 2), hdone.out, hmk⟩

theorem markI_sl {lo hi : Nat} {a : Option Addr} {n cap k0 : Nat} (w : World) (hn : n ≤ 1000000000) (hk0 : k0 ≤ 1000000000) (hle : n ≤ cap) (hmax : cap ≤ maxLen) (hw : Wr w lo hi a n) :
    Calls Try.prog 45 #[.slice a n cap, .int .i64 (k0 : Int)] w fun e w' =>
      e = .returned (.int .i64 ((k0 + n : Nat) : Int)) ∧ SlI w' a n cap (fun i => ((k0 + i : Nat) : Int)) ∧ Mkd lo hi w w' := by
  by_cases h0 : n = 0
  · subst h0
    refine (markI_zero a cap k0 w).mono ?_
    rintro e w' ⟨rfl, rfl⟩
    exact ⟨rfl, ⟨hle, hmax, Or.inl rfl⟩, Mkd.refl _ _ _⟩
  · rcases hw with h' | ⟨b, off, rfl, hl, hh, hb, hf⟩
    · exact absurd h' h0
    · refine (markI_any lo hi b off n cap k0 w hn hk0 hl hh hb hf).mono ?_
      rintro e w' ⟨rfl, hc, hm⟩
      exact ⟨rfl, ⟨hle, hmax, Or.inr ⟨b, off, rfl, Nat.lt_of_lt_of_le hb hm.size, hc⟩⟩, hm⟩

/-! ### heldIntS -/

theorem heldI_zero (a : Option Addr) (cap k : Nat) (w : World) :
    Calls Try.prog 46 #[.slice a 0 cap, .int .i64 (k : Int)] w fun e w' => e = .returned (.int .i64 (k : Int)) ∧ w' = w := by
  go_enter Try.func46, Try.ntmps46
  go_wp2
  refine wp_loop_rounds 1 ?_
  rw [rounds_succ]
  go_wp2
  go_ret
  exact ⟨rfl, rfl⟩

set_option maxHeartbeats 800000 in
theorem heldI_any (b off n cap k0 : Nat) (w : World) (hn : n ≤ 1000000000) (hk0 : k0 ≤ 1000000000)
    (hc : ∀ i, i < n → w.cell? ⟨b, off + i, none⟩ = some (.int .i64 ((k0 + i : Nat) : Int))) :
    Calls Try.prog 46 #[.slice (some ⟨b, off, none⟩) n cap, .int .i64 (k0 : Int)] w fun e w' => e = .returned (.int .i64 ((k0 + n : Nat) : Int)) ∧ Dr w w' := by
  go_enter Try.func46, Try.ntmps46
  go_wp2_with fail
  go_loopw [1, 5] (fun kv iv wr => ∃ j : Nat, j ≤ n ∧ kv = .int .i64 ((k0 + j : Nat) : Int) ∧ iv = .int .i64 (j : Int) ∧ Dr w wr) (fun _ iv _ => n - (intOf iv).toNat)
  case atStart => exact ⟨0, Nat.zero_le _, rfl, rfl, Dr.refl _⟩
  case round =>
    obtain ⟨j, hj, rfl, rfl, hdr⟩ := hrel
    by_cases hlt : j < n
    · have hck : wr.cell? ⟨b, off + j, none⟩ = some (.int .i64 ((k0 + j : Nat) : Int)) := (hdr.cell _).trans (hc j hlt)
      go_wp2
      go_roundw
      case rel => exact ⟨j + 1, by omega, by go_num, by go_num, hdr⟩
      case measure => simp [intOf]; omega
    · have hje : j = n := by omega
      subst hje
      go_wp2
      go_ret
      exact ⟨by first | rfl | (congr 2), hdr⟩

theorem heldI_sl {a : Option Addr} {n cap k0 : Nat} (w : World) (hn : n ≤ 1000000000) (hk0 : k0 ≤ 1000000000) (h : SlI w a n cap (fun i => ((k0 + i : Nat) : Int))) :
    Calls Try.prog 46 #[.slice a n cap, .int .i64 (k0 : Int)] w fun e w' => e = .returned (.int .i64 ((k0 + n : Nat) : Int)) ∧ Dr w w' := by
  rcases h.cells with rfl | ⟨b, off, rfl, hb, hc⟩
  · refine (heldI_zero a cap k0 w).mono ?_
    rintro e w' ⟨rfl, rfl⟩
    exact ⟨rfl, Dr.refl _⟩
  · exact heldI_any b off n cap k0 w hn hk0 hc

/-! ### markSpotS -/

theorem markP_zero (a : Option Addr) (cap k : Nat) (w : World) :
    Calls Try.prog 27 #[.slice a 0 cap, .int .i64 (k : Int)] w fun e w' => e = .returned (.int .i64 (k : Int)) ∧ w' = w := by
  go_enter Try.func27, Try.ntmps27
  go_wp2
  refine wp_loop_rounds 1 ?_
  rw [rounds_succ]
  go_wp2
  go_ret
  exact ⟨rfl, rfl⟩

set_option maxHeartbeats 800000 in
theorem markP_any (lo hi b off n cap k0 : Nat) (w : World) (hn : n ≤ 1000000000) (hk0 : k0 ≤ 1000000000) (hl : lo ≤ b) (hh : b < hi) (hb : b < w.heap.size)
    (hf : ∀ i, i < n * 2 → (∃ v, w.cell? ⟨b, off + i, none⟩ = some v) ∧ w.frozen? ⟨b, off + i, none⟩ = false) :
    Calls Try.prog 27 #[.slice (some ⟨b, off, none⟩) n cap, .int .i64 (k0 : Int)] w fun e w' =>
      e = .returned (.int .i64 ((k0 + n * 2 : Nat) : Int)) ∧ Mkd lo hi w w' := by
  go_enter Try.func27, Try.ntmps27
  go_wp2_with fail
  go_loopw [1, 5] (fun kv iv wr => ∃ j : Nat, j ≤ n ∧ kv = .int .i64 ((k0 + j * 2 : Nat) : Int) ∧ iv = .int .i64 (j : Int) ∧ Mkd lo hi w wr) (fun _ iv _ => n - (intOf iv).toNat)
  case atStart => exact ⟨0, Nat.zero_le _, rfl, rfl, Mkd.refl _ _ _⟩
  case round =>
    obtain ⟨j, hj, rfl, rfl, hmk⟩ := hrel
    by_cases hlt : j < n
    · obtain ⟨v, hv⟩ := hmk.there ⟨b, off + j * 2, none⟩ hb (hf (j * 2) (by omega)).1
      have hfz : wr.frozen? ⟨b, off + j * 2, none⟩ = false := (hmk.frz ⟨b, off + j * 2, none⟩ hb).trans (hf (j * 2) (by omega)).2
      have hmk1 := hmk.set (x := .int .i64 ((k0 + j * 2 : Nat) : Int)) hl hh ⟨v, hv⟩
      have hv2 := hmk.there ⟨b, off + j * 2 + 1, none⟩ hb (hf (j * 2 + 1) (by omega)).1
      obtain ⟨v1, hv1⟩ := hv2
      have hv1' := hmk1.there ⟨b, off + j * 2 + 1, none⟩ hb (hf (j * 2 + 1) (by omega)).1
      have hfz1 : wr.frozen? ⟨b, off + j * 2 + 1, none⟩ = false := (hmk.frz ⟨b, off + j * 2 + 1, none⟩ hb).trans (hf (j * 2 + 1) (by omega)).2
      have HV : Hid (∃ v, (wr.setCell ⟨b, off + j * 2, none⟩ (.int .i64 ((k0 + j * 2 : Nat) : Int))).cell? ⟨b, off + j * 2 + 1, none⟩ = some v) := hv1'
      clear hv1'
      go_wp2
      go_roundw
      case rel => exact ⟨j + 1, by omega, by go_num, by go_num, hmk1.set hl hh HV.out⟩
      case measure => simp [intOf]; omega
    · have hje : j = n := by omega
      subst hje
      go_wp2
      go_ret
      exact ⟨by first | rfl | (congr 2), hmk⟩

theorem markP_sl {lo hi : Nat} {a : Option Addr} {n cap k0 : Nat} (w : World) (hn : n ≤ 1000000000) (hk0 : k0 ≤ 1000000000) (hw : Wr w lo hi a (n * 2)) :
    Calls Try.prog 27 #[.slice a n cap, .int .i64 (k0 : Int)] w fun e w' => e = .returned (.int .i64 ((k0 + n * 2 : Nat) : Int)) ∧ Mkd lo hi w w' := by
  by_cases h0 : n = 0
  · subst h0
    refine (markP_zero a cap k0 w).mono ?_
    rintro e w' ⟨rfl, rfl⟩
    exact ⟨rfl, Mkd.refl _ _ _⟩
  · rcases hw with h' | ⟨b, off, rfl, hl, hh, hb, hf⟩
    · omega
    · exact markP_any lo hi b off n cap k0 w hn hk0 hl hh hb hf

/-! ### markIntSS, markCover -/

def sumN (rn : Nat → Nat) : Nat → Nat
  | 0 => 0
  | n + 1 => sumN rn n + rn n
theorem sumN_le (rn : Nat → Nat) : ∀ n k, k ≤ n → sumN rn k ≤ sumN rn n
  | 0, k, h => by have : k = 0 := by omega
                  subst this; exact Nat.le_refl _
  | n + 1, k, h => by
    by_cases e : k = n + 1
    · subst e; exact Nat.le_refl _
    · have := sumN_le rn n k (by omega)
      rw [sumN]; omega
theorem sumN_at (rn : Nat → Nat) (n k : Nat) (h : k < n) : sumN rn k + rn k ≤ sumN rn n := by
  have := sumN_le rn n (k + 1) (by omega)
  rw [sumN] at this; exact this

/-- row i of the n rows at (b, off) has rn i numbers and may be written; the rows lie above b, below hi. -/
def RowsW (w : World) (b off n hi : Nat) (rn : Nat → Nat) : Prop := ∀ i, i < n → ∃ ra rc, w.cell? ⟨b, off + i, none⟩ = some (.slice ra (rn i) rc) ∧ rn i ≤ rc ∧ rc ≤ maxLen ∧ Wr w (b + 1) hi ra (rn i)

theorem markL_zero (a : Option Addr) (cap k : Nat) (w : World) :
    Calls Try.prog 28 #[.slice a 0 cap, .int .i64 (k : Int)] w fun e w' => e = .returned (.int .i64 (k : Int)) ∧ w' = w := by
  go_enter Try.func28, Try.ntmps28
  go_wp2
  refine wp_loop_rounds 1 ?_
  rw [rounds_succ]
  go_wp2
  go_ret
  exact ⟨rfl, rfl⟩

set_option maxHeartbeats 800000 in
theorem markL_any (b off n cap k0 hi : Nat) (rn : Nat → Nat) (w : World) (hn : n ≤ maxLen) (hb : b < w.heap.size) (hs : k0 + sumN rn n ≤ 1000000000) (hr : RowsW w b off n hi rn) :
    Calls Try.prog 28 #[.slice (some ⟨b, off, none⟩) n cap, .int .i64 (k0 : Int)] w fun e w' =>
      e = .returned (.int .i64 ((k0 + sumN rn n : Nat) : Int)) ∧ Mkd (b + 1) hi w w' := by
  unfold maxLen at hn
  go_enter Try.func28, Try.ntmps28
  go_wp2_with fail
  go_loopw [1, 5] (fun kv iv wr => ∃ j : Nat, j ≤ n ∧ kv = .int .i64 ((k0 + sumN rn j : Nat) : Int) ∧ iv = .int .i64 (j : Int) ∧ Mkd (b + 1) hi w wr) (fun _ iv _ => n - (intOf iv).toNat)
  case atStart => exact ⟨0, Nat.zero_le _, rfl, rfl, Mkd.refl _ _ _⟩
  case round =>
    obtain ⟨j, hj, rfl, rfl, hmk⟩ := hrel
    by_cases hlt : j < n
    · obtain ⟨ra, rc, hck0, hle, hmax, hwr⟩ := hr j hlt
      have hck : wr.cell? ⟨b, off + j, none⟩ = some (.slice ra (rn j) rc) := ((hmk.below hb).cell (by exact Nat.lt_succ_self b)).trans hck0
      have hsj := sumN_at rn n j hlt
      have hmi : Hid (∀ W, Wr W (b + 1) hi ra (rn j) → Calls Try.prog 45 #[.slice ra (rn j) rc, .int .i64 ((k0 + sumN rn j : Nat) : Int)] W fun e w' => e = .returned (.int .i64 ((k0 + sumN rn j + rn j : Nat) : Int)) ∧ SlI w' ra (rn j) rc (fun i => ((k0 + sumN rn j + i : Nat) : Int)) ∧ Mkd (b + 1) hi W w') := fun W hW => markI_sl W (by omega) (by omega) hle hmax hW
      have hwr1 := hwr.mkd hmk
      have hss : sumN rn (j + 1) = sumN rn j + rn j := rfl
      generalize hK : sumN rn j = K at *
      go_wp2_with fail
      go_fit (hmi.out _ hwr1)
      rintro e w1 ⟨rfl, _, hm1⟩
      go_wp2
      go_roundw
      case rel => exact ⟨j + 1, by omega, by rw [hss]; first | rfl | go_num, by go_num, hmk.trans hm1⟩
      case measure => simp [intOf]; omega
    · have hje : j = n := by omega
      subst hje
      go_wp2
      go_ret
      exact ⟨by first | rfl | (congr 2), hmk⟩

theorem markL_sl {b off n cap k0 hi : Nat} {rn : Nat → Nat} (w : World) (hn : n ≤ maxLen) (hb : n = 0 ∨ b < w.heap.size) (hs : k0 + sumN rn n ≤ 1000000000) (hr : RowsW w b off n hi rn) :
    Calls Try.prog 28 #[.slice (some ⟨b, off, none⟩) n cap, .int .i64 (k0 : Int)] w fun e w' => e = .returned (.int .i64 ((k0 + sumN rn n : Nat) : Int)) ∧ Mkd (b + 1) hi w w' := by
  rcases hb with rfl | hb
  · refine (markL_zero _ cap k0 w).mono ?_
    rintro e w' ⟨rfl, rfl⟩
    exact ⟨rfl, Mkd.refl _ _ _⟩
  · exact markL_any b off n cap k0 hi rn w hn hb hs hr
end Go.Proofs.Ytlopjfhdhkonbaa
