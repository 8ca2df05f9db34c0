import Derived.Test.YtgocjlpbokhoeaaEntM
import Derived.Test.YtgocjlpbokhoeaaAnEM
import Derived.Lib.Join
import Derived.Lib.ItoaNum
import Derived.Test.YtgocjlpbokhoeaaProg
import Derived.Laws.BytesArg
import Derived.Lib.ItoaLen
import Derived.Deep.DeepFit
import Derived.Test.YtgocjlpbokhoeaaDgR
import Derived.Test.YtgocjlpbokhoeaaOwnGM
import Derived.Below
namespace Go.Proofs.Ytgocjlpbokhoeaa
open Go.RowKit
set_option maxRecDepth 100000 in
set_option maxHeartbeats 400000 in
theorem decS_small (n : Nat) (w : World) (h10 : n < 10) :
    Calls Try.prog 16 #[.int .i64 n] w fun e w' => e = .returned (.string ⟨(Lib.decDigits n).toArray⟩) ∧ Below w.heap.size w w' := by
  have hcv : (convert 22 9 (.slice (some ⟨w.heap.size, 0, none⟩) 1 1)).run Try.prog (w.alloc (.cells #[.int .u8 (48 + (n : Int))] 5)) = .ok (.string ⟨(Lib.decDigits n).toArray⟩) (w.alloc (.cells #[.int .u8 (48 + (n : Int))] 5)) := by
    rw [conv_one _ _ (48 + n) (by rw [World.cell?_alloc_at _ _ _ _ rfl]; simp), Lib.decDigits, dif_pos h10]
  go_enter Try.func16, Try.ntmps16
  go_wp2_with fail
  go_ret
  exact ⟨rfl, (Below.refl _ _).alloc (Nat.le_refl _) _⟩
set_option maxRecDepth 100000 in
set_option maxHeartbeats 400000 in
theorem decS_step (n m d : Nat) (X Y : ByteArray) (w : World) (hn : (n : Int) ≤ 100000000000000) (h10 : (10 : Int) ≤ n) (hm : (n : Int) / 10 = m) (hd : (n : Int) % 10 = d)
    (hX : X.size ≤ 20) (hY : Y.size = 1)
    (hcv : ∀ (W : World) (B : Nat), W.cell? ⟨B, 0, none⟩ = some (.int .u8 (48 + (d : Int))) → (convert 22 9 (.slice (some ⟨B, 0, none⟩) 1 1)).run Try.prog W = .ok (.string Y) W)
    (ih : Hid (∀ W : World, Calls Try.prog 16 #[.int .i64 m] W fun e w' => e = .returned (.string X) ∧ Below W.heap.size W w')) :
    Calls Try.prog 16 #[.int .i64 n] w fun e w' => e = .returned (.string (X ++ Y)) ∧ Below w.heap.size w w' := by
  have ew1 : IntKind.i64.wrap ((n : Int) / 10) = m := by rw [IntKind.wrap_i64]; omega
  have ew2 : (n : Int).tmod 10 = d := by rw [Int.tmod_eq_emod_of_nonneg (by omega), hd]
  have ew3 : IntKind.i64.wrap (48 + (d : Int)) = 48 + d := by rw [IntKind.wrap_i64]; omega
  have ew4 : IntKind.u8.wrap (48 + (d : Int)) = 48 + d := by rw [IntKind.wrap_u8]; omega
  have hxy : ¬ 9223372036854775807 < X.size + Y.size := by omega
  have hb0 : Below w.heap.size w w := Below.refl _ _
  clear hm hd hX hY
  go_enter Try.func16, Try.ntmps16
  go_wp2_with fail
  go_region_with (go_at_call 16; go_fit (ih.out _); rintro e w1 ⟨rfl, hb1⟩; first | (have hcx : w1.cell? ⟨w.heap.size, 0, none⟩ = some (.int .u8 (48 + (d : Int))) := (hb1.cell (by simp)).trans (World.cell?_alloc_at _ _ _ _ rfl)) | skip)
  all_goals
    go_wp2
    go_ret
    first
      | exact ⟨rfl, (hb0.drew.trans hb1).alloc (hb0.drew.trans hb1).size _⟩
      | exact ⟨rfl, ((hb0.alloc (Nat.le_refl _) _).drew).trans (hb1.mono (by simp))⟩
theorem decS_nat : ∀ (k n : Nat) (w : World), n ≤ k → (n : Int) ≤ 100000000000000 →
    Calls Try.prog 16 #[.int .i64 n] w fun e w' => e = .returned (.string ⟨(Lib.decDigits n).toArray⟩) ∧ Below w.heap.size w w' := by
  intro k
  induction k with
  | zero =>
    intro n w hk _
    exact decS_small n w (by omega)
  | succ k ih =>
    intro n w hk hn
    by_cases h10 : n < 10
    · exact decS_small n w h10
    · have hs : (⟨(Lib.decDigits (n / 10)).toArray⟩ : ByteArray).size ≤ 20 := by
        show (Lib.decDigits (n / 10)).toArray.size ≤ 20
        rw [List.size_toArray, Lib.decDigits_length]
        exact Lib.nDigits_le20 _ (by omega)
      refine (decS_step n (n / 10) (n % 10) ⟨(Lib.decDigits (n / 10)).toArray⟩ ⟨#[UInt8.ofNat (48 + n % 10)]⟩ w hn (by omega) (by omega) (by omega) hs rfl
        (fun W B h => conv_one W B (48 + n % 10) (by rw [h]; simp)) (fun W => ih (n / 10) W (by omega) (by omega))).mono ?_
      rintro e w' ⟨rfl, hb⟩
      refine ⟨ret_str ?_, hb⟩
      rw [Lib.decDigits.eq_1 n, dif_neg h10, ByteArray.mk_append_mk]
end Go.Proofs.Ytgocjlpbokhoeaa
namespace Go.Proofs.Ytgocjlpbokhoeaa
open Go.RowKit
def usr (k : Nat) : ByteArray := if k % 4 = 0 then ⟨#[64, 97]⟩ else if k % 4 = 1 then ⟨#[64, 98]⟩ else if k % 4 = 2 then ⟨#[64, 99]⟩ else ⟨#[64, 100]⟩
set_option maxRecDepth 100000 in
set_option maxHeartbeats 1000000 in
theorem userF (k : Nat) (w : World) (hk : k < 1000) : Calls Try.prog 43 #[.int .i64 (k : Int)] w (fun e w' => e = .returned (.string (usr k)) ∧ Below w.heap.size w w') := by
  have h4 : k % 4 < 4 := Nat.mod_lt _ (by decide)
  have hm : (k : Int) % 4 = ((k % 4 : Nat) : Int) := by omega
  unfold usr
  generalize k % 4 = q at *
  match q, h4 with
  | 0, _ => go_enter Try.func43, Try.ntmps43; go_wp2; go_ret; exact ⟨by rfl, Below.refl _ _⟩
  | 1, _ => go_enter Try.func43, Try.ntmps43; go_wp2; go_ret; exact ⟨by rfl, Below.refl _ _⟩
  | 2, _ => go_enter Try.func43, Try.ntmps43; go_wp2; go_ret; exact ⟨by rfl, Below.refl _ _⟩
  | 3, _ => go_enter Try.func43, Try.ntmps43; go_wp2; go_ret; exact ⟨by rfl, Below.refl _ _⟩
theorem usr_size (k : Nat) : (usr k).size = 2 := by
  unfold usr
  repeat' split
  all_goals rfl
def decB (n : Nat) : ByteArray := ⟨(Lib.decDigits n).toArray⟩
theorem decF (n : Nat) (h : n ≤ 1000) (W : World) : Calls Try.prog 16 #[.int .i64 (n : Int)] W fun e w' => e = .returned (.string (decB n)) ∧ Below W.heap.size W w' := decS_nat n n W (Nat.le_refl _) (by omega)
theorem decB_size (n : Nat) (h : n ≤ 1000) : (decB n).size ≤ 20 := by show (Lib.decDigits n).toArray.size ≤ 20; rw [List.size_toArray, Lib.decDigits_length]; exact Lib.nDigits_le20 n (by omega)
end Go.Proofs.Ytgocjlpbokhoeaa
