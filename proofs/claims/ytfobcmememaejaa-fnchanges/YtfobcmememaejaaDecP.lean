import Derived.Test.YtfobcmememaejaaBase
import Derived.Lib.Join
import Derived.Lib.ItoaNum
import Derived.Test.YtfobcmememaejaaConv
import Derived.Test.YtfobcmememaejaaProg
import Derived.Laws.BytesArg
import Derived.Lib.ItoaLen
import Derived.Deep.DeepFit
/-
  Chapter 1's texts: joins and decimals, as byte arrays.
-/
namespace Go.Proofs.Ytfobcmememaejaa

/-- the first k texts with sep in between. -/
def joinB (S : Nat → ByteArray) (sep : ByteArray) : Nat → ByteArray
  | 0 => ByteArray.empty
  | k + 1 => if k = 0 then S 0 else joinB S sep k ++ sep ++ S k

theorem joinB_size_le (S : Nat → ByteArray) (sep : ByteArray) : ∀ {n k : Nat}, k ≤ n → (joinB S sep k).size ≤ (joinB S sep n).size
  | 0, k, h => by have : k = 0 := by omega
                  subst this; exact Nat.le_refl _
  | n + 1, k, h => by
    by_cases e : k = n + 1
    · subst e; exact Nat.le_refl _
    · refine Nat.le_trans (joinB_size_le S sep (n := n) (by omega)) ?_
      by_cases h0 : n = 0
      · subst h0; simp [joinB]
      · rw [joinB, if_neg h0, ByteArray.size_append, ByteArray.size_append]; omega
end Go.Proofs.Ytfobcmememaejaa
namespace Go.Proofs.Ytfobcmememaejaa
open Go.RowKit

set_option maxRecDepth 100000 in
set_option maxHeartbeats 400000 in
theorem decS_small (n : Nat) (w : World) (h10 : n < 10) :
    Calls Try.prog 43 #[.int .i64 n] w fun e w' => e = .returned (.string ⟨(Lib.decDigits n).toArray⟩) ∧ Below w.heap.size w w' := by
  have hcv : (convert 22 9 (.slice (some ⟨w.heap.size, 0, none⟩) 1 1)).run Try.prog (w.alloc (.cells #[.int .u8 (48 + (n : Int))] 5)) = .ok (.string ⟨(Lib.decDigits n).toArray⟩) (w.alloc (.cells #[.int .u8 (48 + (n : Int))] 5)) := by
    rw [conv_one _ _ (48 + n) (by rw [World.cell?_alloc_at _ _ _ _ rfl]; simp), Lib.decDigits, dif_pos h10]
  go_enter Try.func43, Try.ntmps43
  go_wp2_with fail
  go_ret
  exact ⟨rfl, (Below.refl _ _).alloc (Nat.le_refl _) _⟩

set_option maxRecDepth 100000 in
set_option maxHeartbeats 400000 in
theorem decS_step (n m d : Nat) (X Y : ByteArray) (w : World) (hn : (n : Int) ≤ 100000000000000) (h10 : (10 : Int) ≤ n) (hm : (n : Int) / 10 = m) (hd : (n : Int) % 10 = d)
    (hX : X.size ≤ 20) (hY : Y.size = 1)
    (hcv : ∀ (W : World) (B : Nat), W.cell? ⟨B, 0, none⟩ = some (.int .u8 (48 + (d : Int))) → (convert 22 9 (.slice (some ⟨B, 0, none⟩) 1 1)).run Try.prog W = .ok (.string Y) W)
    (ih : Hid (∀ W : World, Calls Try.prog 43 #[.int .i64 m] W fun e w' => e = .returned (.string X) ∧ Below W.heap.size W w')) :
    Calls Try.prog 43 #[.int .i64 n] w fun e w' => e = .returned (.string (X ++ Y)) ∧ Below w.heap.size w w' := by
  have ew1 : IntKind.i64.wrap ((n : Int) / 10) = m := by rw [IntKind.wrap_i64]; omega
  have ew2 : (n : Int).tmod 10 = d := by rw [Int.tmod_eq_emod_of_nonneg (by omega), hd]
  have ew3 : IntKind.i64.wrap (48 + (d : Int)) = 48 + d := by rw [IntKind.wrap_i64]; omega
  have ew4 : IntKind.u8.wrap (48 + (d : Int)) = 48 + d := by rw [IntKind.wrap_u8]; omega
  have hxy : ¬ 9223372036854775807 < X.size + Y.size := by omega
  have hb0 : Below w.heap.size w w := Below.refl _ _
  clear hm hd hX hY
  go_enter Try.func43, Try.ntmps43
  go_wp2_with fail
  go_region_with (go_at_call 43; go_fit (ih.out _); rintro e w1 ⟨rfl, hb1⟩; first | (have hcx : w1.cell? ⟨w.heap.size, 0, none⟩ = some (.int .u8 (48 + (d : Int))) := (hb1.cell (by simp)).trans (World.cell?_alloc_at _ _ _ _ rfl)) | skip)
  all_goals
    go_wp2
    go_ret
    first
      | exact ⟨rfl, (hb0.drew.trans hb1).alloc (hb0.drew.trans hb1).size _⟩
      | exact ⟨rfl, ((hb0.alloc (Nat.le_refl _) _).drew).trans (hb1.mono (by simp))⟩

/-- A number from 0 to 10^12. -/
theorem decS_nat : ∀ (k n : Nat) (w : World), n ≤ k → (n : Int) ≤ 100000000000000 →
    Calls Try.prog 43 #[.int .i64 n] w fun e w' => e = .returned (.string ⟨(Lib.decDigits n).toArray⟩) ∧ Below w.heap.size w w' := by
  intro k
  induction k with
  | zero =>
    intro n w hk _
    exact decS_small n w (by omega)
  | succ k ih =>
    intro n w hk hn
    by_cases h10 : n < 10
    · exact decS_small n w h10
    · have hs : (⟨(Lib.decDigits (n / 10)).toArray⟩ : ByteArray).size ≤ 20 := by
        show (Lib.decDigits (n / 10)).toArray.size ≤ 20
        rw [List.size_toArray, Lib.decDigits_length]
        exact Lib.nDigits_le20 _ (by omega)
      refine (decS_step n (n / 10) (n % 10) ⟨(Lib.decDigits (n / 10)).toArray⟩ ⟨#[UInt8.ofNat (48 + n % 10)]⟩ w hn (by omega) (by omega) (by omega) hs rfl
        (fun W B h => conv_one W B (48 + n % 10) (by rw [h]; simp)) (fun W => ih (n / 10) W (by omega) (by omega))).mono ?_
      rintro e w' ⟨rfl, hb⟩
      refine ⟨ret_str ?_, hb⟩
      rw [Lib.decDigits.eq_1 n, dif_neg h10, ByteArray.mk_append_mk]

/-- A negative number. -/
theorem decS_neg (n : Nat) (w : World) (h0 : (0 : Int) < n) (h1 : (n : Int) ≤ 100000000000000) :
    Calls Try.prog 43 #[.int .i64 (-(n : Int))] w fun e w' => e = .returned (.string ⟨(45 :: Lib.decDigits n).toArray⟩) ∧ Below w.heap.size w w' := by
  have hs : (⟨(Lib.decDigits n).toArray⟩ : ByteArray).size ≤ 20 := by
    show (Lib.decDigits n).toArray.size ≤ 20
    rw [List.size_toArray, Lib.decDigits_length]
    exact Lib.nDigits_le20 _ (by omega)
  have IH : Hid (∀ W : World, Calls Try.prog 43 #[.int .i64 n] W fun e w' => e = .returned (.string ⟨(Lib.decDigits n).toArray⟩) ∧ Below W.heap.size W w') := fun W => decS_nat n n W (Nat.le_refl _) h1
  have hpr : Hid ((⟨#[45]⟩ : ByteArray) ++ ⟨(Lib.decDigits n).toArray⟩ = ⟨(45 :: Lib.decDigits n).toArray⟩) := ByteArray.mk_append_mk [45] _
  generalize (⟨(Lib.decDigits n).toArray⟩ : ByteArray) = X at hs IH hpr
  have hx : ¬ 9223372036854775807 < 1 + X.size := by omega
  have hng : -(n : Int) < 0 := by omega
  go_enter Try.func43, Try.ntmps43
  go_wp2_with fail
  refine (IH.out _).mono ?_
  rintro e w1 ⟨rfl, hb1⟩
  go_wp2_with fail
  go_ret
  exact ⟨ret_str hpr.out, hb1⟩

/-- l1Dec writes the decimal. -/
theorem decS_any (z : Int) (w : World) (h0 : -100000000000000 ≤ z) (h1 : z ≤ 100000000000000) :
    Calls Try.prog 43 #[.int .i64 z] w fun e w' => e = .returned (.string ⟨(Lib.itoa z).toArray⟩) ∧ Below w.heap.size w w' := by
  by_cases hz : z < 0
  · obtain ⟨n, rfl⟩ : ∃ n : Nat, z = -(n : Int) := ⟨z.natAbs, by omega⟩
    rw [Lib.itoa, if_pos hz, Int.natAbs_neg, Int.natAbs_natCast]
    exact decS_neg n w (by omega) (by omega)
  · obtain ⟨n, rfl⟩ : ∃ n : Nat, z = (n : Int) := ⟨z.toNat, by omega⟩
    rw [Lib.itoa, if_neg hz, Int.toNat_natCast]
    exact decS_nat n n w (Nat.le_refl _) h1
end Go.Proofs.Ytfobcmememaejaa
