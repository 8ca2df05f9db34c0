/-
  The marks that the laws write into an answer: markText, markStringS, heldStringS.
-/
import Derived.Test.YtlopjfhdhkonbaaConv
import Derived.Lib.ItoaLen
import Derived.Deep.DeepFit
namespace Go.Proofs.Ytlopjfhdhkonbaa
open Go.RowKit

/-- the mark of a number. -/
def mkT (k : Nat) : ByteArray := ⟨(109 :: Lib.decDigits k).toArray⟩
theorem mkT_size {k : Nat} (h : k ≤ 1000000000000) : (mkT k).size ≤ 41 := by
  show (109 :: Lib.decDigits k).toArray.size ≤ 41
  rw [List.size_toArray, List.length_cons, Lib.decDigits_length]
  have := Lib.nDigits_le20 k (by omega)
  omega
theorem mkT_zero : mkT 0 = ⟨#[109, 48]⟩ := by
  unfold mkT; rw [Lib.decDigits_one (by decide)]; rfl

/-- the digits that are still to come, and those that are there. -/
def DecAt (k0 k : Nat) (X : ByteArray) : Prop := (k = 0 ∧ X.data.toList = Lib.decDigits k0) ∨ (0 < k ∧ Lib.decDigits k ++ X.data.toList = Lib.decDigits k0)
theorem decAt_step {k0 k : Nat} {X : ByteArray} (hk : 0 < k) (h : DecAt k0 k X) : DecAt k0 (k / 10) (⟨#[UInt8.ofNat (48 + k % 10)]⟩ ++ X) := by
  rcases h with ⟨h0, _⟩ | ⟨_, h⟩
  · omega
  · have hd : (⟨#[UInt8.ofNat (48 + k % 10)]⟩ ++ X : ByteArray).data.toList = UInt8.ofNat (48 + k % 10) :: X.data.toList := by simp [ByteArray.data_append]
    by_cases h10 : k < 10
    · left
      refine ⟨by omega, ?_⟩
      rw [hd, ← h, Lib.decDigits_one h10, show k % 10 = k by omega]; rfl
    · right
      refine ⟨by omega, ?_⟩
      rw [hd, ← h, Lib.decDigits.eq_1 k, dif_neg h10, List.append_assoc]; rfl
theorem decAt_len {k0 k : Nat} {X : ByteArray} (h : DecAt k0 k X) (hk : k0 ≤ 1000000000000) : X.size ≤ 20 := by
  have hl : (Lib.decDigits k0).length ≤ 20 := by rw [Lib.decDigits_length]; exact Lib.nDigits_le20 k0 (by omega)
  have hx : X.size = X.data.toList.length := rfl
  rcases h with ⟨_, h⟩ | ⟨_, h⟩
  · rw [hx, h]; exact hl
  · have := congrArg List.length h
    rw [List.length_append] at this
    omega

set_option maxRecDepth 100000 in
set_option maxHeartbeats 800000 in
theorem mkT_any (k0 : Nat) (w : World) (h1 : k0 ≤ 1000000000000) :
    Calls Try.prog 42 #[.int .i64 (k0 : Int)] w fun e w' => e = .returned (.string (mkT k0)) ∧ Below w.heap.size w w' := by
  by_cases h0 : k0 = 0
  · subst h0
    have hz := mkT_zero
    go_enter Try.func42, Try.ntmps42
    go_wp2
    go_ret
    exact ⟨ret_str hz.symm, Below.refl _ _⟩
  · have hpos : ¬ ((k0 : Int) ≤ 0) := by omega
    go_enter Try.func42, Try.ntmps42
    go_wp2_with fail
    go_loopw [0, 3] (fun kv ov wr => ∃ (k : Nat) (X : ByteArray), kv = .int .i64 k ∧ ov = .string X ∧ k ≤ k0 ∧ Hid (DecAt k0 k X) ∧ Below w.heap.size w wr) (fun kv _ _ => (intOf kv).toNat)
    case atStart => exact ⟨k0, ByteArray.empty, rfl, rfl, Nat.le_refl _, Or.inr ⟨by omega, by simp⟩, Below.refl _ _⟩
    case round =>
      obtain ⟨k, X, rfl, rfl, hk, hat, hbel⟩ := hrel
      have hX := decAt_len hat.out h1
      by_cases hz : 0 < k
      · obtain ⟨m, hm⟩ : ∃ m : Nat, (k : Int) / 10 = m := ⟨k / 10, by omega⟩
        obtain ⟨d, hd⟩ : ∃ d : Nat, (k : Int) % 10 = d := ⟨k % 10, by omega⟩
        have Hnew : Hid (DecAt k0 m (⟨#[UInt8.ofNat (48 + d)]⟩ ++ X)) := by
          have := decAt_step hz hat.out
          rw [show k / 10 = m by omega, show k % 10 = d by omega] at this
          exact this
        have hd9 : d ≤ 9 := by omega
        have hmk : m < k := by omega
        have ew1 : IntKind.i64.wrap ((k : Int) / 10) = m := by rw [IntKind.wrap_i64]; omega
        have ew2 : (k : Int).tmod 10 = d := by rw [Int.tmod_eq_emod_of_nonneg (by omega), hd]
        have ew3 : IntKind.i64.wrap (48 + (d : Int)) = 48 + d := by rw [IntKind.wrap_i64]; omega
        have ew4 : IntKind.u8.wrap (48 + (d : Int)) = 48 + d := by rw [IntKind.wrap_u8]; omega
        have hcv : (convert 96 9 (.slice (some ⟨wr.heap.size, 0, none⟩) 1 1)).run Try.prog (wr.alloc (.cells #[.int .u8 (48 + (d : Int))] 5)) = .ok (.string ⟨#[UInt8.ofNat (48 + d)]⟩) (wr.alloc (.cells #[.int .u8 (48 + (d : Int))] 5)) :=
          conv_one _ _ (48 + d) (by rw [World.cell?_alloc_at _ _ _ _ rfl]; simp)
        have hY1 : (⟨#[UInt8.ofNat (48 + d)]⟩ : ByteArray).size = 1 := rfl
        generalize (⟨#[UInt8.ofNat (48 + d)]⟩ : ByteArray) = Y at hcv Hnew hY1
        have hx : ¬ 9223372036854775807 < Y.size + X.size := by omega
        clear hm hd hat hX hY1
        go_wp2
        go_roundw
        case rel => exact ⟨m, _, by go_num, rfl, by omega, Hnew.out, hbel.alloc hbel.size _⟩
        case measure => simp [intOf]; omega
      · have hk0 : k = 0 := by omega
        subst hk0
        have hx2 : X.data.toList = Lib.decDigits k0 := by
          rcases hat.out with ⟨_, h⟩ | ⟨h, _⟩
          · exact h
          · omega
        have hx : ¬ 9223372036854775807 < 1 + X.size := by omega
        have Hx : Hid ((⟨#[109]⟩ : ByteArray) ++ X = mkT k0) := by
          apply ByteArray.ext
          apply Array.toList_inj.1
          simp [ByteArray.data_append, mkT, hx2]
        clear hx2
        go_wp2
        go_ret
        exact ⟨ret_str Hx.out, hbel⟩
end Go.Proofs.Ytlopjfhdhkonbaa
