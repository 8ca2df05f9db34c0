/-
  The marks that the laws write into an answer: markText, markStringS, heldStringS.
-/
import Derived.Test.YtfobcmememaejaaConv
import Derived.Lib.ItoaLen
import Derived.Deep.DeepFit
namespace Go.Proofs.Ytfobcmememaejaa
open Go.RowKit

/-- the mark of a number. -/
def mkT (k : Nat) : ByteArray := ⟨(109 :: Lib.decDigits k).toArray⟩
theorem mkT_size {k : Nat} (h : k ≤ 1000000000000) : (mkT k).size ≤ 41 := by
  show (109 :: Lib.decDigits k).toArray.size ≤ 41
  rw [List.size_toArray, List.length_cons, Lib.decDigits_length]
  have := Lib.nDigits_le20 k (by omega)
  omega
theorem mkT_zero : mkT 0 = ⟨#[109, 48]⟩ := by
  unfold mkT; rw [Lib.decDigits_one (by decide)]; rfl

/-- the digits that are still to come, and those that are there. -/
def DecAt (k0 k : Nat) (X : ByteArray) : Prop := (k = 0 ∧ X.data.toList = Lib.decDigits k0) ∨ (0 < k ∧ Lib.decDigits k ++ X.data.toList = Lib.decDigits k0)
theorem decAt_step {k0 k : Nat} {X : ByteArray} (hk : 0 < k) (h : DecAt k0 k X) : DecAt k0 (k / 10) (⟨#[UInt8.ofNat (48 + k % 10)]⟩ ++ X) := by
  rcases h with ⟨h0, _⟩ | ⟨_, h⟩
  · omega
  · have hd : (⟨#[UInt8.ofNat (48 + k % 10)]⟩ ++ X : ByteArray).data.toList = UInt8.ofNat (48 + k % 10) :: X.data.toList := by simp [ByteArray.data_append]
    by_cases h10 : k < 10
    · left
      refine ⟨by omega, ?_⟩
      rw [hd, ← h, Lib.decDigits_one h10, show k % 10 = k by omega]; rfl
    · right
      refine ⟨by omega, ?_⟩
      rw [hd, ← h, Lib.decDigits.eq_1 k, dif_neg h10, List.append_assoc]; rfl
theorem decAt_len {k0 k : Nat} {X : ByteArray} (h : DecAt k0 k X) (hk : k0 ≤ 1000000000000) : X.size ≤ 20 := by
  have hl : (Lib.decDigits k0).length ≤ 20 := by rw [Lib.decDigits_length]; exact Lib.nDigits_le20 k0 (by omega)
  have hx : X.size = X.data.toList.length := rfl
  rcases h with ⟨_, h⟩ | ⟨_, h⟩
  · rw [hx, h]; exact hl
  · have := congrArg List.length h
    rw [List.length_append] at this
    omega

end Go.Proofs.Ytfobcmememaejaa
