/-
  Plain functions of chapter 1 on lists of texts, told by index.
-/
import Derived.Test.YtkfgolcjhiaacaaPure1
namespace Go.Proofs.Ytkfgolcjhiaacaa
open Go.RowKit

/-- among the first n texts of S there is s. -/
def hasB (S : Nat → ByteArray) : Nat → ByteArray → Bool
  | 0, _ => false
  | n + 1, s => hasB S n s || (S n).toList == s.toList

theorem hasB_of (S : Nat → ByteArray) (s : ByteArray) : ∀ n k, k < n → ((S k).toList == s.toList) = true → hasB S n s = true
  | 0, _, h, _ => absurd h (Nat.not_lt_zero _)
  | n + 1, k, h, e => by
    by_cases hk : k = n
    · subst hk; simp [hasB, e]
    · simp [hasB, hasB_of S s n k (by omega) e]

/-- how many of the first n texts are words. -/
def cntW (S : Nat → ByteArray) : Nat → Nat
  | 0 => 0
  | n + 1 => cntW S n + if isW (S n) then 1 else 0

theorem cntW_le (S : Nat → ByteArray) : ∀ n, cntW S n ≤ n
  | 0 => Nat.le_refl _
  | n + 1 => by have := cntW_le S n; unfold cntW; split <;> omega

/-- all of the first n texts are words. -/
def allW (S : Nat → ByteArray) : Nat → Bool
  | 0 => true
  | n + 1 => allW S n && isW (S n)

theorem cntW_all (S : Nat → ByteArray) : ∀ n, (((cntW S n : Nat) : Int) == (n : Int)) = allW S n
  | 0 => rfl
  | n + 1 => by
    have ih := cntW_all S n
    have hle := cntW_le S n
    unfold cntW allW
    rw [← ih]
    cases h : isW (S n)
    · simp only [Bool.and_false, Bool.false_eq_true, if_false]; rw [beq_eq_false_iff_ne]; omega
    · simp only [Bool.and_true, if_true]; rw [Bool.eq_iff_iff]; simp

/-- the references told by spec.l1RefsOk, without the bound on their number. -/
def refsTo (S : Nat → ByteArray) (id : ByteArray) : Nat → Bool
  | 0 => true
  | n + 1 => refsTo S id n && (isW (S n) && (!((S n).toList == id.toList) && !hasB S n (S n)))

/-- the same without the words. -/
def refs2To (S : Nat → ByteArray) (id : ByteArray) : Nat → Bool
  | 0 => true
  | n + 1 => refs2To S id n && (!((S n).toList == id.toList) && !hasB S n (S n))

theorem refsTo_eq (S : Nat → ByteArray) (id : ByteArray) : ∀ n, refsTo S id n = (allW S n && refs2To S id n)
  | 0 => rfl
  | n + 1 => by
    unfold refsTo allW refs2To
    rw [refsTo_eq S id n]
    cases allW S n <;> cases refs2To S id n <;> cases isW (S n) <;> rfl

theorem refsTo_le (S : Nat → ByteArray) (id : ByteArray) : ∀ n k, k < n → refsTo S id (k + 1) = false → refsTo S id n = false
  | 0, _, h, _ => absurd h (Nat.not_lt_zero _)
  | n + 1, k, h, e => by
    by_cases hk : k = n
    · subst hk; exact e
    · unfold refsTo; rw [refsTo_le S id n k (by omega) e]; rfl

theorem refs2To_le (S : Nat → ByteArray) (id : ByteArray) : ∀ n k, k < n → refs2To S id (k + 1) = false → refs2To S id n = false
  | 0, _, h, _ => absurd h (Nat.not_lt_zero _)
  | n + 1, k, h, e => by
    by_cases hk : k = n
    · subst hk; exact e
    · unfold refs2To; rw [refs2To_le S id n k (by omega) e]; rfl

/-- a list of references is right. -/
def refsB (S : Nat → ByteArray) (n : Nat) (id : ByteArray) : Bool := decide (n ≤ 10) && refsTo S id n

end Go.Proofs.Ytkfgolcjhiaacaa
