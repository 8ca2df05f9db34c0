/-
  Chapter 1's texts: joins and decimals, as byte arrays.
-/
import Derived.Test.YtkfgolcjhiaacaaBase
import Derived.Lib.Join
import Derived.Lib.ItoaNum
namespace Go.Proofs.Ytkfgolcjhiaacaa

/-- the first k texts with sep in between. -/
def joinB (S : Nat → ByteArray) (sep : ByteArray) : Nat → ByteArray
  | 0 => ByteArray.empty
  | k + 1 => if k = 0 then S 0 else joinB S sep k ++ sep ++ S k

theorem joinB_size_le (S : Nat → ByteArray) (sep : ByteArray) : ∀ {n k : Nat}, k ≤ n → (joinB S sep k).size ≤ (joinB S sep n).size
  | 0, k, h => by have : k = 0 := by omega
                  subst this; exact Nat.le_refl _
  | n + 1, k, h => by
    by_cases e : k = n + 1
    · subst e; exact Nat.le_refl _
    · refine Nat.le_trans (joinB_size_le S sep (n := n) (by omega)) ?_
      by_cases h0 : n = 0
      · subst h0; simp [joinB]
      · rw [joinB, if_neg h0, ByteArray.size_append, ByteArray.size_append]; omega
end Go.Proofs.Ytkfgolcjhiaacaa
