/-
  Delta: plain functions.
-/
import Derived.Test.YtbpcdpeidhhjdaaEntA
import Derived.Test.YtbpcdpeidhhjdaaSetA
namespace Go.Proofs.Ytbpcdpeidhhjdaa
open Go.RowKit

/-! ### Delta -/

/-- the changes by the first k entries of a. -/
def dl1 (a b : List Ent) : Nat → List Ent
  | 0 => []
  | k + 1 => if (findB b (eAt a k).ty (eAt a k).key).toList == (eAt a k).id.toList then dl1 a b k else setL (dl1 a b k) ⟨(eAt a k).ty, (eAt a k).key, findB b (eAt a k).ty (eAt a k).key⟩ true
/-- and by the first k of b. -/
def dl2 (a b : List Ent) : Nat → List Ent
  | 0 => dl1 a b a.length
  | k + 1 => if posI a (eAt b k) < 0 then setL (dl2 a b k) (eAt b k) true else dl2 a b k
theorem findB_ok {b : List Ent} (h : AllOk b) (kind key : ByteArray) : (findB b kind key).size ≤ maxLen := by
  unfold findB
  split
  · rename_i hp
    exact (h.at _ (by have := posI_bd b ⟨kind, key, ⟨#[]⟩⟩; omega)).2.2
  · exact Nat.zero_le _
theorem dl1_len (a b : List Ent) : ∀ k, (dl1 a b k).length ≤ k
  | 0 => Nat.le_refl _
  | k + 1 => by
    have := dl1_len a b k
    unfold dl1
    split
    · omega
    · have := setL_len (dl1 a b k) ⟨(eAt a k).ty, (eAt a k).key, findB b (eAt a k).ty (eAt a k).key⟩ true; omega
theorem dl1_ok {a b : List Ent} (h : AllOk a) (hb : AllOk b) : ∀ k, k ≤ a.length → AllOk (dl1 a b k)
  | 0, _ => fun x hx => by cases hx
  | k + 1, hk => by
    have ih := dl1_ok h hb k (by omega)
    unfold dl1
    split
    · exact ih
    · exact ih.set ⟨(h.at k (by omega)).1, (h.at k (by omega)).2.1, findB_ok hb _ _⟩
theorem dl2_len (a b : List Ent) : ∀ k, (dl2 a b k).length ≤ a.length + k
  | 0 => dl1_len a b a.length
  | k + 1 => by
    have := dl2_len a b k
    unfold dl2
    split
    · have := setL_len (dl2 a b k) (eAt b k) true; omega
    · omega
theorem dl2_ok {a b : List Ent} (h : AllOk a) (hb : AllOk b) : ∀ k, k ≤ b.length → AllOk (dl2 a b k)
  | 0, _ => dl1_ok h hb a.length (Nat.le_refl _)
  | k + 1, hk => by
    have ih := dl2_ok h hb k (by omega)
    unfold dl2
    split
    · exact ih.set (hb.at k (by omega))
    · exact ih
end Go.Proofs.Ytbpcdpeidhhjdaa
