/-
  Plain functions of chapter 1 on names and grants.
-/
import Derived.Test.YtkfgolcjhiaacaaPure2
namespace Go.Proofs.Ytkfgolcjhiaacaa
open Go.RowKit

/-- a text that opens with a star or a hash. -/
def starB (s : ByteArray) : Bool := (bts s).head? == some 42 || (bts s).head? == some 35

/-- what is left behind one such mark. -/
def bareS (s : ByteArray) : ByteArray := if starB s then s.extract 1 s.size else s

def nameB (s : ByteArray) : Bool := isW (bareS s)

theorem bts_head (s : ByteArray) (h : 0 < s.size) : (bts s).head? = some (s[0].toNat : Int) := by
  have h' : 0 < (bts s).length := by rw [bts_len]; exact h
  rw [List.head?_eq_getElem?, List.getElem?_eq_getElem h', bts_get s 0 h]

theorem bts_head0 (s : ByteArray) (h : s.size = 0) : (bts s).head? = none := by
  rw [List.head?_eq_none_iff]; exact List.eq_nil_of_length_eq_zero (by rw [bts_len]; exact h)

theorem starB_pos (s : ByteArray) (h : 0 < s.size) : starB s = (((s[0].toNat : Int) == 42) || ((s[0].toNat : Int) == 35)) := by
  simp [starB, bts_head s h]

theorem starB_zero (s : ByteArray) (h : s.size = 0) : starB s = false := by
  simp [starB, bts_head0 s h]

/-- the first n grants are right; names N, levels L. -/
def grTo (M : Nat → ByteArray) (L : Nat → Int) : Nat → Bool
  | 0 => true
  | n + 1 => grTo M L n && (nameB (M n) && (!decide (L n < -1000000) && (!decide (1000000 < L n) && (n == 0 || Op.bytesLess (M (n - 1)).toList (M n).toList))))

theorem grTo_le (M : Nat → ByteArray) (L : Nat → Int) : ∀ n k, k < n → grTo M L (k + 1) = false → grTo M L n = false
  | 0, _, h, _ => absurd h (Nat.not_lt_zero _)
  | n + 1, k, h, e => by
    by_cases hk : k = n
    · subst hk; exact e
    · unfold grTo; rw [grTo_le M L n k (by omega) e]; rfl

def grB (M : Nat → ByteArray) (L : Nat → Int) (n : Nat) : Bool := grTo M L n && decide (n ≤ 50)

end Go.Proofs.Ytkfgolcjhiaacaa
