/-
  Plain functions of chapter 1, on bytes and lists: no program in sight.
-/
import Derived.Below
namespace Go.Proofs.Ytkfgolcjhiaacaa
open Go.RowKit

/-- a byte of a word. -/
def wbB (c : Int) : Bool :=
  (decide (97 ≤ c) && decide (c ≤ 122)) || (decide (65 ≤ c) && decide (c ≤ 90)) || (decide (48 ≤ c) && decide (c ≤ 57)) ||
    (c == 95) || (c == 46) || (c == 64) || (c == 36) || (c == 47) || (c == 43)

/-- the bytes of a text as numbers. -/
def bts (s : ByteArray) : List Int := s.data.toList.map fun c => (c.toNat : Int)

theorem bts_len (s : ByteArray) : (bts s).length = s.size := by rw [bts, List.length_map]; rfl

def isW (s : ByteArray) : Bool := (bts s).all wbB && decide (1 ≤ s.size) && decide (s.size ≤ 40)

theorem bts_get (s : ByteArray) (k : Nat) (h : k < s.size) : (bts s)[k]'(by rw [bts_len]; exact h) = (s[k].toNat : Int) := by
  simp [bts]; rfl

theorem all_take_succ (s : ByteArray) (k : Nat) (h : k < s.size) : ((bts s).take (k + 1)).all wbB = (((bts s).take k).all wbB && wbB (s[k].toNat : Int)) := by
  have h' : k < (bts s).length := by rw [bts_len]; exact h
  rw [List.take_succ_eq_append_getElem h', List.all_append, bts_get s k h]
  simp

theorem isW_of_take (s : ByteArray) (k : Nat) (h : k < s.size) (hw : wbB (s[k].toNat : Int) = false) : isW s = false := by
  have h' : k < (bts s).length := by rw [bts_len]; exact h
  have : (bts s).all wbB = false := by
    rw [List.all_eq_false]
    exact ⟨(bts s)[k], List.getElem_mem h', by rw [bts_get s k h, hw]; simp⟩
  simp [isW, this]

theorem isW_of_all (s : ByteArray) (h : (bts s).all wbB = true) : isW s = (decide (1 ≤ s.size) && decide (s.size ≤ 40)) := by
  simp [isW, h]

end Go.Proofs.Ytkfgolcjhiaacaa
