import Derived.Test.YtihacnhmiopalaaDoorBaseT
import Derived.Below
import Derived.Lib.Join
import Derived.Lib.ItoaNum
namespace Go.Proofs.YtihacnhmiopalaaDoor
open Go.RowKit
structure SlS (w : World) (a : Option Addr) (n cap : Nat) (S : Nat -> ByteArray) : Prop where
 le : n <= cap
 max : cap <= maxLen
 size : ∀ i, i < n -> (S i).size <= maxLen
 cells : n = 0 ∨ ∃ b off, a = some ⟨b, off, none⟩ ∧ b < w.heap.size ∧ ∀ i, i < n -> w.cell? ⟨b, off + i, none⟩ = some (.string (S i))
theorem SlS.below {w w' : World} {a : Option Addr} {n cap : Nat} {S : Nat -> ByteArray} (h : SlS w a n cap S) (hb : Below w.heap.size w w') : SlS w' a n cap S :=
 ⟨h.le, h.max, h.size, h.cells.imp id fun ⟨b, off, e, hlt, hc⟩ => ⟨b, off, e, Nat.lt_of_lt_of_le hlt hb.size, fun i hi => (hb.cell (by exact hlt)).trans (hc i hi)⟩⟩
structure SlG (w : World) (a : Option Addr) (n cap : Nat) (M : Nat -> ByteArray) (L : Nat -> Int) : Prop where
 le : n <= cap
 max : cap <= maxLen
 size : ∀ i, i < n -> (M i).size <= maxLen
 cells : n = 0 ∨ ∃ b off, a = some ⟨b, off, none⟩ ∧ b < w.heap.size ∧ (∀ i, i < n -> w.cell? ⟨b, off + i * 2, none⟩ = some (.string (M i))) ∧ ∀ i, i < n -> w.cell? ⟨b, off + i * 2 + 1, none⟩ = some (.int .i64 (L i))
theorem SlG.below {w w' : World} {a : Option Addr} {n cap : Nat} {M : Nat -> ByteArray} {L : Nat -> Int} (h : SlG w a n cap M L) (hb : Below w.heap.size w w') : SlG w' a n cap M L :=
 ⟨h.le, h.max, h.size, h.cells.imp id fun ⟨b, off, e, hlt, hc, hl⟩ => ⟨b, off, e, Nat.lt_of_lt_of_le hlt hb.size, fun i hi => (hb.cell (by exact hlt)).trans (hc i hi), fun i hi => (hb.cell (by exact hlt)).trans (hl i hi)⟩⟩
abbrev evV (id sd ty key val : ByteArray) (st : Bool) (tm : Int) (pa : Option Addr) (np cp : Nat) (aa : Option Addr) (na ca : Nat) (ga : Option Addr) (ng cg : Nat) : Value :=
 .agg #[.string id, .string sd, .string ty, .bool st, .string key, .int .i64 tm, .slice pa np cp, .slice aa na ca, .string val, .slice ga ng cg]
def wbB (c : Int) : Bool :=
 (decide (97 <= c) && decide (c <= 122)) || (decide (65 <= c) && decide (c <= 90)) || (decide (48 <= c) && decide (c <= 57)) ||
  (c == 95) || (c == 46) || (c == 64) || (c == 36) || (c == 47) || (c == 43)
def bts (s : ByteArray) : List Int := s.data.toList.map fun c => (c.toNat : Int)
theorem bts_len (s : ByteArray) : (bts s).length = s.size := by rw [bts, List.length_map]; rfl
def isW (s : ByteArray) : Bool := (bts s).all wbB && decide (1 <= s.size) && decide (s.size <= 40)
theorem bts_get (s : ByteArray) (k : Nat) (h : k < s.size) : (bts s)[k]'(by rw [bts_len]; exact h) = (s[k].toNat : Int) := by
 simp [bts]; rfl
theorem all_take_succ (s : ByteArray) (k : Nat) (h : k < s.size) : ((bts s).take (k + 1)).all wbB = (((bts s).take k).all wbB && wbB (s[k].toNat : Int)) := by
 have h' : k < (bts s).length := by rw [bts_len]; exact h
 rw [List.take_succ_eq_append_getElem h', List.all_append, bts_get s k h]
 simp
theorem isW_of_take (s : ByteArray) (k : Nat) (h : k < s.size) (hw : wbB (s[k].toNat : Int) = false) : isW s = false := by
 have h' : k < (bts s).length := by rw [bts_len]; exact h
 have : (bts s).all wbB = false := by
  rw [List.all_eq_false]
  exact ⟨(bts s)[k], List.getElem_mem h', by rw [bts_get s k h, hw]; simp⟩
 simp [isW, this]
theorem isW_of_all (s : ByteArray) (h : (bts s).all wbB = true) : isW s = (decide (1 <= s.size) && decide (s.size <= 40)) := by
 simp [isW, h]
def hasB (S : Nat -> ByteArray) : Nat -> ByteArray -> Bool
 | 0, _ => false
 | n + 1, s => hasB S n s || (S n).toList == s.toList
theorem hasB_of (S : Nat -> ByteArray) (s : ByteArray) : ∀ n k, k < n -> ((S k).toList == s.toList) = true -> hasB S n s = true
 | 0, _, h, _ => absurd h (Nat.not_lt_zero _)
 | n + 1, k, h, e => by
  by_cases hk : k = n
  ·subst hk; simp [hasB, e]
  ·simp [hasB, hasB_of S s n k (by omega) e]
def cntW (S : Nat -> ByteArray) : Nat -> Nat
 | 0 => 0
 | n + 1 => cntW S n + if isW (S n) then 1 else 0
theorem cntW_le (S : Nat -> ByteArray) : ∀ n, cntW S n <= n
 | 0 => Nat.le_refl _
 | n + 1 => by have := cntW_le S n; unfold cntW; split <;> omega
def allW (S : Nat -> ByteArray) : Nat -> Bool
 | 0 => true
 | n + 1 => allW S n && isW (S n)
theorem cntW_all (S : Nat -> ByteArray) : ∀ n, (((cntW S n : Nat) : Int) == (n : Int)) = allW S n
 | 0 => rfl
 | n + 1 => by
  have ih := cntW_all S n
  have hle := cntW_le S n
  unfold cntW allW
  rw [<- ih]
  cases h : isW (S n)
  ·simp only [Bool.and_false, Bool.false_eq_true, if_false]; rw [beq_eq_false_iff_ne]; omega
  ·simp only [Bool.and_true, if_true]; rw [Bool.eq_iff_iff]; simp
def refsTo (S : Nat -> ByteArray) (id : ByteArray) : Nat -> Bool
 | 0 => true
 | n + 1 => refsTo S id n && (isW (S n) && (!((S n).toList == id.toList) && !hasB S n (S n)))
def refs2To (S : Nat -> ByteArray) (id : ByteArray) : Nat -> Bool
 | 0 => true
 | n + 1 => refs2To S id n && (!((S n).toList == id.toList) && !hasB S n (S n))
theorem refsTo_eq (S : Nat -> ByteArray) (id : ByteArray) : ∀ n, refsTo S id n = (allW S n && refs2To S id n)
 | 0 => rfl
 | n + 1 => by
  unfold refsTo allW refs2To
  rw [refsTo_eq S id n]
  cases allW S n <;> cases refs2To S id n <;> cases isW (S n) <;> rfl
theorem refsTo_le (S : Nat -> ByteArray) (id : ByteArray) : ∀ n k, k < n -> refsTo S id (k + 1) = false -> refsTo S id n = false
 | 0, _, h, _ => absurd h (Nat.not_lt_zero _)
 | n + 1, k, h, e => by
  by_cases hk : k = n
  ·subst hk; exact e
  ·unfold refsTo; rw [refsTo_le S id n k (by omega) e]; rfl
theorem refs2To_le (S : Nat -> ByteArray) (id : ByteArray) : ∀ n k, k < n -> refs2To S id (k + 1) = false -> refs2To S id n = false
 | 0, _, h, _ => absurd h (Nat.not_lt_zero _)
 | n + 1, k, h, e => by
  by_cases hk : k = n
  ·subst hk; exact e
  ·unfold refs2To; rw [refs2To_le S id n k (by omega) e]; rfl
def refsB (S : Nat -> ByteArray) (n : Nat) (id : ByteArray) : Bool := decide (n <= 10) && refsTo S id n
def starB (s : ByteArray) : Bool := (bts s).head? == some 42 || (bts s).head? == some 35
def bareS (s : ByteArray) : ByteArray := if starB s then s.extract 1 s.size else s
def nameB (s : ByteArray) : Bool := isW (bareS s)
theorem bts_head (s : ByteArray) (h : 0 < s.size) : (bts s).head? = some (s[0].toNat : Int) := by
 have h' : 0 < (bts s).length := by rw [bts_len]; exact h
 rw [List.head?_eq_getElem?, List.getElem?_eq_getElem h', bts_get s 0 h]
theorem bts_head0 (s : ByteArray) (h : s.size = 0) : (bts s).head? = none := by
 rw [List.head?_eq_none_iff]; exact List.eq_nil_of_length_eq_zero (by rw [bts_len]; exact h)
theorem starB_pos (s : ByteArray) (h : 0 < s.size) : starB s = (((s[0].toNat : Int) == 42) || ((s[0].toNat : Int) == 35)) := by
 simp [starB, bts_head s h]
theorem starB_zero (s : ByteArray) (h : s.size = 0) : starB s = false := by
 simp [starB, bts_head0 s h]
def grTo (M : Nat -> ByteArray) (L : Nat -> Int) : Nat -> Bool
 | 0 => true
 | n + 1 => grTo M L n && (nameB (M n) && (!decide (L n < -1000000) && (!decide (1000000 < L n) && (n == 0 || Op.bytesLess (M (n - 1)).toList (M n).toList))))
theorem grTo_le (M : Nat -> ByteArray) (L : Nat -> Int) : ∀ n k, k < n -> grTo M L (k + 1) = false -> grTo M L n = false
 | 0, _, h, _ => absurd h (Nat.not_lt_zero _)
 | n + 1, k, h, e => by
  by_cases hk : k = n
  ·subst hk; exact e
  ·unfold grTo; rw [grTo_le M L n k (by omega) e]; rfl
def grB (M : Nat -> ByteArray) (L : Nat -> Int) (n : Nat) : Bool := grTo M L n && decide (n <= 50)
def memB (v : ByteArray) : Bool := v.toList == [106, 111, 105, 110] || (v.toList == [105, 110, 118, 105, 116, 101] || (v.toList == [108, 101, 97, 118, 101] || v.toList == [98, 97, 110]))
def rulB (v : ByteArray) : Bool := v.toList == [112, 117, 98, 108, 105, 99] || v.toList == [105, 110, 118, 105, 116, 101]
def ctB (ty key val : ByteArray) (st : Bool) (np na ng : Nat) (M : Nat -> ByteArray) (L : Nat -> Int) : Bool :=
 if ty.toList == [99, 114, 101, 97, 116, 101] then st && key.toList.isEmpty && ng == 0 && np == 0 && na == 0 && val.toList.isEmpty
 else if ty.toList == [109, 101, 109, 98, 101, 114] then st && !key.toList.isEmpty && ng == 0 && memB val
 else if ty.toList == [106, 111, 105, 110, 95, 114, 117, 108, 101, 115] then st && key.toList.isEmpty && ng == 0 && rulB val
 else if ty.toList == [112, 111, 119, 101, 114] then st && key.toList.isEmpty && val.toList.isEmpty && grB M L ng
 else ng == 0 && (val.toList.isEmpty || isW val)
def evCode (id sd ty key val : ByteArray) (st : Bool) (tm : Int) (np na ng : Nat) (Pv Av M : Nat -> ByteArray) (L : Nat -> Int) : Int :=
 if isW id = false ∨ isW sd = false ∨ isW ty = false then 1
 else if key.toList.isEmpty = false ∧ (st = false ∨ isW key = false) then 2
 else if tm < 0 ∨ 1000000000000 < tm then 3
 else if refsB Pv np id = false ∨ refsB Av na id = false then 4
 else if ctB ty key val st np na ng M L = false then 5
 else 0
end Go.Proofs.YtihacnhmiopalaaDoor
namespace Go.Proofs.YtihacnhmiopalaaDoor
def joinB (S : Nat -> ByteArray) (sep : ByteArray) : Nat -> ByteArray
 | 0 => ByteArray.empty
 | k + 1 => if k = 0 then S 0 else joinB S sep k ++ sep ++ S k
theorem joinB_size_le (S : Nat -> ByteArray) (sep : ByteArray) : ∀ {n k : Nat}, k <= n -> (joinB S sep k).size <= (joinB S sep n).size
  | 0, k, h => by have : k = 0 := by omega
                  subst this; exact Nat.le_refl _
  | n + 1, k, h => by
    by_cases e : k = n + 1
    · subst e; exact Nat.le_refl _
    · refine Nat.le_trans (joinB_size_le S sep (n := n) (by omega)) ?_
      by_cases h0 : n = 0
      · subst h0; simp [joinB]
      · rw [joinB, if_neg h0, ByteArray.size_append, ByteArray.size_append]; omega
end Go.Proofs.YtihacnhmiopalaaDoor
