import Derived.Below
import Derived.Test.YtfjfhnjoghlbfaaGreatBase
import Derived.Lib.Join
import Derived.Lib.ItoaNum
import Derived.Lib.ItoaLen
/-
  Plain functions of chapter 1, on bytes and lists: no program in sight.
-/
namespace Go.Proofs.YtfjfhnjoghlbfaaGreat
open Go.RowKit

/-- a byte of a word. -/
def wbB (c : Int) : Bool :=
  (decide (97 ≤ c) && decide (c ≤ 122)) || (decide (65 ≤ c) && decide (c ≤ 90)) || (decide (48 ≤ c) && decide (c ≤ 57)) ||
    (c == 95) || (c == 46) || (c == 64) || (c == 36) || (c == 47) || (c == 43)

/-- the bytes of a text as numbers. -/
def bts (s : ByteArray) : List Int := s.data.toList.map fun c => (c.toNat : Int)

theorem bts_len (s : ByteArray) : (bts s).length = s.size := by rw [bts, List.length_map]; rfl

def isW (s : ByteArray) : Bool := (bts s).all wbB && decide (1 ≤ s.size) && decide (s.size ≤ 40)

theorem bts_get (s : ByteArray) (k : Nat) (h : k < s.size) : (bts s)[k]'(by rw [bts_len]; exact h) = (s[k].toNat : Int) := by
  simp [bts]; rfl

theorem all_take_succ (s : ByteArray) (k : Nat) (h : k < s.size) : ((bts s).take (k + 1)).all wbB = (((bts s).take k).all wbB && wbB (s[k].toNat : Int)) := by
  have h' : k < (bts s).length := by rw [bts_len]; exact h
  rw [List.take_succ_eq_append_getElem h', List.all_append, bts_get s k h]
  simp

theorem isW_of_take (s : ByteArray) (k : Nat) (h : k < s.size) (hw : wbB (s[k].toNat : Int) = false) : isW s = false := by
  have h' : k < (bts s).length := by rw [bts_len]; exact h
  have : (bts s).all wbB = false := by
    rw [List.all_eq_false]
    exact ⟨(bts s)[k], List.getElem_mem h', by rw [bts_get s k h, hw]; simp⟩
  simp [isW, this]

theorem isW_of_all (s : ByteArray) (h : (bts s).all wbB = true) : isW s = (decide (1 ≤ s.size) && decide (s.size ≤ 40)) := by
  simp [isW, h]

end Go.Proofs.YtfjfhnjoghlbfaaGreat
/-
  Plain functions of chapter 1 on lists of texts, told by index.
-/
namespace Go.Proofs.YtfjfhnjoghlbfaaGreat
open Go.RowKit

/-- among the first n texts of S there is s. -/
def hasB (S : Nat → ByteArray) : Nat → ByteArray → Bool
  | 0, _ => false
  | n + 1, s => hasB S n s || (S n).toList == s.toList

theorem hasB_of (S : Nat → ByteArray) (s : ByteArray) : ∀ n k, k < n → ((S k).toList == s.toList) = true → hasB S n s = true
  | 0, _, h, _ => absurd h (Nat.not_lt_zero _)
  | n + 1, k, h, e => by
    by_cases hk : k = n
    · subst hk; simp [hasB, e]
    · simp [hasB, hasB_of S s n k (by omega) e]

/-- how many of the first n texts are words. -/
def cntW (S : Nat → ByteArray) : Nat → Nat
  | 0 => 0
  | n + 1 => cntW S n + if isW (S n) then 1 else 0

theorem cntW_le (S : Nat → ByteArray) : ∀ n, cntW S n ≤ n
  | 0 => Nat.le_refl _
  | n + 1 => by have := cntW_le S n; unfold cntW; split <;> omega

/-- all of the first n texts are words. -/
def allW (S : Nat → ByteArray) : Nat → Bool
  | 0 => true
  | n + 1 => allW S n && isW (S n)

theorem cntW_all (S : Nat → ByteArray) : ∀ n, (((cntW S n : Nat) : Int) == (n : Int)) = allW S n
  | 0 => rfl
  | n + 1 => by
    have ih := cntW_all S n
    have hle := cntW_le S n
    unfold cntW allW
    rw [← ih]
    cases h : isW (S n)
    · simp only [Bool.and_false, Bool.false_eq_true, if_false]; rw [beq_eq_false_iff_ne]; omega
    · simp only [Bool.and_true, if_true]; rw [Bool.eq_iff_iff]; simp

/-- the references told by spec.l1RefsOk, without the bound on their number. -/
def refsTo (S : Nat → ByteArray) (id : ByteArray) : Nat → Bool
  | 0 => true
  | n + 1 => refsTo S id n && (isW (S n) && (!((S n).toList == id.toList) && !hasB S n (S n)))

/-- the same without the words. -/
def refs2To (S : Nat → ByteArray) (id : ByteArray) : Nat → Bool
  | 0 => true
  | n + 1 => refs2To S id n && (!((S n).toList == id.toList) && !hasB S n (S n))

theorem refsTo_eq (S : Nat → ByteArray) (id : ByteArray) : ∀ n, refsTo S id n = (allW S n && refs2To S id n)
  | 0 => rfl
  | n + 1 => by
    unfold refsTo allW refs2To
    rw [refsTo_eq S id n]
    cases allW S n <;> cases refs2To S id n <;> cases isW (S n) <;> rfl

theorem refsTo_le (S : Nat → ByteArray) (id : ByteArray) : ∀ n k, k < n → refsTo S id (k + 1) = false → refsTo S id n = false
  | 0, _, h, _ => absurd h (Nat.not_lt_zero _)
  | n + 1, k, h, e => by
    by_cases hk : k = n
    · subst hk; exact e
    · unfold refsTo; rw [refsTo_le S id n k (by omega) e]; rfl

theorem refs2To_le (S : Nat → ByteArray) (id : ByteArray) : ∀ n k, k < n → refs2To S id (k + 1) = false → refs2To S id n = false
  | 0, _, h, _ => absurd h (Nat.not_lt_zero _)
  | n + 1, k, h, e => by
    by_cases hk : k = n
    · subst hk; exact e
    · unfold refs2To; rw [refs2To_le S id n k (by omega) e]; rfl

/-- a list of references is right. -/
def refsB (S : Nat → ByteArray) (n : Nat) (id : ByteArray) : Bool := decide (n ≤ 10) && refsTo S id n

end Go.Proofs.YtfjfhnjoghlbfaaGreat
/-
  Plain functions of chapter 1 on names and grants.
-/
namespace Go.Proofs.YtfjfhnjoghlbfaaGreat
open Go.RowKit

/-- a text that opens with a star or a hash. -/
def starB (s : ByteArray) : Bool := (bts s).head? == some 42 || (bts s).head? == some 35

/-- what is left behind one such mark. -/
def bareS (s : ByteArray) : ByteArray := if starB s then s.extract 1 s.size else s

def nameB (s : ByteArray) : Bool := isW (bareS s)

theorem bts_head (s : ByteArray) (h : 0 < s.size) : (bts s).head? = some (s[0].toNat : Int) := by
  have h' : 0 < (bts s).length := by rw [bts_len]; exact h
  rw [List.head?_eq_getElem?, List.getElem?_eq_getElem h', bts_get s 0 h]

theorem bts_head0 (s : ByteArray) (h : s.size = 0) : (bts s).head? = none := by
  rw [List.head?_eq_none_iff]; exact List.eq_nil_of_length_eq_zero (by rw [bts_len]; exact h)

theorem starB_pos (s : ByteArray) (h : 0 < s.size) : starB s = (((s[0].toNat : Int) == 42) || ((s[0].toNat : Int) == 35)) := by
  simp [starB, bts_head s h]

theorem starB_zero (s : ByteArray) (h : s.size = 0) : starB s = false := by
  simp [starB, bts_head0 s h]

/-- the first n grants are right; names N, levels L. -/
def grTo (M : Nat → ByteArray) (L : Nat → Int) : Nat → Bool
  | 0 => true
  | n + 1 => grTo M L n && (nameB (M n) && (!decide (L n < -1000000) && (!decide (1000000 < L n) && (n == 0 || Op.bytesLess (M (n - 1)).toList (M n).toList))))

theorem grTo_le (M : Nat → ByteArray) (L : Nat → Int) : ∀ n k, k < n → grTo M L (k + 1) = false → grTo M L n = false
  | 0, _, h, _ => absurd h (Nat.not_lt_zero _)
  | n + 1, k, h, e => by
    by_cases hk : k = n
    · subst hk; exact e
    · unfold grTo; rw [grTo_le M L n k (by omega) e]; rfl

def grB (M : Nat → ByteArray) (L : Nat → Int) (n : Nat) : Bool := grTo M L n && decide (n ≤ 50)

end Go.Proofs.YtfjfhnjoghlbfaaGreat
/-
  Plain functions of chapter 1: the content of an event, and its code.
-/
namespace Go.Proofs.YtfjfhnjoghlbfaaGreat
open Go.RowKit

/-- join, invite, leave, ban. -/
def memB (v : ByteArray) : Bool := v.toList == [106, 111, 105, 110] || (v.toList == [105, 110, 118, 105, 116, 101] || (v.toList == [108, 101, 97, 118, 101] || v.toList == [98, 97, 110]))
/-- public, invite. -/
def rulB (v : ByteArray) : Bool := v.toList == [112, 117, 98, 108, 105, 99] || v.toList == [105, 110, 118, 105, 116, 101]

/-- the content fits the type. -/
def ctB (ty key val : ByteArray) (st : Bool) (np na ng : Nat) (M : Nat → ByteArray) (L : Nat → Int) : Bool :=
  if ty.toList == [99, 114, 101, 97, 116, 101] then st && key.toList.isEmpty && ng == 0 && np == 0 && na == 0 && val.toList.isEmpty
  else if ty.toList == [109, 101, 109, 98, 101, 114] then st && !key.toList.isEmpty && ng == 0 && memB val
  else if ty.toList == [106, 111, 105, 110, 95, 114, 117, 108, 101, 115] then st && key.toList.isEmpty && ng == 0 && rulB val
  else if ty.toList == [112, 111, 119, 101, 114] then st && key.toList.isEmpty && val.toList.isEmpty && grB M L ng
  else ng == 0 && (val.toList.isEmpty || isW val)

/-- EventOk's code. -/
def evCode (id sd ty key val : ByteArray) (st : Bool) (tm : Int) (np na ng : Nat) (Pv Av M : Nat → ByteArray) (L : Nat → Int) : Int :=
  if isW id = false ∨ isW sd = false ∨ isW ty = false then 1
  else if key.toList.isEmpty = false ∧ (st = false ∨ isW key = false) then 2
  else if tm < 0 ∨ 1000000000000 < tm then 3
  else if refsB Pv np id = false ∨ refsB Av na id = false then 4
  else if ctB ty key val st np na ng M L = false then 5
  else 0

end Go.Proofs.YtfjfhnjoghlbfaaGreat
/-
  Chapter 1's texts: joins and decimals, as byte arrays.
-/
namespace Go.Proofs.YtfjfhnjoghlbfaaGreat

/-- the first k texts with sep in between. -/
def joinB (S : Nat → ByteArray) (sep : ByteArray) : Nat → ByteArray
  | 0 => ByteArray.empty
  | k + 1 => if k = 0 then S 0 else joinB S sep k ++ sep ++ S k

theorem joinB_size_le (S : Nat → ByteArray) (sep : ByteArray) : ∀ {n k : Nat}, k ≤ n → (joinB S sep k).size ≤ (joinB S sep n).size
  | 0, k, h => by have : k = 0 := by omega
                  subst this; exact Nat.le_refl _
  | n + 1, k, h => by
    by_cases e : k = n + 1
    · subst e; exact Nat.le_refl _
    · refine Nat.le_trans (joinB_size_le S sep (n := n) (by omega)) ?_
      by_cases h0 : n = 0
      · subst h0; simp [joinB]
      · rw [joinB, if_neg h0, ByteArray.size_append, ByteArray.size_append]; omega
end Go.Proofs.YtfjfhnjoghlbfaaGreat
/-
  Chapter 1's texts: the pieces of an event's text, their sizes, and what a well-formed event bounds.
-/
namespace Go.Proofs.YtfjfhnjoghlbfaaGreat

/-- what code 0 bounds. -/
structure Bds (id sd ty key val : ByteArray) (tm : Int) (np na ng : Nat) (Pv Av M : Nat → ByteArray) (L : Nat → Int) : Prop where
  hid : id.size ≤ 40
  hsd : sd.size ≤ 40
  hty : ty.size ≤ 40
  hkey : key.size ≤ 40
  hval : val.size ≤ 40
  t0 : 0 ≤ tm
  t1 : tm ≤ 1000000000000
  hnp : np ≤ 10
  hna : na ≤ 10
  hng : ng ≤ 50
  p : ∀ i, i < np → (Pv i).size ≤ 40
  a : ∀ i, i < na → (Av i).size ≤ 40
  m : ∀ i, i < ng → (M i).size ≤ 41
  l0 : ∀ i, i < ng → -1000000 ≤ L i
  l1 : ∀ i, i < ng → L i ≤ 1000000

theorem isW_size {s : ByteArray} (h : isW s = true) : s.size ≤ 40 := by
  simp only [isW, Bool.and_eq_true, decide_eq_true_eq] at h; exact h.2

theorem size_list (s : ByteArray) : s.size = s.toList.length := by
  rw [ByteArray.toList_eq, Array.length_toList]; rfl
theorem size_beq {s : ByteArray} {l : List UInt8} (h : (s.toList == l) = true) : s.size = l.length := by
  rw [size_list, eq_of_beq h]
theorem size_empty {s : ByteArray} (h : s.toList.isEmpty = true) : s.size = 0 := by
  rw [size_list, List.isEmpty_iff.1 h]; rfl

theorem refsTo_size (S : Nat → ByteArray) (id : ByteArray) : ∀ n, refsTo S id n = true → ∀ i, i < n → (S i).size ≤ 40
  | 0, _, i, hi => absurd hi (Nat.not_lt_zero _)
  | n + 1, h, i, hi => by
    unfold refsTo at h
    simp only [Bool.and_eq_true] at h
    by_cases e : i = n
    · subst e; exact isW_size h.2.1
    · exact refsTo_size S id n h.1 i (by omega)

theorem bare_size (s : ByteArray) : s.size ≤ (bareS s).size + 1 := by
  unfold bareS; split
  · rw [ByteArray.size_extract]; omega
  · omega

theorem grTo_size (M : Nat → ByteArray) (L : Nat → Int) : ∀ n, grTo M L n = true → ∀ i, i < n → (M i).size ≤ 41 ∧ -1000000 ≤ L i ∧ L i ≤ 1000000
  | 0, _, i, hi => absurd hi (Nat.not_lt_zero _)
  | n + 1, h, i, hi => by
    unfold grTo at h
    simp only [Bool.and_eq_true, Bool.not_eq_true', decide_eq_false_iff_not] at h
    by_cases e : i = n
    · subst e
      refine ⟨?_, by omega, by omega⟩
      have := isW_size h.2.1
      have := bare_size (M i)
      omega
    · exact grTo_size M L n h.1 i (by omega)

theorem memB_size {v : ByteArray} (h : memB v = true) : v.size ≤ 40 := by
  simp only [memB, Bool.or_eq_true] at h
  rcases h with h | h | h | h <;> (rw [size_beq h]; decide)
theorem rulB_size {v : ByteArray} (h : rulB v = true) : v.size ≤ 40 := by
  simp only [rulB, Bool.or_eq_true] at h
  rcases h with h | h <;> (rw [size_beq h]; decide)

theorem ct_bds {ty key val : ByteArray} {st : Bool} {np na ng : Nat} {M : Nat → ByteArray} {L : Nat → Int} (h : ctB ty key val st np na ng M L = true) :
    val.size ≤ 40 ∧ ng ≤ 50 ∧ ∀ i, i < ng → (M i).size ≤ 41 ∧ -1000000 ≤ L i ∧ L i ≤ 1000000 := by
  unfold ctB at h
  split at h
  · simp only [Bool.and_eq_true, beq_iff_eq] at h
    have h0 : ng = 0 := h.1.1.1.2
    subst h0
    exact ⟨by rw [size_empty h.2]; decide, by decide, fun i hi => absurd hi (Nat.not_lt_zero _)⟩
  split at h
  · simp only [Bool.and_eq_true, beq_iff_eq] at h
    have h0 : ng = 0 := h.1.2
    subst h0
    exact ⟨memB_size h.2, by decide, fun i hi => absurd hi (Nat.not_lt_zero _)⟩
  split at h
  · simp only [Bool.and_eq_true, beq_iff_eq] at h
    have h0 : ng = 0 := h.1.2
    subst h0
    exact ⟨rulB_size h.2, by decide, fun i hi => absurd hi (Nat.not_lt_zero _)⟩
  split at h
  · simp only [Bool.and_eq_true, grB, decide_eq_true_eq] at h
    exact ⟨by rw [size_empty h.1.2]; decide, h.2.2, grTo_size M L ng h.2.1⟩
  · simp only [Bool.and_eq_true, Bool.or_eq_true, beq_iff_eq] at h
    have h0 : ng = 0 := h.1
    subst h0
    refine ⟨?_, by decide, fun i hi => absurd hi (Nat.not_lt_zero _)⟩
    rcases h.2 with h | h
    · rw [size_empty h]; decide
    · exact isW_size h

theorem evCode_bds {id sd ty key val : ByteArray} {st : Bool} {tm : Int} {np na ng : Nat} {Pv Av M : Nat → ByteArray} {L : Nat → Int}
    (h : evCode id sd ty key val st tm np na ng Pv Av M L = 0) : Bds id sd ty key val tm np na ng Pv Av M L := by
  unfold evCode at h
  split at h
  · cases h
  rename_i h1
  split at h
  · cases h
  rename_i h2
  split at h
  · cases h
  rename_i h3
  split at h
  · cases h
  rename_i h4
  split at h
  · cases h
  rename_i h5
  have w1 : isW id = true := by simpa using fun e => h1 (Or.inl e)
  have w2 : isW sd = true := by simpa using fun e => h1 (Or.inr (Or.inl e))
  have w3 : isW ty = true := by simpa using fun e => h1 (Or.inr (Or.inr e))
  have r1 : refsB Pv np id = true := by simpa using fun e => h4 (Or.inl e)
  have r2 : refsB Av na id = true := by simpa using fun e => h4 (Or.inr e)
  have c := ct_bds (by simpa using h5)
  simp only [refsB, Bool.and_eq_true, decide_eq_true_eq] at r1 r2
  refine ⟨isW_size w1, isW_size w2, isW_size w3, ?_, c.1, by omega, by omega, r1.1, r2.1, c.2.1, refsTo_size _ _ _ r1.2, refsTo_size _ _ _ r2.2, fun i hi => (c.2.2 i hi).1, fun i hi => (c.2.2 i hi).2.1, fun i hi => (c.2.2 i hi).2.2⟩
  cases hk : key.toList.isEmpty
  · exact isW_size (by simpa using fun e => h2 ⟨hk, Or.inr e⟩)
  · rw [size_empty hk]; decide

theorem joinB_bound (S : Nat → ByteArray) (sep : ByteArray) (c : Nat) (hs : sep.size ≤ 1) : ∀ n, (∀ i, i < n → (S i).size ≤ c) → (joinB S sep n).size ≤ n * (c + 1)
  | 0, _ => by simp [joinB]
  | n + 1, h => by
    have ih := joinB_bound S sep c hs n (fun i hi => h i (by omega))
    have hn := h n (by omega)
    have h0 := h 0 (by omega)
    rw [joinB]; split
    · rw [Nat.succ_mul]; omega
    · rw [ByteArray.size_append, ByteArray.size_append, Nat.succ_mul]; omega

theorem joinB_congr {S T : Nat → ByteArray} (sep : ByteArray) : ∀ n, (∀ i, i < n → S i = T i) → joinB S sep n = joinB T sep n
  | 0, _ => rfl
  | n + 1, h => by
    rw [joinB, joinB, joinB_congr sep n (fun i hi => h i (by omega)), h n (by omega), h 0 (by omega)]

def itoaB (z : Int) : ByteArray := ⟨(Lib.itoa z).toArray⟩
theorem itoaB_size {z : Int} (h0 : -1000000000000 ≤ z) (h1 : z ≤ 1000000000000) : (itoaB z).size ≤ 21 := by
  show (Lib.itoa z).toArray.size ≤ 21
  rw [List.size_toArray]
  exact Lib.itoa_length_le z (by omega) (by omega)

def dashB : ByteArray := ⟨#[45]⟩
def keyT (st : Bool) (key : ByteArray) : ByteArray := if st then ⟨#[61]⟩ ++ key else dashB
def refsT (S : Nat → ByteArray) (n : Nat) : ByteArray := if n = 0 then dashB else joinB S ⟨#[44]⟩ n
def grT (M : Nat → ByteArray) (L : Nat → Int) (i : Nat) : ByteArray := M i ++ ⟨#[58]⟩ ++ itoaB (L i)
def valT (val : ByteArray) (M : Nat → ByteArray) (L : Nat → Int) (ng : Nat) : ByteArray :=
  if ng = 0 then (if val.toList.isEmpty then dashB else val) else joinB (grT M L) ⟨#[44]⟩ ng

theorem keyT_size {st : Bool} {key : ByteArray} (h : key.size ≤ 40) : (keyT st key).size ≤ 41 := by
  unfold keyT; split
  · rw [ByteArray.size_append]; show 1 + _ ≤ 41; omega
  · show 1 ≤ 41; decide
theorem refsT_size {S : Nat → ByteArray} {n : Nat} (h : n ≤ 10) (hs : ∀ i, i < n → (S i).size ≤ 40) : (refsT S n).size ≤ 410 := by
  unfold refsT; split
  · show 1 ≤ 410; decide
  · have := joinB_bound S ⟨#[44]⟩ 40 (by decide) n hs; omega
theorem grT_size {M : Nat → ByteArray} {L : Nat → Int} {i : Nat} (h : (M i).size ≤ 41) (h0 : -1000000 ≤ L i) (h1 : L i ≤ 1000000) : (grT M L i).size ≤ 63 := by
  have := itoaB_size (z := L i) (by omega) (by omega)
  rw [grT, ByteArray.size_append, ByteArray.size_append]; show _ + 1 + _ ≤ 63; omega
theorem valT_size {val : ByteArray} {M : Nat → ByteArray} {L : Nat → Int} {ng : Nat} (h : val.size ≤ 40) (hn : ng ≤ 50) (hg : ∀ i, i < ng → (grT M L i).size ≤ 63) : (valT val M L ng).size ≤ 3200 := by
  unfold valT; split
  · split
    · show 1 ≤ 3200; decide
    · omega
  · have := joinB_bound (grT M L) ⟨#[44]⟩ 63 (by decide) ng hg; omega

/-- eight texts. -/
def eight (a b c d e f g h : ByteArray) (i : Nat) : ByteArray :=
  if i = 0 then a else if i = 1 then b else if i = 2 then c else if i = 3 then d else if i = 4 then e else if i = 5 then f else if i = 6 then g else h
/-- the text of an event. -/
def evText (id sd ty key val : ByteArray) (st : Bool) (tm : Int) (np na ng : Nat) (Pv Av M : Nat → ByteArray) (L : Nat → Int) : ByteArray :=
  joinB (eight id sd ty (keyT st key) (itoaB tm) (refsT Pv np) (refsT Av na) (valT val M L ng)) ⟨#[32]⟩ 8

section
variable {id sd ty key val : ByteArray} {st : Bool} {tm : Int} {np na ng : Nat} {Pv Av M : Nat → ByteArray} {L : Nat → Int}
theorem Bds.gr (h : Bds id sd ty key val tm np na ng Pv Av M L) (i : Nat) (hi : i < ng) : (grT M L i).size ≤ 63 := grT_size (h.m i hi) (h.l0 i hi) (h.l1 i hi)
theorem Bds.eight (h : Bds id sd ty key val tm np na ng Pv Av M L) (i : Nat) : (Go.Proofs.YtfjfhnjoghlbfaaGreat.eight id sd ty (keyT st key) (itoaB tm) (refsT Pv np) (refsT Av na) (valT val M L ng) i).size ≤ 3200 := by
  have h1 := h.hid
  have h2 := h.hsd
  have h3 := h.hty
  have h4 := keyT_size (st := st) h.hkey
  have h5 := itoaB_size (z := tm) (by have := h.t0; omega) h.t1
  have h6 := refsT_size h.hnp h.p
  have h7 := refsT_size h.hna h.a
  have h8 := valT_size (L := L) h.hval h.hng h.gr
  unfold Go.Proofs.YtfjfhnjoghlbfaaGreat.eight
  split
  · omega
  split
  · omega
  split
  · omega
  split
  · omega
  split
  · omega
  split
  · omega
  split
  · omega
  · exact h8
theorem Bds.text (h : Bds id sd ty key val tm np na ng Pv Av M L) : (evText id sd ty key val st tm np na ng Pv Av M L).size ≤ 140737488355328 := by
  have := joinB_bound _ ⟨#[32]⟩ 3200 (by decide) 8 (fun i _ => h.eight (st := st) i)
  exact Nat.le_trans this (by decide)
end

theorem joinTail_snoc (sep : List UInt8) (r : List (List UInt8)) (y : List UInt8) : Lib.joinTail sep (r ++ [y]) = Lib.joinTail sep r ++ sep ++ y := by
  simp [Lib.joinTail, List.append_assoc]

/-- the library's join. -/
theorem joinB_lib (S : Nat → ByteArray) (sep : ByteArray) : ∀ n, joinB S sep n = ⟨(Lib.join ((List.range n).map fun i => (S i).data.toList) sep.data.toList).toArray⟩
  | 0 => rfl
  | 1 => by simp [joinB, Lib.join_one]
  | n + 2 => by
    have ih := joinB_lib S sep (n + 1)
    rw [joinB, if_neg (by omega), ih, List.range_succ (n := n + 1), List.map_append, List.map_cons, List.map_nil, List.range_succ_eq_map (n := n), List.map_cons, List.cons_append, Lib.join_cons, Lib.join_cons, joinTail_snoc]
    apply ByteArray.ext
    simp [ByteArray.data_append, List.append_assoc]
end Go.Proofs.YtfjfhnjoghlbfaaGreat
