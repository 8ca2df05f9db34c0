import Derived.Test.YtjmhdjjkfglbgabDoorBase
import Derived.Lib.ItoaLen
import Derived.Lib.ItoaMem
import Derived.Lib.SplitLaws
import Derived.Below
import Derived.Lib.Join
import Derived.Lib.ItoaNum
/-
  Decimals and cuts, as lists of bytes: no program in sight.
-/
namespace Go.Proofs.YtjmhdjjkfglbgabDoor

def dig (c : UInt8) : Bool := decide (48 ≤ c.toNat) && decide (c.toNat ≤ 57)
theorem dig_iff {c : UInt8} : dig c = true ↔ 48 ≤ c.toNat ∧ c.toNat ≤ 57 := by simp [dig]
def valL (l : List UInt8) : Nat := l.foldl (fun v c => v * 10 + (c.toNat - 48)) 0
theorem valL_snoc (l : List UInt8) (c : UInt8) : valL (l ++ [c]) = valL l * 10 + (c.toNat - 48) := by simp [valL]
theorem valL_nil : valL [] = 0 := rfl

theorem ofNat_dig {d : Nat} (h : d < 10) : (UInt8.ofNat (48 + d)).toNat = 48 + d := by
  rw [UInt8.toNat_ofNat']; omega

theorem dec_dig (n : Nat) : ∀ c ∈ Lib.decDigits n, dig c = true := by
  induction n using Nat.strongRecOn with
  | ind n ih =>
    intro c hc
    rw [Lib.decDigits] at hc
    split at hc
    · simp only [List.mem_singleton] at hc
      subst hc
      rw [dig_iff, ofNat_dig (by omega)]; omega
    · rcases List.mem_append.1 hc with h | h
      · exact ih (n / 10) (by omega) c h
      · simp only [List.mem_singleton] at h
        subst h
        rw [dig_iff, ofNat_dig (by omega)]; omega

theorem dec_val (n : Nat) : valL (Lib.decDigits n) = n := by
  induction n using Nat.strongRecOn with
  | ind n ih =>
    rw [Lib.decDigits]
    split
    · rw [← List.nil_append [_], valL_snoc, valL_nil, ofNat_dig (by omega)]; omega
    · rw [valL_snoc, ih (n / 10) (by omega), ofNat_dig (by omega)]; omega

theorem dec_ne (n : Nat) : Lib.decDigits n ≠ [] := by
  rw [Lib.decDigits]; split <;> simp

theorem dec_head (n : Nat) (h : (Lib.decDigits n).head? = some 48) : n = 0 := by
  induction n using Nat.strongRecOn with
  | ind n ih =>
    rw [Lib.decDigits] at h
    split at h
    · simp only [List.head?_cons, Option.some.injEq] at h
      have := congrArg UInt8.toNat h
      rw [ofNat_dig (by omega)] at this
      simp at this; omega
    · rw [List.head?_append] at h
      have hne := dec_ne (n / 10)
      cases hd : (Lib.decDigits (n / 10)).head? with
      | none => rw [List.head?_eq_none_iff] at hd; exact absurd hd hne
      | some x =>
        rw [hd] at h
        simp only [Option.some_or, Option.some.injEq] at h
        subst h
        have := ih (n / 10) (by omega) hd
        omega

theorem nDigits_pow (k : Nat) : ∀ n, n < 10 ^ (k + 1) → Lib.nDigits n ≤ k + 1 := by
  induction k with
  | zero => intro n h; rw [Lib.nDigits, dif_pos (by simpa using h)]; omega
  | succ k ih =>
    intro n h
    rw [Lib.nDigits]
    split
    · omega
    · have := ih (n / 10) (by rw [Nat.pow_succ] at h; omega)
      omega
theorem dec_len {n : Nat} (h : n < 10000000000000) : (Lib.decDigits n).length ≤ 13 := by
  rw [Lib.decDigits_length]; exact nDigits_pow 12 n h

theorem snoc_ind {P : List UInt8 → Prop} (h0 : P []) (h1 : ∀ r c, P r → P (r ++ [c])) (l : List UInt8) : P l := by
  have : ∀ r : List UInt8, P r.reverse := by
    intro r
    induction r with
    | nil => exact h0
    | cons c r ih => rw [List.reverse_cons]; exact h1 _ _ ih
  have h := this l.reverse
  rwa [List.reverse_reverse] at h
theorem dec_zero : Lib.decDigits 0 = [48] := Lib.decDigits_one (by decide)

theorem valL_lt : ∀ l : List UInt8, (∀ c ∈ l, dig c = true) → valL l < 10 ^ l.length := by
  refine snoc_ind (fun _ => by simp [valL]) ?_
  · intro r c ih h
    have h1 := ih (fun x hx => h x (List.mem_append_left _ hx))
    have h2 := dig_iff.1 (h c (by simp))
    rw [valL_snoc, List.length_append, List.length_singleton, Nat.pow_succ]
    omega

/-- digits without a leading zero. -/
def plain (l : List UInt8) : Prop := l ≠ [] ∧ (∀ c ∈ l, dig c = true) ∧ (l.head? = some 48 → l = [48])
theorem plain_dec (n : Nat) : plain (Lib.decDigits n) := by
  refine ⟨dec_ne n, dec_dig n, fun h => ?_⟩
  rw [dec_head n h]; exact dec_zero
theorem val_dec : ∀ l : List UInt8, plain l → Lib.decDigits (valL l) = l := by
  refine snoc_ind (fun h => absurd rfl h.1) ?_
  · intro r c ih ⟨_, hd, hz⟩
    have hc := dig_iff.1 (hd c (by simp))
    have hcc : UInt8.ofNat (48 + (c.toNat - 48)) = c := by
      rw [show 48 + (c.toNat - 48) = c.toNat by omega]; exact UInt8.ofNat_toNat
    by_cases hr : r = []
    · subst hr
      rw [valL_snoc, valL_nil, Lib.decDigits, dif_pos (by omega)]
      simp only [Nat.zero_mul, Nat.zero_add, List.nil_append]
      rw [hcc]
    · have hh : r.head? ≠ some 48 := fun h => by
        have := hz (by rw [List.head?_append, h]; rfl)
        have hl := congrArg List.length this
        have : r.length ≠ 0 := fun e => hr (List.eq_nil_of_length_eq_zero e)
        rw [List.length_append] at hl
        simp only [List.length_cons, List.length_nil] at hl
        omega
      have h1 := ih ⟨hr, fun x hx => hd x (List.mem_append_left _ hx), fun h => absurd h hh⟩
      have hv : valL r ≠ 0 := fun e => by
        rw [e] at h1
        exact hh (by rw [← h1, dec_zero]; rfl)
      rw [valL_snoc, Lib.decDigits, dif_neg (by omega), show (valL r * 10 + (c.toNat - 48)) / 10 = valL r by omega, show (valL r * 10 + (c.toNat - 48)) % 10 = c.toNat - 48 by omega, h1, hcc]

/-- the value of a decimal from 0 on, of at most 13 digits. -/
noncomputable def numN (l : List UInt8) : Option Nat := open Classical in if plain l ∧ l.length ≤ 13 then some (valL l) else none
/-- the value of a decimal. -/
noncomputable def numV (l : List UInt8) : Option Int :=
  if l.head? = some 45 then (match numN l.tail with | some n => if n = 0 then none else some (-(n : Int)) | none => none)
  else (match numN l with | some n => some (n : Int) | none => none)

theorem numN_some {l : List UInt8} (h : plain l) (h2 : l.length ≤ 13) : numN l = some (valL l) := by
  rw [numN, if_pos ⟨h, h2⟩]
theorem numN_none {l : List UInt8} (h : ¬ (plain l ∧ l.length ≤ 13)) : numN l = none := by
  rw [numN, if_neg h]
theorem numN_lt {l : List UInt8} {n : Nat} (h : numN l = some n) : n < 10000000000000 := by
  unfold numN at h
  split at h
  · rename_i hp
    have := valL_lt l hp.1.2.1
    have h2 : 10 ^ l.length ≤ 10 ^ 13 := Nat.pow_le_pow_right (by decide) hp.2
    cases h
    omega
  · cases h

/-- what l1Num asks: digits, at most 13, and the decimal of the value is the text. -/
theorem numV_pos {l : List UInt8} (h0 : l.head? ≠ some 45) (hl : l.length ≤ 13) (he : Lib.itoa (valL l : Int) = l) : numV l = some (valL l : Int) := by
  have hp : plain l := by rw [← he, Lib.itoa_nonneg]; exact plain_dec _
  rw [numV, if_neg h0, numN_some hp hl]
theorem numV_neg {r : List UInt8} (hl : r.length ≤ 13) (he : Lib.itoa (-(valL r : Int)) = 45 :: r) : numV (45 :: r) = some (-(valL r : Int)) := by
  have hv : 1 ≤ valL r := by
    rcases Nat.eq_zero_or_pos (valL r) with h | h
    · rw [h] at he
      have : Lib.itoa (-((0 : Nat) : Int)) = [48] := by rw [show (-((0 : Nat) : Int)) = ((0 : Nat) : Int) by rfl, Lib.itoa_nonneg]; exact dec_zero
      rw [this] at he; exact absurd (List.cons.inj he).1 (by decide)
    · exact h
  have he2 : Lib.decDigits (valL r) = r := by
    rw [Lib.itoa_neg _ hv] at he
    exact (List.cons.inj he).2
  have hp : plain r := by rw [← he2]; exact plain_dec _
  have : (45 :: r).head? = some 45 := rfl
  rw [numV, if_pos this, List.tail_cons, numN_some hp hl]
  simp only
  rw [if_neg (by omega)]
/-- where numV has a value, the text is its decimal. -/
theorem numV_itoa {l : List UInt8} {z : Int} (h : numV l = some z) : Lib.itoa z = l ∧ ((l.head? ≠ some 45 ∧ z = valL l ∧ plain l ∧ l.length ≤ 13) ∨ ∃ r, l = 45 :: r ∧ z = -(valL r : Int) ∧ plain r ∧ r.length ≤ 13) := by
  unfold numV at h
  split at h
  · rename_i h45
    cases l with
    | nil => cases h45
    | cons c r =>
      simp only [List.head?_cons, Option.some.injEq] at h45
      subst h45
      simp only [List.tail_cons] at h
      by_cases hp : plain r ∧ r.length ≤ 13
      · rw [numN_some hp.1 hp.2] at h
        simp only at h
        split at h
        · cases h
        · rename_i hz
          cases h
          exact ⟨by rw [Lib.itoa_neg _ (by omega), val_dec r hp.1], Or.inr ⟨r, rfl, rfl, hp.1, hp.2⟩⟩
      · rw [numN_none hp] at h; cases h
  · rename_i h45
    by_cases hp : plain l ∧ l.length ≤ 13
    · rw [numN_some hp.1 hp.2] at h
      cases h
      exact ⟨by rw [Lib.itoa_nonneg, val_dec l hp.1], Or.inl ⟨h45, rfl, hp.1, hp.2⟩⟩
    · rw [numN_none hp] at h; cases h
end Go.Proofs.YtjmhdjjkfglbgabDoor
/-
  Cuts at a byte, as lists of bytes: no program in sight.
-/
namespace Go.Proofs.YtjmhdjjkfglbgabDoor

/-- x in front of the first. -/
def glue (x : List UInt8) : List (List UInt8) → List (List UInt8)
  | [] => [x]
  | y :: r => (x ++ y) :: r
/-- a text cut at each c. -/
def cutL (c : UInt8) : List UInt8 → List (List UInt8)
  | [] => [[]]
  | b :: l => if b = c then [] :: cutL c l else glue [b] (cutL c l)

theorem cutL_ne (c : UInt8) (l : List UInt8) : cutL c l ≠ [] := by
  cases l with
  | nil => simp [cutL]
  | cons b l => unfold cutL; split; · simp
                cases cutL c l <;> simp [glue]
theorem glue_nil {L : List (List UInt8)} (h : L ≠ []) : glue [] L = L := by
  cases L with
  | nil => exact absurd rfl h
  | cons y r => rfl
theorem glue_glue (x y : List UInt8) (L : List (List UInt8)) : glue x (glue y L) = glue (x ++ y) L := by
  cases L <;> simp [glue]
theorem cutL_hit (c : UInt8) (l : List UInt8) : cutL c (c :: l) = [] :: cutL c l := by rw [cutL, if_pos rfl]
theorem cutL_miss {b c : UInt8} (l : List UInt8) (h : b ≠ c) : cutL c (b :: l) = glue [b] (cutL c l) := by rw [cutL, if_neg h]
theorem cutL_len (c : UInt8) (l : List UInt8) : (cutL c l).length ≤ l.length + 1 := by
  induction l with
  | nil => simp [cutL]
  | cons b l ih =>
    unfold cutL; split
    · simp only [List.length_cons]; omega
    · cases h : cutL c l with
      | nil => simp [glue]
      | cons y r => rw [h] at ih; simp only [glue, List.length_cons] at ih ⊢; omega
theorem glue_head (x : List UInt8) (L : List (List UInt8)) : ∀ y ∈ glue x L, y ∈ L ∨ ∃ z, y = x ++ z ∧ (z ∈ L ∨ z = []) := by
  intro y hy
  cases L with
  | nil => simp only [glue, List.mem_singleton] at hy; exact Or.inr ⟨[], by simp [hy], Or.inr rfl⟩
  | cons a r =>
    simp only [glue, List.mem_cons] at hy
    rcases hy with h | h
    · exact Or.inr ⟨a, h, Or.inl (by simp)⟩
    · exact Or.inl (by simp [h])
theorem cutL_size (c : UInt8) (l : List UInt8) : ∀ y ∈ cutL c l, y.length ≤ l.length := by
  induction l with
  | nil => intro y hy; simp [cutL] at hy; simp [hy]
  | cons b l ih =>
    intro y hy
    unfold cutL at hy; split at hy
    · rcases List.mem_cons.1 hy with h | h
      · subst h; simp
      · have := ih y h; simp only [List.length_cons]; omega
    · rcases glue_head _ _ y hy with h | ⟨z, rfl, h | h⟩
      · have := ih y h; simp only [List.length_cons]; omega
      · have := ih z h; simp only [List.length_append, List.length_cons, List.length_nil]; omega
      · subst h; simp
/-- no c: one piece. -/
theorem cutL_one {c : UInt8} {l : List UInt8} (h : c ∉ l) : cutL c l = [l] := by
  induction l with
  | nil => rfl
  | cons b l ih =>
    rw [cutL_miss _ (fun e => h (by simp [e])), ih (fun e => h (by simp [e]))]; rfl
/-- the first c. -/
theorem cutL_first {c : UInt8} {x y : List UInt8} (h : c ∉ x) : cutL c (x ++ c :: y) = x :: cutL c y := by
  induction x with
  | nil => exact cutL_hit c y
  | cons b x ih =>
    rw [List.cons_append, cutL_miss _ (fun e => h (by simp [e])), ih (fun e => h (by simp [e]))]; rfl
theorem cutL_count (c : UInt8) (l : List UInt8) : (cutL c l).length = l.count c + 1 := by
  induction l with
  | nil => simp [cutL]
  | cons b l ih =>
    unfold cutL; split
    · rename_i h; subst h; simp [ih]
    · rename_i h
      rw [List.count_cons_of_ne (by simpa using h), ← ih]
      cases hc : cutL c l with
      | nil => exact absurd hc (cutL_ne c l)
      | cons y r => simp [glue]

/-- the library's split at one byte. -/
theorem index_one (c : UInt8) : ∀ l : List UInt8, (c ∉ l → Lib.index l [c] = -1) ∧ (∀ x y, l = x ++ c :: y → c ∉ x → Lib.index l [c] = x.length) := by
  intro l
  induction l with
  | nil => exact ⟨fun _ => by simp [Lib.index], fun x y h => by cases x <;> cases h⟩
  | cons b l ih =>
    refine ⟨fun h => ?_, fun x y h hx => ?_⟩
    · have hb : b ≠ c := fun e => h (by simp [e])
      have hl := ih.1 (fun e => h (by simp [e]))
      simp [Lib.index, hl, List.isPrefixOf, Ne.symm hb]
    · cases x with
      | nil =>
        simp only [List.nil_append, List.cons.injEq] at h
        obtain ⟨rfl, rfl⟩ := h
        simp [Lib.index, List.isPrefixOf]
      | cons d x =>
        simp only [List.cons_append, List.cons.injEq] at h
        obtain ⟨rfl, rfl⟩ := h
        have hb : b ≠ c := fun e => hx (by simp [e])
        have hl := ih.2 x y rfl (fun e => hx (by simp [e]))
        simp [Lib.index, hl, List.isPrefixOf, Ne.symm hb]

theorem split_first (c : UInt8) (l : List UInt8) : c ∉ l ∨ ∃ x y, l = x ++ c :: y ∧ c ∉ x := by
  induction l with
  | nil => exact Or.inl (by simp)
  | cons b l ih =>
    by_cases hb : b = c
    · subst hb; exact Or.inr ⟨[], l, rfl, by simp⟩
    · rcases ih with h | ⟨x, y, rfl, h⟩
      · exact Or.inl (by simp [Ne.symm hb, h])
      · exact Or.inr ⟨b :: x, y, rfl, by simp [Ne.symm hb, h]⟩

theorem splitK_cut (c : UInt8) : ∀ (k : Nat) (l : List UInt8), l.count c = k → Lib.splitK [c] 0 k l = cutL c l := by
  intro k
  induction k with
  | zero =>
    intro l h
    rw [cutL_one (List.count_eq_zero.1 h)]
    rfl
  | succ k ih =>
    intro l h
    rcases split_first c l with hn | ⟨x, y, rfl, hx⟩
    · rw [List.count_eq_zero.2 hn] at h; cases h
    · have hi := (index_one c (x ++ c :: y)).2 x y rfl hx
      have hy : y.count c = k := by
        rw [List.count_append, List.count_eq_zero.2 hx, List.count_cons_self] at h; omega
      rw [cutL_first hx, ← ih y hy]
      simp only [Lib.splitK, hi]
      simp

/-- the same as byte arrays. -/
def cutB (c : UInt8) (s : ByteArray) : List ByteArray := (cutL c s.data.toList).map fun l => ⟨l.toArray⟩
def cN (c : UInt8) (s : ByteArray) : Nat := (cutL c s.data.toList).length
def cS (c : UInt8) (s : ByteArray) (i : Nat) : ByteArray := ⟨((cutL c s.data.toList).getD i []).toArray⟩
theorem cutB_len (c : UInt8) (s : ByteArray) : (cutB c s).length = cN c s := by simp [cutB, cN]
theorem cutB_get (c : UInt8) (s : ByteArray) (i : Nat) (h : i < cN c s) : (cutB c s)[i]? = some (cS c s i) := by
  have h' : i < (cutL c s.data.toList).length := h
  simp [cutB, cS, List.getElem?_map, List.getElem?_eq_getElem h', List.getD, Option.getD]
theorem cN_le (c : UInt8) (s : ByteArray) : cN c s ≤ s.size + 1 := cutL_len c s.data.toList
theorem cN_pos (c : UInt8) (s : ByteArray) : 1 ≤ cN c s := by
  have := cutL_ne c s.data.toList
  unfold cN
  cases h : cutL c s.data.toList with
  | nil => exact absurd h this
  | cons => simp
theorem cS_size (c : UInt8) (s : ByteArray) (i : Nat) (h : i < cN c s) : (cS c s i).size ≤ s.size := by
  have h' : i < (cutL c s.data.toList).length := h
  have := cutL_size c s.data.toList _ (List.getElem_mem h')
  show (List.toArray _).size ≤ s.data.toList.length
  rw [List.size_toArray]
  simpa [List.getD, List.getElem?_eq_getElem h'] using this
theorem countB_one (c : UInt8) (s : ByteArray) : Lib.countB s ⟨#[c]⟩ = s.data.toList.count c := Lib.count_one c _
theorem cN_count (c : UInt8) (s : ByteArray) : Lib.countB s ⟨#[c]⟩ + 1 = cN c s := by
  rw [countB_one]; exact (cutL_count c _).symm
theorem ba_ext {a b : ByteArray} (h : a.data.toList = b.data.toList) : a = b := by
  cases a; cases b; simp only at h; rw [Array.toList_inj.1 h]
theorem map_data_inj : ∀ {a b : List ByteArray}, a.map (·.data.toList) = b.map (·.data.toList) → a = b
  | [], [], _ => rfl
  | [], _ :: _, h => by cases h
  | _ :: _, [], h => by cases h
  | x :: a, y :: b, h => by
    simp only [List.map_cons, List.cons.injEq] at h
    rw [ba_ext h.1, map_data_inj h.2]
theorem splitB_cut (c : UInt8) (s : ByteArray) : Lib.splitB ⟨#[c]⟩ 0 (Lib.countB s ⟨#[c]⟩) s = cutB c s := by
  have h1 : (Lib.splitB ⟨#[c]⟩ 0 (Lib.countB s ⟨#[c]⟩) s).map (·.data.toList) = (cutB c s).map (·.data.toList) := by
    rw [Lib.splitB_data]
    have h2 : (cutB c s).map (·.data.toList) = cutL c s.data.toList := by simp [cutB, Function.comp_def]
    rw [h2]
    exact splitK_cut c _ _ (countB_one c s).symm
  exact map_data_inj h1
end Go.Proofs.YtjmhdjjkfglbgabDoor
/-
  Plain functions of chapter 1, on bytes and lists: no program in sight.
-/
namespace Go.Proofs.YtjmhdjjkfglbgabDoor
open Go.RowKit

/-- a byte of a word. -/
def wbB (c : Int) : Bool :=
  (decide (97 ≤ c) && decide (c ≤ 122)) || (decide (65 ≤ c) && decide (c ≤ 90)) || (decide (48 ≤ c) && decide (c ≤ 57)) ||
    (c == 95) || (c == 46) || (c == 64) || (c == 36) || (c == 47) || (c == 43)

/-- the bytes of a text as numbers. -/
def bts (s : ByteArray) : List Int := s.data.toList.map fun c => (c.toNat : Int)

theorem bts_len (s : ByteArray) : (bts s).length = s.size := by rw [bts, List.length_map]; rfl

def isW (s : ByteArray) : Bool := (bts s).all wbB && decide (1 ≤ s.size) && decide (s.size ≤ 40)

theorem bts_get (s : ByteArray) (k : Nat) (h : k < s.size) : (bts s)[k]'(by rw [bts_len]; exact h) = (s[k].toNat : Int) := by
  simp [bts]; rfl

theorem all_take_succ (s : ByteArray) (k : Nat) (h : k < s.size) : ((bts s).take (k + 1)).all wbB = (((bts s).take k).all wbB && wbB (s[k].toNat : Int)) := by
  have h' : k < (bts s).length := by rw [bts_len]; exact h
  rw [List.take_succ_eq_append_getElem h', List.all_append, bts_get s k h]
  simp

theorem isW_of_take (s : ByteArray) (k : Nat) (h : k < s.size) (hw : wbB (s[k].toNat : Int) = false) : isW s = false := by
  have h' : k < (bts s).length := by rw [bts_len]; exact h
  have : (bts s).all wbB = false := by
    rw [List.all_eq_false]
    exact ⟨(bts s)[k], List.getElem_mem h', by rw [bts_get s k h, hw]; simp⟩
  simp [isW, this]

theorem isW_of_all (s : ByteArray) (h : (bts s).all wbB = true) : isW s = (decide (1 ≤ s.size) && decide (s.size ≤ 40)) := by
  simp [isW, h]

end Go.Proofs.YtjmhdjjkfglbgabDoor
/-
  Plain functions of chapter 1 on lists of texts, told by index.
-/
namespace Go.Proofs.YtjmhdjjkfglbgabDoor
open Go.RowKit

/-- among the first n texts of S there is s. -/
def hasB (S : Nat → ByteArray) : Nat → ByteArray → Bool
  | 0, _ => false
  | n + 1, s => hasB S n s || (S n).toList == s.toList

theorem hasB_of (S : Nat → ByteArray) (s : ByteArray) : ∀ n k, k < n → ((S k).toList == s.toList) = true → hasB S n s = true
  | 0, _, h, _ => absurd h (Nat.not_lt_zero _)
  | n + 1, k, h, e => by
    by_cases hk : k = n
    · subst hk; simp [hasB, e]
    · simp [hasB, hasB_of S s n k (by omega) e]

/-- how many of the first n texts are words. -/
def cntW (S : Nat → ByteArray) : Nat → Nat
  | 0 => 0
  | n + 1 => cntW S n + if isW (S n) then 1 else 0

theorem cntW_le (S : Nat → ByteArray) : ∀ n, cntW S n ≤ n
  | 0 => Nat.le_refl _
  | n + 1 => by have := cntW_le S n; unfold cntW; split <;> omega

/-- all of the first n texts are words. -/
def allW (S : Nat → ByteArray) : Nat → Bool
  | 0 => true
  | n + 1 => allW S n && isW (S n)

theorem cntW_all (S : Nat → ByteArray) : ∀ n, (((cntW S n : Nat) : Int) == (n : Int)) = allW S n
  | 0 => rfl
  | n + 1 => by
    have ih := cntW_all S n
    have hle := cntW_le S n
    unfold cntW allW
    rw [← ih]
    cases h : isW (S n)
    · simp only [Bool.and_false, Bool.false_eq_true, if_false]; rw [beq_eq_false_iff_ne]; omega
    · simp only [Bool.and_true, if_true]; rw [Bool.eq_iff_iff]; simp

/-- the references told by spec.l1RefsOk, without the bound on their number. -/
def refsTo (S : Nat → ByteArray) (id : ByteArray) : Nat → Bool
  | 0 => true
  | n + 1 => refsTo S id n && (isW (S n) && (!((S n).toList == id.toList) && !hasB S n (S n)))

/-- the same without the words. -/
def refs2To (S : Nat → ByteArray) (id : ByteArray) : Nat → Bool
  | 0 => true
  | n + 1 => refs2To S id n && (!((S n).toList == id.toList) && !hasB S n (S n))

theorem refsTo_eq (S : Nat → ByteArray) (id : ByteArray) : ∀ n, refsTo S id n = (allW S n && refs2To S id n)
  | 0 => rfl
  | n + 1 => by
    unfold refsTo allW refs2To
    rw [refsTo_eq S id n]
    cases allW S n <;> cases refs2To S id n <;> cases isW (S n) <;> rfl

theorem refsTo_le (S : Nat → ByteArray) (id : ByteArray) : ∀ n k, k < n → refsTo S id (k + 1) = false → refsTo S id n = false
  | 0, _, h, _ => absurd h (Nat.not_lt_zero _)
  | n + 1, k, h, e => by
    by_cases hk : k = n
    · subst hk; exact e
    · unfold refsTo; rw [refsTo_le S id n k (by omega) e]; rfl

theorem refs2To_le (S : Nat → ByteArray) (id : ByteArray) : ∀ n k, k < n → refs2To S id (k + 1) = false → refs2To S id n = false
  | 0, _, h, _ => absurd h (Nat.not_lt_zero _)
  | n + 1, k, h, e => by
    by_cases hk : k = n
    · subst hk; exact e
    · unfold refs2To; rw [refs2To_le S id n k (by omega) e]; rfl

/-- a list of references is right. -/
def refsB (S : Nat → ByteArray) (n : Nat) (id : ByteArray) : Bool := decide (n ≤ 10) && refsTo S id n

end Go.Proofs.YtjmhdjjkfglbgabDoor
/-
  Plain functions of chapter 1 on names and grants.
-/
namespace Go.Proofs.YtjmhdjjkfglbgabDoor
open Go.RowKit

/-- a text that opens with a star or a hash. -/
def starB (s : ByteArray) : Bool := (bts s).head? == some 42 || (bts s).head? == some 35

/-- what is left behind one such mark. -/
def bareS (s : ByteArray) : ByteArray := if starB s then s.extract 1 s.size else s

def nameB (s : ByteArray) : Bool := isW (bareS s)

theorem bts_head (s : ByteArray) (h : 0 < s.size) : (bts s).head? = some (s[0].toNat : Int) := by
  have h' : 0 < (bts s).length := by rw [bts_len]; exact h
  rw [List.head?_eq_getElem?, List.getElem?_eq_getElem h', bts_get s 0 h]

theorem bts_head0 (s : ByteArray) (h : s.size = 0) : (bts s).head? = none := by
  rw [List.head?_eq_none_iff]; exact List.eq_nil_of_length_eq_zero (by rw [bts_len]; exact h)

theorem starB_pos (s : ByteArray) (h : 0 < s.size) : starB s = (((s[0].toNat : Int) == 42) || ((s[0].toNat : Int) == 35)) := by
  simp [starB, bts_head s h]

theorem starB_zero (s : ByteArray) (h : s.size = 0) : starB s = false := by
  simp [starB, bts_head0 s h]

/-- the first n grants are right; names N, levels L. -/
def grTo (M : Nat → ByteArray) (L : Nat → Int) : Nat → Bool
  | 0 => true
  | n + 1 => grTo M L n && (nameB (M n) && (!decide (L n < -1000000) && (!decide (1000000 < L n) && (n == 0 || Op.bytesLess (M (n - 1)).toList (M n).toList))))

theorem grTo_le (M : Nat → ByteArray) (L : Nat → Int) : ∀ n k, k < n → grTo M L (k + 1) = false → grTo M L n = false
  | 0, _, h, _ => absurd h (Nat.not_lt_zero _)
  | n + 1, k, h, e => by
    by_cases hk : k = n
    · subst hk; exact e
    · unfold grTo; rw [grTo_le M L n k (by omega) e]; rfl

def grB (M : Nat → ByteArray) (L : Nat → Int) (n : Nat) : Bool := grTo M L n && decide (n ≤ 50)

end Go.Proofs.YtjmhdjjkfglbgabDoor
/-
  Plain functions of chapter 1: the content of an event, and its code.
-/
namespace Go.Proofs.YtjmhdjjkfglbgabDoor
open Go.RowKit

/-- join, invite, leave, ban. -/
def memB (v : ByteArray) : Bool := v.toList == [106, 111, 105, 110] || (v.toList == [105, 110, 118, 105, 116, 101] || (v.toList == [108, 101, 97, 118, 101] || v.toList == [98, 97, 110]))
/-- public, invite. -/
def rulB (v : ByteArray) : Bool := v.toList == [112, 117, 98, 108, 105, 99] || v.toList == [105, 110, 118, 105, 116, 101]

/-- the content fits the type. -/
def ctB (ty key val : ByteArray) (st : Bool) (np na ng : Nat) (M : Nat → ByteArray) (L : Nat → Int) : Bool :=
  if ty.toList == [99, 114, 101, 97, 116, 101] then st && key.toList.isEmpty && ng == 0 && np == 0 && na == 0 && val.toList.isEmpty
  else if ty.toList == [109, 101, 109, 98, 101, 114] then st && !key.toList.isEmpty && ng == 0 && memB val
  else if ty.toList == [106, 111, 105, 110, 95, 114, 117, 108, 101, 115] then st && key.toList.isEmpty && ng == 0 && rulB val
  else if ty.toList == [112, 111, 119, 101, 114] then st && key.toList.isEmpty && val.toList.isEmpty && grB M L ng
  else ng == 0 && (val.toList.isEmpty || isW val)

/-- EventOk's code. -/
def evCode (id sd ty key val : ByteArray) (st : Bool) (tm : Int) (np na ng : Nat) (Pv Av M : Nat → ByteArray) (L : Nat → Int) : Int :=
  if isW id = false ∨ isW sd = false ∨ isW ty = false then 1
  else if key.toList.isEmpty = false ∧ (st = false ∨ isW key = false) then 2
  else if tm < 0 ∨ 1000000000000 < tm then 3
  else if refsB Pv np id = false ∨ refsB Av na id = false then 4
  else if ctB ty key val st np na ng M L = false then 5
  else 0

end Go.Proofs.YtjmhdjjkfglbgabDoor
/-
  Chapter 1's texts: joins and decimals, as byte arrays.
-/
namespace Go.Proofs.YtjmhdjjkfglbgabDoor

/-- the first k texts with sep in between. -/
def joinB (S : Nat → ByteArray) (sep : ByteArray) : Nat → ByteArray
  | 0 => ByteArray.empty
  | k + 1 => if k = 0 then S 0 else joinB S sep k ++ sep ++ S k

theorem joinB_size_le (S : Nat → ByteArray) (sep : ByteArray) : ∀ {n k : Nat}, k ≤ n → (joinB S sep k).size ≤ (joinB S sep n).size
  | 0, k, h => by have : k = 0 := by omega
                  subst this; exact Nat.le_refl _
  | n + 1, k, h => by
    by_cases e : k = n + 1
    · subst e; exact Nat.le_refl _
    · refine Nat.le_trans (joinB_size_le S sep (n := n) (by omega)) ?_
      by_cases h0 : n = 0
      · subst h0; simp [joinB]
      · rw [joinB, if_neg h0, ByteArray.size_append, ByteArray.size_append]; omega
end Go.Proofs.YtjmhdjjkfglbgabDoor
/-
  Chapter 1's texts: the pieces of an event's text, their sizes, and what a well-formed event bounds.
-/
namespace Go.Proofs.YtjmhdjjkfglbgabDoor

/-- what code 0 bounds. -/
structure Bds (id sd ty key val : ByteArray) (tm : Int) (np na ng : Nat) (Pv Av M : Nat → ByteArray) (L : Nat → Int) : Prop where
  hid : id.size ≤ 40
  hsd : sd.size ≤ 40
  hty : ty.size ≤ 40
  hkey : key.size ≤ 40
  hval : val.size ≤ 40
  t0 : 0 ≤ tm
  t1 : tm ≤ 1000000000000
  hnp : np ≤ 10
  hna : na ≤ 10
  hng : ng ≤ 50
  p : ∀ i, i < np → (Pv i).size ≤ 40
  a : ∀ i, i < na → (Av i).size ≤ 40
  m : ∀ i, i < ng → (M i).size ≤ 41
  l0 : ∀ i, i < ng → -1000000 ≤ L i
  l1 : ∀ i, i < ng → L i ≤ 1000000

theorem isW_size {s : ByteArray} (h : isW s = true) : s.size ≤ 40 := by
  simp only [isW, Bool.and_eq_true, decide_eq_true_eq] at h; exact h.2

theorem size_list (s : ByteArray) : s.size = s.toList.length := by
  rw [ByteArray.toList_eq, Array.length_toList]; rfl
theorem size_beq {s : ByteArray} {l : List UInt8} (h : (s.toList == l) = true) : s.size = l.length := by
  rw [size_list, eq_of_beq h]
theorem size_empty {s : ByteArray} (h : s.toList.isEmpty = true) : s.size = 0 := by
  rw [size_list, List.isEmpty_iff.1 h]; rfl

theorem refsTo_size (S : Nat → ByteArray) (id : ByteArray) : ∀ n, refsTo S id n = true → ∀ i, i < n → (S i).size ≤ 40
  | 0, _, i, hi => absurd hi (Nat.not_lt_zero _)
  | n + 1, h, i, hi => by
    unfold refsTo at h
    simp only [Bool.and_eq_true] at h
    by_cases e : i = n
    · subst e; exact isW_size h.2.1
    · exact refsTo_size S id n h.1 i (by omega)

theorem bare_size (s : ByteArray) : s.size ≤ (bareS s).size + 1 := by
  unfold bareS; split
  · rw [ByteArray.size_extract]; omega
  · omega

theorem grTo_size (M : Nat → ByteArray) (L : Nat → Int) : ∀ n, grTo M L n = true → ∀ i, i < n → (M i).size ≤ 41 ∧ -1000000 ≤ L i ∧ L i ≤ 1000000
  | 0, _, i, hi => absurd hi (Nat.not_lt_zero _)
  | n + 1, h, i, hi => by
    unfold grTo at h
    simp only [Bool.and_eq_true, Bool.not_eq_true', decide_eq_false_iff_not] at h
    by_cases e : i = n
    · subst e
      refine ⟨?_, by omega, by omega⟩
      have := isW_size h.2.1
      have := bare_size (M i)
      omega
    · exact grTo_size M L n h.1 i (by omega)

theorem memB_size {v : ByteArray} (h : memB v = true) : v.size ≤ 40 := by
  simp only [memB, Bool.or_eq_true] at h
  rcases h with h | h | h | h <;> (rw [size_beq h]; decide)
theorem rulB_size {v : ByteArray} (h : rulB v = true) : v.size ≤ 40 := by
  simp only [rulB, Bool.or_eq_true] at h
  rcases h with h | h <;> (rw [size_beq h]; decide)

theorem ct_bds {ty key val : ByteArray} {st : Bool} {np na ng : Nat} {M : Nat → ByteArray} {L : Nat → Int} (h : ctB ty key val st np na ng M L = true) :
    val.size ≤ 40 ∧ ng ≤ 50 ∧ ∀ i, i < ng → (M i).size ≤ 41 ∧ -1000000 ≤ L i ∧ L i ≤ 1000000 := by
  unfold ctB at h
  split at h
  · simp only [Bool.and_eq_true, beq_iff_eq] at h
    have h0 : ng = 0 := h.1.1.1.2
    subst h0
    exact ⟨by rw [size_empty h.2]; decide, by decide, fun i hi => absurd hi (Nat.not_lt_zero _)⟩
  split at h
  · simp only [Bool.and_eq_true, beq_iff_eq] at h
    have h0 : ng = 0 := h.1.2
    subst h0
    exact ⟨memB_size h.2, by decide, fun i hi => absurd hi (Nat.not_lt_zero _)⟩
  split at h
  · simp only [Bool.and_eq_true, beq_iff_eq] at h
    have h0 : ng = 0 := h.1.2
    subst h0
    exact ⟨rulB_size h.2, by decide, fun i hi => absurd hi (Nat.not_lt_zero _)⟩
  split at h
  · simp only [Bool.and_eq_true, grB, decide_eq_true_eq] at h
    exact ⟨by rw [size_empty h.1.2]; decide, h.2.2, grTo_size M L ng h.2.1⟩
  · simp only [Bool.and_eq_true, Bool.or_eq_true, beq_iff_eq] at h
    have h0 : ng = 0 := h.1
    subst h0
    refine ⟨?_, by decide, fun i hi => absurd hi (Nat.not_lt_zero _)⟩
    rcases h.2 with h | h
    · rw [size_empty h]; decide
    · exact isW_size h

theorem evCode_bds {id sd ty key val : ByteArray} {st : Bool} {tm : Int} {np na ng : Nat} {Pv Av M : Nat → ByteArray} {L : Nat → Int}
    (h : evCode id sd ty key val st tm np na ng Pv Av M L = 0) : Bds id sd ty key val tm np na ng Pv Av M L := by
  unfold evCode at h
  split at h
  · cases h
  rename_i h1
  split at h
  · cases h
  rename_i h2
  split at h
  · cases h
  rename_i h3
  split at h
  · cases h
  rename_i h4
  split at h
  · cases h
  rename_i h5
  have w1 : isW id = true := by simpa using fun e => h1 (Or.inl e)
  have w2 : isW sd = true := by simpa using fun e => h1 (Or.inr (Or.inl e))
  have w3 : isW ty = true := by simpa using fun e => h1 (Or.inr (Or.inr e))
  have r1 : refsB Pv np id = true := by simpa using fun e => h4 (Or.inl e)
  have r2 : refsB Av na id = true := by simpa using fun e => h4 (Or.inr e)
  have c := ct_bds (by simpa using h5)
  simp only [refsB, Bool.and_eq_true, decide_eq_true_eq] at r1 r2
  refine ⟨isW_size w1, isW_size w2, isW_size w3, ?_, c.1, by omega, by omega, r1.1, r2.1, c.2.1, refsTo_size _ _ _ r1.2, refsTo_size _ _ _ r2.2, fun i hi => (c.2.2 i hi).1, fun i hi => (c.2.2 i hi).2.1, fun i hi => (c.2.2 i hi).2.2⟩
  cases hk : key.toList.isEmpty
  · exact isW_size (by simpa using fun e => h2 ⟨hk, Or.inr e⟩)
  · rw [size_empty hk]; decide

theorem joinB_bound (S : Nat → ByteArray) (sep : ByteArray) (c : Nat) (hs : sep.size ≤ 1) : ∀ n, (∀ i, i < n → (S i).size ≤ c) → (joinB S sep n).size ≤ n * (c + 1)
  | 0, _ => by simp [joinB]
  | n + 1, h => by
    have ih := joinB_bound S sep c hs n (fun i hi => h i (by omega))
    have hn := h n (by omega)
    have h0 := h 0 (by omega)
    rw [joinB]; split
    · rw [Nat.succ_mul]; omega
    · rw [ByteArray.size_append, ByteArray.size_append, Nat.succ_mul]; omega

theorem joinB_congr {S T : Nat → ByteArray} (sep : ByteArray) : ∀ n, (∀ i, i < n → S i = T i) → joinB S sep n = joinB T sep n
  | 0, _ => rfl
  | n + 1, h => by
    rw [joinB, joinB, joinB_congr sep n (fun i hi => h i (by omega)), h n (by omega), h 0 (by omega)]

def itoaB (z : Int) : ByteArray := ⟨(Lib.itoa z).toArray⟩
theorem itoaB_size {z : Int} (h0 : -1000000000000 ≤ z) (h1 : z ≤ 1000000000000) : (itoaB z).size ≤ 21 := by
  show (Lib.itoa z).toArray.size ≤ 21
  rw [List.size_toArray]
  exact Lib.itoa_length_le z (by omega) (by omega)

def dashB : ByteArray := ⟨#[45]⟩
def keyT (st : Bool) (key : ByteArray) : ByteArray := if st then ⟨#[61]⟩ ++ key else dashB
def refsT (S : Nat → ByteArray) (n : Nat) : ByteArray := if n = 0 then dashB else joinB S ⟨#[44]⟩ n
def grT (M : Nat → ByteArray) (L : Nat → Int) (i : Nat) : ByteArray := M i ++ ⟨#[58]⟩ ++ itoaB (L i)
def valT (val : ByteArray) (M : Nat → ByteArray) (L : Nat → Int) (ng : Nat) : ByteArray :=
  if ng = 0 then (if val.toList.isEmpty then dashB else val) else joinB (grT M L) ⟨#[44]⟩ ng

theorem keyT_size {st : Bool} {key : ByteArray} (h : key.size ≤ 40) : (keyT st key).size ≤ 41 := by
  unfold keyT; split
  · rw [ByteArray.size_append]; show 1 + _ ≤ 41; omega
  · show 1 ≤ 41; decide
theorem refsT_size {S : Nat → ByteArray} {n : Nat} (h : n ≤ 10) (hs : ∀ i, i < n → (S i).size ≤ 40) : (refsT S n).size ≤ 410 := by
  unfold refsT; split
  · show 1 ≤ 410; decide
  · have := joinB_bound S ⟨#[44]⟩ 40 (by decide) n hs; omega
theorem grT_size {M : Nat → ByteArray} {L : Nat → Int} {i : Nat} (h : (M i).size ≤ 41) (h0 : -1000000 ≤ L i) (h1 : L i ≤ 1000000) : (grT M L i).size ≤ 63 := by
  have := itoaB_size (z := L i) (by omega) (by omega)
  rw [grT, ByteArray.size_append, ByteArray.size_append]; show _ + 1 + _ ≤ 63; omega
theorem valT_size {val : ByteArray} {M : Nat → ByteArray} {L : Nat → Int} {ng : Nat} (h : val.size ≤ 40) (hn : ng ≤ 50) (hg : ∀ i, i < ng → (grT M L i).size ≤ 63) : (valT val M L ng).size ≤ 3200 := by
  unfold valT; split
  · split
    · show 1 ≤ 3200; decide
    · omega
  · have := joinB_bound (grT M L) ⟨#[44]⟩ 63 (by decide) ng hg; omega

/-- eight texts. -/
def eight (a b c d e f g h : ByteArray) (i : Nat) : ByteArray :=
  if i = 0 then a else if i = 1 then b else if i = 2 then c else if i = 3 then d else if i = 4 then e else if i = 5 then f else if i = 6 then g else h
/-- the text of an event. -/
def evText (id sd ty key val : ByteArray) (st : Bool) (tm : Int) (np na ng : Nat) (Pv Av M : Nat → ByteArray) (L : Nat → Int) : ByteArray :=
  joinB (eight id sd ty (keyT st key) (itoaB tm) (refsT Pv np) (refsT Av na) (valT val M L ng)) ⟨#[32]⟩ 8

section
variable {id sd ty key val : ByteArray} {st : Bool} {tm : Int} {np na ng : Nat} {Pv Av M : Nat → ByteArray} {L : Nat → Int}
theorem Bds.gr (h : Bds id sd ty key val tm np na ng Pv Av M L) (i : Nat) (hi : i < ng) : (grT M L i).size ≤ 63 := grT_size (h.m i hi) (h.l0 i hi) (h.l1 i hi)
theorem Bds.eight (h : Bds id sd ty key val tm np na ng Pv Av M L) (i : Nat) : (Go.Proofs.YtjmhdjjkfglbgabDoor.eight id sd ty (keyT st key) (itoaB tm) (refsT Pv np) (refsT Av na) (valT val M L ng) i).size ≤ 3200 := by
  have h1 := h.hid
  have h2 := h.hsd
  have h3 := h.hty
  have h4 := keyT_size (st := st) h.hkey
  have h5 := itoaB_size (z := tm) (by have := h.t0; omega) h.t1
  have h6 := refsT_size h.hnp h.p
  have h7 := refsT_size h.hna h.a
  have h8 := valT_size (L := L) h.hval h.hng h.gr
  unfold Go.Proofs.YtjmhdjjkfglbgabDoor.eight
  split
  · omega
  split
  · omega
  split
  · omega
  split
  · omega
  split
  · omega
  split
  · omega
  split
  · omega
  · exact h8
theorem Bds.text (h : Bds id sd ty key val tm np na ng Pv Av M L) : (evText id sd ty key val st tm np na ng Pv Av M L).size ≤ 140737488355328 := by
  have := joinB_bound _ ⟨#[32]⟩ 3200 (by decide) 8 (fun i _ => h.eight (st := st) i)
  exact Nat.le_trans this (by decide)
end

theorem joinTail_snoc (sep : List UInt8) (r : List (List UInt8)) (y : List UInt8) : Lib.joinTail sep (r ++ [y]) = Lib.joinTail sep r ++ sep ++ y := by
  simp [Lib.joinTail, List.append_assoc]

/-- the library's join. -/
theorem joinB_lib (S : Nat → ByteArray) (sep : ByteArray) : ∀ n, joinB S sep n = ⟨(Lib.join ((List.range n).map fun i => (S i).data.toList) sep.data.toList).toArray⟩
  | 0 => rfl
  | 1 => by simp [joinB, Lib.join_one]
  | n + 2 => by
    have ih := joinB_lib S sep (n + 1)
    rw [joinB, if_neg (by omega), ih, List.range_succ (n := n + 1), List.map_append, List.map_cons, List.map_nil, List.range_succ_eq_map (n := n), List.map_cons, List.cons_append, Lib.join_cons, Lib.join_cons, joinTail_snoc]
    apply ByteArray.ext
    simp [ByteArray.data_append, List.append_assoc]
end Go.Proofs.YtjmhdjjkfglbgabDoor
