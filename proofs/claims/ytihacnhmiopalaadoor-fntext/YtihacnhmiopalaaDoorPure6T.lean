import Derived.Test.YtihacnhmiopalaaDoorSlZT
import Derived.Lib.ItoaLen
namespace Go.Proofs.YtihacnhmiopalaaDoor
structure Bds (id sd ty key val : ByteArray) (tm : Int) (np na ng : Nat) (Pv Av M : Nat -> ByteArray) (L : Nat -> Int) : Prop where
 hid : id.size <= 40
 hsd : sd.size <= 40
 hty : ty.size <= 40
 hkey : key.size <= 40
 hval : val.size <= 40
 t0 : 0 <= tm
 t1 : tm <= 1000000000000
 hnp : np <= 10
 hna : na <= 10
 hng : ng <= 50
 p : ∀ i, i < np -> (Pv i).size <= 40
 a : ∀ i, i < na -> (Av i).size <= 40
 m : ∀ i, i < ng -> (M i).size <= 41
 l0 : ∀ i, i < ng -> -1000000 <= L i
 l1 : ∀ i, i < ng -> L i <= 1000000
theorem isW_size {s : ByteArray} (h : isW s = true) : s.size <= 40 := by
 simp only [isW, Bool.and_eq_true, decide_eq_true_eq] at h; exact h.2
theorem size_list (s : ByteArray) : s.size = s.toList.length := by
 rw [ByteArray.toList_eq, Array.length_toList]; rfl
theorem size_beq {s : ByteArray} {l : List UInt8} (h : (s.toList == l) = true) : s.size = l.length := by
 rw [size_list, eq_of_beq h]
theorem size_empty {s : ByteArray} (h : s.toList.isEmpty = true) : s.size = 0 := by
 rw [size_list, List.isEmpty_iff.1 h]; rfl
theorem refsTo_size (S : Nat -> ByteArray) (id : ByteArray) : ∀ n, refsTo S id n = true -> ∀ i, i < n -> (S i).size <= 40
 | 0, _, i, hi => absurd hi (Nat.not_lt_zero _)
 | n + 1, h, i, hi => by
  unfold refsTo at h
  simp only [Bool.and_eq_true] at h
  by_cases e : i = n
  ·subst e; exact isW_size h.2.1
  ·exact refsTo_size S id n h.1 i (by omega)
theorem bare_size (s : ByteArray) : s.size <= (bareS s).size + 1 := by
 unfold bareS; split
 ·rw [ByteArray.size_extract]; omega
 ·omega
theorem grTo_size (M : Nat -> ByteArray) (L : Nat -> Int) : ∀ n, grTo M L n = true -> ∀ i, i < n -> (M i).size <= 41 ∧ -1000000 <= L i ∧ L i <= 1000000
 | 0, _, i, hi => absurd hi (Nat.not_lt_zero _)
 | n + 1, h, i, hi => by
  unfold grTo at h
  simp only [Bool.and_eq_true, Bool.not_eq_true', decide_eq_false_iff_not] at h
  by_cases e : i = n
  ·subst e
   refine ⟨?_, by omega, by omega⟩
   have := isW_size h.2.1
   have := bare_size (M i)
   omega
  ·exact grTo_size M L n h.1 i (by omega)
theorem memB_size {v : ByteArray} (h : memB v = true) : v.size <= 40 := by
 simp only [memB, Bool.or_eq_true] at h
 rcases h with h | h | h | h <;> (rw [size_beq h]; decide)
theorem rulB_size {v : ByteArray} (h : rulB v = true) : v.size <= 40 := by
 simp only [rulB, Bool.or_eq_true] at h
 rcases h with h | h <;> (rw [size_beq h]; decide)
theorem ct_bds {ty key val : ByteArray} {st : Bool} {np na ng : Nat} {M : Nat -> ByteArray} {L : Nat -> Int} (h : ctB ty key val st np na ng M L = true) :
  val.size <= 40 ∧ ng <= 50 ∧ ∀ i, i < ng -> (M i).size <= 41 ∧ -1000000 <= L i ∧ L i <= 1000000 := by
 unfold ctB at h
 split at h
 ·simp only [Bool.and_eq_true, beq_iff_eq] at h
  have h0 : ng = 0 := h.1.1.1.2
  subst h0
  exact ⟨by rw [size_empty h.2]; decide, by decide, fun i hi => absurd hi (Nat.not_lt_zero _)⟩
 split at h
 ·simp only [Bool.and_eq_true, beq_iff_eq] at h
  have h0 : ng = 0 := h.1.2
  subst h0
  exact ⟨memB_size h.2, by decide, fun i hi => absurd hi (Nat.not_lt_zero _)⟩
 split at h
 ·simp only [Bool.and_eq_true, beq_iff_eq] at h
  have h0 : ng = 0 := h.1.2
  subst h0
  exact ⟨rulB_size h.2, by decide, fun i hi => absurd hi (Nat.not_lt_zero _)⟩
 split at h
 ·simp only [Bool.and_eq_true, grB, decide_eq_true_eq] at h
  exact ⟨by rw [size_empty h.1.2]; decide, h.2.2, grTo_size M L ng h.2.1⟩
 ·simp only [Bool.and_eq_true, Bool.or_eq_true, beq_iff_eq] at h
  have h0 : ng = 0 := h.1
  subst h0
  refine ⟨?_, by decide, fun i hi => absurd hi (Nat.not_lt_zero _)⟩
  rcases h.2 with h | h
  ·rw [size_empty h]; decide
  ·exact isW_size h
theorem evCode_bds {id sd ty key val : ByteArray} {st : Bool} {tm : Int} {np na ng : Nat} {Pv Av M : Nat -> ByteArray} {L : Nat -> Int}
  (h : evCode id sd ty key val st tm np na ng Pv Av M L = 0) : Bds id sd ty key val tm np na ng Pv Av M L := by
 unfold evCode at h
 split at h
 ·cases h
 rename_i h1
 split at h
 ·cases h
 rename_i h2
 split at h
 ·cases h
 rename_i h3
 split at h
 ·cases h
 rename_i h4
 split at h
 ·cases h
 rename_i h5
 have w1 : isW id = true := by simpa using fun e => h1 (Or.inl e)
 have w2 : isW sd = true := by simpa using fun e => h1 (Or.inr (Or.inl e))
 have w3 : isW ty = true := by simpa using fun e => h1 (Or.inr (Or.inr e))
 have r1 : refsB Pv np id = true := by simpa using fun e => h4 (Or.inl e)
 have r2 : refsB Av na id = true := by simpa using fun e => h4 (Or.inr e)
 have c := ct_bds (by simpa using h5)
 simp only [refsB, Bool.and_eq_true, decide_eq_true_eq] at r1 r2
 refine ⟨isW_size w1, isW_size w2, isW_size w3, ?_, c.1, by omega, by omega, r1.1, r2.1, c.2.1, refsTo_size _ _ _ r1.2, refsTo_size _ _ _ r2.2, fun i hi => (c.2.2 i hi).1, fun i hi => (c.2.2 i hi).2.1, fun i hi => (c.2.2 i hi).2.2⟩
 cases hk : key.toList.isEmpty
 ·exact isW_size (by simpa using fun e => h2 ⟨hk, Or.inr e⟩)
 ·rw [size_empty hk]; decide
theorem joinB_bound (S : Nat -> ByteArray) (sep : ByteArray) (c : Nat) (hs : sep.size <= 1) : ∀ n, (∀ i, i < n -> (S i).size <= c) -> (joinB S sep n).size <= n * (c + 1)
 | 0, _ => by simp [joinB]
 | n + 1, h => by
  have ih := joinB_bound S sep c hs n (fun i hi => h i (by omega))
  have hn := h n (by omega)
  have h0 := h 0 (by omega)
  rw [joinB]; split
  ·rw [Nat.succ_mul]; omega
  ·rw [ByteArray.size_append, ByteArray.size_append, Nat.succ_mul]; omega
def itoaB (z : Int) : ByteArray := ⟨(Lib.itoa z).toArray⟩
theorem itoaB_size {z : Int} (h0 : -1000000000000 <= z) (h1 : z <= 1000000000000) : (itoaB z).size <= 21 := by
 show (Lib.itoa z).toArray.size <= 21
 rw [List.size_toArray]
 exact Lib.itoa_length_le z (by omega) (by omega)
def dashB : ByteArray := ⟨#[45]⟩
def keyT (st : Bool) (key : ByteArray) : ByteArray := if st then ⟨#[61]⟩ ++ key else dashB
def refsT (S : Nat -> ByteArray) (n : Nat) : ByteArray := if n = 0 then dashB else joinB S ⟨#[44]⟩ n
def grT (M : Nat -> ByteArray) (L : Nat -> Int) (i : Nat) : ByteArray := M i ++ ⟨#[58]⟩ ++ itoaB (L i)
def valT (val : ByteArray) (M : Nat -> ByteArray) (L : Nat -> Int) (ng : Nat) : ByteArray :=
 if ng = 0 then (if val.toList.isEmpty then dashB else val) else joinB (grT M L) ⟨#[44]⟩ ng
theorem keyT_size {st : Bool} {key : ByteArray} (h : key.size <= 40) : (keyT st key).size <= 41 := by
 unfold keyT; split
 ·rw [ByteArray.size_append]; show 1 + _ <= 41; omega
 ·show 1 <= 41; decide
theorem refsT_size {S : Nat -> ByteArray} {n : Nat} (h : n <= 10) (hs : ∀ i, i < n -> (S i).size <= 40) : (refsT S n).size <= 410 := by
 unfold refsT; split
 ·show 1 <= 410; decide
 ·have := joinB_bound S ⟨#[44]⟩ 40 (by decide) n hs; omega
theorem grT_size {M : Nat -> ByteArray} {L : Nat -> Int} {i : Nat} (h : (M i).size <= 41) (h0 : -1000000 <= L i) (h1 : L i <= 1000000) : (grT M L i).size <= 63 := by
 have := itoaB_size (z := L i) (by omega) (by omega)
 rw [grT, ByteArray.size_append, ByteArray.size_append]; show _ + 1 + _ <= 63; omega
theorem valT_size {val : ByteArray} {M : Nat -> ByteArray} {L : Nat -> Int} {ng : Nat} (h : val.size <= 40) (hn : ng <= 50) (hg : ∀ i, i < ng -> (grT M L i).size <= 63) : (valT val M L ng).size <= 3200 := by
 unfold valT; split
 ·split
  ·show 1 <= 3200; decide
  ·omega
 ·have := joinB_bound (grT M L) ⟨#[44]⟩ 63 (by decide) ng hg; omega
def eight (a b c d e f g h : ByteArray) (i : Nat) : ByteArray :=
 if i = 0 then a else if i = 1 then b else if i = 2 then c else if i = 3 then d else if i = 4 then e else if i = 5 then f else if i = 6 then g else h
def evText (id sd ty key val : ByteArray) (st : Bool) (tm : Int) (np na ng : Nat) (Pv Av M : Nat -> ByteArray) (L : Nat -> Int) : ByteArray :=
 joinB (eight id sd ty (keyT st key) (itoaB tm) (refsT Pv np) (refsT Av na) (valT val M L ng)) ⟨#[32]⟩ 8
section
variable {id sd ty key val : ByteArray} {st : Bool} {tm : Int} {np na ng : Nat} {Pv Av M : Nat -> ByteArray} {L : Nat -> Int}
theorem Bds.gr (h : Bds id sd ty key val tm np na ng Pv Av M L) (i : Nat) (hi : i < ng) : (grT M L i).size <= 63 := grT_size (h.m i hi) (h.l0 i hi) (h.l1 i hi)
theorem Bds.eight (h : Bds id sd ty key val tm np na ng Pv Av M L) (i : Nat) : (Go.Proofs.YtihacnhmiopalaaDoor.eight id sd ty (keyT st key) (itoaB tm) (refsT Pv np) (refsT Av na) (valT val M L ng) i).size <= 3200 := by
 have h1 := h.hid
 have h2 := h.hsd
 have h3 := h.hty
 have h4 := keyT_size (st := st) h.hkey
 have h5 := itoaB_size (z := tm) (by have := h.t0; omega) h.t1
 have h6 := refsT_size h.hnp h.p
 have h7 := refsT_size h.hna h.a
 have h8 := valT_size (L := L) h.hval h.hng h.gr
 unfold Go.Proofs.YtihacnhmiopalaaDoor.eight
 split
 ·omega
 split
 ·omega
 split
 ·omega
 split
 ·omega
 split
 ·omega
 split
 ·omega
 split
 ·omega
 ·exact h8
theorem Bds.text (h : Bds id sd ty key val tm np na ng Pv Av M L) : (evText id sd ty key val st tm np na ng Pv Av M L).size <= 140737488355328 := by
 have := joinB_bound _ ⟨#[32]⟩ 3200 (by decide) 8 (fun i _ => h.eight (st := st) i)
 exact Nat.le_trans this (by decide)
end
theorem joinTail_snoc (sep : List UInt8) (r : List (List UInt8)) (y : List UInt8) : Lib.joinTail sep (r ++ [y]) = Lib.joinTail sep r ++ sep ++ y := by
 simp [Lib.joinTail, List.append_assoc]
theorem joinB_lib (S : Nat -> ByteArray) (sep : ByteArray) : ∀ n, joinB S sep n = ⟨(Lib.join ((List.range n).map fun i => (S i).data.toList) sep.data.toList).toArray⟩
 | 0 => rfl
 | 1 => by simp [joinB, Lib.join_one]
 | n + 2 => by
  have ih := joinB_lib S sep (n + 1)
  rw [joinB, if_neg (by omega), ih, List.range_succ (n := n + 1), List.map_append, List.map_cons, List.map_nil, List.range_succ_eq_map (n := n), List.map_cons, List.cons_append, Lib.join_cons, Lib.join_cons, joinTail_snoc]
  apply ByteArray.ext
  simp [ByteArray.data_append, List.append_assoc]
end Go.Proofs.YtihacnhmiopalaaDoor
