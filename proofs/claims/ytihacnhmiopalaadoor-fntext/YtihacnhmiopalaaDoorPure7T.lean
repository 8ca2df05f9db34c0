import Derived.Test.YtihacnhmiopalaaDoorBaseT
import Derived.Lib.ItoaLen
import Derived.Lib.ItoaMem
import Derived.Lib.SplitLaws
namespace Go.Proofs.YtihacnhmiopalaaDoor
def dig (c : UInt8) : Bool := decide (48 <= c.toNat) && decide (c.toNat <= 57)
theorem dig_iff {c : UInt8} : dig c = true ↔ 48 <= c.toNat ∧ c.toNat <= 57 := by simp [dig]
def valL (l : List UInt8) : Nat := l.foldl (fun v c => v * 10 + (c.toNat - 48)) 0
theorem valL_snoc (l : List UInt8) (c : UInt8) : valL (l ++ [c]) = valL l * 10 + (c.toNat - 48) := by simp [valL]
theorem valL_nil : valL [] = 0 := rfl
theorem ofNat_dig {d : Nat} (h : d < 10) : (UInt8.ofNat (48 + d)).toNat = 48 + d := by
 rw [UInt8.toNat_ofNat']; omega
theorem dec_dig (n : Nat) : ∀ c ∈ Lib.decDigits n, dig c = true := by
 induction n using Nat.strongRecOn with
 | ind n ih =>
  intro c hc
  rw [Lib.decDigits] at hc
  split at hc
  ·simp only [List.mem_singleton] at hc
   subst hc
   rw [dig_iff, ofNat_dig (by omega)]; omega
  ·rcases List.mem_append.1 hc with h | h
   ·exact ih (n / 10) (by omega) c h
   ·simp only [List.mem_singleton] at h
    subst h
    rw [dig_iff, ofNat_dig (by omega)]; omega
theorem dec_val (n : Nat) : valL (Lib.decDigits n) = n := by
 induction n using Nat.strongRecOn with
 | ind n ih =>
  rw [Lib.decDigits]
  split
  ·rw [<- List.nil_append [_], valL_snoc, valL_nil, ofNat_dig (by omega)]; omega
  ·rw [valL_snoc, ih (n / 10) (by omega), ofNat_dig (by omega)]; omega
theorem dec_ne (n : Nat) : Lib.decDigits n ≠ [] := by
 rw [Lib.decDigits]; split <;> simp
theorem dec_head (n : Nat) (h : (Lib.decDigits n).head? = some 48) : n = 0 := by
 induction n using Nat.strongRecOn with
 | ind n ih =>
  rw [Lib.decDigits] at h
  split at h
  ·simp only [List.head?_cons, Option.some.injEq] at h
   have := congrArg UInt8.toNat h
   rw [ofNat_dig (by omega)] at this
   simp at this; omega
  ·rw [List.head?_append] at h
   have hne := dec_ne (n / 10)
   cases hd : (Lib.decDigits (n / 10)).head? with
   | none => rw [List.head?_eq_none_iff] at hd; exact absurd hd hne
   | some x =>
    rw [hd] at h
    simp only [Option.some_or, Option.some.injEq] at h
    subst h
    have := ih (n / 10) (by omega) hd
    omega
theorem nDigits_pow (k : Nat) : ∀ n, n < 10 ^ (k + 1) -> Lib.nDigits n <= k + 1 := by
 induction k with
 | zero => intro n h; rw [Lib.nDigits, dif_pos (by simpa using h)]; omega
 | succ k ih =>
  intro n h
  rw [Lib.nDigits]
  split
  ·omega
  ·have := ih (n / 10) (by rw [Nat.pow_succ] at h; omega)
   omega
theorem dec_len {n : Nat} (h : n < 10000000000000) : (Lib.decDigits n).length <= 13 := by
 rw [Lib.decDigits_length]; exact nDigits_pow 12 n h
theorem snoc_ind {P : List UInt8 -> Prop} (h0 : P []) (h1 : ∀ r c, P r -> P (r ++ [c])) (l : List UInt8) : P l := by
 have : ∀ r : List UInt8, P r.reverse := by
  intro r
  induction r with
  | nil => exact h0
  | cons c r ih => rw [List.reverse_cons]; exact h1 _ _ ih
 have h := this l.reverse
 rwa [List.reverse_reverse] at h
theorem dec_zero : Lib.decDigits 0 = [48] := Lib.decDigits_one (by decide)
theorem valL_lt : ∀ l : List UInt8, (∀ c ∈ l, dig c = true) -> valL l < 10 ^ l.length := by
 refine snoc_ind (fun _ => by simp [valL]) ?_
 ·intro r c ih h
  have h1 := ih (fun x hx => h x (List.mem_append_left _ hx))
  have h2 := dig_iff.1 (h c (by simp))
  rw [valL_snoc, List.length_append, List.length_singleton, Nat.pow_succ]
  omega
def plain (l : List UInt8) : Prop := l ≠ [] ∧ (∀ c ∈ l, dig c = true) ∧ (l.head? = some 48 -> l = [48])
theorem plain_dec (n : Nat) : plain (Lib.decDigits n) := by
 refine ⟨dec_ne n, dec_dig n, fun h => ?_⟩
 rw [dec_head n h]; exact dec_zero
theorem val_dec : ∀ l : List UInt8, plain l -> Lib.decDigits (valL l) = l := by
 refine snoc_ind (fun h => absurd rfl h.1) ?_
 ·intro r c ih ⟨_, hd, hz⟩
  have hc := dig_iff.1 (hd c (by simp))
  have hcc : UInt8.ofNat (48 + (c.toNat - 48)) = c := by
   rw [show 48 + (c.toNat - 48) = c.toNat by omega]; exact UInt8.ofNat_toNat
  by_cases hr : r = []
  ·subst hr
   rw [valL_snoc, valL_nil, Lib.decDigits, dif_pos (by omega)]
   simp only [Nat.zero_mul, Nat.zero_add, List.nil_append]
   rw [hcc]
  ·have hh : r.head? ≠ some 48 := fun h => by
    have := hz (by rw [List.head?_append, h]; rfl)
    have hl := congrArg List.length this
    have : r.length ≠ 0 := fun e => hr (List.eq_nil_of_length_eq_zero e)
    rw [List.length_append] at hl
    simp only [List.length_cons, List.length_nil] at hl
    omega
   have h1 := ih ⟨hr, fun x hx => hd x (List.mem_append_left _ hx), fun h => absurd h hh⟩
   have hv : valL r ≠ 0 := fun e => by
    rw [e] at h1
    exact hh (by rw [<- h1, dec_zero]; rfl)
   rw [valL_snoc, Lib.decDigits, dif_neg (by omega), show (valL r * 10 + (c.toNat - 48)) / 10 = valL r by omega, show (valL r * 10 + (c.toNat - 48)) % 10 = c.toNat - 48 by omega, h1, hcc]
noncomputable def numN (l : List UInt8) : Option Nat := open Classical in if plain l ∧ l.length <= 13 then some (valL l) else none
noncomputable def numV (l : List UInt8) : Option Int :=
 if l.head? = some 45 then (match numN l.tail with | some n => if n = 0 then none else some (-(n : Int)) | none => none)
 else (match numN l with | some n => some (n : Int) | none => none)
theorem numN_some {l : List UInt8} (h : plain l) (h2 : l.length <= 13) : numN l = some (valL l) := by
 rw [numN, if_pos ⟨h, h2⟩]
theorem numN_none {l : List UInt8} (h : ¬ (plain l ∧ l.length <= 13)) : numN l = none := by
 rw [numN, if_neg h]
theorem numV_pos {l : List UInt8} (h0 : l.head? ≠ some 45) (hl : l.length <= 13) (he : Lib.itoa (valL l : Int) = l) : numV l = some (valL l : Int) := by
 have hp : plain l := by rw [<- he, Lib.itoa_nonneg]; exact plain_dec _
 rw [numV, if_neg h0, numN_some hp hl]
theorem numV_neg {r : List UInt8} (hl : r.length <= 13) (he : Lib.itoa (-(valL r : Int)) = 45 :: r) : numV (45 :: r) = some (-(valL r : Int)) := by
 have hv : 1 <= valL r := by
  rcases Nat.eq_zero_or_pos (valL r) with h | h
  ·rw [h] at he
   have : Lib.itoa (-((0 : Nat) : Int)) = [48] := by rw [show (-((0 : Nat) : Int)) = ((0 : Nat) : Int) by rfl, Lib.itoa_nonneg]; exact dec_zero
   rw [this] at he; exact absurd (List.cons.inj he).1 (by decide)
  ·exact h
 have he2 : Lib.decDigits (valL r) = r := by
  rw [Lib.itoa_neg _ hv] at he
  exact (List.cons.inj he).2
 have hp : plain r := by rw [<- he2]; exact plain_dec _
 have : (45 :: r).head? = some 45 := rfl
 rw [numV, if_pos this, List.tail_cons, numN_some hp hl]
 simp only
 rw [if_neg (by omega)]
theorem numV_itoa {l : List UInt8} {z : Int} (h : numV l = some z) : Lib.itoa z = l ∧ ((l.head? ≠ some 45 ∧ z = valL l ∧ plain l ∧ l.length <= 13) ∨ ∃ r, l = 45 :: r ∧ z = -(valL r : Int) ∧ plain r ∧ r.length <= 13) := by
 unfold numV at h
 split at h
 ·rename_i h45
  cases l with
  | nil => cases h45
  | cons c r =>
   simp only [List.head?_cons, Option.some.injEq] at h45
   subst h45
   simp only [List.tail_cons] at h
   by_cases hp : plain r ∧ r.length <= 13
   ·rw [numN_some hp.1 hp.2] at h
    simp only at h
    split at h
    ·cases h
    ·rename_i hz
     cases h
     exact ⟨by rw [Lib.itoa_neg _ (by omega), val_dec r hp.1], Or.inr ⟨r, rfl, rfl, hp.1, hp.2⟩⟩
   ·rw [numN_none hp] at h; cases h
 ·rename_i h45
  by_cases hp : plain l ∧ l.length <= 13
  ·rw [numN_some hp.1 hp.2] at h
   cases h
   exact ⟨by rw [Lib.itoa_nonneg, val_dec l hp.1], Or.inl ⟨h45, rfl, hp.1, hp.2⟩⟩
  ·rw [numN_none hp] at h; cases h
end Go.Proofs.YtihacnhmiopalaaDoor
