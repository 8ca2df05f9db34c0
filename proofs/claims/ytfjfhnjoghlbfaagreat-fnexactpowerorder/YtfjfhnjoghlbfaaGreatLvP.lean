/-
  States that fit a room; levels: plain facts.
-/
import Derived.Test.YtfjfhnjoghlbfaaGreatTpA
import Derived.Test.YtfjfhnjoghlbfaaGreatEntA
import Derived.Test.YtfjfhnjoghlbfaaGreatCmA
namespace Go.Proofs.YtfjfhnjoghlbfaaGreat
open Go.RowKit

/-- entry x is one of an event of the room. -/
def fit1 (E : Nat → Ev) (n : Nat) (x : Ent) : Bool := decide (0 ≤ posV E n x.id) && ((E (posV E n x.id).toNat).st && (((E (posV E n x.id).toNat).ty.toList == x.ty.toList) && ((E (posV E n x.id).toNat).key.toList == x.key.toList)))
def fitTo (E : Nat → Ev) (n : Nat) (l : List Ent) : Nat → Bool
  | 0 => true
  | k + 1 => fitTo E n l k && fit1 E n (eAt l k)
theorem fitTo_le (E : Nat → Ev) (n : Nat) (l : List Ent) : ∀ m k, k < m → fitTo E n l (k + 1) = false → fitTo E n l m = false
  | m + 1, k, h, h1 => by
    by_cases e : k = m
    · rw [← e]; exact h1
    · rw [fitTo, fitTo_le E n l m k (by omega) h1]; rfl
theorem fitTo_at {E : Nat → Ev} {n : Nat} {l : List Ent} : ∀ {m}, fitTo E n l m = true → ∀ k, k < m → fit1 E n (eAt l k) = true
  | m + 1, h, k, hk => by
    rw [fitTo, Bool.and_eq_true] at h
    by_cases e : k = m
    · subst e; exact h.2
    · exact fitTo_at h.1 k (by omega)
/-- the state fits the room. -/
def fitB (E : Nat → Ev) (n : Nat) (l : List Ent) : Bool := fitTo E n l l.length && stB l
theorem findB_eaL (l : List Ent) (x : Ent) : findB l x.ty x.key = (eaV l x).id := by
  have h0 : eaV l x = eaV l ⟨x.ty, x.key, ⟨#[]⟩⟩ := rfl
  rw [h0]
  unfold findB eaV
  rcases posI_look l ⟨x.ty, x.key, ⟨#[]⟩⟩ with ⟨h1, h2⟩ | ⟨e, h1, h2, h3⟩
  · rw [h1, h2, if_neg (by decide)]; rfl
  · rw [h1, if_pos h2, h3]; rfl
/-- the place of the event at a slot. -/
def atV (E : Nat → Ev) (n : Nat) (l : List Ent) (ty key : ByteArray) : Int := posV E n (findB l ty key)
/-- in a state that fits, the event at a slot has that type. -/
theorem at_ty {E : Nat → Ev} {n : Nat} {l : List Ent} (hr : roomTo E n = true) (hf : fitB E n l = true) {ty key : ByteArray} (h : 0 ≤ atV E n l ty key) : (E (atV E n l ty key).toNat).ty.toList = ty.toList := by
  unfold fitB at hf
  rw [Bool.and_eq_true] at hf
  unfold atV at h ⊢
  rw [findB_eaL l ⟨ty, key, ⟨#[]⟩⟩] at h ⊢
  unfold eaV at h ⊢
  cases hl : lookE l ⟨ty, key, ⟨#[]⟩⟩ with
  | none =>
    rw [hl] at h
    have : posV E n ((none : Option Ent).getD Ent.none).id = -1 := posV_empty hr (by show ByteArray.empty.toList.isEmpty = true; rw [ByteArray.toList_eq]; rfl)
    rw [this] at h
    exact absurd h (by decide)
  | some y =>
    obtain ⟨h1, h2, h3⟩ := lookE_some hl
    obtain ⟨j, hj, e⟩ := List.mem_iff_getElem.1 h1
    have hfy := fitTo_at hf.1 j hj
    rw [eAt_get l j hj, e] at hfy
    unfold fit1 at hfy
    simp only [Bool.and_eq_true, beq_iff_eq] at hfy
    show (E (posV E n y.id).toNat).ty.toList = ty.toList
    rw [hfy.2.2.1, h2]

/-- the level at a name, among the first k grants. -/
def gV (M : Nat → ByteArray) (L : Nat → Int) (name : ByteArray) : Nat → Option Int
  | 0 => none
  | k + 1 => match gV M L name k with
    | some v => some v
    | none => if (M k).toList == name.toList then some (L k) else none
theorem gV_none {M : Nat → ByteArray} {L : Nat → Int} {name : ByteArray} : ∀ {k}, (∀ i, i < k → ((M i).toList == name.toList) = false) → gV M L name k = none
  | 0, _ => rfl
  | k + 1, h => by rw [gV, gV_none (fun i hi => h i (by omega)), h k (by omega)]; rfl
theorem gV_hit {M : Nat → ByteArray} {L : Nat → Int} {name : ByteArray} {j : Nat} (h0 : ∀ i, i < j → ((M i).toList == name.toList) = false) (h1 : ((M j).toList == name.toList) = true) : ∀ {k}, j < k → gV M L name k = some (L j)
  | k + 1, hk => by
    by_cases e : j = k
    · subst e; rw [gV, gV_none h0, h1]; rfl
    · rw [gV, gV_hit h0 h1 (show j < k by omega)]
/-- names in order. -/
theorem gr_asc {e : Ev} (h : e.code = 0) (ht : isPow e = true) : e.ng ≤ 50 ∧ ∀ i j, i < j → j < e.ng → (e.M i).data.toList < (e.M j).data.toList := by
  unfold isPow at ht
  unfold Ev.code evCode at h
  split at h
  · cases h
  split at h
  · cases h
  split at h
  · cases h
  split at h
  · cases h
  split at h
  · cases h
  rename_i h5
  have hc : ctB e.ty e.key e.val e.st e.np e.na e.ng e.M e.L = true := by
    cases hq : ctB e.ty e.key e.val e.st e.np e.na e.ng e.M e.L
    · exact absurd hq h5
    · rfl
  have ht' : e.ty.toList = [112, 111, 119, 101, 114] := by simpa using ht
  unfold ctB at hc
  rw [ht'] at hc
  have e1 : (([112, 111, 119, 101, 114] : List UInt8) == [99, 114, 101, 97, 116, 101]) = false := by decide
  have e2 : (([112, 111, 119, 101, 114] : List UInt8) == [109, 101, 109, 98, 101, 114]) = false := by decide
  have e3 : (([112, 111, 119, 101, 114] : List UInt8) == [106, 111, 105, 110, 95, 114, 117, 108, 101, 115]) = false := by decide
  rw [e1, e2, e3] at hc
  simp at hc
  have hg : grB e.M e.L e.ng = true := by first | exact hc.2 | exact hc.1.2 | exact hc.2.2 | exact hc.2.1
  unfold grB at hg
  rw [Bool.and_eq_true, decide_eq_true_eq] at hg
  refine ⟨hg.2, ?_⟩
  have step : ∀ m, grTo e.M e.L m = true → ∀ i, i + 1 < m → (e.M i).data.toList < (e.M (i + 1)).data.toList := fun m => by
    induction m with
    | zero => intro _ i hi; omega
    | succ m ih =>
      intro hm i hi
      rw [grTo, Bool.and_eq_true] at hm
      by_cases e : i + 1 = m
      · have hx := hm.2
        simp only [Bool.and_eq_true, Bool.or_eq_true] at hx
        rcases hx.2.2.2 with h0 | h0
        · have : m = 0 := by simpa using h0
          omega
        · rw [← e, Nat.add_sub_cancel, bytesLess_eq, decide_eq_true_eq, ByteArray.toList_eq, ByteArray.toList_eq] at h0
          exact h0
      · exact ih hm.1 i (by omega)
  intro i j hij hj
  induction j with
  | zero => omega
  | succ j ih =>
    by_cases e : i = j
    · subst e; exact step _ hg.1 i hj
    · exact List.lt_trans (ih (by omega) (by omega)) (step _ hg.1 j hj)
/-- the level of a user by grants. -/
def byG (e : Ev) (user : ByteArray) : Int := match gV e.M e.L user e.ng with
  | some v => v
  | none => (gV e.M e.L ⟨#[42, 100, 101, 102, 97, 117, 108, 116]⟩ e.ng).getD 0
abbrev tPow : ByteArray := ⟨#[112, 111, 119, 101, 114]⟩
abbrev tCre : ByteArray := ⟨#[99, 114, 101, 97, 116, 101]⟩
abbrev tNil : ByteArray := ⟨#[]⟩
/-- the level of a user in a state that fits. -/
def lvV (E : Nat → Ev) (n : Nat) (l : List Ent) (user : ByteArray) : Int :=
  if 0 ≤ atV E n l tPow tNil then byG (E (atV E n l tPow tNil).toNat) user
  else if 0 ≤ atV E n l tCre tNil ∧ ((E (atV E n l tCre tNil).toNat).sd.toList == user.toList) = true then 100 else 0
/-- what LevelOf answers. -/
def lvR (E : Nat → Ev) (n : Nat) (l : List Ent) (user : ByteArray) : Int := if roomTo E n && fitB E n l then lvV E n l user else 0
end Go.Proofs.YtfjfhnjoghlbfaaGreat
