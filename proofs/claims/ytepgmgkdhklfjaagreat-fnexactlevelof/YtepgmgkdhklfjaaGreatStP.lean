/-
  States: plain facts.
-/
import Derived.Test.YtepgmgkdhklfjaaGreatCmpP
namespace Go.Proofs.YtepgmgkdhklfjaaGreat
open Go.RowKit

/-- what entryAt answers. -/
def eaV (l : List Ent) (s : Ent) : Ent := (lookE l s).getD Ent.none
def eaT (l : List Ent) (s : Ent) : Bool := (lookE l s).isSome

theorem findIdx_find (p : Ent → Bool) : ∀ l : List Ent, (l.find? p = none ∧ l.findIdx p = l.length) ∨ (∃ e, l.find? p = some e ∧ l.findIdx p < l.length ∧ eAt l (l.findIdx p) = e)
  | [] => Or.inl ⟨rfl, rfl⟩
  | a :: l => by
    rw [List.find?_cons, List.findIdx_cons]
    cases h : p a
    · rcases findIdx_find p l with ⟨h1, h2⟩ | ⟨e, h1, h2, h3⟩
      · exact Or.inl ⟨h1, by simp [h2]⟩
      · exact Or.inr ⟨e, h1, Nat.succ_lt_succ h2, by simpa [eAt] using h3⟩
    · exact Or.inr ⟨a, rfl, by simp, by simp [eAt]⟩
theorem posI_look (l : List Ent) (s : Ent) : (lookE l s = none ∧ posI l s = -1) ∨ (∃ e, lookE l s = some e ∧ 0 ≤ posI l s ∧ eAt l (posI l s).toNat = e) := by
  unfold posI lookE
  rcases findIdx_find (fun x => samB x s) l with ⟨h1, h2⟩ | ⟨e, h1, h2, h3⟩
  · exact Or.inl ⟨h1, by rw [if_neg (by omega)]⟩
  · exact Or.inr ⟨e, h1, by rw [if_pos h2]; omega, by rw [if_pos h2, Int.toNat_natCast]; exact h3⟩
theorem idsTo_mem {l : List Ent} : ∀ {n}, idsTo l n = true → ∀ i, i < n → (eAt l i).id.toList.isEmpty = false
  | 0, _, i, hi => absurd hi (Nat.not_lt_zero _)
  | n + 1, h, i, hi => by
    unfold idsTo at h
    rw [Bool.and_eq_true] at h
    by_cases e : i = n
    · subst e; simpa using h.2
    · exact idsTo_mem h.1 i (by omega)
theorem st_parts {l : List Ent} (h : stB l = true) : l.length ≤ 300 ∧ SrtE l ∧ ∀ x ∈ l, x.id.toList.isEmpty = false := by
  unfold stB at h
  rw [Bool.and_eq_true, Bool.and_eq_true] at h
  refine ⟨of_decide_eq_true h.2.1, srt_of h.2.2, fun x hx => ?_⟩
  obtain ⟨i, hi, rfl⟩ := List.mem_iff_getElem.1 hx
  rw [← eAt_get l i hi]
  exact idsTo_mem h.1 i hi
end Go.Proofs.YtepgmgkdhklfjaaGreat
