/-
  Entries by their lists: plain facts of setL.
-/
import Derived.Test.YtkfgolcjhiaacaaSetZ
import Derived.Sort.Walk0
namespace Go.Proofs.Ytkfgolcjhiaacaa
open Go.RowKit

/-! ### setL -/

theorem befB_asym {x e : Ent} (h : befB x e = true) : befB e x = false := by
  unfold befB at h ⊢
  rw [ByteArray.toList_eq, ByteArray.toList_eq, ByteArray.toList_eq, ByteArray.toList_eq] at *
  by_cases ht : x.ty.data.toList = e.ty.data.toList
  · rw [ht] at h ⊢
    simp only [beq_self_eq_true, if_true, bytesLess_eq, decide_eq_true_eq, decide_eq_false_iff_not] at h ⊢
    exact List.lt_asymm h
  · have h1 : (x.ty.data.toList == e.ty.data.toList) = false := by simpa using ht
    have h2 : (e.ty.data.toList == x.ty.data.toList) = false := by
      cases hb : (e.ty.data.toList == x.ty.data.toList)
      · rfl
      · exact absurd (eq_of_beq hb).symm ht
    rw [h1] at h
    rw [h2]
    simp only [Bool.false_eq_true, if_false, bytesLess_eq, decide_eq_true_eq, decide_eq_false_iff_not] at h ⊢
    exact List.lt_asymm h
theorem split_len {l : List Ent} {p q : Ent → Bool} (h : ∀ x, p x = true → q x = false) : (l.takeWhile p).length + (l.filter q).length ≤ l.length := by
  induction l with
  | nil => simp
  | cons a l ih =>
    have hf : (l.filter q).length ≤ l.length := List.length_filter_le _ _
    cases hp : p a
    · rw [List.takeWhile_cons_of_neg (by simp [hp])]
      have : ((a :: l).filter q).length ≤ (a :: l).length := List.length_filter_le _ _
      simpa using this
    · rw [List.takeWhile_cons_of_pos hp, List.filter_cons_of_neg (by simp [h a hp])]
      simp only [List.length_cons]
      omega
theorem setL_len (l : List Ent) (e : Ent) (keep : Bool) : (setL l e keep).length ≤ l.length + 1 := by
  have := split_len (l := l) (p := fun x => befB x e) (q := fun x => befB e x) (fun x hx => befB_asym hx)
  unfold setL
  rw [List.length_append, List.length_append]
  split
  · simp only [List.length_singleton]; omega
  · simp only [List.length_nil]; omega
theorem setL_mem {l : List Ent} {e x : Ent} {keep : Bool} (h : x ∈ setL l e keep) : x ∈ l ∨ x = e := by
  unfold setL at h
  rw [List.mem_append, List.mem_append] at h
  rcases h with h | h | h
  · exact Or.inl ((List.takeWhile_sublist _).subset h)
  · split at h
    · exact Or.inr (by simpa using h)
    · cases h
  · exact Or.inl (List.mem_filter.1 h).1

/-- all texts of these entries are of a size that a text can have. -/
def AllOk (l : List Ent) : Prop := ∀ x ∈ l, x.ty.size ≤ maxLen ∧ x.key.size ≤ maxLen ∧ x.id.size ≤ maxLen
theorem AllOk.at {l : List Ent} (h : AllOk l) (i : Nat) (hi : i < l.length) : (eAt l i).ty.size ≤ maxLen ∧ (eAt l i).key.size ≤ maxLen ∧ (eAt l i).id.size ≤ maxLen := h _ (eAt_mem l i hi)
theorem SlE.ok {w : World} {a : Option Addr} {cap : Nat} {l : List Ent} (h : SlE w a cap l) : AllOk l := fun x hx => by
  obtain ⟨i, hi, e⟩ := List.mem_iff_getElem.1 hx
  rw [← e, ← eAt_get l i hi]
  exact h.size i hi
theorem AllOk.set {l : List Ent} {e : Ent} {keep : Bool} (h : AllOk l) (he : e.ty.size ≤ maxLen ∧ e.key.size ≤ maxLen ∧ e.id.size ≤ maxLen) : AllOk (setL l e keep) := fun x hx => (setL_mem hx).elim (h x) fun e' => e' ▸ he

theorem st_len {l : List Ent} (h : stB l = true) : l.length ≤ 300 := by
  unfold stB at h
  rw [Bool.and_eq_true, Bool.and_eq_true] at h
  exact of_decide_eq_true h.2.1
theorem ch_len {l : List Ent} (h : chB l = true) : l.length ≤ 600 := by
  unfold chB at h
  rw [Bool.and_eq_true] at h
  exact of_decide_eq_true h.1
end Go.Proofs.Ytkfgolcjhiaacaa
