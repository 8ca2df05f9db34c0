/-
  impl.Find.
-/
import Derived.Test.YtbenfmcnmiedpaaEaJ
import Derived.Test.YtbenfmcnmiedpaaFdS
namespace Go.Proofs.Ytbenfmcnmiedpaa
open Go.RowKit

theorem findIdx_find (p : Ent → Bool) : ∀ l : List Ent, (l.find? p = none ∧ l.findIdx p = l.length) ∨ (∃ e, l.find? p = some e ∧ l.findIdx p < l.length ∧ eAt l (l.findIdx p) = e)
  | [] => Or.inl ⟨rfl, rfl⟩
  | a :: l => by
    rw [List.find?_cons, List.findIdx_cons]
    cases h : p a
    · rcases findIdx_find p l with ⟨h1, h2⟩ | ⟨e, h1, h2, h3⟩
      · exact Or.inl ⟨h1, by simp [h2]⟩
      · exact Or.inr ⟨e, h1, Nat.succ_lt_succ h2, by simpa [eAt] using h3⟩
    · exact Or.inr ⟨a, rfl, by simp, by simp [eAt]⟩
theorem posI_look (l : List Ent) (s : Ent) : (lookE l s = none ∧ posI l s = -1) ∨ (∃ e, lookE l s = some e ∧ 0 ≤ posI l s ∧ eAt l (posI l s).toNat = e) := by
  unfold posI lookE
  rcases findIdx_find (fun x => samB x s) l with ⟨h1, h2⟩ | ⟨e, h1, h2, h3⟩
  · exact Or.inl ⟨h1, by rw [if_neg (by omega)]⟩
  · exact Or.inr ⟨e, h1, by rw [if_pos h2]; omega, by rw [if_pos h2, Int.toNat_natCast]; exact h3⟩
theorem findB_look (l : List Ent) (kind key : ByteArray) : findB l kind key = (eaV l ⟨kind, key, ⟨#[]⟩⟩).id := by
  unfold findB eaV
  rcases posI_look l ⟨kind, key, ⟨#[]⟩⟩ with ⟨h1, h2⟩ | ⟨e, h1, h2, h3⟩
  · rw [h1, h2, if_neg (by decide)]; rfl
  · rw [h1, if_pos h2, h3]; rfl
theorem idsTo_mem {l : List Ent} : ∀ {n}, idsTo l n = true → ∀ i, i < n → (eAt l i).id.toList.isEmpty = false
  | 0, _, i, hi => absurd hi (Nat.not_lt_zero _)
  | n + 1, h, i, hi => by
    unfold idsTo at h
    rw [Bool.and_eq_true] at h
    by_cases e : i = n
    · subst e; simpa using h.2
    · exact idsTo_mem h.1 i (by omega)
theorem st_parts {l : List Ent} (h : stB l = true) : l.length ≤ 300 ∧ Srt l ∧ ∀ x ∈ l, x.id.toList.isEmpty = false := by
  unfold stB at h
  rw [Bool.and_eq_true, Bool.and_eq_true] at h
  refine ⟨of_decide_eq_true h.2.1, srt_of h.2.2, fun x hx => ?_⟩
  obtain ⟨i, hi, rfl⟩ := List.mem_iff_getElem.1 hx
  rw [← eAt_get l i hi]
  exact idsTo_mem h.1 i hi
theorem fdOk_look {l : List Ent} (h : stB l = true) (kind key : ByteArray) : fdOk l kind key = eaT l ⟨kind, key, ⟨#[]⟩⟩ := by
  unfold fdOk
  rw [h, findB_look]
  unfold eaV eaT
  cases hl : lookE l ⟨kind, key, ⟨#[]⟩⟩ with
  | none => show (true && !((⟨#[]⟩ : ByteArray).toList == [])) = false; rw [ByteArray.toList_eq]; rfl
  | some e =>
    have := (st_parts h).2.2 e (lookE_some hl).1
    show (true && !(e.id.toList == [])) = true
    cases he : e.id.toList with
    | nil => rw [he] at this; simp at this
    | cons a b => rfl

set_option maxRecDepth 100000 in
set_option maxHeartbeats 1000000 in
theorem findI_sl {a : Option Addr} {cap : Nat} {l : List Ent} (kind key : ByteArray) (w : World) (h : SlE w a cap l) :
    Calls Try.prog 15 #[.slice a l.length cap, .string kind, .string key] w fun e w' => e = .returned (.tuple #[.string (fdV l kind key), .bool (fdOk l kind key)]) ∧ Below w.heap.size w w' := by
  go_enter Try.func15, Try.ntmps15
  go_wp2_with fail
  refine (stateI_sl _ h).mono ?_
  rintro e w1 ⟨rfl, hb1⟩
  cases hst : stB l
  case false =>
    have hv : Hid (fdV l kind key = ⟨#[]⟩ ∧ fdOk l kind key = false) := ⟨by simp [fdV, hst], by simp [fdOk, hst]⟩
    go_wp2
    refine bodyPost_ret (v := .tuple #[.string ⟨#[]⟩, .bool false]) (by simp [results, Try.results15, go_sem]) rfl ⟨by rw [hv.out.1, hv.out.2], hb1⟩
  case true =>
    obtain ⟨h300, hS, _⟩ := st_parts hst
    have hv : Hid (fdV l kind key = (eaV l ⟨kind, key, ⟨#[]⟩⟩).id ∧ fdOk l kind key = eaT l ⟨kind, key, ⟨#[]⟩⟩) := ⟨by rw [fdV, hst, if_pos rfl, findB_look], fdOk_look hst kind key⟩
    go_wp2_with fail
    refine (entryAt_sl ⟨kind, key, ⟨#[]⟩⟩ _ hS (by omega) (h.below hb1)).mono ?_
    rintro e w2 ⟨rfl, hg2⟩
    generalize eaV l ⟨kind, key, ⟨#[]⟩⟩ = ev at *
    generalize eaT l ⟨kind, key, ⟨#[]⟩⟩ = et at *
    have hbw := hb1.trans (hg2.below.mono hb1.size)
    go_wp2
    refine bodyPost_ret (v := .tuple #[.string ev.id, .bool et]) (by simp [results, Try.results15, go_sem]) rfl ⟨by rw [hv.out.1, hv.out.2], ?_⟩
    repeat' (first | exact hbw | (refine Below.setCell ?_ (by have := hbw.size; simp; omega) _) | (refine Below.alloc ?_ (by have := hbw.size; simp; omega) _))
end Go.Proofs.Ytbenfmcnmiedpaa
