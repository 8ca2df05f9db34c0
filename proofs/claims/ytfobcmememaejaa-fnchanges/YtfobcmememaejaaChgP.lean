/-
  Changes and back: plain facts.
-/
import Derived.Test.YtfobcmememaejaaDeI
import Derived.Test.YtfobcmememaejaaPaS
import Derived.Test.YtfobcmememaejaaPtS
import Derived.Test.YtfobcmememaejaaFdS
namespace Go.Proofs.Ytfobcmememaejaa
open Go.RowKit

theorem idsTo_of {l : List Ent} (hi : Ids l) : ∀ n, n ≤ l.length → idsTo l n = true
  | 0, _ => rfl
  | n + 1, h => by unfold idsTo; rw [idsTo_of hi n (by omega), hi _ (eAt_mem l n (by omega))]; rfl
theorem st_of {l : List Ent} (h3 : l.length ≤ 300) (hs : Srt l) (hi : Ids l) : stB l = true := by
  unfold stB
  rw [ord_of hs]
  have : idsTo l l.length = true := idsTo_of hi _ (Nat.le_refl _)
  simp [this, h3]
theorem sid_eq {x y : Ent} (h1 : x.ty = y.ty) (h2 : x.key = y.key) (h : sidB y x = true) : x = y := by
  obtain ⟨x1, x2, x3⟩ := x
  obtain ⟨y1, y2, y3⟩ := y
  simp only at h1 h2
  subst h1 h2
  unfold sidB at h
  simp only [beq_iff_eq, ByteArray.toList_eq] at h
  rw [ba_eq h]
theorem chg_back {a b : List Ent} (ha : stB a = true) (hb : stB b = true) : paOk a (dl2 a b b.length) = true ∧ paV a (dl2 a b b.length) = b := by
  obtain ⟨ha3, hSa, hIa⟩ := st_parts ha
  obtain ⟨hb3, hSb, hIb⟩ := st_parts hb
  obtain ⟨hSd, hld⟩ := dl_look hSa hIa hSb
  have hlen := dl2_len a b b.length
  have hch : chB (dl2 a b b.length) = true := by
    unfold chB
    rw [ord_of hSd]
    simp
    omega
  have he : patL a (dl2 a b b.length) (dl2 a b b.length).length = b := by
    refine srt_ext_look (patL_srt hSa _) hSb fun s => ?_
    rw [patL_lookAll hSa hSd, hld]
    unfold deF
    cases hla : lookE a s with
    | none =>
      cases hlb : lookE b s with
      | none => rfl
      | some y =>
        show (if y.id.toList.isEmpty then none else some y) = some y
        rw [hIb y (lookE_some hlb).1]; rfl
    | some x =>
      obtain ⟨hxm, hx1, hx2⟩ := lookE_some hla
      cases hlb : lookE b s with
      | none =>
        show (if (wipe x).id.toList.isEmpty then none else some (wipe x)) = none
        have : (wipe x).id.toList.isEmpty = true := by show (⟨#[]⟩ : ByteArray).toList.isEmpty = true; rw [ByteArray.toList_eq]; rfl
        rw [this]; rfl
      | some y =>
        obtain ⟨hym, hy1, hy2⟩ := lookE_some hlb
        show chgTo (if sidB y x = true then none else some y) (some x) = some y
        cases hq : sidB y x
        · simp only [Bool.false_eq_true, if_false]
          show (if y.id.toList.isEmpty then none else some y) = some y
          rw [hIb y hym]; rfl
        · simp only [if_true]
          show some x = some y
          rw [sid_eq (hx1.trans hy1.symm) (hx2.trans hy2.symm) hq]
  have hok : paOk a (dl2 a b b.length) = true := by
    unfold paOk
    rw [he, ha, hch]
    simp [hb3]
  exact ⟨hok, by unfold paV; rw [hok, if_pos rfl, he]⟩
theorem chg_none {a : List Ent} (ha : stB a = true) : dl2 a a a.length = [] := by
  obtain ⟨ha3, hSa, hIa⟩ := st_parts ha
  obtain ⟨hSd, hld⟩ := dl_look hSa hIa hSa
  refine srt_ext_look hSd List.Pairwise.nil fun s => ?_
  rw [hld]
  unfold deF
  cases hla : lookE a s with
  | none => rfl
  | some x =>
    have : sidB x x = true := by unfold sidB; simp
    show (if sidB x x = true then none else some x) = none
    rw [this]; rfl
/-- what Find says of a slot that has an entry. -/
theorem fd_at {l : List Ent} (hs : stB l = true) {s x : Ent} (h : lookE l s = some x) : fdV l s.ty s.key = x.id ∧ fdOk l s.ty s.key = true := by
  obtain ⟨_, _, hI⟩ := st_parts hs
  have hf : findB l s.ty s.key = x.id := by
    rw [find_at (s := s) rfl rfl, h]
  have hx := hI x (lookE_some h).1
  refine ⟨by unfold fdV; rw [hs, if_pos rfl, hf], ?_⟩
  unfold fdOk
  rw [hs, hf, Bool.true_and]
  cases hq : x.id.toList with
  | nil => rw [hq] at hx; cases hx
  | cons _ _ => rfl
theorem put_facts {a : List Ent} {e : Ent} (h : putOk a e = true) : stB (putV a e) = true ∧ ∀ s, lookE (putV a e) s = if samB e s = true then some e else lookE a s := by
  have hv : putV a e = setL a e false := by unfold putV; rw [if_pos h]
  unfold putOk at h
  rw [Bool.and_eq_true, Bool.and_eq_true, decide_eq_true_eq] at h
  obtain ⟨⟨hst, hid⟩, hlen⟩ := h
  obtain ⟨_, hS, hI⟩ := st_parts hst
  have hne : e.id.toList.isEmpty = false := by
    cases hq : e.id.toList with
    | nil => rw [hq] at hid; cases hid
    | cons _ _ => rfl
  have hk : kept e false = true := by rw [kept_ff, hne]; rfl
  rw [hv]
  have hl := setL_look hS e false
  refine ⟨st_of hlen (setL_srt hS e false) (fun x hx => ?_), fun s => ?_⟩
  · rcases setL_mem hx with h1 | rfl
    · exact hI x h1
    · exact hne
  · rw [hl s]
    by_cases hs : samB e s = true
    · rw [if_pos ((samB_iff _ _).1 hs), if_pos hk, if_pos hs]
    · rw [if_neg (fun h => hs ((samB_iff _ _).2 h)), if_neg hs]
theorem put_find {a : List Ent} {e : Ent} (h : putOk a e = true) : fdV (putV a e) e.ty e.key = e.id ∧ fdOk (putV a e) e.ty e.key = true := by
  obtain ⟨h1, h2⟩ := put_facts h
  exact fd_at h1 (by rw [h2, if_pos ((samB_iff _ _).2 ⟨rfl, rfl⟩)])
theorem put_other {a : List Ent} {e x : Ent} (h : putOk a e = true) (hx : x ∈ a) : fdOk (putV a e) x.ty x.key = true ∧ (¬ (x.ty = e.ty ∧ x.key = e.key) → fdV (putV a e) x.ty x.key = x.id) := by
  obtain ⟨h1, h2⟩ := put_facts h
  have hst : stB a = true := by
    unfold putOk at h
    rw [Bool.and_eq_true, Bool.and_eq_true] at h
    exact h.1.1
  obtain ⟨_, hS, _⟩ := st_parts hst
  by_cases hs : samB e x = true
  · have hl : lookE (putV a e) x = some e := by rw [h2, if_pos hs]
    exact ⟨(fd_at h1 hl).2, fun hn => absurd (let q := (samB_iff _ _).1 hs; ⟨q.1.symm, q.2.symm⟩) hn⟩
  · have hl : lookE (putV a e) x = some x := by rw [h2, if_neg hs]; exact lookE_mem hS hx ⟨rfl, rfl⟩
    exact ⟨(fd_at h1 hl).2, fun _ => (fd_at h1 hl).1⟩
end Go.Proofs.Ytfobcmememaejaa
