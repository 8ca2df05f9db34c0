import Derived.Test.YtgocjlpbokhoeaaSetS
import Derived.Sort.Walk0
import Derived.Test.YtgocjlpbokhoeaaOwnM
namespace Go.Proofs.Ytgocjlpbokhoeaa
open Go.RowKit
set_option maxHeartbeats 1000000 in
theorem set_zero (a : Option Addr) (cap : Nat) (e0 : Ent) (keep : Bool) (w : World) :
    Calls Try.prog 19 #[.slice a 0 cap, entV e0, .bool keep] w fun e w' => ∃ v, e = .returned v ∧ OwnE w' w.heap.size v (setL [] e0 keep) ∧ Below w.heap.size w w' := by
  obtain ⟨i0, hi, hz0, hz1, hz2⟩ := info_parts Try.infoEntry
  have hown : OwnE ((w.alloc (.cells #[.string e0.ty, .string e0.key, .string e0.id] 38)).alloc (.cells #[] 38)) (w.heap.size + 1) (.slice (some ⟨w.heap.size + 1, 0, none⟩) 0 0) [] :=
    ⟨rfl, Or.inr ⟨w.heap.size + 1, 0, #[], rfl, Nat.le_refl _, by exact heap_alloc_new2 _ _ _, Nat.le_refl _, by decide, rfl, rfl⟩⟩
  have hbel : Below w.heap.size w ((w.alloc (.cells #[.string e0.ty, .string e0.key, .string e0.id] 38)).alloc (.cells #[] 38)) := ((Below.refl _ _).alloc (Nat.le_refl _) _).alloc (by simp) _
  go_enter Try.func19, Try.ntmps19
  go_wp2
  refine wp_loop_rounds 1 ?_
  rw [rounds_succ]
  go_wp2_with fail
  go_quiet (fail)
  have hdr : Below (w.heap.size + 1) (w.alloc (.cells #[.string e0.ty, .string e0.key, .string e0.id] 38)) (((w.alloc (.cells #[.string e0.ty, .string e0.key, .string e0.id] 38)).alloc (.cells #[] 38)).drewN nq) := ((Below.refl _ _).alloc (by simp) _).trans (Dr.below ⟨_, rfl⟩ _)
  have hown1 : OwnE (((w.alloc (.cells #[.string e0.ty, .string e0.key, .string e0.id] 38)).alloc (.cells #[] 38)).drewN nq) (w.heap.size + 1) (.slice (some ⟨w.heap.size + 1, 0, none⟩) 0 0) [] := hown.below (Dr.below ⟨_, rfl⟩ _)
  have hbel1 := hbel.trans (Dr.below ⟨nq, rfl⟩ _)
  clear hown hbel
  generalize (((w.alloc (.cells #[.string e0.ty, .string e0.key, .string e0.id] 38)).alloc (.cells #[] 38)).drewN nq) = w1 at *
  have hbox := box_cells hdr
  have hsz1 : w.heap.size + 1 ≤ w1.heap.size := by simpa using hdr.size
  have o1 : w1.cell? ⟨w.heap.size, 0, none⟩ = some (.string e0.ty) := hbox 0
  have o2 : w1.cell? ⟨w.heap.size, 1, none⟩ = some (.string e0.key) := hbox 1
  have o3 : w1.cell? ⟨w.heap.size, 2, none⟩ = some (.string e0.id) := hbox 2
  clear hbox
  cases hc : (keep || !e0.id.toList.isEmpty)
  · have hc1 : keep = false := by cases keep <;> simp_all
    have hc2 : e0.id.toList.isEmpty = true := by cases h : e0.id.toList.isEmpty <;> simp_all
    subst hc1
    go_wp2
    refine wp_loop_rounds 1 ?_
    rw [rounds_succ]
    go_wp2
    go_ret
    refine ⟨_, rfl, ?_, hbel1⟩
    have e1 : setL [] e0 false = [] := by simp only [setL, List.takeWhile_nil, List.filter_nil, List.nil_append, List.append_nil]; rw [hc, if_neg (by decide)]
    rw [e1]
    exact hown1.base_le (Nat.le_succ _)
  · have hm1 : ([] : List Ent).length + 1 ≤ maxLen := by decide
    have hm2 : (([] : List Ent).length + 1) * 48 ≤ 140737488355328 := by decide
    have hm3 : ∀ o, w.heap.size + 1 ≤ (w1.alloc o).heap.size := fun o => by simp; omega
    have e1 : setL [] e0 keep = [e0] := by simp only [setL, List.takeWhile_nil, List.filter_nil, List.nil_append, List.append_nil]; rw [hc, if_pos rfl]
    have E1 : Hid (setL [] e0 keep = [e0]) := e1
    clear e1
    by_cases hk : keep = true
    · subst hk
      clear hc
      go_wp2_with (at_builtin; refine wpList_append_own _ rfl _ _ 26 rfl (w.heap.size + 1) 38 i0 (.agg #[.string ByteArray.empty, .string ByteArray.empty, .string ByteArray.empty]) 3 48 Try.underlying26 hi hz0 hz1 hz2 rfl (by decide) _ _ _ rfl (hown1.alloc _) ⟨w1.heap.size, 0, none⟩ 1 1 (encE e0) rfl rfl (encE_cells _ _ _) (encE_one _) hm1 hm2 (hm3 _) ?_; intro v2 w2 hown2 hgrow2 _)
      have hbel2 := (hdr.alloc hsz1 _).grown hgrow2 (by simpa using Nat.le_succ_of_le hsz1) (fun k hk => hown1.row k hk)
      have hown3 := OwnE.snoc (l := []) hown2 rfl
      clear hown2 hgrow2
      go_wp2
      refine wp_loop_rounds 1 ?_
      rw [rounds_succ]
      go_wp2
      go_ret
      exact ⟨_, rfl, by rw [E1.out]; exact hown3.base_le (Nat.le_succ _), ((Below.refl _ _).alloc (Nat.le_refl _) _).trans (hbel2.mono (Nat.le_succ _))⟩
    · have hk1 : keep = false := by simpa using hk
      subst hk1
      have hc2 : e0.id.toList.isEmpty = false := by simpa using hc
      clear hc hk
      go_wp2_with (at_builtin; refine wpList_append_own _ rfl _ _ 26 rfl (w.heap.size + 1) 38 i0 (.agg #[.string ByteArray.empty, .string ByteArray.empty, .string ByteArray.empty]) 3 48 Try.underlying26 hi hz0 hz1 hz2 rfl (by decide) _ _ _ rfl (hown1.alloc _) ⟨w1.heap.size, 0, none⟩ 1 1 (encE e0) rfl rfl (encE_cells _ _ _) (encE_one _) hm1 hm2 (hm3 _) ?_; intro v2 w2 hown2 hgrow2 _)
      have hbel2 := (hdr.alloc hsz1 _).grown hgrow2 (by simpa using Nat.le_succ_of_le hsz1) (fun k hk => hown1.row k hk)
      have hown3 := OwnE.snoc (l := []) hown2 rfl
      clear hown2 hgrow2
      go_wp2
      refine wp_loop_rounds 1 ?_
      rw [rounds_succ]
      go_wp2
      go_ret
      exact ⟨_, rfl, by rw [E1.out]; exact hown3.base_le (Nat.le_succ _), ((Below.refl _ _).alloc (Nat.le_refl _) _).trans (hbel2.mono (Nat.le_succ _))⟩
theorem set_sl {a : Option Addr} {cap : Nat} {l : List Ent} (e0 : Ent) (keep : Bool) (w : World) (hr : l.length ≤ 1000000) (h : SlE w a cap l) :
    Calls Try.prog 19 #[.slice a l.length cap, entV e0, .bool keep] w fun e w' => ∃ v, e = .returned v ∧ OwnE w' w.heap.size v (setL l e0 keep) ∧ Below w.heap.size w w' := by
  rcases h.cells with rfl | ⟨b, off, rfl, hb, c1, c2, c3⟩
  · exact set_zero a cap e0 keep w
  · exact set_any b off cap l e0 keep w hr hb c1 c2 c3
end Go.Proofs.Ytgocjlpbokhoeaa
namespace Go.Proofs.Ytgocjlpbokhoeaa
open Go.RowKit
theorem befB_asym {x e : Ent} (h : befB x e = true) : befB e x = false := by
  unfold befB at h ⊢
  rw [ByteArray.toList_eq, ByteArray.toList_eq, ByteArray.toList_eq, ByteArray.toList_eq] at *
  by_cases ht : x.ty.data.toList = e.ty.data.toList
  · rw [ht] at h ⊢
    simp only [beq_self_eq_true, if_true, bytesLess_eq, decide_eq_true_eq, decide_eq_false_iff_not] at h ⊢
    exact List.lt_asymm h
  · have h1 : (x.ty.data.toList == e.ty.data.toList) = false := by simpa using ht
    have h2 : (e.ty.data.toList == x.ty.data.toList) = false := by
      cases hb : (e.ty.data.toList == x.ty.data.toList)
      · rfl
      · exact absurd (eq_of_beq hb).symm ht
    rw [h1] at h
    rw [h2]
    simp only [Bool.false_eq_true, if_false, bytesLess_eq, decide_eq_true_eq, decide_eq_false_iff_not] at h ⊢
    exact List.lt_asymm h
theorem split_len {l : List Ent} {p q : Ent → Bool} (h : ∀ x, p x = true → q x = false) : (l.takeWhile p).length + (l.filter q).length ≤ l.length := by
  induction l with
  | nil => simp
  | cons a l ih =>
    have hf : (l.filter q).length ≤ l.length := List.length_filter_le _ _
    cases hp : p a
    · rw [List.takeWhile_cons_of_neg (by simp [hp])]
      have : ((a :: l).filter q).length ≤ (a :: l).length := List.length_filter_le _ _
      simpa using this
    · rw [List.takeWhile_cons_of_pos hp, List.filter_cons_of_neg (by simp [h a hp])]
      simp only [List.length_cons]
      omega
theorem setL_len (l : List Ent) (e : Ent) (keep : Bool) : (setL l e keep).length ≤ l.length + 1 := by
  have := split_len (l := l) (p := fun x => befB x e) (q := fun x => befB e x) (fun x hx => befB_asym hx)
  unfold setL
  rw [List.length_append, List.length_append]
  split
  · simp only [List.length_singleton]; omega
  · simp only [List.length_nil]; omega
theorem setL_mem {l : List Ent} {e x : Ent} {keep : Bool} (h : x ∈ setL l e keep) : x ∈ l ∨ x = e := by
  unfold setL at h
  rw [List.mem_append, List.mem_append] at h
  rcases h with h | h | h
  · exact Or.inl ((List.takeWhile_sublist _).subset h)
  · split at h
    · exact Or.inr (by simpa using h)
    · cases h
  · exact Or.inl (List.mem_filter.1 h).1
def AllOk (l : List Ent) : Prop := ∀ x ∈ l, x.ty.size ≤ maxLen ∧ x.key.size ≤ maxLen ∧ x.id.size ≤ maxLen
theorem AllOk.at {l : List Ent} (h : AllOk l) (i : Nat) (hi : i < l.length) : (eAt l i).ty.size ≤ maxLen ∧ (eAt l i).key.size ≤ maxLen ∧ (eAt l i).id.size ≤ maxLen := h _ (eAt_mem l i hi)
theorem SlE.ok {w : World} {a : Option Addr} {cap : Nat} {l : List Ent} (h : SlE w a cap l) : AllOk l := fun x hx => by
  obtain ⟨i, hi, e⟩ := List.mem_iff_getElem.1 hx
  rw [← e, ← eAt_get l i hi]
  exact h.size i hi
theorem AllOk.set {l : List Ent} {e : Ent} {keep : Bool} (h : AllOk l) (he : e.ty.size ≤ maxLen ∧ e.key.size ≤ maxLen ∧ e.id.size ≤ maxLen) : AllOk (setL l e keep) := fun x hx => (setL_mem hx).elim (h x) fun e' => e' ▸ he
theorem ch_len {l : List Ent} (h : chB l = true) : l.length ≤ 600 := by
  unfold chB at h
  rw [Bool.and_eq_true] at h
  exact of_decide_eq_true h.1
end Go.Proofs.Ytgocjlpbokhoeaa
namespace Go.Proofs.Ytgocjlpbokhoeaa
open Go.RowKit
def dl1 (a b : List Ent) : Nat → List Ent
  | 0 => []
  | k + 1 => if (findB b (eAt a k).ty (eAt a k).key).toList == (eAt a k).id.toList then dl1 a b k else setL (dl1 a b k) ⟨(eAt a k).ty, (eAt a k).key, findB b (eAt a k).ty (eAt a k).key⟩ true
def dl2 (a b : List Ent) : Nat → List Ent
  | 0 => dl1 a b a.length
  | k + 1 => if posI a (eAt b k) < 0 then setL (dl2 a b k) (eAt b k) true else dl2 a b k
theorem findB_ok {b : List Ent} (h : AllOk b) (kind key : ByteArray) : (findB b kind key).size ≤ maxLen := by
  unfold findB
  split
  · rename_i hp
    exact (h.at _ (by have := posI_bd b ⟨kind, key, ⟨#[]⟩⟩; omega)).2.2
  · exact Nat.zero_le _
theorem dl1_len (a b : List Ent) : ∀ k, (dl1 a b k).length ≤ k
  | 0 => Nat.le_refl _
  | k + 1 => by
    have := dl1_len a b k
    unfold dl1
    split
    · omega
    · have := setL_len (dl1 a b k) ⟨(eAt a k).ty, (eAt a k).key, findB b (eAt a k).ty (eAt a k).key⟩ true; omega
theorem dl1_ok {a b : List Ent} (h : AllOk a) (hb : AllOk b) : ∀ k, k ≤ a.length → AllOk (dl1 a b k)
  | 0, _ => fun x hx => by cases hx
  | k + 1, hk => by
    have ih := dl1_ok h hb k (by omega)
    unfold dl1
    split
    · exact ih
    · exact ih.set ⟨(h.at k (by omega)).1, (h.at k (by omega)).2.1, findB_ok hb _ _⟩
theorem dl2_len (a b : List Ent) : ∀ k, (dl2 a b k).length ≤ a.length + k
  | 0 => dl1_len a b a.length
  | k + 1 => by
    have := dl2_len a b k
    unfold dl2
    split
    · have := setL_len (dl2 a b k) (eAt b k) true; omega
    · omega
theorem dl2_ok {a b : List Ent} (h : AllOk a) (hb : AllOk b) : ∀ k, k ≤ b.length → AllOk (dl2 a b k)
  | 0, _ => dl1_ok h hb a.length (Nat.le_refl _)
  | k + 1, hk => by
    have ih := dl2_ok h hb k (by omega)
    unfold dl2
    split
    · exact ih.set (hb.at k (by omega))
    · exact ih
end Go.Proofs.Ytgocjlpbokhoeaa
