import Derived.Test.YtkfgolcjhiaacaaSetS
namespace Go.Proofs.Ytkfgolcjhiaacaa
open Go.RowKit

set_option maxHeartbeats 1000000 in
theorem set_zero (a : Option Addr) (cap : Nat) (e0 : Ent) (keep : Bool) (w : World) :
    Calls Try.prog 19 #[.slice a 0 cap, entV e0, .bool keep] w fun e w' => ∃ v, e = .returned v ∧ OwnE w' w.heap.size v (setL [] e0 keep) ∧ Below w.heap.size w w' := by
  obtain ⟨i0, hi, hz0, hz1, hz2⟩ := info_parts Try.infoEntry
  have hown : OwnE ((w.alloc (.cells #[.string e0.ty, .string e0.key, .string e0.id] 41)).alloc (.cells #[] 41)) (w.heap.size + 1) (.slice (some ⟨w.heap.size + 1, 0, none⟩) 0 0) [] :=
    ⟨rfl, Or.inr ⟨w.heap.size + 1, 0, #[], rfl, Nat.le_refl _, by exact heap_alloc_new2 _ _ _, Nat.le_refl _, by decide, rfl, rfl⟩⟩
  have hbel : Below w.heap.size w ((w.alloc (.cells #[.string e0.ty, .string e0.key, .string e0.id] 41)).alloc (.cells #[] 41)) := ((Below.refl _ _).alloc (Nat.le_refl _) _).alloc (by simp) _
  go_enter Try.func19, Try.ntmps19
  go_wp2
  refine wp_loop_rounds 1 ?_
  rw [rounds_succ]
  go_wp2_with fail
  go_quiet (fail)
  have hdr : Below (w.heap.size + 1) (w.alloc (.cells #[.string e0.ty, .string e0.key, .string e0.id] 41)) (((w.alloc (.cells #[.string e0.ty, .string e0.key, .string e0.id] 41)).alloc (.cells #[] 41)).drewN nq) := ((Below.refl _ _).alloc (by simp) _).trans (Dr.below ⟨_, rfl⟩ _)
  have hown1 : OwnE (((w.alloc (.cells #[.string e0.ty, .string e0.key, .string e0.id] 41)).alloc (.cells #[] 41)).drewN nq) (w.heap.size + 1) (.slice (some ⟨w.heap.size + 1, 0, none⟩) 0 0) [] := hown.below (Dr.below ⟨_, rfl⟩ _)
  have hbel1 := hbel.trans (Dr.below ⟨nq, rfl⟩ _)
  clear hown hbel
  generalize (((w.alloc (.cells #[.string e0.ty, .string e0.key, .string e0.id] 41)).alloc (.cells #[] 41)).drewN nq) = w1 at *
  have hbox := box_cells hdr
  have hsz1 : w.heap.size + 1 ≤ w1.heap.size := by simpa using hdr.size
  have o1 : w1.cell? ⟨w.heap.size, 0, none⟩ = some (.string e0.ty) := hbox 0
  have o2 : w1.cell? ⟨w.heap.size, 1, none⟩ = some (.string e0.key) := hbox 1
  have o3 : w1.cell? ⟨w.heap.size, 2, none⟩ = some (.string e0.id) := hbox 2
  clear hbox
  cases hc : (keep || !e0.id.toList.isEmpty)
  · have hc1 : keep = false := by cases keep <;> simp_all
    have hc2 : e0.id.toList.isEmpty = true := by cases h : e0.id.toList.isEmpty <;> simp_all
    subst hc1
    go_wp2
    refine wp_loop_rounds 1 ?_
    rw [rounds_succ]
    go_wp2
    go_ret
    refine ⟨_, rfl, ?_, hbel1⟩
    have e1 : setL [] e0 false = [] := by simp only [setL, List.takeWhile_nil, List.filter_nil, List.nil_append, List.append_nil]; rw [hc, if_neg (by decide)]
    rw [e1]
    exact hown1.base_le (Nat.le_succ _)
  · have hm1 : ([] : List Ent).length + 1 ≤ maxLen := by decide
    have hm2 : (([] : List Ent).length + 1) * 48 ≤ 140737488355328 := by decide
    have hm3 : ∀ o, w.heap.size + 1 ≤ (w1.alloc o).heap.size := fun o => by simp; omega
    have e1 : setL [] e0 keep = [e0] := by simp only [setL, List.takeWhile_nil, List.filter_nil, List.nil_append, List.append_nil]; rw [hc, if_pos rfl]
    have E1 : Hid (setL [] e0 keep = [e0]) := e1
    clear e1
    by_cases hk : keep = true
    · subst hk
      clear hc
      go_wp2_with (at_builtin; refine wpList_append_own _ rfl _ _ 24 rfl (w.heap.size + 1) 41 i0 (.agg #[.string ByteArray.empty, .string ByteArray.empty, .string ByteArray.empty]) 3 48 Try.underlying24 hi hz0 hz1 hz2 rfl (by decide) _ _ _ rfl (hown1.alloc _) ⟨w1.heap.size, 0, none⟩ 1 1 (encE e0) rfl rfl (encE_cells _ _ _) (encE_one _) hm1 hm2 (hm3 _) ?_; intro v2 w2 hown2 hgrow2 _)
      have hbel2 := (hdr.alloc hsz1 _).grown hgrow2 (by simpa using Nat.le_succ_of_le hsz1) (fun k hk => hown1.row k hk)
      have hown3 := OwnE.snoc (l := []) hown2 rfl
      clear hown2 hgrow2
      go_wp2
      refine wp_loop_rounds 1 ?_
      rw [rounds_succ]
      go_wp2
      go_ret
      exact ⟨_, rfl, by rw [E1.out]; exact hown3.base_le (Nat.le_succ _), ((Below.refl _ _).alloc (Nat.le_refl _) _).trans (hbel2.mono (Nat.le_succ _))⟩
    · have hk1 : keep = false := by simpa using hk
      subst hk1
      have hc2 : e0.id.toList.isEmpty = false := by simpa using hc
      clear hc hk
      go_wp2_with (at_builtin; refine wpList_append_own _ rfl _ _ 24 rfl (w.heap.size + 1) 41 i0 (.agg #[.string ByteArray.empty, .string ByteArray.empty, .string ByteArray.empty]) 3 48 Try.underlying24 hi hz0 hz1 hz2 rfl (by decide) _ _ _ rfl (hown1.alloc _) ⟨w1.heap.size, 0, none⟩ 1 1 (encE e0) rfl rfl (encE_cells _ _ _) (encE_one _) hm1 hm2 (hm3 _) ?_; intro v2 w2 hown2 hgrow2 _)
      have hbel2 := (hdr.alloc hsz1 _).grown hgrow2 (by simpa using Nat.le_succ_of_le hsz1) (fun k hk => hown1.row k hk)
      have hown3 := OwnE.snoc (l := []) hown2 rfl
      clear hown2 hgrow2
      go_wp2
      refine wp_loop_rounds 1 ?_
      rw [rounds_succ]
      go_wp2
      go_ret
      exact ⟨_, rfl, by rw [E1.out]; exact hown3.base_le (Nat.le_succ _), ((Below.refl _ _).alloc (Nat.le_refl _) _).trans (hbel2.mono (Nat.le_succ _))⟩

theorem set_sl {a : Option Addr} {cap : Nat} {l : List Ent} (e0 : Ent) (keep : Bool) (w : World) (hr : l.length ≤ 1000000) (h : SlE w a cap l) :
    Calls Try.prog 19 #[.slice a l.length cap, entV e0, .bool keep] w fun e w' => ∃ v, e = .returned v ∧ OwnE w' w.heap.size v (setL l e0 keep) ∧ Below w.heap.size w w' := by
  rcases h.cells with rfl | ⟨b, off, rfl, hb, c1, c2, c3⟩
  · exact set_zero a cap e0 keep w
  · exact set_any b off cap l e0 keep w hr hb c1 c2 c3
end Go.Proofs.Ytkfgolcjhiaacaa
