import Derived.Test.YtnkpikknkooblaaGreatHrAB
/-
  impl's isCreatorsFirst.
-/
namespace Go.Proofs.YtnkpikknkooblaaGreat
open Go.RowKit Go.Maps Go.ChangeMaps

set_option maxRecDepth 100000 in
set_option maxHeartbeats 1000000 in
theorem cfI {h mb c : Nat} {F : Ent → Value} {oc op : Option Addr} {o : View} {e : Ev} {pa : Option Addr} {cp : Nat} {aa : Option Addr} {ca : Nat} {ga : Option Addr} {cg : Nat} (w : World) (H : Hr w h mb c F oc op o e pa cp aa ca ga cg) (hm : isMb e = true) :
    Calls Tryz.prog 132 #[.pointer (some ⟨h, 0, none⟩)] w fun x w' => x = .returned (.bool (creB o e.sd && (o tMem e.key).isNone)) ∧ Below w.heap.size w w' := by
  have k1 : w.cell? ⟨h, 1, none⟩ = some (.string e.sd) := H.ev.c1
  have k4 : w.cell? ⟨h, 4, none⟩ = some (.string e.key) := H.ev.c4
  have k10 : w.cell? ⟨h, 10, none⟩ = some (.map (some mb)) := H.c10
  have k11 : w.cell? ⟨h, 11, none⟩ = some (.pointer oc) := H.c11
  have k12 : w.cell? ⟨h, 12, none⟩ = some (.pointer op) := H.c12
  have hlt := H.lt
  have hrf : Below w.heap.size w w := Below.refl _ _
  have H1 : Hid (∀ W, Below w.heap.size w W → Calls Tryz.prog 94 #[.agg #[.pointer oc, .pointer op], .string e.sd] W fun x w' => x = .returned (.bool (creB o e.sd)) ∧ Below w.heap.size w w') := fun W hW => (isC_o e.sd W (H.lev.below hW)).mono fun _ _ ⟨h1, h2⟩ => ⟨h1, hW.trans (h2.mono hW.size)⟩
  have H2 : Hid (∀ W, Below w.heap.size w W → Calls Tryz.prog 67 #[.string e.key] W fun x w' => x = .returned (.agg #[.string tMem, .string e.key]) ∧ Below w.heap.size w w') := fun W hW => (mbrI_any e.key W).mono fun _ _ ⟨h1, h2⟩ => ⟨h1, hW.trans (h2.mono hW.size)⟩
  obtain ⟨v, hv, hpt⟩ := H.key hm
  have HL : Hid (∀ W, Below w.heap.size w W → (Instr.lookup 73 (.map (some mb)) (.agg #[.string tMem, .string e.key]) false).run Tryz.prog W = .ok (.pointer v) W) := fun W hW => by
    have := mapV_get (H.map.below hW) (k := ⟨tMem, e.key, tNil⟩) ⟨by show tMem.size ≤ maxLen; decide, H.ok.hkey⟩
    rw [hv] at this
    exact this
  have Hv : Hid ((o tMem e.key).isNone = v.isNone) := by
    rcases hpt with ⟨h1, rfl⟩ | ⟨m, b, off, h1, rfl, -⟩
    · rw [show o tMem e.key = none from h1]; rfl
    · rw [show o tMem e.key = some m from h1]; rfl
  clear H hv hpt
  generalize (o tMem e.key).isNone = z at *
  cases hc : creB o e.sd
  case false =>
    rw [hc] at H1
    go_enter Tryz.func132, Tryz.ntmps132
    go_wp2_with fail
    refine wp_region_held_drew (S := fun W => W.cell? ⟨h, 11, none⟩ = some (.pointer oc) ∧ W.cell? ⟨h, 12, none⟩ = some (.pointer op) ∧ W.cell? ⟨h, 1, none⟩ = some (.string e.sd)) (by kernel_rfl) ?_ (fun hHeld => ?_)
    · (try dsimp only); first | (with_reducible exact ⟨k11, k12, k1⟩) | go_keep
    refine wpAnyH_take (i := 0) (v := ?v0) rfl (by kernel_rfl) (by kernel_rfl) (by kernel_rfl) (fun _ _ _ h => h) (Or.inl ⟨by rfl, ?hy0⟩) (by assumption) ?_
    case hy0 => (intro w hSw; (try dsimp only at hSw); go_simp; try (with_reducible rfl))
    simp only [Act.put, List.getElem_toArray, List.getElem_cons_zero, List.setIfInBounds_toArray, List.set_cons_zero, List.set_cons_succ]
    refine wpAnyH_take (i := 1) (v := ?v1) rfl (by kernel_rfl) (by kernel_rfl) (by kernel_rfl) (fun _ _ _ h => h) (Or.inl ⟨by rfl, ?hy1⟩) (by assumption) ?_
    case hy1 => (intro w hSw; (try dsimp only at hSw); go_simp; try (with_reducible rfl))
    simp only [Act.put, List.getElem_toArray, List.getElem_cons_zero, List.getElem_cons_succ, List.setIfInBounds_toArray, List.set_cons_zero, List.set_cons_succ]
    refine wpAnyH_take (i := 2) (v := ?v2) rfl (by kernel_rfl) (by kernel_rfl) (by kernel_rfl) (fun _ _ _ h => h) (Or.inl ⟨by rfl, ?hy2⟩) (by assumption) ?_
    case hy2 => (intro w hSw; (try dsimp only at hSw); go_simp; try (with_reducible rfl))
    simp only [Act.put, List.getElem_toArray, List.getElem_cons_zero, List.getElem_cons_succ, List.setIfInBounds_toArray, List.set_cons_zero, List.set_cons_succ]
    refine wpAnyH_take (i := 3) (v := ?v3) rfl (by kernel_rfl) (by kernel_rfl) (by kernel_rfl) (fun _ _ _ h => h) (Or.inl ⟨by rfl, ?hy3⟩) (by assumption) ?_
    case hy3 => (intro w hSw; (try dsimp only at hSw); go_simp; try (with_reducible rfl))
    simp only [Act.put, List.getElem_toArray, List.getElem_cons_zero, List.getElem_cons_succ, List.setIfInBounds_toArray, List.set_cons_zero, List.set_cons_succ]
    refine wpAnyH_take (i := 4) (v := ?v4) rfl (by kernel_rfl) (by kernel_rfl) (by kernel_rfl) (fun _ _ _ h => h) (Or.inl ⟨by rfl, ?hy4⟩) (by assumption) ?_
    case hy4 => (intro w hSw; (try dsimp only at hSw); go_simp; try (with_reducible rfl))
    simp only [Act.put, List.getElem_toArray, List.getElem_cons_zero, List.getElem_cons_succ, List.setIfInBounds_toArray, List.set_cons_zero, List.set_cons_succ]
    refine wpAnyH_take (i := 5) (v := ?v5) rfl (by kernel_rfl) (by kernel_rfl) (by kernel_rfl) (fun _ _ _ h => h) (Or.inl ⟨by rfl, ?hy5⟩) (by assumption) ?_
    case hy5 => (intro w hSw; (try dsimp only at hSw); go_simp; try (with_reducible rfl))
    simp only [Act.put, List.getElem_toArray, List.getElem_cons_zero, List.getElem_cons_succ, List.setIfInBounds_toArray, List.set_cons_zero, List.set_cons_succ]
    refine wpAnyH_take (i := 6) (v := ?v6) rfl (by kernel_rfl) (by kernel_rfl) (by kernel_rfl) (fun _ _ _ h => h) (Or.inl ⟨by rfl, ?hy6⟩) (by assumption) ?_
    case hy6 => (intro w hSw; (try dsimp only at hSw); go_simp; try (with_reducible rfl))
    simp only [Act.put, List.getElem_toArray, List.getElem_cons_zero, List.getElem_cons_succ, List.setIfInBounds_toArray, List.set_cons_zero, List.set_cons_succ]
    refine wpAnyH_take (i := 7) (v := ?v7) rfl (by kernel_rfl) (by kernel_rfl) (by kernel_rfl) (fun _ _ _ h => h) (Or.inl ⟨by rfl, ?hy7⟩) (by assumption) ?_
    case hy7 => (intro w hSw; (try dsimp only at hSw); go_simp; try (with_reducible rfl))
    simp only [Act.put, List.getElem_toArray, List.getElem_cons_zero, List.getElem_cons_succ, List.setIfInBounds_toArray, List.set_cons_zero, List.set_cons_succ]
    refine wpAnyH_take (i := 8) (v := ?v8) rfl (by kernel_rfl) (by kernel_rfl) (by kernel_rfl) (fun _ _ _ h => h) (Or.inl ⟨by rfl, ?hy8⟩) (by assumption) ?_
    case hy8 => (intro w hSw; (try dsimp only at hSw); go_simp; try (with_reducible rfl))
    simp only [Act.put, List.getElem_toArray, List.getElem_cons_zero, List.getElem_cons_succ, List.setIfInBounds_toArray, List.set_cons_zero, List.set_cons_succ]
    refine wpAnyH_ready (rs := [9]) (by kernel_rfl) (by simp) ?_
    refine AllReadyH.cons rfl (fun K hK => ?_) AllReadyH.nil
    go_simp
    go_at_call 94; refine (H1.out _ (by first | with_reducible exact hrf | with_reducible exact hrf.drew | with_reducible exact hrf.drew.drew | with_reducible exact hrf.drew.drew.drew | with_reducible exact hrf.drew.drew.drew.drew | with_reducible exact hrf.drew.drew.drew.drew.drew)).mono ?_; rintro x w2 ⟨rfl, hb2⟩; have q11 := (hb2.cell (by exact hlt)).trans k11; have q12 := (hb2.cell (by exact hlt)).trans k12; have q1 := (hb2.cell (by exact hlt)).trans k1
    try go_wp2_with fail
    refine hK.out _ _ ?_ (fun hHeld => ?_)
    · (try dsimp only); first | (with_reducible exact ⟨q11, q12, q1⟩) | go_keep
    clear hK K
    try simp only [Act.put, List.getElem_toArray, List.getElem_cons_zero, List.getElem_cons_succ, List.setIfInBounds_toArray, List.set_cons_zero, List.set_cons_succ]
    refine wpAnyH_take (i := 10) (v := ?v10) rfl (by kernel_rfl) (by kernel_rfl) (by kernel_rfl) (fun _ _ _ h => h) (Or.inl ⟨by rfl, ?hy10⟩) (by assumption) ?_
    case hy10 => (intro w hSw; (try dsimp only at hSw); go_simp; try (with_reducible rfl))
    simp only [Act.put, List.getElem_toArray, List.getElem_cons_zero, List.getElem_cons_succ, List.setIfInBounds_toArray, List.set_cons_zero, List.set_cons_succ]
    refine wpAnyH_take (i := 11) (v := undef) rfl (by kernel_rfl) (by kernel_rfl) (by kernel_rfl) (fun _ _ _ h => h) (Or.inr ⟨by rfl, rfl⟩) (by assumption) ?_
    simp only [Act.put, List.getElem_toArray, List.getElem_cons_zero, List.getElem_cons_succ, List.setIfInBounds_toArray, List.set_cons_zero, List.set_cons_succ]
    refine wpAnyH_take (i := 12) (v := undef) rfl (by kernel_rfl) (by kernel_rfl) (by kernel_rfl) (fun _ _ _ h => h) (Or.inr ⟨by rfl, rfl⟩) (by assumption) ?_
    simp only [Act.put, List.getElem_toArray, List.getElem_cons_zero, List.getElem_cons_succ, List.setIfInBounds_toArray, List.set_cons_zero, List.set_cons_succ]
    refine wpAnyH_take (i := 13) (v := undef) rfl (by kernel_rfl) (by kernel_rfl) (by kernel_rfl) (fun _ _ _ h => h) (Or.inr ⟨by rfl, rfl⟩) (by assumption) ?_
    simp only [Act.put, List.getElem_toArray, List.getElem_cons_zero, List.getElem_cons_succ, List.setIfInBounds_toArray, List.set_cons_zero, List.set_cons_succ]
    refine wpAnyH_take (i := 14) (v := undef) rfl (by kernel_rfl) (by kernel_rfl) (by kernel_rfl) (fun _ _ _ h => h) (Or.inr ⟨by rfl, rfl⟩) (by assumption) ?_
    simp only [Act.put, List.getElem_toArray, List.getElem_cons_zero, List.getElem_cons_succ, List.setIfInBounds_toArray, List.set_cons_zero, List.set_cons_succ]
    refine wpAnyH_take (i := 15) (v := undef) rfl (by kernel_rfl) (by kernel_rfl) (by kernel_rfl) (fun _ _ _ h => h) (Or.inr ⟨by rfl, rfl⟩) (by assumption) ?_
    simp only [Act.put, List.getElem_toArray, List.getElem_cons_zero, List.getElem_cons_succ, List.setIfInBounds_toArray, List.set_cons_zero, List.set_cons_succ]
    refine wpAnyH_take (i := 16) (v := undef) rfl (by kernel_rfl) (by kernel_rfl) (by kernel_rfl) (fun _ _ _ h => h) (Or.inr ⟨by rfl, rfl⟩) (by assumption) ?_
    simp only [Act.put, List.getElem_toArray, List.getElem_cons_zero, List.getElem_cons_succ, List.setIfInBounds_toArray, List.set_cons_zero, List.set_cons_succ]
    refine wpAnyH_take (i := 17) (v := undef) rfl (by kernel_rfl) (by kernel_rfl) (by kernel_rfl) (fun _ _ _ h => h) (Or.inr ⟨by rfl, rfl⟩) (by assumption) ?_
    simp only [Act.put, List.getElem_toArray, List.getElem_cons_zero, List.getElem_cons_succ, List.setIfInBounds_toArray, List.set_cons_zero, List.set_cons_succ]
    refine wpAnyH_take (i := 18) (v := undef) rfl (by kernel_rfl) (by kernel_rfl) (by kernel_rfl) (fun _ _ _ h => h) (Or.inr ⟨by rfl, rfl⟩) (by assumption) ?_
    simp only [Act.put, List.getElem_toArray, List.getElem_cons_zero, List.getElem_cons_succ, List.setIfInBounds_toArray, List.set_cons_zero, List.set_cons_succ]
    refine wpAnyH_take (i := 19) (v := undef) rfl (by kernel_rfl) (by kernel_rfl) (by kernel_rfl) (fun _ _ _ h => h) (Or.inr ⟨by rfl, rfl⟩) (by assumption) ?_
    simp only [Act.put, List.getElem_toArray, List.getElem_cons_zero, List.getElem_cons_succ, List.setIfInBounds_toArray, List.set_cons_zero, List.set_cons_succ]
    refine wpAnyH_take (i := 20) (v := undef) rfl (by kernel_rfl) (by kernel_rfl) (by kernel_rfl) (fun _ _ _ h => h) (Or.inr ⟨by rfl, rfl⟩) (by assumption) ?_
    simp only [Act.put, List.getElem_toArray, List.getElem_cons_zero, List.getElem_cons_succ, List.setIfInBounds_toArray, List.set_cons_zero, List.set_cons_succ]
    refine wpAnyH_take (i := 21) (v := undef) rfl (by kernel_rfl) (by kernel_rfl) (by kernel_rfl) (fun _ _ _ h => h) (Or.inr ⟨by rfl, rfl⟩) (by assumption) ?_
    simp only [Act.put, List.getElem_toArray, List.getElem_cons_zero, List.getElem_cons_succ, List.setIfInBounds_toArray, List.set_cons_zero, List.set_cons_succ]
    refine wpAnyH_take (i := 22) (v := undef) rfl (by kernel_rfl) (by kernel_rfl) (by kernel_rfl) (fun _ _ _ h => h) (Or.inr ⟨by rfl, rfl⟩) (by assumption) ?_
    simp only [Act.put, List.getElem_toArray, List.getElem_cons_zero, List.getElem_cons_succ, List.setIfInBounds_toArray, List.set_cons_zero, List.set_cons_succ]
    refine wpAnyH_take (i := 23) (v := ?v23) rfl (by kernel_rfl) (by kernel_rfl) (by kernel_rfl) (fun _ _ _ h => h) (Or.inl ⟨by rfl, ?hy23⟩) (by assumption) ?_
    case hy23 => (intro w hSw; (try dsimp only at hSw); go_simp; try (with_reducible rfl))
    simp only [Act.put, List.getElem_toArray, List.getElem_cons_zero, List.getElem_cons_succ, List.setIfInBounds_toArray, List.set_cons_zero, List.set_cons_succ]
    refine wpAnyH_take (i := 24) (v := ?v24) rfl (by kernel_rfl) (by kernel_rfl) (by kernel_rfl) (fun _ _ _ h => h) (Or.inl ⟨by rfl, ?hy24⟩) (by assumption) ?_
    case hy24 => (intro w hSw; (try dsimp only at hSw); go_simp; try (with_reducible rfl))
    simp only [Act.put, List.getElem_toArray, List.getElem_cons_zero, List.getElem_cons_succ, List.setIfInBounds_toArray, List.set_cons_zero, List.set_cons_succ]
    refine wpAnyH_done (by kernel_rfl) ?_ _
    all_goals
      go_wp2
      go_ret
      exact ⟨rfl, (by first | with_reducible exact hb2 | with_reducible exact hb2.drew | with_reducible exact hb2.drew.drew | with_reducible exact hb2.drew.drew.drew | with_reducible exact hb2.drew.drew.drew.drew | with_reducible exact hb2.drew.drew.drew.drew.drew)⟩
  case true =>
    rw [hc] at H1
    have Hz : Hid (z = v.isNone) := Hv
    cases v with
    | none =>
      go_enter Tryz.func132, Tryz.ntmps132
      go_wp2_with fail
      first
        | (go_region_held3 (fun W => W.cell? ⟨h, 11, none⟩ = some (.pointer oc) ∧ W.cell? ⟨h, 12, none⟩ = some (.pointer op) ∧ W.cell? ⟨h, 1, none⟩ = some (.string e.sd) ∧ W.cell? ⟨h, 10, none⟩ = some (.map (some mb)) ∧ W.cell? ⟨h, 4, none⟩ = some (.string e.key)) (first | (with_reducible exact ⟨k11, k12, k1, k10, k4⟩) | go_keep)
            (first
              | (go_at_call 67; refine (H2.out _ (by first | with_reducible exact hb2 | with_reducible exact hb2.drew | with_reducible exact hb2.drew.drew | with_reducible exact hb2.drew.drew.drew | with_reducible exact hb2.drew.drew.drew.drew | with_reducible exact hb2.drew.drew.drew.drew.drew)).mono ?_; rintro x w3 ⟨rfl, hb3⟩; have r11 := (hb3.cell (by exact hlt)).trans k11; have r12 := (hb3.cell (by exact hlt)).trans k12; have r1 := (hb3.cell (by exact hlt)).trans k1; have r10 := (hb3.cell (by exact hlt)).trans k10; have r4 := (hb3.cell (by exact hlt)).trans k4; have hlk := HL.out _ hb3)
              | (go_at_call 94; refine (H1.out _ (by first | with_reducible exact hrf | with_reducible exact hrf.drew | with_reducible exact hrf.drew.drew | with_reducible exact hrf.drew.drew.drew | with_reducible exact hrf.drew.drew.drew.drew | with_reducible exact hrf.drew.drew.drew.drew.drew)).mono ?_; rintro x w2 ⟨rfl, hb2⟩; have q11 := (hb2.cell (by exact hlt)).trans k11; have q12 := (hb2.cell (by exact hlt)).trans k12; have q1 := (hb2.cell (by exact hlt)).trans k1; have q10 := (hb2.cell (by exact hlt)).trans k10; have q4 := (hb2.cell (by exact hlt)).trans k4)))
        | fail
      all_goals
        go_wp2
        go_ret
        exact ⟨ret_bool (by rw [Hz.out]; rfl), (by first | with_reducible exact hb3 | with_reducible exact hb3.drew | with_reducible exact hb3.drew.drew | with_reducible exact hb3.drew.drew.drew | with_reducible exact hb3.drew.drew.drew.drew | with_reducible exact hb3.drew.drew.drew.drew.drew)⟩
    | some u =>
      go_enter Tryz.func132, Tryz.ntmps132
      go_wp2_with fail
      first
        | (go_region_held3 (fun W => W.cell? ⟨h, 11, none⟩ = some (.pointer oc) ∧ W.cell? ⟨h, 12, none⟩ = some (.pointer op) ∧ W.cell? ⟨h, 1, none⟩ = some (.string e.sd) ∧ W.cell? ⟨h, 10, none⟩ = some (.map (some mb)) ∧ W.cell? ⟨h, 4, none⟩ = some (.string e.key)) (first | (with_reducible exact ⟨k11, k12, k1, k10, k4⟩) | go_keep)
            (first
              | (go_at_call 67; refine (H2.out _ (by first | with_reducible exact hb2 | with_reducible exact hb2.drew | with_reducible exact hb2.drew.drew | with_reducible exact hb2.drew.drew.drew | with_reducible exact hb2.drew.drew.drew.drew | with_reducible exact hb2.drew.drew.drew.drew.drew)).mono ?_; rintro x w3 ⟨rfl, hb3⟩; have r11 := (hb3.cell (by exact hlt)).trans k11; have r12 := (hb3.cell (by exact hlt)).trans k12; have r1 := (hb3.cell (by exact hlt)).trans k1; have r10 := (hb3.cell (by exact hlt)).trans k10; have r4 := (hb3.cell (by exact hlt)).trans k4; have hlk := HL.out _ hb3)
              | (go_at_call 94; refine (H1.out _ (by first | with_reducible exact hrf | with_reducible exact hrf.drew | with_reducible exact hrf.drew.drew | with_reducible exact hrf.drew.drew.drew | with_reducible exact hrf.drew.drew.drew.drew | with_reducible exact hrf.drew.drew.drew.drew.drew)).mono ?_; rintro x w2 ⟨rfl, hb2⟩; have q11 := (hb2.cell (by exact hlt)).trans k11; have q12 := (hb2.cell (by exact hlt)).trans k12; have q1 := (hb2.cell (by exact hlt)).trans k1; have q10 := (hb2.cell (by exact hlt)).trans k10; have q4 := (hb2.cell (by exact hlt)).trans k4)))
        | fail
      all_goals
        go_wp2
        go_ret
        exact ⟨ret_bool (by rw [Hz.out]; rfl), (by first | with_reducible exact hb3 | with_reducible exact hb3.drew | with_reducible exact hb3.drew.drew | with_reducible exact hb3.drew.drew.drew | with_reducible exact hb3.drew.drew.drew.drew | with_reducible exact hb3.drew.drew.drew.drew.drew)⟩
end Go.Proofs.YtnkpikknkooblaaGreat
/-
  impl's rule joining.
-/
namespace Go.Proofs.YtnkpikknkooblaaGreat
open Go.RowKit Go.Maps Go.ChangeMaps

set_option maxRecDepth 100000 in
set_option maxHeartbeats 2000000 in
theorem joiI {h mb c : Nat} {F : Ent → Value} {oc op : Option Addr} {o : View} {e : Ev} {pa : Option Addr} {cp : Nat} {aa : Option Addr} {ca : Nat} {ga : Option Addr} {cg : Nat} (w : World) (H : Hr w h mb c F oc op o e pa cp aa ca ga cg) :
    Calls Tryz.prog 103 #[.pointer (some ⟨h, 0, none⟩)] w fun x w' => x = .returned (rAns (rJoi o e)) ∧ Below w.heap.size w w' := by
  have hrf : Below w.heap.size w w := Below.refl _ _
  have k0 : w.cell? ⟨h, 0, none⟩ = some (.string e.id) := H.ev.c0
  have k1 : w.cell? ⟨h, 1, none⟩ = some (.string e.sd) := H.ev.c1
  have k2 : w.cell? ⟨h, 2, none⟩ = some (.string e.ty) := H.ev.c2
  have k3 : w.cell? ⟨h, 3, none⟩ = some (.bool e.st) := H.ev.c3
  have k4 : w.cell? ⟨h, 4, none⟩ = some (.string e.key) := H.ev.c4
  have k5 : w.cell? ⟨h, 5, none⟩ = some (.int .i64 e.tm) := H.ev.c5
  have k6 : w.cell? ⟨h, 6, none⟩ = some (.slice pa e.np cp) := H.ev.c6
  have k7 : w.cell? ⟨h, 7, none⟩ = some (.slice aa e.na ca) := H.ev.c7
  have k8 : w.cell? ⟨h, 8, none⟩ = some (.string e.val) := H.ev.c8
  have k9 : w.cell? ⟨h, 9, none⟩ = some (.slice ga e.ng cg) := H.ev.c9
  have k10 : w.cell? ⟨h, 10, none⟩ = some (.map (some mb)) := H.c10
  cases hmj : (isMb e && isJn e)
  case false =>
    have Hz : Hid (rJoi o e = (0, false)) := by unfold Hid rJoi; rw [hmj]; rfl
    have HB := isM_t pa cp aa ca ga cg (t := ⟨#[106, 111, 105, 110]⟩) (b := false) (by rw [isM_jn]; exact hmj) w
    clear H hmj
    go_enter Tryz.func103, Tryz.ntmps103
    go_wp2_with fail
    refine (HB.out _ hrf).mono ?_
    rintro x w1 ⟨rfl, hb1⟩
    go_wp2
    go_ret2
    exact ⟨ret_r Hz.out, hb1⟩
  case true =>
    obtain ⟨hm, hj⟩ : isMb e = true ∧ isJn e = true := by simpa using hmj
    have HB := isM_t pa cp aa ca ga cg (t := ⟨#[106, 111, 105, 110]⟩) (b := true) (by rw [isM_jn]; exact hmj) w
    have HX : Hid (∀ W, Below w.heap.size w W → Calls Tryz.prog 130 #[.pointer (some ⟨h, 0, none⟩)] W fun x w' => x = .returned (.bool (expB (memO o e.key))) ∧ Below w.heap.size w w') := fun W hW => (expI W (H.below hW) hm).mono fun _ _ ⟨h1, h2⟩ => ⟨h1, hW.trans (h2.mono hW.size)⟩
    have HP : Hid (∀ W, Below w.heap.size w W → Calls Tryz.prog 131 #[.pointer (some ⟨h, 0, none⟩)] W fun x w' => x = .returned (.bool (pubB o)) ∧ Below w.heap.size w w') := fun W hW => (pubI W (H.below hW) hm hj).mono fun _ _ ⟨h1, h2⟩ => ⟨h1, hW.trans (h2.mono hW.size)⟩
    have HC : Hid (∀ W, Below w.heap.size w W → Calls Tryz.prog 132 #[.pointer (some ⟨h, 0, none⟩)] W fun x w' => x = .returned (.bool (creB o e.sd && (o tMem e.key).isNone)) ∧ Below w.heap.size w w') := fun W hW => (cfI W (H.below hW) hm).mono fun _ _ ⟨h1, h2⟩ => ⟨h1, hW.trans (h2.mono hW.size)⟩
    have HM := H.memK hm
    have hlt := H.lt
    have HJ : Hid (rJoi o e = (if (e.sd.toList == e.key.toList) = false then 3 else if isBan (memO o e.key) then 4 else if expB (memO o e.key) || pubB o || (creB o e.sd && (o tMem e.key).isNone) then 0 else 5, true)) := by unfold Hid rJoi joV; rw [hmj]; rfl
    clear H hmj hm hj
    generalize rJoi o e = r at *
    generalize (creB o e.sd && (o tMem e.key).isNone) = x3 at *
    generalize pubB o = x2 at *
    generalize expB (memO o e.key) = x1 at *
    generalize memO o e.key = t at *
    go_enter Tryz.func103, Tryz.ntmps103
    go_wp2_with fail
    refine (HB.out _ hrf).mono ?_
    rintro x w1 ⟨rfl, hb1⟩
    have q1 := (hb1.cell (by exact hlt)).trans k1; have q4 := (hb1.cell (by exact hlt)).trans k4; have q10 := (hb1.cell (by exact hlt)).trans k10
    clear HB
    go_wp2_with fail
    go_cut [10] (fun v wx => v = .bool (!(e.sd.toList == e.key.toList)) ∧ Below w.heap.size w wx)
    case first =>
      go_quiet (fail)
      all_goals (try go_wp2_with fail)
      all_goals go_meet
      all_goals exact ⟨rfl, belowN hb1 _⟩
    case rest =>
      obtain ⟨rfl, hb2⟩ := hcut
      obtain ⟨w2, hw2⟩ : ∃ w2 : World, w2 = wc := ⟨_, rfl⟩
      subst hw2
      cases hsk : (e.sd.toList == e.key.toList)
      case false =>
        have Hz : Hid (r = (3, true)) := by unfold Hid; rw [HJ.out, hsk]; rfl
        go_wp2
        go_ret2
        exact ⟨ret_r Hz.out, hb2⟩
      case true =>
        rw [hsk] at HJ
        have s4 := (hb2.cell (by exact hlt)).trans k4; have s10 := (hb2.cell (by exact hlt)).trans k10
        go_wp2_with fail
        go_cut [22] (fun v wx => v = .bool (isBan t) ∧ Below w.heap.size w wx)
        case first =>
          go_region_held3 (fun W => W.cell? ⟨h, 10, none⟩ = some (.map (some mb)) ∧ W.cell? ⟨h, 4, none⟩ = some (.string e.key)) (first | (with_reducible exact ⟨s10, s4⟩) | go_keep)
            (first | (go_at_call 129; refine (HM.out _ (by first | with_reducible exact hb2 | with_reducible exact hb2.drew | with_reducible exact hb2.drew.drew | with_reducible exact hb2.drew.drew.drew | with_reducible exact hb2.drew.drew.drew.drew | with_reducible exact hb2.drew.drew.drew.drew.drew)).mono ?_; rintro x w3 ⟨rfl, hb3⟩; have u10 := (hb3.cell (by exact hlt)).trans k10; have u4 := (hb3.cell (by exact hlt)).trans k4))
          all_goals (try go_wp2_with fail)
          all_goals go_meet
          all_goals exact ⟨rfl, (by first | with_reducible exact hb3 | with_reducible exact hb3.drew | with_reducible exact hb3.drew.drew | with_reducible exact hb3.drew.drew.drew | with_reducible exact hb3.drew.drew.drew.drew | with_reducible exact hb3.drew.drew.drew.drew.drew)⟩
        case rest =>
          obtain ⟨rfl, hb3⟩ := hcut
          obtain ⟨w3, hw3⟩ : ∃ w3 : World, w3 = wc := ⟨_, rfl⟩
          subst hw3
          cases hbn : isBan t
          case true =>
            have Hz : Hid (r = (4, true)) := by unfold Hid; rw [HJ.out, hbn]; rfl
            go_wp2
            go_ret2
            exact ⟨ret_r Hz.out, hb3⟩
          case false =>
            rw [hbn] at HJ
            cases x1
            case true =>
              have Hz : Hid (r = (0, true)) := by unfold Hid; rw [HJ.out]; rfl
              go_wp2_with fail
              refine (HX.out _ hb3).mono ?_
              rintro x w4 ⟨rfl, hb4⟩
              go_wp2
              go_ret2
              exact ⟨ret_r Hz.out, hb4⟩
            case false =>
              cases x2
              case true =>
                have Hz : Hid (r = (0, true)) := by unfold Hid; rw [HJ.out]; rfl
                go_wp2_with fail
                refine (HX.out _ hb3).mono ?_
                rintro x w4 ⟨rfl, hb4⟩
                go_wp2_with fail
                refine (HP.out _ hb4).mono ?_
                rintro x w5 ⟨rfl, hb5⟩
                go_wp2
                go_ret2
                exact ⟨ret_r Hz.out, hb5⟩
              case false =>
                cases x3
                all_goals
                  go_wp2_with fail
                  refine (HX.out _ hb3).mono ?_
                  rintro x w4 ⟨rfl, hb4⟩
                  go_wp2_with fail
                  refine (HP.out _ hb4).mono ?_
                  rintro x w5 ⟨rfl, hb5⟩
                  go_wp2_with fail
                  refine (HC.out _ hb5).mono ?_
                  rintro x w6 ⟨rfl, hb6⟩
                  go_wp2
                  go_ret2
                  exact ⟨ret_r (by rw [HJ.out]; rfl), hb6⟩
end Go.Proofs.YtnkpikknkooblaaGreat
/-
  impl's rule leaving.
-/
namespace Go.Proofs.YtnkpikknkooblaaGreat
open Go.RowKit Go.Maps Go.ChangeMaps

set_option maxRecDepth 100000 in
set_option maxHeartbeats 2000000 in
theorem leaI {h mb c : Nat} {F : Ent → Value} {oc op : Option Addr} {o : View} {e : Ev} {pa : Option Addr} {cp : Nat} {aa : Option Addr} {ca : Nat} {ga : Option Addr} {cg : Nat} (w : World) (H : Hr w h mb c F oc op o e pa cp aa ca ga cg) :
    Calls Tryz.prog 104 #[.pointer (some ⟨h, 0, none⟩)] w fun x w' => x = .returned (rAns (rLea o e)) ∧ Below w.heap.size w w' := by
  have hrf : Below w.heap.size w w := Below.refl _ _
  have k0 : w.cell? ⟨h, 0, none⟩ = some (.string e.id) := H.ev.c0
  have k1 : w.cell? ⟨h, 1, none⟩ = some (.string e.sd) := H.ev.c1
  have k2 : w.cell? ⟨h, 2, none⟩ = some (.string e.ty) := H.ev.c2
  have k3 : w.cell? ⟨h, 3, none⟩ = some (.bool e.st) := H.ev.c3
  have k4 : w.cell? ⟨h, 4, none⟩ = some (.string e.key) := H.ev.c4
  have k5 : w.cell? ⟨h, 5, none⟩ = some (.int .i64 e.tm) := H.ev.c5
  have k6 : w.cell? ⟨h, 6, none⟩ = some (.slice pa e.np cp) := H.ev.c6
  have k7 : w.cell? ⟨h, 7, none⟩ = some (.slice aa e.na ca) := H.ev.c7
  have k8 : w.cell? ⟨h, 8, none⟩ = some (.string e.val) := H.ev.c8
  have k9 : w.cell? ⟨h, 9, none⟩ = some (.slice ga e.ng cg) := H.ev.c9
  have hlt := H.lt
  cases hmj : (isMb e && isLea e.val)
  case false =>
    have Hz : Hid (rLea o e = (0, false)) := by unfold Hid rLea; rw [hmj]; rfl
    have HB := isM_t pa cp aa ca ga cg (t := tLea) (b := false) (by rw [isM_lea]; exact hmj) w
    clear H hmj
    go_enter Tryz.func104, Tryz.ntmps104
    go_wp2_with fail
    refine wp_region_held_drew (S := fun W => W.cell? ⟨h, 0, none⟩ = some (.string e.id) ∧ W.cell? ⟨h, 1, none⟩ = some (.string e.sd) ∧ W.cell? ⟨h, 2, none⟩ = some (.string e.ty) ∧ W.cell? ⟨h, 3, none⟩ = some (.bool e.st) ∧ W.cell? ⟨h, 4, none⟩ = some (.string e.key) ∧ W.cell? ⟨h, 5, none⟩ = some (.int .i64 e.tm) ∧ W.cell? ⟨h, 6, none⟩ = some (.slice pa e.np cp) ∧ W.cell? ⟨h, 7, none⟩ = some (.slice aa e.na ca) ∧ W.cell? ⟨h, 8, none⟩ = some (.string e.val) ∧ W.cell? ⟨h, 9, none⟩ = some (.slice ga e.ng cg)) (by kernel_rfl) ?_ (fun hHeld => ?_)
    · (try dsimp only); first | (with_reducible exact ⟨k0, k1, k2, k3, k4, k5, k6, k7, k8, k9⟩) | go_keep
    refine wpAnyH_take (i := 0) (v := ?v0) rfl (by kernel_rfl) (by kernel_rfl) (by kernel_rfl) (fun _ _ _ h => h) (Or.inl ⟨by rfl, ?hy0⟩) (by assumption) ?_
    case hy0 => (intro w hSw; (try dsimp only at hSw); go_simp; try (with_reducible rfl))
    simp only [Act.put, List.getElem_toArray, List.getElem_cons_zero, List.setIfInBounds_toArray, List.set_cons_zero, List.set_cons_succ]
    refine wpAnyH_take (i := 1) (v := ?v1) rfl (by kernel_rfl) (by kernel_rfl) (by kernel_rfl) (fun _ _ _ h => h) (Or.inl ⟨by rfl, ?hy1⟩) (by assumption) ?_
    case hy1 => (intro w hSw; (try dsimp only at hSw); go_simp; try (with_reducible rfl))
    simp only [Act.put, List.getElem_toArray, List.getElem_cons_zero, List.getElem_cons_succ, List.setIfInBounds_toArray, List.set_cons_zero, List.set_cons_succ]
    refine wpAnyH_take (i := 2) (v := ?v2) rfl (by kernel_rfl) (by kernel_rfl) (by kernel_rfl) (fun _ _ _ h => h) (Or.inl ⟨by rfl, ?hy2⟩) (by assumption) ?_
    case hy2 => (intro w hSw; (try dsimp only at hSw); go_simp; try (with_reducible rfl))
    simp only [Act.put, List.getElem_toArray, List.getElem_cons_zero, List.getElem_cons_succ, List.setIfInBounds_toArray, List.set_cons_zero, List.set_cons_succ]
    refine wpAnyH_take (i := 3) (v := ?v3) rfl (by kernel_rfl) (by kernel_rfl) (by kernel_rfl) (fun _ _ _ h => h) (Or.inl ⟨by rfl, ?hy3⟩) (by assumption) ?_
    case hy3 => (intro w hSw; (try dsimp only at hSw); go_simp; try (with_reducible rfl))
    simp only [Act.put, List.getElem_toArray, List.getElem_cons_zero, List.getElem_cons_succ, List.setIfInBounds_toArray, List.set_cons_zero, List.set_cons_succ]
    refine wpAnyH_ready (rs := [4]) (by kernel_rfl) (by simp) ?_
    refine AllReadyH.cons rfl (fun K hK => ?_) AllReadyH.nil
    go_simp
    go_at_call 68; refine (HB.out _ (by first | with_reducible exact hrf | with_reducible exact hrf.drew | with_reducible exact hrf.drew.drew | with_reducible exact hrf.drew.drew.drew | with_reducible exact hrf.drew.drew.drew.drew | with_reducible exact hrf.drew.drew.drew.drew.drew)).mono ?_; rintro x w2 ⟨rfl, hb2⟩; have q0 := (hb2.cell (by exact hlt)).trans k0; have q1 := (hb2.cell (by exact hlt)).trans k1; have q2 := (hb2.cell (by exact hlt)).trans k2; have q3 := (hb2.cell (by exact hlt)).trans k3; have q4 := (hb2.cell (by exact hlt)).trans k4; have q5 := (hb2.cell (by exact hlt)).trans k5; have q6 := (hb2.cell (by exact hlt)).trans k6; have q7 := (hb2.cell (by exact hlt)).trans k7; have q8 := (hb2.cell (by exact hlt)).trans k8; have q9 := (hb2.cell (by exact hlt)).trans k9
    try go_wp2_with fail
    refine hK.out _ _ ?_ (fun hHeld => ?_)
    · (try dsimp only); first | (with_reducible exact ⟨q0, q1, q2, q3, q4, q5, q6, q7, q8, q9⟩) | go_keep
    clear hK K
    try simp only [Act.put, List.getElem_toArray, List.getElem_cons_zero, List.getElem_cons_succ, List.setIfInBounds_toArray, List.set_cons_zero, List.set_cons_succ]
    refine wpAnyH_take (i := 5) (v := ?v5) rfl (by kernel_rfl) (by kernel_rfl) (by kernel_rfl) (fun _ _ _ h => h) (Or.inl ⟨by rfl, ?hy5⟩) (by assumption) ?_
    case hy5 => (intro w hSw; (try dsimp only at hSw); go_simp; try (with_reducible rfl))
    simp only [Act.put, List.getElem_toArray, List.getElem_cons_zero, List.getElem_cons_succ, List.setIfInBounds_toArray, List.set_cons_zero, List.set_cons_succ]
    refine wpAnyH_take (i := 6) (v := ?v6) rfl (by kernel_rfl) (by kernel_rfl) (by kernel_rfl) (fun _ _ _ h => h) (Or.inl ⟨by rfl, ?hy6⟩) (by assumption) ?_
    case hy6 => (intro w hSw; (try dsimp only at hSw); go_simp; try (with_reducible rfl))
    simp only [Act.put, List.getElem_toArray, List.getElem_cons_zero, List.getElem_cons_succ, List.setIfInBounds_toArray, List.set_cons_zero, List.set_cons_succ]
    refine wpAnyH_take (i := 7) (v := undef) rfl (by kernel_rfl) (by kernel_rfl) (by kernel_rfl) (fun _ _ _ h => h) (Or.inr ⟨by rfl, rfl⟩) (by assumption) ?_
    simp only [Act.put, List.getElem_toArray, List.getElem_cons_zero, List.getElem_cons_succ, List.setIfInBounds_toArray, List.set_cons_zero, List.set_cons_succ]
    refine wpAnyH_take (i := 8) (v := undef) rfl (by kernel_rfl) (by kernel_rfl) (by kernel_rfl) (fun _ _ _ h => h) (Or.inr ⟨by rfl, rfl⟩) (by assumption) ?_
    simp only [Act.put, List.getElem_toArray, List.getElem_cons_zero, List.getElem_cons_succ, List.setIfInBounds_toArray, List.set_cons_zero, List.set_cons_succ]
    refine wpAnyH_take (i := 9) (v := undef) rfl (by kernel_rfl) (by kernel_rfl) (by kernel_rfl) (fun _ _ _ h => h) (Or.inr ⟨by rfl, rfl⟩) (by assumption) ?_
    simp only [Act.put, List.getElem_toArray, List.getElem_cons_zero, List.getElem_cons_succ, List.setIfInBounds_toArray, List.set_cons_zero, List.set_cons_succ]
    refine wpAnyH_take (i := 10) (v := undef) rfl (by kernel_rfl) (by kernel_rfl) (by kernel_rfl) (fun _ _ _ h => h) (Or.inr ⟨by rfl, rfl⟩) (by assumption) ?_
    simp only [Act.put, List.getElem_toArray, List.getElem_cons_zero, List.getElem_cons_succ, List.setIfInBounds_toArray, List.set_cons_zero, List.set_cons_succ]
    refine wpAnyH_take (i := 11) (v := undef) rfl (by kernel_rfl) (by kernel_rfl) (by kernel_rfl) (fun _ _ _ h => h) (Or.inr ⟨by rfl, rfl⟩) (by assumption) ?_
    simp only [Act.put, List.getElem_toArray, List.getElem_cons_zero, List.getElem_cons_succ, List.setIfInBounds_toArray, List.set_cons_zero, List.set_cons_succ]
    refine wpAnyH_take (i := 12) (v := undef) rfl (by kernel_rfl) (by kernel_rfl) (by kernel_rfl) (fun _ _ _ h => h) (Or.inr ⟨by rfl, rfl⟩) (by assumption) ?_
    simp only [Act.put, List.getElem_toArray, List.getElem_cons_zero, List.getElem_cons_succ, List.setIfInBounds_toArray, List.set_cons_zero, List.set_cons_succ]
    refine wpAnyH_take (i := 13) (v := undef) rfl (by kernel_rfl) (by kernel_rfl) (by kernel_rfl) (fun _ _ _ h => h) (Or.inr ⟨by rfl, rfl⟩) (by assumption) ?_
    simp only [Act.put, List.getElem_toArray, List.getElem_cons_zero, List.getElem_cons_succ, List.setIfInBounds_toArray, List.set_cons_zero, List.set_cons_succ]
    refine wpAnyH_take (i := 14) (v := undef) rfl (by kernel_rfl) (by kernel_rfl) (by kernel_rfl) (fun _ _ _ h => h) (Or.inr ⟨by rfl, rfl⟩) (by assumption) ?_
    simp only [Act.put, List.getElem_toArray, List.getElem_cons_zero, List.getElem_cons_succ, List.setIfInBounds_toArray, List.set_cons_zero, List.set_cons_succ]
    refine wpAnyH_take (i := 15) (v := undef) rfl (by kernel_rfl) (by kernel_rfl) (by kernel_rfl) (fun _ _ _ h => h) (Or.inr ⟨by rfl, rfl⟩) (by assumption) ?_
    simp only [Act.put, List.getElem_toArray, List.getElem_cons_zero, List.getElem_cons_succ, List.setIfInBounds_toArray, List.set_cons_zero, List.set_cons_succ]
    refine wpAnyH_take (i := 16) (v := undef) rfl (by kernel_rfl) (by kernel_rfl) (by kernel_rfl) (fun _ _ _ h => h) (Or.inr ⟨by rfl, rfl⟩) (by assumption) ?_
    simp only [Act.put, List.getElem_toArray, List.getElem_cons_zero, List.getElem_cons_succ, List.setIfInBounds_toArray, List.set_cons_zero, List.set_cons_succ]
    refine wpAnyH_take (i := 17) (v := undef) rfl (by kernel_rfl) (by kernel_rfl) (by kernel_rfl) (fun _ _ _ h => h) (Or.inr ⟨by rfl, rfl⟩) (by assumption) ?_
    simp only [Act.put, List.getElem_toArray, List.getElem_cons_zero, List.getElem_cons_succ, List.setIfInBounds_toArray, List.set_cons_zero, List.set_cons_succ]
    refine wpAnyH_take (i := 18) (v := ?v18) rfl (by kernel_rfl) (by kernel_rfl) (by kernel_rfl) (fun _ _ _ h => h) (Or.inl ⟨by rfl, ?hy18⟩) (by assumption) ?_
    case hy18 => (intro w hSw; (try dsimp only at hSw); go_simp; try (with_reducible rfl))
    simp only [Act.put, List.getElem_toArray, List.getElem_cons_zero, List.getElem_cons_succ, List.setIfInBounds_toArray, List.set_cons_zero, List.set_cons_succ]
    refine wpAnyH_done (by kernel_rfl) ?_ _
    all_goals
      go_wp2
      go_ret2
      exact ⟨ret_r Hz.out, (by first | with_reducible exact hb2 | with_reducible exact hb2.drew | with_reducible exact hb2.drew.drew | with_reducible exact hb2.drew.drew.drew | with_reducible exact hb2.drew.drew.drew.drew | with_reducible exact hb2.drew.drew.drew.drew.drew)⟩
  case true =>
    have hm : isMb e = true := by
      cases h1 : isMb e
      · rw [h1] at hmj; cases hmj
      · rfl
    have HB := isM_t pa cp aa ca ga cg (t := tLea) (b := true) (by rw [isM_lea]; exact hmj) w
    have HX : Hid (∀ W, Below w.heap.size w W → Calls Tryz.prog 130 #[.pointer (some ⟨h, 0, none⟩)] W fun x w' => x = .returned (.bool (expB (memO o e.key))) ∧ Below w.heap.size w w') := fun W hW => (expI W (H.below hW) hm).mono fun _ _ ⟨h1, h2⟩ => ⟨h1, hW.trans (h2.mono hW.size)⟩
    have HJ : Hid (rLea o e = if (e.sd.toList == e.key.toList) then (if expB (memO o e.key) then 0 else 10, true) else (0, false)) := by unfold Hid rLea; rw [hmj]; rfl
    clear H hmj hm
    generalize rLea o e = r at *
    generalize expB (memO o e.key) = x1 at *
    cases hsk : (e.sd.toList == e.key.toList)
    case false =>
      have Hz : Hid (r = (0, false)) := by unfold Hid; rw [HJ.out, hsk]; rfl
      clear HJ HX
      go_enter Tryz.func104, Tryz.ntmps104
      go_wp2_with fail
      first
        | (go_region_held3 (fun W => W.cell? ⟨h, 0, none⟩ = some (.string e.id) ∧ W.cell? ⟨h, 1, none⟩ = some (.string e.sd) ∧ W.cell? ⟨h, 2, none⟩ = some (.string e.ty) ∧ W.cell? ⟨h, 3, none⟩ = some (.bool e.st) ∧ W.cell? ⟨h, 4, none⟩ = some (.string e.key) ∧ W.cell? ⟨h, 5, none⟩ = some (.int .i64 e.tm) ∧ W.cell? ⟨h, 6, none⟩ = some (.slice pa e.np cp) ∧ W.cell? ⟨h, 7, none⟩ = some (.slice aa e.na ca) ∧ W.cell? ⟨h, 8, none⟩ = some (.string e.val) ∧ W.cell? ⟨h, 9, none⟩ = some (.slice ga e.ng cg)) (first | (with_reducible exact ⟨k0, k1, k2, k3, k4, k5, k6, k7, k8, k9⟩) | go_keep)
            (first | (go_at_call 68; refine (HB.out _ (by first | with_reducible exact hrf | with_reducible exact hrf.drew | with_reducible exact hrf.drew.drew | with_reducible exact hrf.drew.drew.drew | with_reducible exact hrf.drew.drew.drew.drew | with_reducible exact hrf.drew.drew.drew.drew.drew)).mono ?_; rintro x w2 ⟨rfl, hb2⟩; have q0 := (hb2.cell (by exact hlt)).trans k0; have q1 := (hb2.cell (by exact hlt)).trans k1; have q2 := (hb2.cell (by exact hlt)).trans k2; have q3 := (hb2.cell (by exact hlt)).trans k3; have q4 := (hb2.cell (by exact hlt)).trans k4; have q5 := (hb2.cell (by exact hlt)).trans k5; have q6 := (hb2.cell (by exact hlt)).trans k6; have q7 := (hb2.cell (by exact hlt)).trans k7; have q8 := (hb2.cell (by exact hlt)).trans k8; have q9 := (hb2.cell (by exact hlt)).trans k9)))
        | fail
      all_goals
        go_wp2
        go_ret2
        exact ⟨ret_r Hz.out, (by first | with_reducible exact hb2 | with_reducible exact hb2.drew | with_reducible exact hb2.drew.drew | with_reducible exact hb2.drew.drew.drew | with_reducible exact hb2.drew.drew.drew.drew | with_reducible exact hb2.drew.drew.drew.drew.drew)⟩
    case true =>
      rw [hsk] at HJ
      go_enter Tryz.func104, Tryz.ntmps104
      go_wp2_with fail
      go_cut [22] (fun v wx => v = .bool false ∧ Below w.heap.size w wx)
      case first =>
        first
          | (go_region_held3 (fun W => W.cell? ⟨h, 0, none⟩ = some (.string e.id) ∧ W.cell? ⟨h, 1, none⟩ = some (.string e.sd) ∧ W.cell? ⟨h, 2, none⟩ = some (.string e.ty) ∧ W.cell? ⟨h, 3, none⟩ = some (.bool e.st) ∧ W.cell? ⟨h, 4, none⟩ = some (.string e.key) ∧ W.cell? ⟨h, 5, none⟩ = some (.int .i64 e.tm) ∧ W.cell? ⟨h, 6, none⟩ = some (.slice pa e.np cp) ∧ W.cell? ⟨h, 7, none⟩ = some (.slice aa e.na ca) ∧ W.cell? ⟨h, 8, none⟩ = some (.string e.val) ∧ W.cell? ⟨h, 9, none⟩ = some (.slice ga e.ng cg)) (first | (with_reducible exact ⟨k0, k1, k2, k3, k4, k5, k6, k7, k8, k9⟩) | go_keep)
              (first | (go_at_call 68; refine (HB.out _ (by first | with_reducible exact hrf | with_reducible exact hrf.drew | with_reducible exact hrf.drew.drew | with_reducible exact hrf.drew.drew.drew | with_reducible exact hrf.drew.drew.drew.drew | with_reducible exact hrf.drew.drew.drew.drew.drew)).mono ?_; rintro x w2 ⟨rfl, hb2⟩; have q0 := (hb2.cell (by exact hlt)).trans k0; have q1 := (hb2.cell (by exact hlt)).trans k1; have q2 := (hb2.cell (by exact hlt)).trans k2; have q3 := (hb2.cell (by exact hlt)).trans k3; have q4 := (hb2.cell (by exact hlt)).trans k4; have q5 := (hb2.cell (by exact hlt)).trans k5; have q6 := (hb2.cell (by exact hlt)).trans k6; have q7 := (hb2.cell (by exact hlt)).trans k7; have q8 := (hb2.cell (by exact hlt)).trans k8; have q9 := (hb2.cell (by exact hlt)).trans k9)))
          | fail
        all_goals (try go_wp2_with fail)
        all_goals go_meet
        all_goals exact ⟨rfl, (by first | with_reducible exact hb2 | with_reducible exact hb2.drew | with_reducible exact hb2.drew.drew | with_reducible exact hb2.drew.drew.drew | with_reducible exact hb2.drew.drew.drew.drew | with_reducible exact hb2.drew.drew.drew.drew.drew)⟩
      case rest =>
        obtain ⟨rfl, hb2⟩ := hcut
        obtain ⟨w2, hw2⟩ : ∃ w2 : World, w2 = wc := ⟨_, rfl⟩
        subst hw2
        cases x1
        all_goals
          go_wp2_with fail
          refine (HX.out _ hb2).mono ?_
          rintro x w4 ⟨rfl, hb4⟩
          go_wp2
          go_ret2
          exact ⟨ret_r (by rw [HJ.out]; rfl), hb4⟩
end Go.Proofs.YtnkpikknkooblaaGreat
