import Derived.Test.YtnkpikknkooblaaGreatHrAB
/-
  impl's rules: inviting, overKey, banning, removing, underLevel.
-/
namespace Go.Proofs.YtnkpikknkooblaaGreat
open Go.RowKit Go.Maps Go.ChangeMaps

theorem Hr.thing {w : World} {h mb c : Nat} {F : Ent → Value} {oc op : Option Addr} {o : View} {e : Ev} {pa : Option Addr} {cp : Nat} {aa : Option Addr} {ca : Nat} {ga : Option Addr} {cg : Nat} (H : Hr w h mb c F oc op o e pa cp aa ca ga cg) (t : ByteArray) (ht : t.size ≤ 1000) : Hid (∀ W, Below w.heap.size w W → Calls Tryz.prog 133 #[.agg #[.pointer oc, .pointer op], .string t] W fun x w' => x = .returned (.int .i64 (tgV o t)) ∧ Below w.heap.size w w') := fun W hW => (fth_o t ht W (H.lev.below hW)).mono fun _ _ ⟨h1, h2⟩ => ⟨h1, hW.trans (h2.mono hW.size)⟩

set_option maxRecDepth 100000 in
set_option maxHeartbeats 1000000 in
theorem ovkI {h mb c : Nat} {F : Ent → Value} {oc op : Option Addr} {o : View} {e : Ev} {pa : Option Addr} {cp : Nat} {aa : Option Addr} {ca : Nat} {ga : Option Addr} {cg : Nat} (w : World) (H : Hr w h mb c F oc op o e pa cp aa ca ga cg) :
    Calls Tryz.prog 134 #[.pointer (some ⟨h, 0, none⟩)] w fun x w' => x = .returned (.int .i64 (ovK o e)) ∧ Below w.heap.size w w' := by
  have hrf : Below w.heap.size w w := Below.refl _ _
  have k4 : w.cell? ⟨h, 4, none⟩ = some (.string e.key) := H.ev.c4
  have k11 : w.cell? ⟨h, 11, none⟩ = some (.pointer oc) := H.c11
  have k12 : w.cell? ⟨h, 12, none⟩ = some (.pointer op) := H.c12
  have k13 : w.cell? ⟨h, 13, none⟩ = some (.int .i64 (lvO o e.sd)) := H.c13
  have hlt := H.lt
  have HU : Hid (∀ W, Below w.heap.size w W → Calls Tryz.prog 66 #[.agg #[.pointer oc, .pointer op], .string e.key] W fun x w' => x = .returned (.int .i64 (lvO o e.key)) ∧ Below w.heap.size w w') := fun W hW => (ofU_o e.key W (H.lev.below hW)).mono fun _ _ ⟨h1, h2⟩ => ⟨h1, hW.trans (h2.mono hW.size)⟩
  have Hz : Hid (ovK o e = if lvO o e.sd ≤ lvO o e.key then 9 else 0) := rfl
  clear H
  generalize ovK o e = r at *
  generalize lvO o e.sd = a at *
  generalize lvO o e.key = b at *
  go_enter Tryz.func134, Tryz.ntmps134
  go_wp2_with fail
  go_cut [17] (fun v wx => v = .bool (decide (a ≤ b)) ∧ Below w.heap.size w wx)
  case first =>
    go_region_held3 (fun W => W.cell? ⟨h, 11, none⟩ = some (.pointer oc) ∧ W.cell? ⟨h, 12, none⟩ = some (.pointer op) ∧ W.cell? ⟨h, 4, none⟩ = some (.string e.key) ∧ W.cell? ⟨h, 13, none⟩ = some (.int .i64 a)) (first | (with_reducible exact ⟨k11, k12, k4, k13⟩) | go_keep)
      (first | (go_at_call 66; refine (HU.out _ (by first | with_reducible exact hrf | with_reducible exact hrf.drew | with_reducible exact hrf.drew.drew | with_reducible exact hrf.drew.drew.drew | with_reducible exact hrf.drew.drew.drew.drew | with_reducible exact hrf.drew.drew.drew.drew.drew)).mono ?_; rintro x w2 ⟨rfl, hb2⟩; have q11 := (hb2.cell (by exact hlt)).trans k11; have q12 := (hb2.cell (by exact hlt)).trans k12; have q4 := (hb2.cell (by exact hlt)).trans k4; have q13 := (hb2.cell (by exact hlt)).trans k13))
    all_goals (try go_wp2_with fail)
    all_goals go_meet
    all_goals exact ⟨rfl, (by first | with_reducible exact hb2 | with_reducible exact hb2.drew | with_reducible exact hb2.drew.drew | with_reducible exact hb2.drew.drew.drew | with_reducible exact hb2.drew.drew.drew.drew | with_reducible exact hb2.drew.drew.drew.drew.drew)⟩
  case rest =>
    obtain ⟨rfl, hb2⟩ := hcut
    obtain ⟨w2, hw2⟩ : ∃ w2 : World, w2 = wc := ⟨_, rfl⟩
    subst hw2
    cases hd : decide (a ≤ b)
    · have Hy : Hid (r = 0) := by unfold Hid; rw [Hz.out, if_neg (of_decide_eq_false hd)]
      clear Hz
      go_wp2
      go_ret
      exact ⟨ret_int Hy.out.symm, hb2⟩
    · have Hy : Hid (r = 9) := by unfold Hid; rw [Hz.out, if_pos (of_decide_eq_true hd)]
      clear Hz
      go_wp2
      go_ret
      exact ⟨ret_int Hy.out.symm, hb2⟩

set_option maxRecDepth 100000 in
set_option maxHeartbeats 2000000 in
theorem invI {h mb c : Nat} {F : Ent → Value} {oc op : Option Addr} {o : View} {e : Ev} {pa : Option Addr} {cp : Nat} {aa : Option Addr} {ca : Nat} {ga : Option Addr} {cg : Nat} (w : World) (H : Hr w h mb c F oc op o e pa cp aa ca ga cg) :
    Calls Tryz.prog 106 #[.pointer (some ⟨h, 0, none⟩)] w fun x w' => x = .returned (rAns (rInv o e)) ∧ Below w.heap.size w w' := by
  have hrf : Below w.heap.size w w := Below.refl _ _
  have k0 : w.cell? ⟨h, 0, none⟩ = some (.string e.id) := H.ev.c0
  have k1 : w.cell? ⟨h, 1, none⟩ = some (.string e.sd) := H.ev.c1
  have k2 : w.cell? ⟨h, 2, none⟩ = some (.string e.ty) := H.ev.c2
  have k3 : w.cell? ⟨h, 3, none⟩ = some (.bool e.st) := H.ev.c3
  have k4 : w.cell? ⟨h, 4, none⟩ = some (.string e.key) := H.ev.c4
  have k5 : w.cell? ⟨h, 5, none⟩ = some (.int .i64 e.tm) := H.ev.c5
  have k6 : w.cell? ⟨h, 6, none⟩ = some (.slice pa e.np cp) := H.ev.c6
  have k7 : w.cell? ⟨h, 7, none⟩ = some (.slice aa e.na ca) := H.ev.c7
  have k8 : w.cell? ⟨h, 8, none⟩ = some (.string e.val) := H.ev.c8
  have k9 : w.cell? ⟨h, 9, none⟩ = some (.slice ga e.ng cg) := H.ev.c9
  have k10 : w.cell? ⟨h, 10, none⟩ = some (.map (some mb)) := H.c10
  have k11 : w.cell? ⟨h, 11, none⟩ = some (.pointer oc) := H.c11
  have k12 : w.cell? ⟨h, 12, none⟩ = some (.pointer op) := H.c12
  have k13 : w.cell? ⟨h, 13, none⟩ = some (.int .i64 (lvO o e.sd)) := H.c13
  have hlt := H.lt
  cases hmj : (isMb e && isInv e.val)
  case false =>
    have Hz : Hid (rInv o e = (0, false)) := by unfold Hid rInv; rw [hmj]; rfl
    have HB := isM_t pa cp aa ca ga cg (t := tInv) (b := false) (by rw [isM_inv]; exact hmj) w
    clear H hmj
    go_enter Tryz.func106, Tryz.ntmps106
    go_wp2_with fail
    refine (HB.out _ hrf).mono ?_
    rintro x w1 ⟨rfl, hb1⟩
    go_wp2
    go_ret2
    exact ⟨ret_r Hz.out, hb1⟩
  case true =>
    have hm : isMb e = true := by
      cases h1 : isMb e
      · rw [h1] at hmj; cases hmj
      · rfl
    have HB := isM_t pa cp aa ca ga cg (t := tInv) (b := true) (by rw [isM_inv]; exact hmj) w
    have HM := H.memK hm
    have HT := H.thing tInv (by decide)
    have HJ : Hid (rInv o e = (if isJoin (memO o e.key) || isBan (memO o e.key) then 7 else if lvO o e.sd < tgV o tInv then 8 else 0, true)) := by unfold Hid rInv; rw [hmj]; rfl
    clear H hmj hm
    generalize rInv o e = r at *
    generalize memO o e.key = t at *
    generalize lvO o e.sd = a at *
    generalize tgV o tInv = b at *
    go_enter Tryz.func106, Tryz.ntmps106
    go_wp2_with fail
    refine (HB.out _ hrf).mono ?_
    rintro x w1 ⟨rfl, hb1⟩
    have q4 := (hb1.cell (by exact hlt)).trans k4; have q10 := (hb1.cell (by exact hlt)).trans k10
    clear HB
    go_wp2_with fail
    go_cut [4] (fun v wx => v = .string t ∧ Below w.heap.size w wx)
    case first =>
      go_region_held3 (fun W => W.cell? ⟨h, 10, none⟩ = some (.map (some mb)) ∧ W.cell? ⟨h, 4, none⟩ = some (.string e.key)) (first | (with_reducible exact ⟨q10, q4⟩) | go_keep)
        (first | (go_at_call 129; refine (HM.out _ (by first | with_reducible exact hb1 | with_reducible exact hb1.drew | with_reducible exact hb1.drew.drew | with_reducible exact hb1.drew.drew.drew | with_reducible exact hb1.drew.drew.drew.drew | with_reducible exact hb1.drew.drew.drew.drew.drew)).mono ?_; rintro x w2 ⟨rfl, hb2⟩; have s10 := (hb2.cell (by exact hlt)).trans k10; have s4 := (hb2.cell (by exact hlt)).trans k4))
      all_goals (try go_wp2_with fail)
      all_goals go_meet
      all_goals exact ⟨rfl, (by first | with_reducible exact hb2 | with_reducible exact hb2.drew | with_reducible exact hb2.drew.drew | with_reducible exact hb2.drew.drew.drew | with_reducible exact hb2.drew.drew.drew.drew | with_reducible exact hb2.drew.drew.drew.drew.drew)⟩
    case rest =>
      obtain ⟨rfl, hb2⟩ := hcut
      obtain ⟨w2, hw2⟩ : ∃ w2 : World, w2 = wc := ⟨_, rfl⟩
      subst hw2
      clear HM
      cases hjo : isJoin t
      case true =>
        have Hz : Hid (r = (7, true)) := by unfold Hid; rw [HJ.out, hjo]; rfl
        unfold isJoin at hjo
        clear HJ
        go_wp2
        go_ret2
        exact ⟨ret_r Hz.out, hb2⟩
      case false =>
        cases hbn : isBan t
        case true =>
          have Hz : Hid (r = (7, true)) := by unfold Hid; rw [HJ.out, hjo, hbn]; rfl
          unfold isJoin at hjo
          unfold isBan at hbn
          clear HJ
          go_wp2
          go_ret2
          exact ⟨ret_r Hz.out, hb2⟩
        case false =>
          have Hz : Hid (r = (if a < b then 8 else 0, true)) := by unfold Hid; rw [HJ.out, hjo, hbn]; rfl
          unfold isJoin at hjo
          unfold isBan at hbn
          clear HJ
          have s11 := (hb2.cell (by exact hlt)).trans k11; have s12 := (hb2.cell (by exact hlt)).trans k12; have s13 := (hb2.cell (by exact hlt)).trans k13
          go_wp2_with fail
          go_cut [36] (fun v wx => v = .bool (decide (a < b)) ∧ Below w.heap.size w wx)
          case first =>
            go_region_held3 (fun W => W.cell? ⟨h, 11, none⟩ = some (.pointer oc) ∧ W.cell? ⟨h, 12, none⟩ = some (.pointer op) ∧ W.cell? ⟨h, 13, none⟩ = some (.int .i64 a)) (first | (with_reducible exact ⟨s11, s12, s13⟩) | go_keep)
              (first | (go_at_call 133; refine (HT.out _ (by first | with_reducible exact hb2 | with_reducible exact hb2.drew | with_reducible exact hb2.drew.drew | with_reducible exact hb2.drew.drew.drew | with_reducible exact hb2.drew.drew.drew.drew | with_reducible exact hb2.drew.drew.drew.drew.drew)).mono ?_; rintro x w3 ⟨rfl, hb3⟩; have u11 := (hb3.cell (by exact hlt)).trans k11; have u12 := (hb3.cell (by exact hlt)).trans k12; have u13 := (hb3.cell (by exact hlt)).trans k13))
            all_goals (try go_wp2_with fail)
            all_goals go_meet
            all_goals exact ⟨rfl, (by first | with_reducible exact hb3 | with_reducible exact hb3.drew | with_reducible exact hb3.drew.drew | with_reducible exact hb3.drew.drew.drew | with_reducible exact hb3.drew.drew.drew.drew | with_reducible exact hb3.drew.drew.drew.drew.drew)⟩
          case rest =>
            obtain ⟨rfl, hb3⟩ := hcut
            obtain ⟨w3, hw3⟩ : ∃ w3 : World, w3 = wc := ⟨_, rfl⟩
            subst hw3
            cases hd : decide (a < b)
            · have Hy : Hid (r = (0, true)) := by unfold Hid; rw [Hz.out, if_neg (of_decide_eq_false hd)]
              clear Hz
              go_wp2
              go_ret2
              exact ⟨ret_r Hy.out, hb3⟩
            · have Hy : Hid (r = (8, true)) := by unfold Hid; rw [Hz.out, if_pos (of_decide_eq_true hd)]
              clear Hz
              go_wp2
              go_ret2
              exact ⟨ret_r Hy.out, hb3⟩

set_option maxRecDepth 100000 in
set_option maxHeartbeats 2000000 in
theorem banI {h mb c : Nat} {F : Ent → Value} {oc op : Option Addr} {o : View} {e : Ev} {pa : Option Addr} {cp : Nat} {aa : Option Addr} {ca : Nat} {ga : Option Addr} {cg : Nat} (w : World) (H : Hr w h mb c F oc op o e pa cp aa ca ga cg) :
    Calls Tryz.prog 107 #[.pointer (some ⟨h, 0, none⟩)] w fun x w' => x = .returned (rAns (rBan o e)) ∧ Below w.heap.size w w' := by
  have hrf : Below w.heap.size w w := Below.refl _ _
  have k0 : w.cell? ⟨h, 0, none⟩ = some (.string e.id) := H.ev.c0
  have k1 : w.cell? ⟨h, 1, none⟩ = some (.string e.sd) := H.ev.c1
  have k2 : w.cell? ⟨h, 2, none⟩ = some (.string e.ty) := H.ev.c2
  have k3 : w.cell? ⟨h, 3, none⟩ = some (.bool e.st) := H.ev.c3
  have k4 : w.cell? ⟨h, 4, none⟩ = some (.string e.key) := H.ev.c4
  have k5 : w.cell? ⟨h, 5, none⟩ = some (.int .i64 e.tm) := H.ev.c5
  have k6 : w.cell? ⟨h, 6, none⟩ = some (.slice pa e.np cp) := H.ev.c6
  have k7 : w.cell? ⟨h, 7, none⟩ = some (.slice aa e.na ca) := H.ev.c7
  have k8 : w.cell? ⟨h, 8, none⟩ = some (.string e.val) := H.ev.c8
  have k9 : w.cell? ⟨h, 9, none⟩ = some (.slice ga e.ng cg) := H.ev.c9
  have k10 : w.cell? ⟨h, 10, none⟩ = some (.map (some mb)) := H.c10
  have k11 : w.cell? ⟨h, 11, none⟩ = some (.pointer oc) := H.c11
  have k12 : w.cell? ⟨h, 12, none⟩ = some (.pointer op) := H.c12
  have k13 : w.cell? ⟨h, 13, none⟩ = some (.int .i64 (lvO o e.sd)) := H.c13
  have hlt := H.lt
  cases hmj : (isMb e && isBan e.val)
  case false =>
    have Hz : Hid (rBan o e = (0, false)) := by unfold Hid rBan; rw [hmj]; rfl
    have HB := isM_t pa cp aa ca ga cg (t := tBan) (b := false) (by rw [isM_ban]; exact hmj) w
    clear H hmj
    go_enter Tryz.func107, Tryz.ntmps107
    go_wp2_with fail
    refine (HB.out _ hrf).mono ?_
    rintro x w1 ⟨rfl, hb1⟩
    go_wp2
    go_ret2
    exact ⟨ret_r Hz.out, hb1⟩
  case true =>
    have HB := isM_t pa cp aa ca ga cg (t := tBan) (b := true) (by rw [isM_ban]; exact hmj) w
    have HT := H.thing tBan (by decide)
    have HO : Hid (∀ W, Below w.heap.size w W → Calls Tryz.prog 134 #[.pointer (some ⟨h, 0, none⟩)] W fun x w' => x = .returned (.int .i64 (ovK o e)) ∧ Below w.heap.size w w') := fun W hW => (ovkI W (H.below hW)).mono fun _ _ ⟨h1, h2⟩ => ⟨h1, hW.trans (h2.mono hW.size)⟩
    have HJ : Hid (rBan o e = (if lvO o e.sd < tgV o tBan then 8 else ovK o e, true)) := by unfold Hid rBan; rw [hmj]; rfl
    clear H hmj
    generalize rBan o e = r at *
    generalize ovK o e = ov at *
    generalize lvO o e.sd = a at *
    generalize tgV o tBan = b at *
    go_enter Tryz.func107, Tryz.ntmps107
    go_wp2_with fail
    refine (HB.out _ hrf).mono ?_
    rintro x w1 ⟨rfl, hb1⟩
    have q11 := (hb1.cell (by exact hlt)).trans k11; have q12 := (hb1.cell (by exact hlt)).trans k12; have q13 := (hb1.cell (by exact hlt)).trans k13
    clear HB
    go_wp2_with fail
    go_cut [19] (fun v wx => v = .bool (decide (a < b)) ∧ Below w.heap.size w wx)
    case first =>
      go_region_held3 (fun W => W.cell? ⟨h, 11, none⟩ = some (.pointer oc) ∧ W.cell? ⟨h, 12, none⟩ = some (.pointer op) ∧ W.cell? ⟨h, 13, none⟩ = some (.int .i64 a)) (first | (with_reducible exact ⟨q11, q12, q13⟩) | go_keep)
        (first | (go_at_call 133; refine (HT.out _ (by first | with_reducible exact hb1 | with_reducible exact hb1.drew | with_reducible exact hb1.drew.drew | with_reducible exact hb1.drew.drew.drew | with_reducible exact hb1.drew.drew.drew.drew | with_reducible exact hb1.drew.drew.drew.drew.drew)).mono ?_; rintro x w3 ⟨rfl, hb3⟩; have u11 := (hb3.cell (by exact hlt)).trans k11; have u12 := (hb3.cell (by exact hlt)).trans k12; have u13 := (hb3.cell (by exact hlt)).trans k13))
      all_goals (try go_wp2_with fail)
      all_goals go_meet
      all_goals exact ⟨rfl, (by first | with_reducible exact hb3 | with_reducible exact hb3.drew | with_reducible exact hb3.drew.drew | with_reducible exact hb3.drew.drew.drew | with_reducible exact hb3.drew.drew.drew.drew | with_reducible exact hb3.drew.drew.drew.drew.drew)⟩
    case rest =>
      obtain ⟨rfl, hb3⟩ := hcut
      obtain ⟨w3, hw3⟩ : ∃ w3 : World, w3 = wc := ⟨_, rfl⟩
      subst hw3
      cases hd : decide (a < b)
      · have Hy : Hid (r = (ov, true)) := by unfold Hid; rw [HJ.out, if_neg (of_decide_eq_false hd)]
        clear HJ
        go_wp2_with fail
        refine (HO.out _ hb3).mono ?_
        rintro x w4 ⟨rfl, hb4⟩
        go_wp2
        go_ret2
        exact ⟨ret_r Hy.out, hb4⟩
      · have Hy : Hid (r = (8, true)) := by unfold Hid; rw [HJ.out, if_pos (of_decide_eq_true hd)]
        clear HJ
        go_wp2
        go_ret2
        exact ⟨ret_r Hy.out, hb3⟩

set_option maxRecDepth 100000 in
set_option maxHeartbeats 1000000 in
theorem undI {h mb c : Nat} {F : Ent → Value} {oc op : Option Addr} {o : View} {e : Ev} {pa : Option Addr} {cp : Nat} {aa : Option Addr} {ca : Nat} {ga : Option Addr} {cg : Nat} (w : World) (H : Hr w h mb c F oc op o e pa cp aa ca ga cg) (ht : e.ty.size ≤ 1000) :
    Calls Tryz.prog 109 #[.pointer (some ⟨h, 0, none⟩)] w fun x w' => x = .returned (rAns (rUnd o e)) ∧ Below w.heap.size w w' := by
  have hrf : Below w.heap.size w w := Below.refl _ _
  have k0 : w.cell? ⟨h, 0, none⟩ = some (.string e.id) := H.ev.c0
  have k1 : w.cell? ⟨h, 1, none⟩ = some (.string e.sd) := H.ev.c1
  have k2 : w.cell? ⟨h, 2, none⟩ = some (.string e.ty) := H.ev.c2
  have k3 : w.cell? ⟨h, 3, none⟩ = some (.bool e.st) := H.ev.c3
  have k4 : w.cell? ⟨h, 4, none⟩ = some (.string e.key) := H.ev.c4
  have k5 : w.cell? ⟨h, 5, none⟩ = some (.int .i64 e.tm) := H.ev.c5
  have k6 : w.cell? ⟨h, 6, none⟩ = some (.slice pa e.np cp) := H.ev.c6
  have k7 : w.cell? ⟨h, 7, none⟩ = some (.slice aa e.na ca) := H.ev.c7
  have k8 : w.cell? ⟨h, 8, none⟩ = some (.string e.val) := H.ev.c8
  have k9 : w.cell? ⟨h, 9, none⟩ = some (.slice ga e.ng cg) := H.ev.c9
  have k10 : w.cell? ⟨h, 10, none⟩ = some (.map (some mb)) := H.c10
  have k11 : w.cell? ⟨h, 11, none⟩ = some (.pointer oc) := H.c11
  have k12 : w.cell? ⟨h, 12, none⟩ = some (.pointer op) := H.c12
  have k13 : w.cell? ⟨h, 13, none⟩ = some (.int .i64 (lvO o e.sd)) := H.c13
  have hlt := H.lt
  have HV : Hid (∀ W, Below w.heap.size w W → Calls Tryz.prog 135 #[.agg #[.pointer oc, .pointer op], .agg #[.string e.id, .string e.sd, .string e.ty, .bool e.st, .string e.key, .int .i64 e.tm, .slice pa e.np cp, .slice aa e.na ca, .string e.val, .slice ga e.ng cg]] W fun x w' => x = .returned (.int .i64 (ndV o e)) ∧ Below w.heap.size w w') := fun W hW => (fev_o e pa cp aa ca ga cg ht W (H.lev.below hW)).mono fun _ _ ⟨h1, h2⟩ => ⟨h1, hW.trans (h2.mono hW.size)⟩
  have Hz : Hid (rUnd o e = (8, decide (lvO o e.sd < ndV o e))) := rfl
  clear H
  generalize rUnd o e = r at *
  generalize lvO o e.sd = a at *
  generalize ndV o e = b at *
  go_enter Tryz.func109, Tryz.ntmps109
  go_wp2_with fail
  go_region_held3 (fun W => W.cell? ⟨h, 0, none⟩ = some (.string e.id) ∧ W.cell? ⟨h, 1, none⟩ = some (.string e.sd) ∧ W.cell? ⟨h, 2, none⟩ = some (.string e.ty) ∧ W.cell? ⟨h, 3, none⟩ = some (.bool e.st) ∧ W.cell? ⟨h, 4, none⟩ = some (.string e.key) ∧ W.cell? ⟨h, 5, none⟩ = some (.int .i64 e.tm) ∧ W.cell? ⟨h, 6, none⟩ = some (.slice pa e.np cp) ∧ W.cell? ⟨h, 7, none⟩ = some (.slice aa e.na ca) ∧ W.cell? ⟨h, 8, none⟩ = some (.string e.val) ∧ W.cell? ⟨h, 9, none⟩ = some (.slice ga e.ng cg) ∧ W.cell? ⟨h, 11, none⟩ = some (.pointer oc) ∧ W.cell? ⟨h, 12, none⟩ = some (.pointer op) ∧ W.cell? ⟨h, 13, none⟩ = some (.int .i64 a)) (first | (with_reducible exact ⟨k0, k1, k2, k3, k4, k5, k6, k7, k8, k9, k11, k12, k13⟩) | go_keep)
    (first | (go_at_call 135; refine (HV.out _ (by first | with_reducible exact hrf | with_reducible exact hrf.drew | with_reducible exact hrf.drew.drew | with_reducible exact hrf.drew.drew.drew | with_reducible exact hrf.drew.drew.drew.drew | with_reducible exact hrf.drew.drew.drew.drew.drew)).mono ?_; rintro x w2 ⟨rfl, hb2⟩; have q0 := (hb2.cell (by exact hlt)).trans k0; have q1 := (hb2.cell (by exact hlt)).trans k1; have q2 := (hb2.cell (by exact hlt)).trans k2; have q3 := (hb2.cell (by exact hlt)).trans k3; have q4 := (hb2.cell (by exact hlt)).trans k4; have q5 := (hb2.cell (by exact hlt)).trans k5; have q6 := (hb2.cell (by exact hlt)).trans k6; have q7 := (hb2.cell (by exact hlt)).trans k7; have q8 := (hb2.cell (by exact hlt)).trans k8; have q9 := (hb2.cell (by exact hlt)).trans k9; have q11 := (hb2.cell (by exact hlt)).trans k11; have q12 := (hb2.cell (by exact hlt)).trans k12; have q13 := (hb2.cell (by exact hlt)).trans k13))
  all_goals
    go_wp2
    go_ret2
    exact ⟨ret_r Hz.out, (by first | with_reducible exact hb2 | with_reducible exact hb2.drew | with_reducible exact hb2.drew.drew | with_reducible exact hb2.drew.drew.drew | with_reducible exact hb2.drew.drew.drew.drew | with_reducible exact hb2.drew.drew.drew.drew.drew)⟩
end Go.Proofs.YtnkpikknkooblaaGreat
/-
  impl's rule removing.
-/
namespace Go.Proofs.YtnkpikknkooblaaGreat
open Go.RowKit Go.Maps Go.ChangeMaps

set_option maxRecDepth 100000 in
set_option maxHeartbeats 3000000 in
theorem remI {h mb c : Nat} {F : Ent → Value} {oc op : Option Addr} {o : View} {e : Ev} {pa : Option Addr} {cp : Nat} {aa : Option Addr} {ca : Nat} {ga : Option Addr} {cg : Nat} (w : World) (H : Hr w h mb c F oc op o e pa cp aa ca ga cg) :
    Calls Tryz.prog 108 #[.pointer (some ⟨h, 0, none⟩)] w fun x w' => x = .returned (rAns (rRem o e)) ∧ Below w.heap.size w w' := by
  have hrf : Below w.heap.size w w := Below.refl _ _
  have k0 : w.cell? ⟨h, 0, none⟩ = some (.string e.id) := H.ev.c0
  have k1 : w.cell? ⟨h, 1, none⟩ = some (.string e.sd) := H.ev.c1
  have k2 : w.cell? ⟨h, 2, none⟩ = some (.string e.ty) := H.ev.c2
  have k3 : w.cell? ⟨h, 3, none⟩ = some (.bool e.st) := H.ev.c3
  have k4 : w.cell? ⟨h, 4, none⟩ = some (.string e.key) := H.ev.c4
  have k5 : w.cell? ⟨h, 5, none⟩ = some (.int .i64 e.tm) := H.ev.c5
  have k6 : w.cell? ⟨h, 6, none⟩ = some (.slice pa e.np cp) := H.ev.c6
  have k7 : w.cell? ⟨h, 7, none⟩ = some (.slice aa e.na ca) := H.ev.c7
  have k8 : w.cell? ⟨h, 8, none⟩ = some (.string e.val) := H.ev.c8
  have k9 : w.cell? ⟨h, 9, none⟩ = some (.slice ga e.ng cg) := H.ev.c9
  have k10 : w.cell? ⟨h, 10, none⟩ = some (.map (some mb)) := H.c10
  have k11 : w.cell? ⟨h, 11, none⟩ = some (.pointer oc) := H.c11
  have k12 : w.cell? ⟨h, 12, none⟩ = some (.pointer op) := H.c12
  have k13 : w.cell? ⟨h, 13, none⟩ = some (.int .i64 (lvO o e.sd)) := H.c13
  have hlt := H.lt
  cases hmj : (isMb e && isLea e.val)
  case false =>
    have Hz : Hid (rRem o e = (0, false)) := by unfold Hid rRem; rw [hmj]; rfl
    have HB := isM_t pa cp aa ca ga cg (t := tLea) (b := false) (by rw [isM_lea]; exact hmj) w
    clear H hmj
    go_enter Tryz.func108, Tryz.ntmps108
    go_wp2_with fail
    refine (HB.out _ hrf).mono ?_
    rintro x w1 ⟨rfl, hb1⟩
    go_wp2
    go_ret2
    exact ⟨ret_r Hz.out, hb1⟩
  case true =>
    have hm : isMb e = true := by
      cases h1 : isMb e
      · rw [h1] at hmj; cases hmj
      · rfl
    have HB := isM_t pa cp aa ca ga cg (t := tLea) (b := true) (by rw [isM_lea]; exact hmj) w
    have HM := H.memK hm
    have HT := H.thing tBan (by decide)
    have HU := H.thing tKic (by decide)
    have HO : Hid (∀ W, Below w.heap.size w W → Calls Tryz.prog 134 #[.pointer (some ⟨h, 0, none⟩)] W fun x w' => x = .returned (.int .i64 (ovK o e)) ∧ Below w.heap.size w w') := fun W hW => (ovkI W (H.below hW)).mono fun _ _ ⟨h1, h2⟩ => ⟨h1, hW.trans (h2.mono hW.size)⟩
    have HJ : Hid (rRem o e = (if (isBan (memO o e.key) && decide (lvO o e.sd < tgV o tBan)) || decide (lvO o e.sd < tgV o tKic) then 8 else ovK o e, true)) := by unfold Hid rRem; rw [hmj]; rfl
    clear H hmj hm
    generalize rRem o e = r at *
    generalize ovK o e = ov at *
    generalize memO o e.key = t at *
    generalize hlv : lvO o e.sd = a at *
    generalize tgV o tBan = b at *
    generalize tgV o tKic = b2 at *
    clear hlv
    go_enter Tryz.func108, Tryz.ntmps108
    go_wp2_with fail
    refine (HB.out _ hrf).mono ?_
    rintro x w1 ⟨rfl, hb1⟩
    have q4 := (hb1.cell (by exact hlt)).trans k4; have q10 := (hb1.cell (by exact hlt)).trans k10
    clear HB
    go_wp2_with fail
    go_cut [4] (fun v wx => v = .bool (isBan t) ∧ Below w.heap.size w wx)
    case first =>
      go_region_held3 (fun W => W.cell? ⟨h, 10, none⟩ = some (.map (some mb)) ∧ W.cell? ⟨h, 4, none⟩ = some (.string e.key)) (first | (with_reducible exact ⟨q10, q4⟩) | go_keep)
        (first | (go_at_call 129; refine (HM.out _ (by first | with_reducible exact hb1 | with_reducible exact hb1.drew | with_reducible exact hb1.drew.drew | with_reducible exact hb1.drew.drew.drew | with_reducible exact hb1.drew.drew.drew.drew | with_reducible exact hb1.drew.drew.drew.drew.drew)).mono ?_; rintro x w2 ⟨rfl, hb2⟩; have s10 := (hb2.cell (by exact hlt)).trans k10; have s4 := (hb2.cell (by exact hlt)).trans k4))
      all_goals (try go_wp2_with fail)
      all_goals go_meet
      all_goals exact ⟨rfl, (by first | with_reducible exact hb2 | with_reducible exact hb2.drew | with_reducible exact hb2.drew.drew | with_reducible exact hb2.drew.drew.drew | with_reducible exact hb2.drew.drew.drew.drew | with_reducible exact hb2.drew.drew.drew.drew.drew)⟩
    case rest =>
      obtain ⟨rfl, hb2⟩ := hcut
      obtain ⟨w2, hw2⟩ : ∃ w2 : World, w2 = wc := ⟨_, rfl⟩
      subst hw2
      clear HM
      have s11 := (hb2.cell (by exact hlt)).trans k11; have s12 := (hb2.cell (by exact hlt)).trans k12; have s13 := (hb2.cell (by exact hlt)).trans k13
      generalize isBan t = bn at *
      go_wp2_with fail
      go_cut [46] (fun v wx => v = .bool ((bn && decide (a < b)) || decide (a < b2)) ∧ Below w.heap.size w wx)
      case first =>
        cases bn
        case false =>
          refine wp_region_held_drew (S := fun W => W.cell? ⟨h, 11, none⟩ = some (.pointer oc) ∧ W.cell? ⟨h, 12, none⟩ = some (.pointer op) ∧ W.cell? ⟨h, 13, none⟩ = some (.int .i64 a)) (by kernel_rfl) ?_ (fun hHeld => ?_)
          · (try dsimp only); first | (with_reducible exact ⟨s11, s12, s13⟩) | go_keep
          refine wpAnyH_take (i := 0) (v := ?va0) rfl (by kernel_rfl) (by kernel_rfl) (by kernel_rfl) (fun _ _ _ h => h) (Or.inl ⟨by rfl, ?hya0⟩) (by assumption) ?_
          case hya0 => (intro w hSw; (try dsimp only at hSw); go_simp; try (with_reducible rfl))
          simp only [Act.put, List.getElem_toArray, List.getElem_cons_zero, List.setIfInBounds_toArray, List.set_cons_zero, List.set_cons_succ]
          refine wpAnyH_take (i := 1) (v := ?va1) rfl (by kernel_rfl) (by kernel_rfl) (by kernel_rfl) (fun _ _ _ h => h) (Or.inl ⟨by rfl, ?hya1⟩) (by assumption) ?_
          case hya1 => (intro w hSw; (try dsimp only at hSw); go_simp; try (with_reducible rfl))
          simp only [Act.put, List.getElem_toArray, List.getElem_cons_zero, List.getElem_cons_succ, List.setIfInBounds_toArray, List.set_cons_zero, List.set_cons_succ]
          refine wpAnyH_take (i := 2) (v := undef) rfl (by kernel_rfl) (by kernel_rfl) (by kernel_rfl) (fun _ _ _ h => h) (Or.inr ⟨by rfl, rfl⟩) (by assumption) ?_
          simp only [Act.put, List.getElem_toArray, List.getElem_cons_zero, List.getElem_cons_succ, List.setIfInBounds_toArray, List.set_cons_zero, List.set_cons_succ]
          refine wpAnyH_take (i := 3) (v := undef) rfl (by kernel_rfl) (by kernel_rfl) (by kernel_rfl) (fun _ _ _ h => h) (Or.inr ⟨by rfl, rfl⟩) (by assumption) ?_
          simp only [Act.put, List.getElem_toArray, List.getElem_cons_zero, List.getElem_cons_succ, List.setIfInBounds_toArray, List.set_cons_zero, List.set_cons_succ]
          refine wpAnyH_take (i := 4) (v := undef) rfl (by kernel_rfl) (by kernel_rfl) (by kernel_rfl) (fun _ _ _ h => h) (Or.inr ⟨by rfl, rfl⟩) (by assumption) ?_
          simp only [Act.put, List.getElem_toArray, List.getElem_cons_zero, List.getElem_cons_succ, List.setIfInBounds_toArray, List.set_cons_zero, List.set_cons_succ]
          refine wpAnyH_take (i := 5) (v := undef) rfl (by kernel_rfl) (by kernel_rfl) (by kernel_rfl) (fun _ _ _ h => h) (Or.inr ⟨by rfl, rfl⟩) (by assumption) ?_
          simp only [Act.put, List.getElem_toArray, List.getElem_cons_zero, List.getElem_cons_succ, List.setIfInBounds_toArray, List.set_cons_zero, List.set_cons_succ]
          refine wpAnyH_take (i := 6) (v := undef) rfl (by kernel_rfl) (by kernel_rfl) (by kernel_rfl) (fun _ _ _ h => h) (Or.inr ⟨by rfl, rfl⟩) (by assumption) ?_
          simp only [Act.put, List.getElem_toArray, List.getElem_cons_zero, List.getElem_cons_succ, List.setIfInBounds_toArray, List.set_cons_zero, List.set_cons_succ]
          refine wpAnyH_take (i := 7) (v := undef) rfl (by kernel_rfl) (by kernel_rfl) (by kernel_rfl) (fun _ _ _ h => h) (Or.inr ⟨by rfl, rfl⟩) (by assumption) ?_
          simp only [Act.put, List.getElem_toArray, List.getElem_cons_zero, List.getElem_cons_succ, List.setIfInBounds_toArray, List.set_cons_zero, List.set_cons_succ]
          refine wpAnyH_take (i := 8) (v := undef) rfl (by kernel_rfl) (by kernel_rfl) (by kernel_rfl) (fun _ _ _ h => h) (Or.inr ⟨by rfl, rfl⟩) (by assumption) ?_
          simp only [Act.put, List.getElem_toArray, List.getElem_cons_zero, List.getElem_cons_succ, List.setIfInBounds_toArray, List.set_cons_zero, List.set_cons_succ]
          refine wpAnyH_take (i := 9) (v := undef) rfl (by kernel_rfl) (by kernel_rfl) (by kernel_rfl) (fun _ _ _ h => h) (Or.inr ⟨by rfl, rfl⟩) (by assumption) ?_
          simp only [Act.put, List.getElem_toArray, List.getElem_cons_zero, List.getElem_cons_succ, List.setIfInBounds_toArray, List.set_cons_zero, List.set_cons_succ]
          refine wpAnyH_take (i := 10) (v := undef) rfl (by kernel_rfl) (by kernel_rfl) (by kernel_rfl) (fun _ _ _ h => h) (Or.inr ⟨by rfl, rfl⟩) (by assumption) ?_
          simp only [Act.put, List.getElem_toArray, List.getElem_cons_zero, List.getElem_cons_succ, List.setIfInBounds_toArray, List.set_cons_zero, List.set_cons_succ]
          refine wpAnyH_take (i := 11) (v := undef) rfl (by kernel_rfl) (by kernel_rfl) (by kernel_rfl) (fun _ _ _ h => h) (Or.inr ⟨by rfl, rfl⟩) (by assumption) ?_
          simp only [Act.put, List.getElem_toArray, List.getElem_cons_zero, List.getElem_cons_succ, List.setIfInBounds_toArray, List.set_cons_zero, List.set_cons_succ]
          refine wpAnyH_take (i := 12) (v := ?va12) rfl (by kernel_rfl) (by kernel_rfl) (by kernel_rfl) (fun _ _ _ h => h) (Or.inl ⟨by rfl, ?hya12⟩) (by assumption) ?_
          case hya12 => (intro w hSw; (try dsimp only at hSw); go_simp; try (with_reducible rfl))
          simp only [Act.put, List.getElem_toArray, List.getElem_cons_zero, List.getElem_cons_succ, List.setIfInBounds_toArray, List.set_cons_zero, List.set_cons_succ]
          refine wpAnyH_take (i := 13) (v := ?va13) rfl (by kernel_rfl) (by kernel_rfl) (by kernel_rfl) (fun _ _ _ h => h) (Or.inl ⟨by rfl, ?hya13⟩) (by assumption) ?_
          case hya13 => (intro w hSw; (try dsimp only at hSw); go_simp; try (with_reducible rfl))
          simp only [Act.put, List.getElem_toArray, List.getElem_cons_zero, List.getElem_cons_succ, List.setIfInBounds_toArray, List.set_cons_zero, List.set_cons_succ]
          refine wpAnyH_take (i := 14) (v := ?va14) rfl (by kernel_rfl) (by kernel_rfl) (by kernel_rfl) (fun _ _ _ h => h) (Or.inl ⟨by rfl, ?hya14⟩) (by assumption) ?_
          case hya14 => (intro w hSw; (try dsimp only at hSw); go_simp; try (with_reducible rfl))
          simp only [Act.put, List.getElem_toArray, List.getElem_cons_zero, List.getElem_cons_succ, List.setIfInBounds_toArray, List.set_cons_zero, List.set_cons_succ]
          refine wpAnyH_take (i := 15) (v := ?va15) rfl (by kernel_rfl) (by kernel_rfl) (by kernel_rfl) (fun _ _ _ h => h) (Or.inl ⟨by rfl, ?hya15⟩) (by assumption) ?_
          case hya15 => (intro w hSw; (try dsimp only at hSw); go_simp; try (with_reducible rfl))
          simp only [Act.put, List.getElem_toArray, List.getElem_cons_zero, List.getElem_cons_succ, List.setIfInBounds_toArray, List.set_cons_zero, List.set_cons_succ]
          refine wpAnyH_take (i := 16) (v := ?va16) rfl (by kernel_rfl) (by kernel_rfl) (by kernel_rfl) (fun _ _ _ h => h) (Or.inl ⟨by rfl, ?hya16⟩) (by assumption) ?_
          case hya16 => (intro w hSw; (try dsimp only at hSw); go_simp; try (with_reducible rfl))
          simp only [Act.put, List.getElem_toArray, List.getElem_cons_zero, List.getElem_cons_succ, List.setIfInBounds_toArray, List.set_cons_zero, List.set_cons_succ]
          refine wpAnyH_take (i := 17) (v := ?va17) rfl (by kernel_rfl) (by kernel_rfl) (by kernel_rfl) (fun _ _ _ h => h) (Or.inl ⟨by rfl, ?hya17⟩) (by assumption) ?_
          case hya17 => (intro w hSw; (try dsimp only at hSw); go_simp; try (with_reducible rfl))
          simp only [Act.put, List.getElem_toArray, List.getElem_cons_zero, List.getElem_cons_succ, List.setIfInBounds_toArray, List.set_cons_zero, List.set_cons_succ]
          refine wpAnyH_take (i := 18) (v := ?va18) rfl (by kernel_rfl) (by kernel_rfl) (by kernel_rfl) (fun _ _ _ h => h) (Or.inl ⟨by rfl, ?hya18⟩) (by assumption) ?_
          case hya18 => (intro w hSw; (try dsimp only at hSw); go_simp; try (with_reducible rfl))
          simp only [Act.put, List.getElem_toArray, List.getElem_cons_zero, List.getElem_cons_succ, List.setIfInBounds_toArray, List.set_cons_zero, List.set_cons_succ]
          refine wpAnyH_take (i := 19) (v := ?va19) rfl (by kernel_rfl) (by kernel_rfl) (by kernel_rfl) (fun _ _ _ h => h) (Or.inl ⟨by rfl, ?hya19⟩) (by assumption) ?_
          case hya19 => (intro w hSw; (try dsimp only at hSw); go_simp; try (with_reducible rfl))
          simp only [Act.put, List.getElem_toArray, List.getElem_cons_zero, List.getElem_cons_succ, List.setIfInBounds_toArray, List.set_cons_zero, List.set_cons_succ]
          refine wpAnyH_take (i := 20) (v := ?va20) rfl (by kernel_rfl) (by kernel_rfl) (by kernel_rfl) (fun _ _ _ h => h) (Or.inl ⟨by rfl, ?hya20⟩) (by assumption) ?_
          case hya20 => (intro w hSw; (try dsimp only at hSw); go_simp; try (with_reducible rfl))
          simp only [Act.put, List.getElem_toArray, List.getElem_cons_zero, List.getElem_cons_succ, List.setIfInBounds_toArray, List.set_cons_zero, List.set_cons_succ]
          refine wpAnyH_take (i := 21) (v := ?va21) rfl (by kernel_rfl) (by kernel_rfl) (by kernel_rfl) (fun _ _ _ h => h) (Or.inl ⟨by rfl, ?hya21⟩) (by assumption) ?_
          case hya21 => (intro w hSw; (try dsimp only at hSw); go_simp; try (with_reducible rfl))
          simp only [Act.put, List.getElem_toArray, List.getElem_cons_zero, List.getElem_cons_succ, List.setIfInBounds_toArray, List.set_cons_zero, List.set_cons_succ]
          refine wpAnyH_ready (rs := [22]) (by kernel_rfl) (by simp) ?_
          refine AllReadyH.cons rfl (fun K hK => ?_) AllReadyH.nil
          go_simp
          go_at_call 133; refine (HU.out _ (by first | with_reducible exact hb2 | with_reducible exact hb2.drew | with_reducible exact hb2.drew.drew | with_reducible exact hb2.drew.drew.drew | with_reducible exact hb2.drew.drew.drew.drew | with_reducible exact hb2.drew.drew.drew.drew.drew)).mono ?_; rintro x w3 ⟨rfl, hb3⟩; have u11 := (hb3.cell (by exact hlt)).trans k11; have u12 := (hb3.cell (by exact hlt)).trans k12; have u13 := (hb3.cell (by exact hlt)).trans k13
          try go_wp2_with fail
          refine hK.out _ _ ?_ (fun hHeld => ?_)
          · (try dsimp only); first | (with_reducible exact ⟨u11, u12, u13⟩) | go_keep
          clear hK K
          try simp only [Act.put, List.getElem_toArray, List.getElem_cons_zero, List.getElem_cons_succ, List.setIfInBounds_toArray, List.set_cons_zero, List.set_cons_succ]
          refine wpAnyH_take (i := 23) (v := ?va23) rfl (by kernel_rfl) (by kernel_rfl) (by kernel_rfl) (fun _ _ _ h => h) (Or.inl ⟨by rfl, ?hya23⟩) (by assumption) ?_
          case hya23 => (intro w hSw; (try dsimp only at hSw); go_simp; try (with_reducible rfl))
          simp only [Act.put, List.getElem_toArray, List.getElem_cons_zero, List.getElem_cons_succ, List.setIfInBounds_toArray, List.set_cons_zero, List.set_cons_succ]
          refine wpAnyH_take (i := 24) (v := ?va24) rfl (by kernel_rfl) (by kernel_rfl) (by kernel_rfl) (fun _ _ _ h => h) (Or.inl ⟨by rfl, ?hya24⟩) (by assumption) ?_
          case hya24 => (intro w hSw; (try dsimp only at hSw); go_simp; try (with_reducible rfl))
          simp only [Act.put, List.getElem_toArray, List.getElem_cons_zero, List.getElem_cons_succ, List.setIfInBounds_toArray, List.set_cons_zero, List.set_cons_succ]
          refine wpAnyH_done (by kernel_rfl) ?_ _
          try go_wp2_with fail
          go_meet
          exact ⟨rfl, (by first | with_reducible exact hb3 | with_reducible exact hb3.drew | with_reducible exact hb3.drew.drew | with_reducible exact hb3.drew.drew.drew | with_reducible exact hb3.drew.drew.drew.drew | with_reducible exact hb3.drew.drew.drew.drew.drew)⟩
        case true =>
          cases hd : decide (a < b)
          case true =>
            refine wp_region_held_drew (S := fun W => W.cell? ⟨h, 11, none⟩ = some (.pointer oc) ∧ W.cell? ⟨h, 12, none⟩ = some (.pointer op) ∧ W.cell? ⟨h, 13, none⟩ = some (.int .i64 a)) (by kernel_rfl) ?_ (fun hHeld => ?_)
            · (try dsimp only); first | (with_reducible exact ⟨s11, s12, s13⟩) | go_keep
            refine wpAnyH_take (i := 0) (v := ?vb0) rfl (by kernel_rfl) (by kernel_rfl) (by kernel_rfl) (fun _ _ _ h => h) (Or.inl ⟨by rfl, ?hyb0⟩) (by assumption) ?_
            case hyb0 => (intro w hSw; (try dsimp only at hSw); go_simp; try (with_reducible rfl))
            simp only [Act.put, List.getElem_toArray, List.getElem_cons_zero, List.setIfInBounds_toArray, List.set_cons_zero, List.set_cons_succ]
            refine wpAnyH_take (i := 1) (v := ?vb1) rfl (by kernel_rfl) (by kernel_rfl) (by kernel_rfl) (fun _ _ _ h => h) (Or.inl ⟨by rfl, ?hyb1⟩) (by assumption) ?_
            case hyb1 => (intro w hSw; (try dsimp only at hSw); go_simp; try (with_reducible rfl))
            simp only [Act.put, List.getElem_toArray, List.getElem_cons_zero, List.getElem_cons_succ, List.setIfInBounds_toArray, List.set_cons_zero, List.set_cons_succ]
            refine wpAnyH_take (i := 2) (v := ?vb2) rfl (by kernel_rfl) (by kernel_rfl) (by kernel_rfl) (fun _ _ _ h => h) (Or.inl ⟨by rfl, ?hyb2⟩) (by assumption) ?_
            case hyb2 => (intro w hSw; (try dsimp only at hSw); go_simp; try (with_reducible rfl))
            simp only [Act.put, List.getElem_toArray, List.getElem_cons_zero, List.getElem_cons_succ, List.setIfInBounds_toArray, List.set_cons_zero, List.set_cons_succ]
            refine wpAnyH_take (i := 3) (v := ?vb3) rfl (by kernel_rfl) (by kernel_rfl) (by kernel_rfl) (fun _ _ _ h => h) (Or.inl ⟨by rfl, ?hyb3⟩) (by assumption) ?_
            case hyb3 => (intro w hSw; (try dsimp only at hSw); go_simp; try (with_reducible rfl))
            simp only [Act.put, List.getElem_toArray, List.getElem_cons_zero, List.getElem_cons_succ, List.setIfInBounds_toArray, List.set_cons_zero, List.set_cons_succ]
            refine wpAnyH_take (i := 4) (v := ?vb4) rfl (by kernel_rfl) (by kernel_rfl) (by kernel_rfl) (fun _ _ _ h => h) (Or.inl ⟨by rfl, ?hyb4⟩) (by assumption) ?_
            case hyb4 => (intro w hSw; (try dsimp only at hSw); go_simp; try (with_reducible rfl))
            simp only [Act.put, List.getElem_toArray, List.getElem_cons_zero, List.getElem_cons_succ, List.setIfInBounds_toArray, List.set_cons_zero, List.set_cons_succ]
            refine wpAnyH_take (i := 5) (v := ?vb5) rfl (by kernel_rfl) (by kernel_rfl) (by kernel_rfl) (fun _ _ _ h => h) (Or.inl ⟨by rfl, ?hyb5⟩) (by assumption) ?_
            case hyb5 => (intro w hSw; (try dsimp only at hSw); go_simp; try (with_reducible rfl))
            simp only [Act.put, List.getElem_toArray, List.getElem_cons_zero, List.getElem_cons_succ, List.setIfInBounds_toArray, List.set_cons_zero, List.set_cons_succ]
            refine wpAnyH_take (i := 6) (v := ?vb6) rfl (by kernel_rfl) (by kernel_rfl) (by kernel_rfl) (fun _ _ _ h => h) (Or.inl ⟨by rfl, ?hyb6⟩) (by assumption) ?_
            case hyb6 => (intro w hSw; (try dsimp only at hSw); go_simp; try (with_reducible rfl))
            simp only [Act.put, List.getElem_toArray, List.getElem_cons_zero, List.getElem_cons_succ, List.setIfInBounds_toArray, List.set_cons_zero, List.set_cons_succ]
            refine wpAnyH_take (i := 7) (v := ?vb7) rfl (by kernel_rfl) (by kernel_rfl) (by kernel_rfl) (fun _ _ _ h => h) (Or.inl ⟨by rfl, ?hyb7⟩) (by assumption) ?_
            case hyb7 => (intro w hSw; (try dsimp only at hSw); go_simp; try (with_reducible rfl))
            simp only [Act.put, List.getElem_toArray, List.getElem_cons_zero, List.getElem_cons_succ, List.setIfInBounds_toArray, List.set_cons_zero, List.set_cons_succ]
            refine wpAnyH_take (i := 8) (v := ?vb8) rfl (by kernel_rfl) (by kernel_rfl) (by kernel_rfl) (fun _ _ _ h => h) (Or.inl ⟨by rfl, ?hyb8⟩) (by assumption) ?_
            case hyb8 => (intro w hSw; (try dsimp only at hSw); go_simp; try (with_reducible rfl))
            simp only [Act.put, List.getElem_toArray, List.getElem_cons_zero, List.getElem_cons_succ, List.setIfInBounds_toArray, List.set_cons_zero, List.set_cons_succ]
            refine wpAnyH_take (i := 9) (v := ?vb9) rfl (by kernel_rfl) (by kernel_rfl) (by kernel_rfl) (fun _ _ _ h => h) (Or.inl ⟨by rfl, ?hyb9⟩) (by assumption) ?_
            case hyb9 => (intro w hSw; (try dsimp only at hSw); go_simp; try (with_reducible rfl))
            simp only [Act.put, List.getElem_toArray, List.getElem_cons_zero, List.getElem_cons_succ, List.setIfInBounds_toArray, List.set_cons_zero, List.set_cons_succ]
            refine wpAnyH_ready (rs := [10]) (by kernel_rfl) (by simp) ?_
            refine AllReadyH.cons rfl (fun K hK => ?_) AllReadyH.nil
            go_simp
            go_at_call 133; refine (HT.out _ (by first | with_reducible exact hb2 | with_reducible exact hb2.drew | with_reducible exact hb2.drew.drew | with_reducible exact hb2.drew.drew.drew | with_reducible exact hb2.drew.drew.drew.drew | with_reducible exact hb2.drew.drew.drew.drew.drew)).mono ?_; rintro x w3 ⟨rfl, hb3⟩; have u11 := (hb3.cell (by exact hlt)).trans k11; have u12 := (hb3.cell (by exact hlt)).trans k12; have u13 := (hb3.cell (by exact hlt)).trans k13
            try go_wp2_with fail
            refine hK.out _ _ ?_ (fun hHeld => ?_)
            · (try dsimp only); first | (with_reducible exact ⟨u11, u12, u13⟩) | go_keep
            clear hK K
            try simp only [Act.put, List.getElem_toArray, List.getElem_cons_zero, List.getElem_cons_succ, List.setIfInBounds_toArray, List.set_cons_zero, List.set_cons_succ]
            refine wpAnyH_take (i := 11) (v := ?vb11) rfl (by kernel_rfl) (by kernel_rfl) (by kernel_rfl) (fun _ _ _ h => h) (Or.inl ⟨by rfl, ?hyb11⟩) (by assumption) ?_
            case hyb11 => (intro w hSw; (try dsimp only at hSw); go_simp; try (with_reducible rfl))
            simp only [Act.put, List.getElem_toArray, List.getElem_cons_zero, List.getElem_cons_succ, List.setIfInBounds_toArray, List.set_cons_zero, List.set_cons_succ]
            refine wpAnyH_take (i := 12) (v := ?vb12) rfl (by kernel_rfl) (by kernel_rfl) (by kernel_rfl) (fun _ _ _ h => h) (Or.inl ⟨by rfl, ?hyb12⟩) (by assumption) ?_
            case hyb12 => (intro w hSw; (try dsimp only at hSw); go_simp; try (with_reducible rfl))
            simp only [Act.put, List.getElem_toArray, List.getElem_cons_zero, List.getElem_cons_succ, List.setIfInBounds_toArray, List.set_cons_zero, List.set_cons_succ]
            refine wpAnyH_take (i := 13) (v := ?vb13) rfl (by kernel_rfl) (by kernel_rfl) (by kernel_rfl) (fun _ _ _ h => h) (Or.inl ⟨by rfl, ?hyb13⟩) (by assumption) ?_
            case hyb13 => (intro w hSw; (try dsimp only at hSw); go_simp; try (with_reducible rfl))
            simp only [Act.put, List.getElem_toArray, List.getElem_cons_zero, List.getElem_cons_succ, List.setIfInBounds_toArray, List.set_cons_zero, List.set_cons_succ]
            refine wpAnyH_take (i := 14) (v := undef) rfl (by kernel_rfl) (by kernel_rfl) (by kernel_rfl) (fun _ _ _ h => h) (Or.inr ⟨by rfl, rfl⟩) (by assumption) ?_
            simp only [Act.put, List.getElem_toArray, List.getElem_cons_zero, List.getElem_cons_succ, List.setIfInBounds_toArray, List.set_cons_zero, List.set_cons_succ]
            refine wpAnyH_take (i := 15) (v := undef) rfl (by kernel_rfl) (by kernel_rfl) (by kernel_rfl) (fun _ _ _ h => h) (Or.inr ⟨by rfl, rfl⟩) (by assumption) ?_
            simp only [Act.put, List.getElem_toArray, List.getElem_cons_zero, List.getElem_cons_succ, List.setIfInBounds_toArray, List.set_cons_zero, List.set_cons_succ]
            refine wpAnyH_take (i := 16) (v := undef) rfl (by kernel_rfl) (by kernel_rfl) (by kernel_rfl) (fun _ _ _ h => h) (Or.inr ⟨by rfl, rfl⟩) (by assumption) ?_
            simp only [Act.put, List.getElem_toArray, List.getElem_cons_zero, List.getElem_cons_succ, List.setIfInBounds_toArray, List.set_cons_zero, List.set_cons_succ]
            refine wpAnyH_take (i := 17) (v := undef) rfl (by kernel_rfl) (by kernel_rfl) (by kernel_rfl) (fun _ _ _ h => h) (Or.inr ⟨by rfl, rfl⟩) (by assumption) ?_
            simp only [Act.put, List.getElem_toArray, List.getElem_cons_zero, List.getElem_cons_succ, List.setIfInBounds_toArray, List.set_cons_zero, List.set_cons_succ]
            refine wpAnyH_take (i := 18) (v := undef) rfl (by kernel_rfl) (by kernel_rfl) (by kernel_rfl) (fun _ _ _ h => h) (Or.inr ⟨by rfl, rfl⟩) (by assumption) ?_
            simp only [Act.put, List.getElem_toArray, List.getElem_cons_zero, List.getElem_cons_succ, List.setIfInBounds_toArray, List.set_cons_zero, List.set_cons_succ]
            refine wpAnyH_take (i := 19) (v := undef) rfl (by kernel_rfl) (by kernel_rfl) (by kernel_rfl) (fun _ _ _ h => h) (Or.inr ⟨by rfl, rfl⟩) (by assumption) ?_
            simp only [Act.put, List.getElem_toArray, List.getElem_cons_zero, List.getElem_cons_succ, List.setIfInBounds_toArray, List.set_cons_zero, List.set_cons_succ]
            refine wpAnyH_take (i := 20) (v := undef) rfl (by kernel_rfl) (by kernel_rfl) (by kernel_rfl) (fun _ _ _ h => h) (Or.inr ⟨by rfl, rfl⟩) (by assumption) ?_
            simp only [Act.put, List.getElem_toArray, List.getElem_cons_zero, List.getElem_cons_succ, List.setIfInBounds_toArray, List.set_cons_zero, List.set_cons_succ]
            refine wpAnyH_take (i := 21) (v := undef) rfl (by kernel_rfl) (by kernel_rfl) (by kernel_rfl) (fun _ _ _ h => h) (Or.inr ⟨by rfl, rfl⟩) (by assumption) ?_
            simp only [Act.put, List.getElem_toArray, List.getElem_cons_zero, List.getElem_cons_succ, List.setIfInBounds_toArray, List.set_cons_zero, List.set_cons_succ]
            refine wpAnyH_take (i := 22) (v := undef) rfl (by kernel_rfl) (by kernel_rfl) (by kernel_rfl) (fun _ _ _ h => h) (Or.inr ⟨by rfl, rfl⟩) (by assumption) ?_
            simp only [Act.put, List.getElem_toArray, List.getElem_cons_zero, List.getElem_cons_succ, List.setIfInBounds_toArray, List.set_cons_zero, List.set_cons_succ]
            refine wpAnyH_take (i := 23) (v := undef) rfl (by kernel_rfl) (by kernel_rfl) (by kernel_rfl) (fun _ _ _ h => h) (Or.inr ⟨by rfl, rfl⟩) (by assumption) ?_
            simp only [Act.put, List.getElem_toArray, List.getElem_cons_zero, List.getElem_cons_succ, List.setIfInBounds_toArray, List.set_cons_zero, List.set_cons_succ]
            refine wpAnyH_take (i := 24) (v := ?vb24) rfl (by kernel_rfl) (by kernel_rfl) (by kernel_rfl) (fun _ _ _ h => h) (Or.inl ⟨by rfl, ?hyb24⟩) (by assumption) ?_
            case hyb24 => (intro w hSw; (try dsimp only at hSw); go_simp; try (with_reducible rfl))
            simp only [Act.put, List.getElem_toArray, List.getElem_cons_zero, List.getElem_cons_succ, List.setIfInBounds_toArray, List.set_cons_zero, List.set_cons_succ]
            refine wpAnyH_done (by kernel_rfl) ?_ _
            try go_wp2_with fail
            go_meet
            exact ⟨by first | rfl | (rw [hd]; rfl) | simp [hd], (by first | with_reducible exact hb3 | with_reducible exact hb3.drew | with_reducible exact hb3.drew.drew | with_reducible exact hb3.drew.drew.drew | with_reducible exact hb3.drew.drew.drew.drew | with_reducible exact hb3.drew.drew.drew.drew.drew)⟩
          case false =>
            refine wp_region_held_drew (S := fun W => W.cell? ⟨h, 11, none⟩ = some (.pointer oc) ∧ W.cell? ⟨h, 12, none⟩ = some (.pointer op) ∧ W.cell? ⟨h, 13, none⟩ = some (.int .i64 a)) (by kernel_rfl) ?_ (fun hHeld => ?_)
            · (try dsimp only); first | (with_reducible exact ⟨s11, s12, s13⟩) | go_keep
            refine wpAnyH_take (i := 0) (v := ?vc0) rfl (by kernel_rfl) (by kernel_rfl) (by kernel_rfl) (fun _ _ _ h => h) (Or.inl ⟨by rfl, ?hyc0⟩) (by assumption) ?_
            case hyc0 => (intro w hSw; (try dsimp only at hSw); go_simp; try (with_reducible rfl))
            simp only [Act.put, List.getElem_toArray, List.getElem_cons_zero, List.setIfInBounds_toArray, List.set_cons_zero, List.set_cons_succ]
            refine wpAnyH_take (i := 1) (v := ?vc1) rfl (by kernel_rfl) (by kernel_rfl) (by kernel_rfl) (fun _ _ _ h => h) (Or.inl ⟨by rfl, ?hyc1⟩) (by assumption) ?_
            case hyc1 => (intro w hSw; (try dsimp only at hSw); go_simp; try (with_reducible rfl))
            simp only [Act.put, List.getElem_toArray, List.getElem_cons_zero, List.getElem_cons_succ, List.setIfInBounds_toArray, List.set_cons_zero, List.set_cons_succ]
            refine wpAnyH_take (i := 2) (v := ?vc2) rfl (by kernel_rfl) (by kernel_rfl) (by kernel_rfl) (fun _ _ _ h => h) (Or.inl ⟨by rfl, ?hyc2⟩) (by assumption) ?_
            case hyc2 => (intro w hSw; (try dsimp only at hSw); go_simp; try (with_reducible rfl))
            simp only [Act.put, List.getElem_toArray, List.getElem_cons_zero, List.getElem_cons_succ, List.setIfInBounds_toArray, List.set_cons_zero, List.set_cons_succ]
            refine wpAnyH_take (i := 3) (v := ?vc3) rfl (by kernel_rfl) (by kernel_rfl) (by kernel_rfl) (fun _ _ _ h => h) (Or.inl ⟨by rfl, ?hyc3⟩) (by assumption) ?_
            case hyc3 => (intro w hSw; (try dsimp only at hSw); go_simp; try (with_reducible rfl))
            simp only [Act.put, List.getElem_toArray, List.getElem_cons_zero, List.getElem_cons_succ, List.setIfInBounds_toArray, List.set_cons_zero, List.set_cons_succ]
            refine wpAnyH_take (i := 4) (v := ?vc4) rfl (by kernel_rfl) (by kernel_rfl) (by kernel_rfl) (fun _ _ _ h => h) (Or.inl ⟨by rfl, ?hyc4⟩) (by assumption) ?_
            case hyc4 => (intro w hSw; (try dsimp only at hSw); go_simp; try (with_reducible rfl))
            simp only [Act.put, List.getElem_toArray, List.getElem_cons_zero, List.getElem_cons_succ, List.setIfInBounds_toArray, List.set_cons_zero, List.set_cons_succ]
            refine wpAnyH_take (i := 5) (v := ?vc5) rfl (by kernel_rfl) (by kernel_rfl) (by kernel_rfl) (fun _ _ _ h => h) (Or.inl ⟨by rfl, ?hyc5⟩) (by assumption) ?_
            case hyc5 => (intro w hSw; (try dsimp only at hSw); go_simp; try (with_reducible rfl))
            simp only [Act.put, List.getElem_toArray, List.getElem_cons_zero, List.getElem_cons_succ, List.setIfInBounds_toArray, List.set_cons_zero, List.set_cons_succ]
            refine wpAnyH_take (i := 6) (v := ?vc6) rfl (by kernel_rfl) (by kernel_rfl) (by kernel_rfl) (fun _ _ _ h => h) (Or.inl ⟨by rfl, ?hyc6⟩) (by assumption) ?_
            case hyc6 => (intro w hSw; (try dsimp only at hSw); go_simp; try (with_reducible rfl))
            simp only [Act.put, List.getElem_toArray, List.getElem_cons_zero, List.getElem_cons_succ, List.setIfInBounds_toArray, List.set_cons_zero, List.set_cons_succ]
            refine wpAnyH_take (i := 7) (v := ?vc7) rfl (by kernel_rfl) (by kernel_rfl) (by kernel_rfl) (fun _ _ _ h => h) (Or.inl ⟨by rfl, ?hyc7⟩) (by assumption) ?_
            case hyc7 => (intro w hSw; (try dsimp only at hSw); go_simp; try (with_reducible rfl))
            simp only [Act.put, List.getElem_toArray, List.getElem_cons_zero, List.getElem_cons_succ, List.setIfInBounds_toArray, List.set_cons_zero, List.set_cons_succ]
            refine wpAnyH_take (i := 8) (v := ?vc8) rfl (by kernel_rfl) (by kernel_rfl) (by kernel_rfl) (fun _ _ _ h => h) (Or.inl ⟨by rfl, ?hyc8⟩) (by assumption) ?_
            case hyc8 => (intro w hSw; (try dsimp only at hSw); go_simp; try (with_reducible rfl))
            simp only [Act.put, List.getElem_toArray, List.getElem_cons_zero, List.getElem_cons_succ, List.setIfInBounds_toArray, List.set_cons_zero, List.set_cons_succ]
            refine wpAnyH_take (i := 9) (v := ?vc9) rfl (by kernel_rfl) (by kernel_rfl) (by kernel_rfl) (fun _ _ _ h => h) (Or.inl ⟨by rfl, ?hyc9⟩) (by assumption) ?_
            case hyc9 => (intro w hSw; (try dsimp only at hSw); go_simp; try (with_reducible rfl))
            simp only [Act.put, List.getElem_toArray, List.getElem_cons_zero, List.getElem_cons_succ, List.setIfInBounds_toArray, List.set_cons_zero, List.set_cons_succ]
            refine wpAnyH_ready (rs := [10]) (by kernel_rfl) (by simp) ?_
            refine AllReadyH.cons rfl (fun K hK => ?_) AllReadyH.nil
            go_simp
            go_at_call 133; refine (HT.out _ (by first | with_reducible exact hb2 | with_reducible exact hb2.drew | with_reducible exact hb2.drew.drew | with_reducible exact hb2.drew.drew.drew | with_reducible exact hb2.drew.drew.drew.drew | with_reducible exact hb2.drew.drew.drew.drew.drew)).mono ?_; rintro x w3 ⟨rfl, hb3⟩; have u11 := (hb3.cell (by exact hlt)).trans k11; have u12 := (hb3.cell (by exact hlt)).trans k12; have u13 := (hb3.cell (by exact hlt)).trans k13
            try go_wp2_with fail
            refine hK.out _ _ ?_ (fun hHeld => ?_)
            · (try dsimp only); first | (with_reducible exact ⟨u11, u12, u13⟩) | go_keep
            clear hK K
            try simp only [Act.put, List.getElem_toArray, List.getElem_cons_zero, List.getElem_cons_succ, List.setIfInBounds_toArray, List.set_cons_zero, List.set_cons_succ]
            refine wpAnyH_take (i := 11) (v := ?vc11) rfl (by kernel_rfl) (by kernel_rfl) (by kernel_rfl) (fun _ _ _ h => h) (Or.inl ⟨by rfl, ?hyc11⟩) (by assumption) ?_
            case hyc11 => (intro w hSw; (try dsimp only at hSw); go_simp; try (with_reducible rfl))
            simp only [Act.put, List.getElem_toArray, List.getElem_cons_zero, List.getElem_cons_succ, List.setIfInBounds_toArray, List.set_cons_zero, List.set_cons_succ]
            refine wpAnyH_take (i := 12) (v := ?vc12) rfl (by kernel_rfl) (by kernel_rfl) (by kernel_rfl) (fun _ _ _ h => h) (Or.inl ⟨by rfl, ?hyc12⟩) (by assumption) ?_
            case hyc12 => (intro w hSw; (try dsimp only at hSw); go_simp; try (with_reducible rfl))
            simp only [Act.put, List.getElem_toArray, List.getElem_cons_zero, List.getElem_cons_succ, List.setIfInBounds_toArray, List.set_cons_zero, List.set_cons_succ]
            refine wpAnyH_take (i := 13) (v := ?vc13) rfl (by kernel_rfl) (by kernel_rfl) (by kernel_rfl) (fun _ _ _ h => h) (Or.inl ⟨by rfl, ?hyc13⟩) (by assumption) ?_
            case hyc13 => (intro w hSw; (try dsimp only at hSw); go_simp; try (with_reducible rfl))
            simp only [Act.put, List.getElem_toArray, List.getElem_cons_zero, List.getElem_cons_succ, List.setIfInBounds_toArray, List.set_cons_zero, List.set_cons_succ]
            refine wpAnyH_take (i := 14) (v := ?vc14) rfl (by kernel_rfl) (by kernel_rfl) (by kernel_rfl) (fun _ _ _ h => h) (Or.inl ⟨by rfl, ?hyc14⟩) (by assumption) ?_
            case hyc14 => (intro w hSw; (try dsimp only at hSw); go_simp; try (with_reducible rfl))
            simp only [Act.put, List.getElem_toArray, List.getElem_cons_zero, List.getElem_cons_succ, List.setIfInBounds_toArray, List.set_cons_zero, List.set_cons_succ]
            refine wpAnyH_take (i := 15) (v := ?vc15) rfl (by kernel_rfl) (by kernel_rfl) (by kernel_rfl) (fun _ _ _ h => h) (Or.inl ⟨by rfl, ?hyc15⟩) (by assumption) ?_
            case hyc15 => (intro w hSw; (try dsimp only at hSw); go_simp; try (with_reducible rfl))
            simp only [Act.put, List.getElem_toArray, List.getElem_cons_zero, List.getElem_cons_succ, List.setIfInBounds_toArray, List.set_cons_zero, List.set_cons_succ]
            refine wpAnyH_take (i := 16) (v := ?vc16) rfl (by kernel_rfl) (by kernel_rfl) (by kernel_rfl) (fun _ _ _ h => h) (Or.inl ⟨by rfl, ?hyc16⟩) (by assumption) ?_
            case hyc16 => (intro w hSw; (try dsimp only at hSw); go_simp; try (with_reducible rfl))
            simp only [Act.put, List.getElem_toArray, List.getElem_cons_zero, List.getElem_cons_succ, List.setIfInBounds_toArray, List.set_cons_zero, List.set_cons_succ]
            refine wpAnyH_take (i := 17) (v := ?vc17) rfl (by kernel_rfl) (by kernel_rfl) (by kernel_rfl) (fun _ _ _ h => h) (Or.inl ⟨by rfl, ?hyc17⟩) (by assumption) ?_
            case hyc17 => (intro w hSw; (try dsimp only at hSw); go_simp; try (with_reducible rfl))
            simp only [Act.put, List.getElem_toArray, List.getElem_cons_zero, List.getElem_cons_succ, List.setIfInBounds_toArray, List.set_cons_zero, List.set_cons_succ]
            refine wpAnyH_take (i := 18) (v := ?vc18) rfl (by kernel_rfl) (by kernel_rfl) (by kernel_rfl) (fun _ _ _ h => h) (Or.inl ⟨by rfl, ?hyc18⟩) (by assumption) ?_
            case hyc18 => (intro w hSw; (try dsimp only at hSw); go_simp; try (with_reducible rfl))
            simp only [Act.put, List.getElem_toArray, List.getElem_cons_zero, List.getElem_cons_succ, List.setIfInBounds_toArray, List.set_cons_zero, List.set_cons_succ]
            refine wpAnyH_take (i := 19) (v := ?vc19) rfl (by kernel_rfl) (by kernel_rfl) (by kernel_rfl) (fun _ _ _ h => h) (Or.inl ⟨by rfl, ?hyc19⟩) (by assumption) ?_
            case hyc19 => (intro w hSw; (try dsimp only at hSw); go_simp; try (with_reducible rfl))
            simp only [Act.put, List.getElem_toArray, List.getElem_cons_zero, List.getElem_cons_succ, List.setIfInBounds_toArray, List.set_cons_zero, List.set_cons_succ]
            refine wpAnyH_take (i := 20) (v := ?vc20) rfl (by kernel_rfl) (by kernel_rfl) (by kernel_rfl) (fun _ _ _ h => h) (Or.inl ⟨by rfl, ?hyc20⟩) (by assumption) ?_
            case hyc20 => (intro w hSw; (try dsimp only at hSw); go_simp; try (with_reducible rfl))
            simp only [Act.put, List.getElem_toArray, List.getElem_cons_zero, List.getElem_cons_succ, List.setIfInBounds_toArray, List.set_cons_zero, List.set_cons_succ]
            refine wpAnyH_take (i := 21) (v := ?vc21) rfl (by kernel_rfl) (by kernel_rfl) (by kernel_rfl) (fun _ _ _ h => h) (Or.inl ⟨by rfl, ?hyc21⟩) (by assumption) ?_
            case hyc21 => (intro w hSw; (try dsimp only at hSw); go_simp; try (with_reducible rfl))
            simp only [Act.put, List.getElem_toArray, List.getElem_cons_zero, List.getElem_cons_succ, List.setIfInBounds_toArray, List.set_cons_zero, List.set_cons_succ]
            refine wpAnyH_ready (rs := [22]) (by kernel_rfl) (by simp) ?_
            refine AllReadyH.cons rfl (fun K hK => ?_) AllReadyH.nil
            go_simp
            go_at_call 133; refine (HU.out _ (by first | with_reducible exact hb3 | with_reducible exact hb3.drew | with_reducible exact hb3.drew.drew | with_reducible exact hb3.drew.drew.drew | with_reducible exact hb3.drew.drew.drew.drew | with_reducible exact hb3.drew.drew.drew.drew.drew)).mono ?_; rintro x w4 ⟨rfl, hb4⟩; have v11 := (hb4.cell (by exact hlt)).trans k11; have v12 := (hb4.cell (by exact hlt)).trans k12; have v13 := (hb4.cell (by exact hlt)).trans k13
            try go_wp2_with fail
            refine hK.out _ _ ?_ (fun hHeld => ?_)
            · (try dsimp only); first | (with_reducible exact ⟨v11, v12, v13⟩) | go_keep
            clear hK K
            try simp only [Act.put, List.getElem_toArray, List.getElem_cons_zero, List.getElem_cons_succ, List.setIfInBounds_toArray, List.set_cons_zero, List.set_cons_succ]
            refine wpAnyH_take (i := 23) (v := ?vc23) rfl (by kernel_rfl) (by kernel_rfl) (by kernel_rfl) (fun _ _ _ h => h) (Or.inl ⟨by rfl, ?hyc23⟩) (by assumption) ?_
            case hyc23 => (intro w hSw; (try dsimp only at hSw); go_simp; try (with_reducible rfl))
            simp only [Act.put, List.getElem_toArray, List.getElem_cons_zero, List.getElem_cons_succ, List.setIfInBounds_toArray, List.set_cons_zero, List.set_cons_succ]
            refine wpAnyH_take (i := 24) (v := ?vc24) rfl (by kernel_rfl) (by kernel_rfl) (by kernel_rfl) (fun _ _ _ h => h) (Or.inl ⟨by rfl, ?hyc24⟩) (by assumption) ?_
            case hyc24 => (intro w hSw; (try dsimp only at hSw); go_simp; try (with_reducible rfl))
            simp only [Act.put, List.getElem_toArray, List.getElem_cons_zero, List.getElem_cons_succ, List.setIfInBounds_toArray, List.set_cons_zero, List.set_cons_succ]
            refine wpAnyH_done (by kernel_rfl) ?_ _
            try go_wp2_with fail
            go_meet
            exact ⟨by first | rfl | (rw [hd]; rfl) | simp [hd], (by first | with_reducible exact hb4 | with_reducible exact hb4.drew | with_reducible exact hb4.drew.drew | with_reducible exact hb4.drew.drew.drew | with_reducible exact hb4.drew.drew.drew.drew | with_reducible exact hb4.drew.drew.drew.drew.drew)⟩
      case rest =>
        obtain ⟨rfl, hb3⟩ := hcut
        obtain ⟨w3, hw3⟩ : ∃ w3 : World, w3 = wc := ⟨_, rfl⟩
        subst hw3
        generalize ((bn && decide (a < b)) || decide (a < b2)) = cc at *
        cases cc
        case false =>
          go_wp2_with fail
          refine (HO.out _ hb3).mono ?_
          rintro x w4 ⟨rfl, hb4⟩
          go_wp2
          go_ret2
          exact ⟨ret_r (by rw [HJ.out]; rfl), hb4⟩
        case true =>
          go_wp2
          go_ret2
          exact ⟨ret_r (by rw [HJ.out]; rfl), hb3⟩
end Go.Proofs.YtnkpikknkooblaaGreat
