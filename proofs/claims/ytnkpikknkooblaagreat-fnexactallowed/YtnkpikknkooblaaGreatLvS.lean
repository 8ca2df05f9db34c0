/-
  spec's l5Fits, l5Event, l5Level, LevelOf.
-/
import Derived.Test.YtnkpikknkooblaaGreatLvG
import Derived.Test.YtnkpikknkooblaaGreatEntA
import Derived.Deep.QuietTactic
import Derived.BigQuiet
import Derived.Deep.RegionHeld3
import Derived.Deep.DeepCutAuto
namespace Go.Proofs.YtnkpikknkooblaaGreat
open Go.RowKit

theorem belowM {B : Nat} {w w' : World} (h : Below B w w') (n : Nat) : Below B w (w'.drewN n) := h.trans ⟨rfl, rfl, rfl, Nat.le_refl _, fun _ _ => rfl⟩
set_option maxRecDepth 100000 in
theorem l5F_zero (ra : Option Addr) (n cap : Nat) (E : Nat → Ev) (sa : Option Addr) (sc : Nat) (w : World) :
    Calls Tryz.prog 21 #[.agg #[.slice ra n cap], .slice sa 0 sc] w fun e w' => e = .returned (.bool (fitB E n [])) ∧ Below w.heap.size w w' := by
  go_enter Tryz.func21, Tryz.ntmps21
  go_wp2_with fail
  refine wp_loop_rounds 1 ?_
  rw [rounds_succ]
  go_wp2_with fail
  refine (stateS_zero sa sc _).mono ?_
  rintro e w1 ⟨rfl, hw1⟩
  go_wp2
  go_ret
  exact ⟨by first | rfl | (congr 2), by first | (rw [hw1]; exact (Below.refl _ _).alloc (Nat.le_refl _) _) | (subst hw1; exact (Below.refl _ _).alloc (Nat.le_refl _) _)⟩

set_option maxRecDepth 100000 in
set_option maxHeartbeats 4000000 in
theorem l5F_any {a : Option Addr} {n cap : Nat} {E : Nat → Ev} (B O : Nat) {sc : Nat} {l : List Ent} (w : World) (h : SlV w a n cap E) (hs : SlE w (some ⟨B, O, none⟩) sc l) (hB : B < w.heap.size)
    (d1 : ∀ i, i < l.length → w.cell? ⟨B, O + i * 3, none⟩ = some (.string (eAt l i).ty)) (d2 : ∀ i, i < l.length → w.cell? ⟨B, O + i * 3 + 1, none⟩ = some (.string (eAt l i).key)) (d3 : ∀ i, i < l.length → w.cell? ⟨B, O + i * 3 + 2, none⟩ = some (.string (eAt l i).id)) :
    Calls Tryz.prog 21 #[.agg #[.slice a n cap], .slice (some ⟨B, O, none⟩) l.length sc] w fun e w' => e = .returned (.bool (fitB E n l)) ∧ Below w.heap.size w w' := by
  have hln := Nat.le_trans hs.le hs.max
  have hnn := Nat.le_trans h.le h.max
  unfold maxLen at hln hnn
  obtain ⟨wb, hwb⟩ : ∃ wb, wb = w.alloc (.cells #[.slice a n cap] 36) := ⟨_, rfl⟩
  have hb0 : Below w.heap.size w wb := by rw [hwb]; exact (Below.refl _ _).alloc (Nat.le_refl _) _
  have hs0 : wb.heap.size = w.heap.size + 1 := by rw [hwb]; simp
  have hbx : Hid (∀ wx, Below (w.heap.size + 1) wb wx → wx.cell? ⟨w.heap.size, 0, none⟩ = some (.slice a n cap)) := fun wx hx => by subst hwb; exact box_cells hx 0
  have H1 : Hid (_) := d1
  have H2 : Hid (_) := d2
  have H3 : Hid (_) := d3
  clear d1 d2 d3
  go_enter Tryz.func21, Tryz.ntmps21
  go_wp2_with fail
  rw [← hwb]
  clear hwb
  go_loopw [5] (fun i wr => ∃ k : Nat, k ≤ l.length ∧ i = .int .i64 k ∧ Hid (fitTo E n l k = true) ∧ Below (w.heap.size + 1) wb wr) (fun i _ => l.length - (intOf i).toNat)
  case atStart => exact ⟨0, Nat.zero_le _, rfl, rfl, Below.refl _ _⟩
  case round =>
    obtain ⟨k, hk, rfl, hto, hBq⟩ := hrel
    have hbw := hb0.trans (hBq.mono (by omega))
    have hso : w.heap.size + 1 ≤ wr.heap.size := by have := hBq.size; omega
    by_cases hlt : k < l.length
    · have c0 := hbx.out _ hBq
      have a1 : wr.cell? ⟨B, O + k * 3, none⟩ = some (.string (eAt l k).ty) := (hbw.cell (by exact hB)).trans (H1.out k hlt)
      have a2 : wr.cell? ⟨B, O + k * 3 + 1, none⟩ = some (.string (eAt l k).key) := (hbw.cell (by exact hB)).trans (H2.out k hlt)
      have a3 : wr.cell? ⟨B, O + k * 3 + 2, none⟩ = some (.string (eAt l k).id) := (hbw.cell (by exact hB)).trans (H3.out k hlt)
      have Hft : Hid (fitTo E n l (k + 1) = (fitTo E n l k && fit1 E n (eAt l k))) := rfl
      generalize eAt l k = x at *
      have hwz : w.heap.size < wr.heap.size := by omega
      have hBr : B < wr.heap.size := Nat.lt_of_lt_of_le hB hbw.size
      have hrf : Below wr.heap.size wr wr := Below.refl _ _
      have HA : Hid (∀ W, Below wr.heap.size wr W → Calls Tryz.prog 44 #[.agg #[.slice a n cap], .string x.id] W fun e w' => e = .returned (.int .i64 (posV E n x.id)) ∧ Below wr.heap.size wr w') := fun W hW => (l2At_sl x.id W ((h.below hbw).below hW)).mono fun e w' ⟨h1, h2⟩ => ⟨h1, by rw [h2]; exact hW.alloc hW.size _⟩
      have hi0 : (0 : Int) ≤ (k : Int) := by omega
      have hi1 : (k : Int) < (l.length : Int) := by omega
      have hbd := posV_bd E x.id n
      have Hf1 : Hid (fit1 E n x = (decide (0 ≤ posV E n x.id) && ((E (posV E n x.id).toNat).st && (((E (posV E n x.id).toNat).ty.toList == x.ty.toList) && ((E (posV E n x.id).toNat).key.toList == x.key.toList))))) := rfl
      obtain ⟨p, hp⟩ : ∃ p, p = posV E n x.id := ⟨_, rfl⟩
      rw [← hp] at hbd
      have Hp : Hid (p = posV E n x.id) := hp
      unfold Hid at Hf1
      rw [← hp] at Hf1
      have HF1 : Hid (_ = _) := Hf1
      clear Hf1
      go_wp2_with fail
      go_cut [6] (fun v wx => v = .int .i64 p ∧ Below wr.heap.size wr wx)
      case first =>
        go_region_held3 (fun W => W.cell? ⟨w.heap.size, 0, none⟩ = some (.slice a n cap) ∧ W.cell? ⟨B, O + k * 3 + 2, none⟩ = some (.string x.id))
          (first | (with_reducible exact ⟨c0, a3⟩) | go_keep)
          ((go_at_call 44; refine (HA.out _ (by first | with_reducible exact hrf | with_reducible exact hrf.drew | with_reducible exact hrf.drew.drew | with_reducible exact hrf.drew.drew.drew)).mono ?_; rintro e w5 ⟨rfl, hb5⟩; have hk0 := (hb5.cell (by exact hwz)).trans c0; have hk1 := (hb5.cell (by exact hBr)).trans a3))
        all_goals (try go_wp2_with fail)
        all_goals go_meet
        all_goals (rw [Hp.out]; exact ⟨rfl, by first | exact hb5 | exact hb5.drew | exact hb5.drew.drew⟩)
      case rest =>
        obtain ⟨rfl, hb5⟩ := hcut
        obtain ⟨w5, hw5⟩ : ∃ w5 : World, w5 = wc := ⟨_, rfl⟩
        subst hw5
        have hB5 := hBq.trans (hb5.mono hso)
        have hbw5 := hb0.trans (hB5.mono (by omega))
        have k0 := hbx.out _ hB5
        have k1 := (hb5.cell (by exact hBr)).trans a1
        have k2 := (hb5.cell (by exact hBr)).trans a2
        have Hno : Hid (fit1 E n x = false → Ending.returned (.bool false) = .returned (.bool (fitB E n l))) := fun hf => by
          have : fitTo E n l (k + 1) = false := by rw [Hft.out, hf, Bool.and_false]
          unfold fitB; rw [fitTo_le E n l l.length k hlt this]; rfl
        have Hye : Hid (fit1 E n x = true → fitTo E n l (k + 1) = true) := fun hf => by rw [Hft.out, hto.out, hf]; rfl
        clear a1 a2 a3 c0 HA hto Hft Hp hp
        obtain ⟨bq, hbq⟩ : ∃ bq, bq = !fit1 E n x := ⟨_, rfl⟩
        have Hbq : Hid (bq = !fit1 E n x) := hbq
        clear hbq
        go_wp2_with fail
        go_cut [58] (fun v wx => v = .bool bq ∧ Below w5.heap.size w5 wx)
        case first =>
          have hr5 : Below w5.heap.size w5 w5 := Below.refl _ _
          by_cases hneg : p < 0
          · have hv : Hid (Value.bool true = .bool bq) := by unfold Hid; rw [Hbq.out, HF1.out, decide_eq_false (by omega)]; rfl
            have hdn : decide (p < 0) = true := decide_eq_true hneg
            clear HF1 Hno Hye Hbq
            go_quiet (fail)
            all_goals (try go_wp2_with fail)
            all_goals go_meet
            all_goals exact ⟨hv.out, belowM hr5 _⟩
          · obtain ⟨q, rfl⟩ : ∃ q : Nat, p = (q : Int) := ⟨p.toNat, by omega⟩
            have hqn : q < n := by omega
            have hq0 : (0 : Int) ≤ (q : Int) := by omega
            have hq1 : (q : Int) < (n : Int) := by omega
            have hdn : decide ((q : Int) < 0) = false := decide_eq_false (by omega)
            have hHF := HF1.out
            rw [Int.toNat_natCast, decide_eq_true hq0, Bool.true_and] at hHF
            have HF2 : Hid (_ = _) := hHF
            clear hHF HF1
            rcases (h.below hbw5).cells with h0 | ⟨b, off, rfl, hb, hc⟩
            · omega
            obtain ⟨_, _, _, _, _, _, hec, _⟩ := hc q hqn
            have e2 := hec.c2
            have e3 := hec.c3
            have e4 := hec.c4
            clear hc hec Hno Hye h hs
            generalize (E q).st = st at *
            generalize (E q).ty = ty at *
            generalize (E q).key = key at *
            cases st
            case false =>
              have hv : Hid (Value.bool true = .bool bq) := by unfold Hid; rw [Hbq.out, HF2.out]; rfl
              clear HF2 Hbq
              go_quiet (fail)
              all_goals (try go_wp2_with fail)
              all_goals go_meet
              all_goals exact ⟨hv.out, belowM hr5 _⟩
            case true =>
              cases ht1 : (ty.toList == x.ty.toList)
              case false =>
                have hv : Hid (Value.bool true = .bool bq) := by unfold Hid; rw [Hbq.out, HF2.out, ht1]; rfl
                clear HF2 Hbq
                go_quiet (fail)
                all_goals (try go_wp2_with fail)
                all_goals go_meet
                all_goals exact ⟨hv.out, belowM hr5 _⟩
              case true =>
                cases hk1 : (key.toList == x.key.toList)
                case false =>
                  have hv : Hid (Value.bool true = .bool bq) := by unfold Hid; rw [Hbq.out, HF2.out, ht1, hk1]; rfl
                  clear HF2 Hbq
                  go_quiet (fail)
                  all_goals (try go_wp2_with fail)
                  all_goals go_meet
                  all_goals exact ⟨hv.out, belowM hr5 _⟩
                case true =>
                  have hv : Hid (Value.bool false = .bool bq) := by unfold Hid; rw [Hbq.out, HF2.out, ht1, hk1]; rfl
                  clear HF2 Hbq
                  go_quiet (fail)
                  all_goals (try go_wp2_with fail)
                  all_goals go_meet
                  all_goals exact ⟨hv.out, belowM hr5 _⟩
        case rest =>
          obtain ⟨rfl, hb6⟩ := hcut
          obtain ⟨w6, hw6⟩ : ∃ w6 : World, w6 = wc := ⟨_, rfl⟩
          subst hw6
          have hB6 := hB5.trans (hb6.mono (by have := hB5.size; omega))
          have hbw6 := hbw5.trans (hb6.mono hbw5.size)
          clear HF1
          cases bq
          case false =>
            have Ht : Hid (fitTo E n l (k + 1) = true) := Hye.out (by have := Hbq.out; simpa using this.symm)
            clear Hno Hye Hbq
            go_wp2
            go_roundw
            case rel => first | exact ⟨k + 1, by omega, by go_num, Ht, hB6⟩ | ((repeat apply Exists.intro); exact ⟨⟨k + 1, by omega, by go_num, Ht, hB6⟩, rfl⟩)
            case measure => simp [intOf]; omega
          case true =>
            have HN : Hid (_ = _) := Hno.out (by have := Hbq.out; simpa using this.symm)
            clear Hno Hye Hbq
            go_wp2
            go_ret
            exact ⟨HN.out, hbw6⟩
    · have hkn : k = l.length := by omega
      subst hkn
      have Hv : Hid (fitB E n l = stB l) := by unfold Hid fitB; rw [hto.out]; rfl
      clear hto
      go_wp2_with fail
      refine (stateS_sl _ (hs.below hbw)).mono ?_
      rintro e w1 ⟨rfl, hb1⟩
      go_wp2
      go_ret
      exact ⟨ret_bool Hv.out.symm, hbw.trans (hb1.mono hbw.size)⟩
theorem l5F_sl {a : Option Addr} {n cap : Nat} {E : Nat → Ev} {sa : Option Addr} {sc : Nat} {l : List Ent} (w : World) (h : SlV w a n cap E) (hs : SlE w sa sc l) :
    Calls Tryz.prog 21 #[.agg #[.slice a n cap], .slice sa l.length sc] w fun e w' => e = .returned (.bool (fitB E n l)) ∧ Below w.heap.size w w' := by
  rcases hs.cells with rfl | ⟨B, O, rfl, hB, d1, d2, d3⟩
  · exact l5F_zero a n cap E sa sc w
  · exact l5F_any B O w h hs hB d1 d2 d3
end Go.Proofs.YtnkpikknkooblaaGreat
