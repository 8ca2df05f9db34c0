/-
  impl's authorLevels.
-/
import Derived.Test.YtfjfhnjoghlbfaaGreatMlI
import Derived.Test.YtfjfhnjoghlbfaaGreatEaA
import Derived.Test.YtfjfhnjoghlbfaaGreatPoB
import Derived.Test.YtfjfhnjoghlbfaaGreatCovA
namespace Go.Proofs.YtfjfhnjoghlbfaaGreat
open Go.RowKit

set_option maxRecDepth 100000 in
set_option maxHeartbeats 4000000 in
theorem auI_sl {a : Option Addr} {n cap m : Nat} {E : Nat → Ev} {ra : Option Addr} {rc : Nat} (w : World) (hroom : roomTo E n = true) (h : SlV w a n cap E) (hr : SlL w ra n rc (restN E) (restV E)) :
    Calls Tryz.prog 42 #[.agg #[.slice a n cap, .map (some m), .slice ra n rc]] w fun e w' => ∃ v, e = .returned v ∧ OwnI w' w.heap.size v n (auV E n) ∧ Below w.heap.size w w' := by
  obtain ⟨i0, hi, hz0, hz1, hz2⟩ := info_parts Tryz.infoIntO
  have h300 := room_300 hroom
  obtain ⟨wb, hwb⟩ : ∃ wb, wb = w.alloc (.cells #[.slice a n cap, .map (some m), .slice ra n rc] 48) := ⟨_, rfl⟩
  have hb0 : Below w.heap.size w wb := by rw [hwb]; exact (Below.refl _ _).alloc (Nat.le_refl _) _
  have hs0 : wb.heap.size = w.heap.size + 1 := by rw [hwb]; simp
  have hbx : Hid (∀ wx, Below wb.heap.size wb wx → ∀ o, wx.cell? ⟨w.heap.size, o, none⟩ = (#[.slice a n cap, .map (some m), .slice ra n rc] : Array Value)[o]?) := fun wx hx => by subst hwb; exact box_cells (hx.mono (by simp))
  have g0 : wb.cell? ⟨w.heap.size, 0, none⟩ = some (.slice a n cap) := hbx.out wb (Below.refl _ _) 0
  have Hroom : Hid (_) := hroom
  have HE : Hid (SlV w a n cap E) := h
  have HR : Hid (SlL w ra n rc (restN E) (restV E)) := hr
  clear hroom h hr
  go_enter Tryz.func42, Tryz.ntmps42
  go_upto_region 1 with fail
  rw [← hwb]
  clear hwb
  go_wp2_with fail
  go_loopw [3, 11] (fun v i wr => ∃ k : Nat, k ≤ n ∧ i = .int .i64 k ∧ OwnI wr wb.heap.size v k (auV E n) ∧ Below wb.heap.size wb wr) (fun _ i _ => n - (intOf i).toNat)
  case atStart => exact ⟨0, Nat.zero_le _, rfl, OwnI.nil _ _ _, Below.refl _ _⟩
  case round =>
    clear g0
    obtain ⟨k, hk, rfl, hown, hbel⟩ := hrel
    have hbw := hb0.trans (hbel.mono hb0.size)
    have hsr : wb.heap.size ≤ wr.heap.size := hbel.size
    by_cases hlt : k < n
    · rcases HE.out.cells with h0 | ⟨b, off, rfl, hb, hc⟩
      · omega
      obtain ⟨pa, cp, aa, ca, ga, cg, hec, _⟩ := hc k hlt
      obtain ⟨e0, e1, e2, e3, e4, e5, e6, e7, e8, e9⟩ := hec.below hbw hb
      obtain ⟨_, _, _, _, _, _, hec0, _⟩ := hc 0 (by omega)
      have Hc0 : Hid (∀ W, Below w.heap.size w W → W.cell? ⟨b, off + 1, none⟩ = some (.string (E 0).sd)) := fun W hW => by
        have := (hW.cell (p := ⟨b, off + 0 * 10 + 1, none⟩) hb).trans hec0.c1
        simpa using this
      have Hc : Hid (∀ i, i < n → EvAt w b (off + i * 10) (E i)) := hc
      have hbr : b < wr.heap.size := Nat.lt_of_lt_of_le hb hbw.size
      have hne : b ≠ wr.heap.size := by omega
      have HP : Hid (∀ W, Below w.heap.size w W → Calls Tryz.prog 65 #[.agg #[.slice (some ⟨b, off, none⟩) n cap, .map (some m), .slice ra n rc], .int .i64 (k : Int)] W fun e w' => e = .returned (.int .i64 (pwV E n k)) ∧ Below W.heap.size W w') := fun W hW => powI_sl W Hroom.out hlt (HE.out.below hW) (HR.out.below hW)
      have Hau : Hid (∀ z, z = pwV E n k → auV E n k = if 0 ≤ z then byG (E z.toNat) (E k).sd else if (E k).sd.toList == (E 0).sd.toList then 100 else 0) := fun z hz => by rw [hz]; rfl
      clear hc hec hec0
      obtain ⟨ev, hev⟩ : ∃ ev, ev = E k := ⟨_, rfl⟩
      rw [← hev] at e0 e1 e2 e3 e4 e5 e6 e7 e8 e9 Hau
      clear hev
      go_upto_region 4 with fail
      go_cut [4, 5] from 12 to 37 (fun iv pv wx => iv = .int .i64 (k : Int) ∧ CutG wr ev pa cp aa ca ga cg pv wx)
      case first =>
        go_wp2_with fail
        go_meet
        exact ⟨rfl, cutG_a (Below.refl _ _)⟩
      case rest =>
        obtain ⟨rfl, B, rfl, hBl, hcells, hbc⟩ := hcut
        obtain ⟨w5, hw5⟩ : ∃ w5 : World, w5 = wc := ⟨_, rfl⟩
        subst hw5
        have hB5 := hbel.trans (hbc.mono hsr)
        have hbw5 := hb0.trans (hB5.mono hb0.size)
        have hs5 := hB5.size
        have y0 := hbx.out _ hB5 0
        have y1 := hbx.out _ hB5 1
        have y2 := hbx.out _ hB5 2
        have hBz : Below wb.heap.size wb (w5.alloc (.cells #[.pointer (some ⟨b, off, none⟩), .pointer none] 102)) := hB5.alloc hs5 _
        have z0 := hbx.out _ hBz 0
        have z1 := hbx.out _ hBz 1
        have z2 := hbx.out _ hBz 2
        have s1 := hcells.c1
        rw [Nat.zero_add] at s1
        have hn0 : (0 : Int) < (n : Int) := by omega
        have hn1 : 0 < n := by omega
        have hne5 : w.heap.size ≠ w5.heap.size := by omega
        have hm1 : k + 1 ≤ maxLen := by unfold maxLen; omega
        have hm2 : (k + 1) * 8 ≤ 140737488355328 := by omega
        have Hag : Hid (∀ q', u3.ownBlock = some q' → wb.heap.size ≤ q') := fun q' hq' => (World.ownsRow.lt hown q' hq').1
        have hown5 := hown.below hbc
        have hW6 : Below w5.heap.size w5 (w5.alloc (.cells #[.pointer (some ⟨b, off, none⟩), .pointer none] 102)) := (Below.refl _ _).alloc (Nat.le_refl _) _
        have hWz : Hid (Below w.heap.size w (w5.alloc (.cells #[.pointer (some ⟨b, off, none⟩), .pointer none] 102))) := hbw5.alloc hbw5.size _
        clear e0 e1 e2 e3 e4 e5 e6 e7 e8 e9 hcells hown
        go_wp2_with fail
        refine (HP.out _ hWz.out).mono ?_
        rintro e w7 ⟨rfl, hb7⟩
        have h57 := hW6.trans (hb7.mono hW6.size)
        have hB7 := hB5.trans (h57.mono hs5)
        have hbw7 := hb0.trans (hB7.mono hb0.size)
        have hs7 : w5.heap.size + 1 ≤ w7.heap.size := by have := hb7.size; simpa using this
        have l0 : w7.cell? ⟨w5.heap.size, 0, none⟩ = some (.pointer (some ⟨b, off, none⟩)) := (hb7.cell (p := ⟨w5.heap.size, 0, none⟩) (by simp)).trans (World.cell?_alloc_at _ _ _ _ rfl)
        have l1 : w7.cell? ⟨w5.heap.size, 1, none⟩ = some (.pointer none) := (hb7.cell (p := ⟨w5.heap.size, 1, none⟩) (by simp)).trans (World.cell?_alloc_at _ _ _ _ rfl)
        have lf : ∀ o, w7.frozen? ⟨w5.heap.size, o, none⟩ = false := fun o => (hb7.frozen (p := ⟨w5.heap.size, o, none⟩) (by simp)).trans (World.frozen?_alloc_at _ _ _ _ rfl)
        have s7 : w7.cell? ⟨B, 1, none⟩ = some (.string ev.sd) := (h57.cell (p := ⟨B, 1, none⟩) hBl).trans s1
        have r0 := hbx.out _ hB7 0
        have hBne : B ≠ w5.heap.size := by omega
        have hown7 := hown5.below h57
        clear y0 y1 y2 z0 z1 z2 s1 HP hWz hW6 hb7
        by_cases h0 : 0 ≤ pwV E n k
        · obtain ⟨y, hy, ey, hpy⟩ := pw_at Hroom.out hlt h0
          have hyn : y < n := by omega
          obtain ⟨qa, qp, ra', rp, sa, sp, hecy, hoky⟩ := Hc.out y hyn
          have hasc := gr_asc (room_code Hroom.out hyn) hpy
          obtain ⟨av, hav⟩ : ∃ av, av = byG (E y) ev.sd := ⟨_, rfl⟩
          have Hav : Hid (av = auV E n k) := by
            have := Hau.out _ rfl
            rw [if_pos h0, ey, Int.toNat_natCast] at this
            exact hav.trans this.symm
          have HU : Hid (∀ W, Below w.heap.size w W → Calls Tryz.prog 66 #[.agg #[.pointer (some ⟨b, off, none⟩), .pointer (some ⟨b, off + y * 10, none⟩)], .string ev.sd] W fun e w' => e = .returned (.int .i64 av) ∧ Below W.heap.size W w') := fun W hW => by
            rw [hav]
            exact ofU_pow ev.sd W (Nat.lt_of_lt_of_le hb hW.size) ((hW.cell (by exact hb)).trans hecy.c9) hasc.2 hasc.1 (hoky.hg.below hW)
          have hyn0 : (0 : Int) ≤ (y : Int) := by omega
          have hyn1 : (y : Int) < (n : Int) := by omega
          have hyn2 : ¬ (y : Int) = -1 := by omega
          have hbW8 : Below w.heap.size w (w7.setCell ⟨w5.heap.size, 1, none⟩ (.pointer (some ⟨b, off + y * 10, none⟩))) := hbw7.setCell (by show w.heap.size ≤ w5.heap.size; omega) _
          have hK8 : Kp (fun q => q = w5.heap.size) w7 (w7.setCell ⟨w5.heap.size, 1, none⟩ (.pointer (some ⟨b, off + y * 10, none⟩))) := (Kp.refl (fun q => q = w5.heap.size) w7).setCell rfl _
          have hB8' : Below wb.heap.size wb (w7.setCell ⟨w5.heap.size, 1, none⟩ (.pointer (some ⟨b, off + y * 10, none⟩))) := hB7.setCell (by show wb.heap.size ≤ w5.heap.size; omega) _
          have Ho8 : Hid (OwnI (w7.setCell ⟨w5.heap.size, 1, none⟩ (.pointer (some ⟨b, off + y * 10, none⟩))) wb.heap.size u3 k (auV E n)) := hown7.kp hK8 (fun g hg e => by have := (World.ownsRow.lt hown5 g hg).2; omega)
          rw [ey]
          clear hav ey h0 hecy hoky Hau hpy hasc hown7
          go_wp2_with fail
          refine (HU.out _ hbW8).mono ?_
          rintro e w8 ⟨rfl, hb8⟩
          have hs8' := hB8'.size
          have hB8 : Below wb.heap.size wb w8 := hB8'.trans (hb8.mono hs8')
          have hown8 : OwnI w8 wb.heap.size u3 k (auV E n) := Ho8.out.below hb8
          have hm3 : ∀ o, wb.heap.size ≤ (w8.alloc o).heap.size := fun o => by have := hB8.size; simp; omega
          go_wp2_with (at_builtin; refine wpList_append_own _ rfl _ _ 51 rfl wb.heap.size 3 i0 (.int .i64 0) 1 8 Tryz.underlying51 hi hz0 hz1 hz2 rfl (by decide) _ _ _ rfl (World.ownsRow.alloc hown8 _) ⟨w8.heap.size, 0, none⟩ 1 1 [.int .i64 av] rfl rfl (one_cellsI _ _ _) (one_oneI _) hm1 hm2 (hm3 _) ?_; intro v2 w2 hown2 hgrow2 _)
          have hB2 : Below wb.heap.size wb w2 := (hB8.alloc hB8.size _).grown hgrow2 (hm3 _) Hag.out
          have hown3 : OwnI w2 wb.heap.size v2 (k + 1) (auV E n) := OwnI.snoc hown2 Hav.out
          clear hown2 hgrow2
          go_roundw
          case rel => exact ⟨k + 1, by omega, by go_num, hown3, hB2⟩
          case measure => simp [intOf]; omega
        · have h1 : pwV E n k = -1 := by have := (pwV_bd Hroom.out hlt).1; omega
          obtain ⟨av, hav⟩ : ∃ av, av = if ((E 0).sd.toList == ev.sd.toList) = true then (100 : Int) else 0 := ⟨_, rfl⟩
          have Hav : Hid (av = auV E n k) := by
            have := Hau.out _ rfl
            rw [if_neg h0, beq_swap] at this
            exact hav.trans this.symm
          have HU : Hid (∀ W, Below w.heap.size w W → Calls Tryz.prog 66 #[.agg #[.pointer (some ⟨b, off, none⟩), .pointer none], .string ev.sd] W fun e w' => e = .returned (.int .i64 av) ∧ Below W.heap.size W w') := fun W hW => by
            rw [hav]
            exact ofU_cre (E 0).sd ev.sd W (Nat.lt_of_lt_of_le hb hW.size) (Hc0.out W hW)
          have Hb7 : Hid (Below w.heap.size w w7) := hbw7
          rw [h1]
          clear hav h0 h1 Hau
          go_wp2_with fail
          refine (HU.out _ Hb7.out).mono ?_
          rintro e w8 ⟨rfl, hb8⟩
          have hs7' := hB7.size
          have hB8 : Below wb.heap.size wb w8 := hB7.trans (hb8.mono hs7')
          have hown8 : OwnI w8 wb.heap.size u3 k (auV E n) := hown7.below hb8
          have hm3 : ∀ o, wb.heap.size ≤ (w8.alloc o).heap.size := fun o => by have := hB8.size; simp; omega
          go_wp2_with (at_builtin; refine wpList_append_own _ rfl _ _ 51 rfl wb.heap.size 3 i0 (.int .i64 0) 1 8 Tryz.underlying51 hi hz0 hz1 hz2 rfl (by decide) _ _ _ rfl (World.ownsRow.alloc hown8 _) ⟨w8.heap.size, 0, none⟩ 1 1 [.int .i64 av] rfl rfl (one_cellsI _ _ _) (one_oneI _) hm1 hm2 (hm3 _) ?_; intro v2 w2 hown2 hgrow2 _)
          have hB2 : Below wb.heap.size wb w2 := (hB8.alloc hB8.size _).grown hgrow2 (hm3 _) Hag.out
          have hown3 : OwnI w2 wb.heap.size v2 (k + 1) (auV E n) := OwnI.snoc hown2 Hav.out
          clear hown2 hgrow2
          go_roundw
          case rel => exact ⟨k + 1, by omega, by go_num, hown3, hB2⟩
          case measure => simp [intOf]; omega
    · have hkn : n = k := by omega
      subst hkn
      go_wp2
      go_ret
      exact ⟨_, rfl, hown.monoB hb0.size, hbw⟩
end Go.Proofs.YtfjfhnjoghlbfaaGreat
