import Derived.Test.YtjmhdjjkfglbgabCdX
import Derived.Test.YtjmhdjjkfglbgabCdI
import Derived.Test.YtjmhdjjkfglbgabCovE
import Derived.Deep.DeepFit
namespace Go.Proofs.Ytjmhdjjkfglbgab
open Go.RowKit

theorem toCr_any {sa : Option Addr} {ns cs : Nat} {ra : Option Addr} {nr cr : Nat} {C Q : Nat → Int} {rn : Nat → Nat} {X : Nat → Nat → Int} (w : World)
    (hrs : ns * 16 ≤ 140737488351232) (hrr : nr * 24 ≤ 140737488351232) (hR : ∀ i, i < nr → rn i * 8 ≤ 140737488351232) (hp : SlP w sa ns cs C Q) (hl : SlL w ra nr cr rn X) :
    Calls Try.prog 13 #[.agg #[.slice sa ns cs, .slice ra nr cr]] w fun e w' =>
      ∃ bs br : Nat, e = .returned (.agg #[.slice (some ⟨bs, 0, none⟩) ns ns, .slice (some ⟨br, 0, none⟩) nr nr]) ∧
        SlP w' (some ⟨bs, 0, none⟩) ns ns C Q ∧ SlL w' (some ⟨br, 0, none⟩) nr nr rn X ∧ Below w.heap.size w w' := by
  refine (toC_sl w hrs hrr hR hp hl).mono ?_
  rintro e w' ⟨bs, br, rfl, h1, h2, h3, _, _, h4⟩
  exact ⟨bs, br, rfl, h1, slL_of_new (by unfold maxLen; omega) h4 h2, h3⟩

set_option maxRecDepth 100000 in
set_option maxHeartbeats 8000000 in
theorem lawCd_any {sa : Option Addr} {ns cs : Nat} {ra : Option Addr} {nr cr : Nat} {C Q : Nat → Int} {rn : Nat → Nat} {X : Nat → Nat → Int} {a : Option Addr} {m cap : Nat} {sn : Nat → Nat} {Y : Nat → Nat → Int} (w : World)
    (hrs : ns * 16 ≤ 140737488351232) (hrr : nr * 24 ≤ 140737488351232) (hR : ∀ i, i < nr → rn i * 8 ≤ 140737488351232) (hrm : m * 24 ≤ 140737488351232) (hRm : ∀ i, i < m → sn i * 8 ≤ 140737488351232)
    (hp : SlP w sa ns cs C Q) (hl : SlL w ra nr cr rn X) (hs : SlL w a m cap sn Y) :
    Calls Try.prog 4 #[.agg #[.slice sa ns cs, .slice ra nr cr], .slice a m cap] w fun e w' => e = .returned (.bool true) ∧ Below w.heap.size w w' := by
  have hb0 : ∀ o, Below w.heap.size w (w.alloc o) := fun o => (Below.refl _ _).alloc (Nat.le_refl _) _
  go_enter Try.func4, Try.ntmps4
  go_wp2_with fail
  refine (szC2_any _ _ (by decide) (by decide) (hp.below (hb0 _)) (hl.below (hb0 _))).mono ?_
  rintro e w1 ⟨r, rfl, hr, hr', hq, hb1⟩
  have hB1 := hb1.mono (B' := w.heap.size + 1) (by simp)
  have hw1 := (hb0 _).trans (hb1.mono (by simp))
  have hcl := box_cells hB1
  clear hb1
  by_cases hneg : r < 0
  · go_wp2
    go_ret
    exact ⟨rfl, hw1⟩
  go_wp2_with fail
  refine (szL2_sl _ _ (by omega) (by omega) (hs.below hw1)).mono ?_
  rintro e w' ⟨r2, rfl, hr2, hr2', hq2, rfl⟩
  by_cases hneg2 : r2 < 0
  · go_wp2
    go_ret
    exact ⟨rfl, hw1⟩
  have hq1 := hq (by omega)
  have hq3 := hq2 (by omega)
  have hR2 : ∀ i, i < nr → rn i ≤ 1048576 := fun i hi => by have := sumN_at rn nr i hi; omega
  have hns : ns ≤ 1048576 := by omega
  have hms : m ≤ 1048576 := by omega
  clear hq hq2
  go_wp2_with fail
  refine (toCr_any _ hrs hrr hR (hp.below hw1) (hl.below hw1)).mono ?_
  rintro e w2 ⟨bs2, br2, rfl, hp2, hl2, hb2⟩
  have hw2 := hw1.trans (hb2.mono hw1.size)
  go_wp2_with fail
  refine (toL_sl _ hrm hRm (hs.below hw2)).mono ?_
  rintro e w3 ⟨rfl, hs3, hb3⟩
  have hw3 := hw2.trans (hb3.mono hw2.size)
  go_wp2_with fail
  refine (cdS_any _ hns (hp2.below hb3) (hl2.below hb3) hs3).mono ?_
  rintro e w4 ⟨v0, rfl, ho0, hb4⟩
  obtain ⟨va, vc, rfl, hsl0⟩ := ho0.sl
  have hw4 := hw3.trans (hb4.mono hw3.size)
  have hb14 := (hb2.trans (hb3.mono hb2.size)).trans (hb4.mono (Nat.le_trans hb2.size hb3.size))
  have hB4 := hB1.trans (hb14.mono (by have := hB1.size; simpa using this))
  clear hcl hp2 hl2 hs3 hb2 hb3 hb4 ho0 hw1 hw2 hw3 hb14 hB1
  have hcl := box_cells hB4
  generalize hDD : dfB ns C Q nr rn X m sn Y = D at *
  have HDD : Hid (_ = _) := hDD
  clear hDD
  have hlen := posL_len D ns
  generalize hLL : (posL D ns).length = L at *
  generalize hPP : posX D ns = P at *
  have HPP : Hid (_ = _) := hPP
  clear hPP
  go_wp2_with fail
  refine (toCw_sl _ hrs hrr hR (hp.below hw4) (hl.below hw4)).mono ?_
  rintro e w5 ⟨bs, br, rfl, hp5, hv5, hrw5, hb5, q1, q2, q3⟩
  have hw5 := hw4.trans (hb5.mono hw4.size)
  have hB5 := hB4.trans (hb5.mono (by have := hB4.size; simpa using this))
  have hbA : Below w5.heap.size w5 (w5.alloc (.cells #[.slice (some ⟨bs, 0, none⟩) ns ns, .slice (some ⟨br, 0, none⟩) nr nr] 44)) := (Below.refl _ _).alloc (Nat.le_refl _) _
  clear hcl
  go_wp2_with fail
  refine (toLw_new _ hrm hRm ((hs.below hw5).below hbA)).mono ?_
  rintro e w6 ⟨rfl, hrw6, hz6, hb6⟩
  simp only [World.size_alloc] at hrw6 hz6
  have hX6 := hb6.mono (B' := w5.heap.size + 1) (by simp)
  have hb56 := hbA.trans (hb6.mono hbA.size)
  have hcx := box_cells hX6
  have hp6 := hp5.below hb56
  have hl6 : SlL w6 (some ⟨br, 0, none⟩) nr nr rn X := slL_of_new (by unfold maxLen; omega) (Nat.lt_of_lt_of_le q3 hb56.size) (fun i hi => (((hrw5 i hi).plain).below hb56 q3))
  have hs6 : SlL w6 (some ⟨w5.heap.size + 1, 0, none⟩) m m sn Y := slL_of_new (by unfold maxLen; omega) hz6 (fun i hi => (hrw6 i hi).plain)
  go_wp2_with fail
  have hcdI : Hid (∀ W a1 c1 a2 c2 a3 c3, SlP W a1 ns c1 C Q → SlL W a2 nr c2 rn X → SlL W a3 m c3 sn Y → Calls Try.prog 15 #[.agg #[.slice a1 ns c1, .slice a2 nr c2], .slice a3 m c3] W fun e w' => ∃ v, e = .returned v ∧ OwnI w' W.heap.size v L P ∧ Below W.heap.size W w') := fun W a1 c1 a2 c2 a3 c3 h1 h2 h3 => by
    have := cdI_any W hns hms hR2 h1 h2 h3
    unfold CdPost at this
    rw [HDD.out, hLL, HPP.out] at this
    exact this
  refine (hcdI.out _ _ _ _ _ _ _ hp6 hl6 hs6).mono ?_
  rintro e w7 ⟨vg, rfl, hog, hb7⟩
  obtain ⟨ga, gc, rfl, hslg⟩ := hog.sl
  have hX7 := hX6.trans (hb7.mono (by have := hX6.size; simpa using this))
  have hb57 := hb56.trans (hb7.mono hb56.size)
  have hw7 := hw5.trans (hb57.mono hw5.size)
  have hB7 := hB5.trans (hb57.mono (by have := hB5.size; simpa using this))
  have hsl07 := (hsl0.below hb5).below hb57
  clear hcx
  go_wp2_with fail
  refine (eqI_sl _ hslg hsl07).mono ?_
  rintro e w8 ⟨rfl, hd8⟩
  have hb78 := hd8.below w7.heap.size
  have hw8 := hw7.trans (hb78.mono hw7.size)
  have hcl := box_cells (hB7.trans (hb78.mono (by have := hB7.size; simpa using this)))
  have hX8 := hX7.trans (hb78.mono (by have := hX7.size; simpa using this))
  have hcx := box_cells hX8
  have hp8 := (hp6.below hb7).below hb78
  have hl8 := (hl6.below hb7).below hb78
  have hs8 := (hs6.below hb7).below hb78
  go_wp2_with fail
  go_region_with (first
    | (go_at_call 13; refine (toCr_any _ hrs hrr hR (hp.below (by first | exact hw8 | exact (hw8).drew | exact (hw8).drew.drew | exact (hw8).drew.drew.drew | exact (hw8).drew.drew.drew.drew)) (hl.below (by first | exact hw8 | exact (hw8).drew | exact (hw8).drew.drew | exact (hw8).drew.drew.drew | exact (hw8).drew.drew.drew.drew))).mono ?_; rintro e w9 ⟨bs9, br9, rfl, hp9, hl9, hb9⟩; have h89 : Below w8.heap.size w8 w9 := Below.trans (by first | exact Below.refl w8.heap.size w8 | exact (Below.refl w8.heap.size w8).drew | exact (Below.refl w8.heap.size w8).drew.drew | exact (Below.refl w8.heap.size w8).drew.drew.drew | exact (Below.refl w8.heap.size w8).drew.drew.drew.drew) hb9; have hcx9 := box_cells (hX8.trans (h89.mono (by have := hX8.size; simpa using this))))
    | (go_at_call 17; refine (eqC_any _ (hp8.below (by first | exact h89 | exact (h89).drew | exact (h89).drew.drew | exact (h89).drew.drew.drew | exact (h89).drew.drew.drew.drew)) (hl8.below (by first | exact h89 | exact (h89).drew | exact (h89).drew.drew | exact (h89).drew.drew.drew | exact (h89).drew.drew.drew.drew)) (hp9.below (by first | exact Below.refl w9.heap.size w9 | exact (Below.refl w9.heap.size w9).drew | exact (Below.refl w9.heap.size w9).drew.drew | exact (Below.refl w9.heap.size w9).drew.drew.drew | exact (Below.refl w9.heap.size w9).drew.drew.drew.drew)) (hl9.below (by first | exact Below.refl w9.heap.size w9 | exact (Below.refl w9.heap.size w9).drew | exact (Below.refl w9.heap.size w9).drew.drew | exact (Below.refl w9.heap.size w9).drew.drew.drew | exact (Below.refl w9.heap.size w9).drew.drew.drew.drew))).mono ?_; rintro e w10 ⟨rfl, hb10⟩; have h910 : Below w9.heap.size w9 w10 := Below.trans (by first | exact Below.refl w9.heap.size w9 | exact (Below.refl w9.heap.size w9).drew | exact (Below.refl w9.heap.size w9).drew.drew | exact (Below.refl w9.heap.size w9).drew.drew.drew | exact (Below.refl w9.heap.size w9).drew.drew.drew.drew) hb10))
  all_goals
    have h810 := h89.trans (h910.mono h89.size)
    have hw10 := hw8.trans (h810.mono hw8.size)
    clear hcx hcl hcx9
    go_wp2_with fail
    refine (toL_sl _ hrm hRm (hs.below hw10)).mono ?_
    rintro e w11 ⟨rfl, hs11, hb11⟩
    go_wp2_with fail
    refine (eqL_sl _ ((hs8.below h810).below hb11) hs11).mono ?_
    rintro e w12 ⟨rfl, hb12⟩
    have h1012 := hb11.trans (hb12.mono hb11.size)
    have h812 := h810.trans (h1012.mono h810.size)
    have h712 := hb78.trans (h812.mono hb78.size)
    have h612 := hb7.trans (h712.mono hb7.size)
    have h512 := hb56.trans (h612.mono hb56.size)
    have h412 := hb5.trans (h512.mono hb5.size)
    have hcx12 := box_cells (hX8.trans (h812.mono (by have := hX8.size; simpa using this)))
    have hS4 : w.heap.size + 1 ≤ w4.heap.size := by simpa using hB4.size
    have hS5 := hb5.size
    have hS6 : w5.heap.size + 1 ≤ w6.heap.size := by simpa using hX6.size
    have hS7 := hb7.size
    have hS12 := h712.size
    have hbr5 : br < w5.heap.size := q3
    have hW0 : Wr w12 w4.heap.size br (some ⟨bs, 0, none⟩) (ns * 2) := (hv5.below h512).lt q2
    have hW1 : RowsW w12 br 0 nr w5.heap.size rn := (rowsW_of hrw5).below q3 h512
    have hW2 : RowsW w12 (w5.heap.size + 1) 0 m w6.heap.size sn := (rowsW_of hrw6).below hz6 h612
    have hmC : Hid (∀ W, br < W.heap.size → Wr W w4.heap.size br (some ⟨bs, 0, none⟩) (ns * 2) → RowsW W br 0 nr w5.heap.size rn → Calls Try.prog 19 #[.agg #[.slice (some ⟨bs, 0, none⟩) ns ns, .slice (some ⟨br, 0, none⟩) nr nr], .int .i64 1] W fun e w' => e = .returned (.int .i64 ((1 + ns * 2 + sumN rn nr : Nat) : Int)) ∧ Mkd w4.heap.size w5.heap.size W w') := fun W g1 g2 g3 => markC_any (k0 := 1) W (by omega) (by unfold maxLen; omega) (by omega) (by omega) g1 g2 (by omega) g3
    have hmL : Hid (∀ W, w5.heap.size + 1 < W.heap.size → RowsW W (w5.heap.size + 1) 0 m w6.heap.size sn → Calls Try.prog 20 #[.slice (some ⟨w5.heap.size + 1, 0, none⟩) m m, .int .i64 ((1 + ns * 2 + sumN rn nr : Nat) : Int)] W fun e w' => e = .returned (.int .i64 ((1 + ns * 2 + sumN rn nr + sumN sn m : Nat) : Int)) ∧ Mkd (w5.heap.size + 1 + 1) w6.heap.size W w') := fun W g1 g2 => markL_sl W (by unfold maxLen; omega) (Or.inr g1) (by omega) g2
    have hslg12 := hslg.below h712
    have hsl012 := hsl0.below h412
    have hgw := hog.wr.below h712
    have hgA := hog.high (lo := w4.heap.size) (Nat.le_refl w6.heap.size)
    have h0A := hsl0.low (hi := w6.heap.size) (Nat.le_refl w4.heap.size)
    have h0A2 := hsl0.low (hi := w7.heap.size) (lo := w6.heap.size) (by omega)
    have hz612 : w5.heap.size + 1 < w12.heap.size := Nat.lt_of_lt_of_le hz6 h612.size
    have hk12 : br < w12.heap.size := Nat.lt_of_lt_of_le q3 h512.size
    have hB12 := hB4.trans (h412.mono (by have := hB4.size; simpa using this))
    have hw12 := hw4.trans (h412.mono hw4.size)
    clear hp8 hl8 hs8 hp6 hl6 hs6 hp5 hv5 hrw5 hrw6 hs11 hb11 hb12 h1012 hog hslg hsl07 hsl0 hB7 hB5 hX8 hX7 hX6 h89 h910 hp9 hl9 hb57 hbA hb6 hw5 hw7 hw8 hw10 h810 h812 h512 h412 h612 hb56 hb5 hb7 hb78
    go_wp2_with fail
    refine (hmC.out _ hk12 hW0 hW1).mono ?_
    rintro e w13 ⟨rfl, hm13⟩
    go_wp2_with fail
    go_fit (hmL.out _ (Nat.lt_of_lt_of_le hz612 hm13.size) (hW2.mkd hz612 hm13 (Or.inr (by omega))))
    rintro e w14 ⟨rfl, hm14⟩
    have hmA : Mkd w4.heap.size w6.heap.size w12 w14 := (hm13.wide (Nat.le_refl _) (by omega)).trans (hm14.wide (by omega) (Nat.le_refl _))
    have hslg14 := hslg12.mkd hmA hgA
    have hsl014 := hsl012.mkd hmA h0A
    have hgw14 := hgw.mkd hmA
    have hkk : ¬ (((1 + ns * 2 + sumN rn nr + sumN sn m : Nat) : Int) < 0) := by omega
    have hB14 := hB12.trans (((hmA.below (by omega)).mono (by omega)) : Below (w.heap.size + 1) w12 w14)
    have hw14 := hw12.trans ((hmA.below (by omega)).mono (by omega) : Below w.heap.size w12 w14)
    generalize (1 + ns * 2 + sumN rn nr + sumN sn m : Nat) = KK at *
    have hS14 := hmA.size
    have hmI : Hid (∀ W, Wr W w6.heap.size w7.heap.size ga L → Calls Try.prog 21 #[.slice ga L gc, .int .i64 1] W fun e w' => e = .returned (.int .i64 ((1 + L : Nat) : Int)) ∧ SlI w' ga L gc (fun i => ((1 + i : Nat) : Int)) ∧ Mkd w6.heap.size w7.heap.size W w') := fun W hW => markI_sl (k0 := 1) W (by omega) (by decide) hslg14.le hslg14.max hW
    have hhI : Hid (∀ W, SlI W ga L gc (fun i => ((1 + i : Nat) : Int)) → Calls Try.prog 22 #[.slice ga L gc, .int .i64 1] W fun e w' => e = .returned (.int .i64 ((1 + L : Nat) : Int)) ∧ Dr W w') := fun W hW => heldI_sl (k0 := 1) W (by omega) (by decide) hW
    have hLL1 : ¬ (((1 + L : Nat) : Int) < 0) := by omega
    clear hmC hmL hW0 hW1 hW2 hm13 hm14
    go_wp2_with fail
    refine (eqI_sl _ hslg14 hsl014).mono ?_
    rintro e w15 ⟨rfl, hd15⟩
    have hsl015 := hsl014.below (hd15.below _)
    have hgw15 := hgw14.mkd (hd15.mkd 0 0)
    have hS15 : w14.heap.size ≤ w15.heap.size := (hd15.below 0).size
    generalize (1 + L : Nat) = LL at *
    go_wp2_with fail
    refine (hmI.out _ hgw15).mono ?_
    rintro e w16 ⟨rfl, hsm16, hm16⟩
    have hsl016 := hsl015.mkd hm16 h0A2
    go_wp2_with fail
    refine (hhI.out _ hsm16).mono ?_
    rintro e w17 ⟨rfl, hd17⟩
    have h1417 : Below w6.heap.size w14 w17 := ((hd15.below _).trans (hm16.below (by omega))).trans (hd17.below _)
    have hw17 := hw14.trans (h1417.mono (by omega))
    have hB17 := hB14.trans (h1417.mono (by omega))
    have hcl17 := box_cells hB17
    have hsl017 := hsl016.below (hd17.below _)
    have hsm17 := hsm16.below (hd17.below _)
    clear hcx12 hslg14 hsl014 hgw14 hgw15 hsl015 hsl016 hsm16
    go_wp2_with fail
    refine (toCr_any _ hrs hrr hR (hp.below hw17) (hl.below hw17)).mono ?_
    rintro e w18 ⟨bs18, br18, rfl, hp18, hl18, hb18⟩
    have hw18 := hw17.trans (hb18.mono hw17.size)
    go_wp2_with fail
    refine (toL_sl _ hrm hRm (hs.below hw18)).mono ?_
    rintro e w19 ⟨rfl, hs19, hb19⟩
    go_wp2_with fail
    refine (hcdI.out _ _ _ _ _ _ _ (hp18.below hb19) (hl18.below hb19) hs19).mono ?_
    rintro e w20 ⟨vh, rfl, hoh, hb20⟩
    obtain ⟨ha, hc, rfl, hslh⟩ := hoh.sl
    have hsl020 := ((hsl017.below hb18).below hb19).below hb20
    have hsm20 := ((hsm17.below hb18).below hb19).below hb20
    have hw20 := (hw18.trans (hb19.mono hw18.size)).trans (hb20.mono (hw18.trans (hb19.mono hw18.size)).size)
    go_wp2_with fail
    refine (eqI_sl _ hslh hsl020).mono ?_
    rintro e w21 ⟨rfl, hd21⟩
    go_wp2_with fail
    refine (hhI.out _ (hsm20.below (hd21.below _))).mono ?_
    rintro e w22 ⟨rfl, hd22⟩
    go_wp2
    go_ret
    exact ⟨rfl, (hw20.trans (hd21.below _)).trans (hd22.below _)⟩
end Go.Proofs.Ytjmhdjjkfglbgab
