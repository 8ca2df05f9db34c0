/-
  FnExactNeeded.
-/
import Derived.Test.YtjfeloagimljoaaNdS
import Derived.Test.YtjfeloagimljoaaSz2
import Derived.Test.YtjfeloagimljoaaToW
import Derived.Test.YtjfeloagimljoaaEqEv
namespace Go.Proofs.Ytjfeloagimljoaa
open Go.RowKit

set_option maxRecDepth 100000 in
set_option maxHeartbeats 1000000 in
theorem markEvD (e : Ev) (lo hi : Nat) {pa aa ga : Option Addr} {cp ca cg : Nat} (w : World) (hh : hi ≤ w.heap.size) (hp : Wr w lo hi pa e.np) (ha : Wr w lo hi aa e.na) (hg : Wr w lo hi ga (e.ng * 2)) (bp : e.np ≤ 1048576) (ba : e.na ≤ 1048576) (bg : e.ng ≤ 1048576) :
    Calls Try.prog 10 #[e.val' pa cp aa ca ga cg, .int .i64 1] w fun x w' => x = .returned (.int .i64 ((1 + e.np + e.na + e.ng * 2 : Nat) : Int)) ∧ Mkd lo hi w w' := by
  obtain ⟨W0, hW0⟩ : ∃ W0, W0 = w.alloc (.cells #[.string e.id, .string e.sd, .string e.ty, .bool e.st, .string e.key, .int .i64 e.tm, .slice pa e.np cp, .slice aa e.na ca, .string e.val, .slice ga e.ng cg] 31) := ⟨_, rfl⟩
  have hm0 : Mkd lo hi w W0 := by rw [hW0]; exact (Mkd.refl lo hi w).alloc _
  have HB : Hid (∀ W, Mkd lo hi W0 W → ∀ o, W.cell? ⟨w.heap.size, o, none⟩ = (#[.string e.id, .string e.sd, .string e.ty, .bool e.st, .string e.key, .int .i64 e.tm, .slice pa e.np cp, .slice aa e.na ca, .string e.val, .slice ga e.ng cg] : Array Value)[o]?) := fun W hW o => by
    rw [hW.cell (by rw [hW0]; simp) (Or.inr hh), hW0]
    exact World.cell?_alloc_at _ _ _ _ rfl
  have H1 : Hid (∀ W, Mkd lo hi W0 W → Calls Try.prog 28 #[.slice pa e.np cp, .int .i64 1] W fun x w' => x = .returned (.int .i64 ((1 + e.np : Nat) : Int)) ∧ Mkd lo hi W0 w') := fun W hW => by
    refine (markSw_sl (k0 := 1) W (by omega) (by decide) (hp.mkd (hm0.trans hW))).mono ?_
    rintro x w' ⟨rfl, hm⟩
    exact ⟨rfl, hW.trans hm⟩
  have H2 : Hid (∀ W, Mkd lo hi W0 W → Calls Try.prog 28 #[.slice aa e.na ca, .int .i64 ((1 + e.np : Nat) : Int)] W fun x w' => x = .returned (.int .i64 ((1 + e.np + e.na : Nat) : Int)) ∧ Mkd lo hi W0 w') := fun W hW => by
    refine (markSw_sl (k0 := 1 + e.np) W (by omega) (by omega) (ha.mkd (hm0.trans hW))).mono ?_
    rintro x w' ⟨rfl, hm⟩
    exact ⟨rfl, hW.trans hm⟩
  have H3 : Hid (∀ W, Mkd lo hi W0 W → Calls Try.prog 29 #[.slice ga e.ng cg, .int .i64 ((1 + e.np + e.na : Nat) : Int)] W fun x w' => x = .returned (.int .i64 ((1 + e.np + e.na + e.ng * 2 : Nat) : Int)) ∧ Mkd lo hi W0 w') := fun W hW => by
    refine (markGw_sl (k0 := 1 + e.np + e.na) W (by omega) (by omega) (hg.mkd (hm0.trans hW))).mono ?_
    rintro x w' ⟨rfl, hm⟩
    exact ⟨rfl, hW.trans hm⟩
  generalize (1 + e.np : Nat) = k1 at *
  generalize (k1 + e.na : Nat) = k2 at *
  generalize (k2 + e.ng * 2 : Nat) = k3 at *
  go_enter Try.func10, Try.ntmps10
  go_wp2_with fail
  have hW0' : w.alloc (.cells #[.string e.id, .string e.sd, .string e.ty, .bool e.st, .string e.key, .int .i64 e.tm, .slice pa e.np cp, .slice aa e.na ca, .string e.val, .slice ga e.ng cg] 31) = W0 := hW0.symm
  rw [hW0']
  clear hW0' hW0
  refine (H1.out _ (Mkd.refl _ _ _)).mono ?_
  rintro x w1 ⟨rfl, hm1⟩
  have hc1 := HB.out _ hm1
  go_wp2_with fail
  refine (H2.out _ hm1).mono ?_
  rintro x w2 ⟨rfl, hm2⟩
  clear hc1
  have hc2 := HB.out _ hm2
  go_wp2_with fail
  refine (H3.out _ hm2).mono ?_
  rintro x w3 ⟨rfl, hm3⟩
  go_wp2
  go_ret
  exact ⟨rfl, hm0.trans hm3⟩

theorem Wr0.wrM {w : World} {lo hi n : Nat} {a : Option Addr} (h : Wr0 w lo a n) (hh : w.heap.size ≤ hi) : Wr w lo hi a n :=
  h.imp id fun ⟨b, off, e, q1, q3, hc⟩ => ⟨b, off, e, q1, by omega, q3, hc⟩

set_option maxRecDepth 100000 in
set_option maxHeartbeats 4000000 in
theorem lawNd_any (e : Ev) {pa aa ga : Option Addr} {cp ca cg : Nat} (w : World) (hrp : e.np * 16 ≤ 140737488351232) (hra : e.na * 16 ≤ 140737488351232) (hrg : e.ng * 24 ≤ 140737488351232) (he : EvOk w e pa cp aa ca ga cg) :
    Calls Try.prog 3 #[e.val' pa cp aa ca ga cg] w fun x w' => x = .returned (.bool true) ∧ Below w.heap.size w w' := by
  have hb0 : ∀ o, Below w.heap.size w (w.alloc o) := fun o => (Below.refl _ _).alloc (Nat.le_refl _) _
  have HTo : Hid (∀ W, Below w.heap.size w W → Calls Try.prog 6 #[e.val' pa cp aa ca ga cg] W fun x w' => ∃ bp ba bg : Nat, x = .returned (.agg #[.string e.id, .string e.sd, .string e.ty, .bool e.st, .string e.key, .int .i64 e.tm, .slice (some ⟨bp, 0, none⟩) e.np e.np, .slice (some ⟨ba, 0, none⟩) e.na e.na, .string e.val, .slice (some ⟨bg, 0, none⟩) e.ng e.ng]) ∧ EvOk w' e (some ⟨bp, 0, none⟩) e.np (some ⟨ba, 0, none⟩) e.na (some ⟨bg, 0, none⟩) e.ng ∧ Below W.heap.size W w' ∧ Wr0 w' W.heap.size (some ⟨bp, 0, none⟩) e.np ∧ Wr0 w' W.heap.size (some ⟨ba, 0, none⟩) e.na ∧ Wr0 w' W.heap.size (some ⟨bg, 0, none⟩) (e.ng * 2)) := fun W hW => by
    refine (toEvw_fresh e.id e.sd e.ty e.key e.val e.st e.tm pa e.np cp aa e.na ca ga e.ng cg e.Pv e.Av e.M e.L W hrp hra hrg (he.hp.below hW) (he.ha.below hW) (he.hg.below hW)).mono ?_
    rintro x w' ⟨bp, ba, bg, rfl, h1, h2, h3, hb, _, _, _, q1, q2, q3⟩
    exact ⟨bp, ba, bg, rfl, ⟨he.hid, he.hsd, he.hty, he.hkey, he.hval, h1, h2, h3⟩, hb, q1, q2, q3⟩
  have HSz : Hid (∀ W, Below w.heap.size w W → Calls Try.prog 4 #[e.val' pa cp aa ca ga cg, .int .i64 1048576] W fun x w' => ∃ r : Int, x = .returned (.int .i64 r) ∧ -1 ≤ r ∧ r ≤ 1048576 ∧ (r < 0 ∨ r + e.np + e.na + e.ng ≤ 1048576) ∧ Below W.heap.size W w') := fun W hW =>
    szEvq_any e.id e.sd e.ty e.key e.val e.st e.tm pa e.np cp aa e.na ca ga e.ng cg e.Pv e.Av e.M e.L W he.hid he.hsd he.hty he.hkey he.hval (he.hp.below hW) (he.ha.below hW) (he.hg.below hW) 1048576 (by decide) (by decide)
  have hLL : (ndL e).length ≤ 1000 := by
    unfold ndL
    have := (uq_len e).1
    have hY : (ndY e).length ≤ 1 := by unfold ndY; split <;> simp
    split
    · split
      · simp
      · simp; omega
    · simp
  go_enter Try.func3, Try.ntmps3
  go_wp2_with fail
  refine (HSz.out _ (hb0 _)).mono ?_
  rintro x w1 ⟨r, rfl, hr, hr', hq, hb1⟩
  have Hq : Hid (_) := hq
  have hB1 := hb1.mono (B' := w.heap.size + 1) (by simp)
  have hw1 := (hb0 _).trans (hb1.mono (by simp))
  have hcl := box_cells hB1
  clear hb1 hq
  by_cases hneg : r < 0
  · go_wp2
    go_ret
    exact ⟨rfl, hw1⟩
  have Hbd : Hid (e.np ≤ 1048576 ∧ e.na ≤ 1048576 ∧ e.ng ≤ 1048576) := by
    have := Hq.out
    exact ⟨by omega, by omega, by omega⟩
  clear Hq
  go_wp2_with fail
  refine (HTo.out _ hw1).mono ?_
  rintro x w2 ⟨bp, ba, bg, rfl, he2, hb2, -, -, -⟩
  go_wp2_with fail
  refine (ndS_any e _ he2).mono ?_
  rintro x w3 ⟨v3, rfl, ho3, hb3⟩
  have hb13 := hb2.trans (hb3.mono hb2.size)
  have hB3 := hB1.trans (hb13.mono (by have := hB1.size; simpa using this))
  have hw3 := hw1.trans (hb13.mono hw1.size)
  clear hcl he2 hb2 hb3 hb13
  have hcl := box_cells hB3
  obtain ⟨va, vc, rfl, hs3⟩ := ho3.sl
  clear ho3
  go_wp2_with fail
  refine (HTo.out _ hw3).mono ?_
  rintro x w4 ⟨bp4, ba4, bg4, rfl, he4, hb4, wp4, wa4, wg4⟩
  have hB4 := hB3.trans (hb4.mono (by have := hB3.size; simpa using this))
  have hw4 := hw3.trans (hb4.mono hw3.size)
  have hs4 := hs3.below hb4
  have hlow := hs3.low (base := w3.heap.size) (Nat.le_refl _)
  have hSz3 : w.heap.size + 1 ≤ w3.heap.size := by simpa using hB3.size
  have hS4 := hb4.size
  clear hcl hs3
  have hcl := box_cells hB4
  have hbA : ∀ o, Below w4.heap.size w4 (w4.alloc o) := fun o => (Below.refl _ _).alloc (Nat.le_refl _) _
  go_wp2_with fail
  refine (ndI_any e _ (he4.below (hbA _))).mono ?_
  rintro x w5 ⟨v5, rfl, ho5, hb5⟩
  have hX5 := hb5.mono (B' := w4.heap.size + 1) (by simp)
  have hb45 := (hbA _).trans (hb5.mono (by simp))
  have hB5 := hB4.trans (hb45.mono (by have := hB4.size; simpa using this))
  have hw5 := hw4.trans (hb45.mono hw4.size)
  have hs05 := hs4.below hb45
  obtain ⟨ga5, gc5, e5, hs5⟩ := ho5.sl
  have hg5 := (ho5.wr0 e5).low (lo' := w4.heap.size) (by simp)
  subst e5
  clear hcl hb5 ho5
  have hcl := box_cells hB5
  have hcx := box_cells hX5
  have HI : Hid (∀ W bp ba bg, EvOk W e (some ⟨bp, 0, none⟩) e.np (some ⟨ba, 0, none⟩) e.na (some ⟨bg, 0, none⟩) e.ng → Calls Try.prog 7 #[.agg #[.string e.id, .string e.sd, .string e.ty, .bool e.st, .string e.key, .int .i64 e.tm, .slice (some ⟨bp, 0, none⟩) e.np e.np, .slice (some ⟨ba, 0, none⟩) e.na e.na, .string e.val, .slice (some ⟨bg, 0, none⟩) e.ng e.ng]] W fun x w' => ∃ v, x = .returned v ∧ OwnO w' W.heap.size v (ndL e) ∧ Below W.heap.size W w') := fun W bp ba bg hW => ndI_any e W hW
  have hmE : Hid (∀ W, Below w4.heap.size w4 W → Calls Try.prog 10 #[.agg #[.string e.id, .string e.sd, .string e.ty, .bool e.st, .string e.key, .int .i64 e.tm, .slice (some ⟨bp4, 0, none⟩) e.np e.np, .slice (some ⟨ba4, 0, none⟩) e.na e.na, .string e.val, .slice (some ⟨bg4, 0, none⟩) e.ng e.ng], .int .i64 1] W fun x w' => x = .returned (.int .i64 ((1 + e.np + e.na + e.ng * 2 : Nat) : Int)) ∧ Mkd w3.heap.size w4.heap.size W w') := fun W hW =>
    markEvD e w3.heap.size w4.heap.size W hW.size ((wp4.wrM (Nat.le_refl _)).below hW) ((wa4.wrM (Nat.le_refl _)).below hW) ((wg4.wrM (Nat.le_refl _)).below hW) Hbd.out.1 Hbd.out.2.1 Hbd.out.2.2
  have hEq : Hid (∀ W bp ba bg, Below w4.heap.size w4 W → EvOk W e (some ⟨bp, 0, none⟩) e.np (some ⟨ba, 0, none⟩) e.na (some ⟨bg, 0, none⟩) e.ng → Calls Try.prog 9 #[.agg #[.string e.id, .string e.sd, .string e.ty, .bool e.st, .string e.key, .int .i64 e.tm, .slice (some ⟨bp4, 0, none⟩) e.np e.np, .slice (some ⟨ba4, 0, none⟩) e.na e.na, .string e.val, .slice (some ⟨bg4, 0, none⟩) e.ng e.ng], .agg #[.string e.id, .string e.sd, .string e.ty, .bool e.st, .string e.key, .int .i64 e.tm, .slice (some ⟨bp, 0, none⟩) e.np e.np, .slice (some ⟨ba, 0, none⟩) e.na e.na, .string e.val, .slice (some ⟨bg, 0, none⟩) e.ng e.ng]] W fun x w' => x = .returned (.bool true) ∧ Below W.heap.size W w') := fun W bp ba bg hW hE =>
    eqEv_any e.id e.sd e.ty e.key e.val e.st e.tm _ e.np _ _ e.na _ _ e.ng _ _ _ _ _ _ _ e.Pv e.Av e.M e.L W (he4.hp.below hW) (he4.ha.below hW) (he4.hg.below hW) hE.hp hE.ha hE.hg
  clear he4 wp4 wa4 wg4 he HSz
  generalize ndL e = LN at *
  go_wp2_with fail
  refine (eqO_sl _ hs5 hs05).mono ?_
  rintro x w6 ⟨rfl, hb56⟩
  have hX6 := hX5.trans (hb56.mono (by have := hX5.size; simpa using this))
  have hB6 := hB5.trans (hb56.mono (by have := hB5.size; simpa using this))
  have hw6 := hw5.trans (hb56.mono hw5.size)
  have hb46 := hb45.trans (hb56.mono hb45.size)
  clear hcl hcx
  have hcl := box_cells hB6
  have hcx := box_cells hX6
  go_wp2_with fail
  go_region_with (first
    | (go_at_call 6; refine (HTo.out _ (by first | exact hw6 | exact (hw6).drew | exact (hw6).drew.drew | exact (hw6).drew.drew.drew | exact (hw6).drew.drew.drew.drew)).mono ?_; rintro x w7 ⟨bp7, ba7, bg7, rfl, he7', hb7, -, -, -⟩; have he7 : Hid (_) := he7'; have h67 : Below w6.heap.size w6 w7 := Below.trans (by first | exact Below.refl w6.heap.size w6 | exact (Below.refl w6.heap.size w6).drew | exact (Below.refl w6.heap.size w6).drew.drew | exact (Below.refl w6.heap.size w6).drew.drew.drew | exact (Below.refl w6.heap.size w6).drew.drew.drew.drew) hb7; clear he7' hb7; have hcx7 := box_cells (hX6.trans (h67.mono (by have := hX6.size; simpa using this))))
    | (go_at_call 9; refine (hEq.out _ _ _ _ ((hb46.trans (h67.mono hb46.size)).trans (Below.mono (by first | exact Below.refl w7.heap.size w7 | exact (Below.refl w7.heap.size w7).drew | exact (Below.refl w7.heap.size w7).drew.drew | exact (Below.refl w7.heap.size w7).drew.drew.drew | exact (Below.refl w7.heap.size w7).drew.drew.drew.drew) (by have := hb46.size; have := h67.size; omega))) (he7.out.below (by first | exact Below.refl w7.heap.size w7 | exact (Below.refl w7.heap.size w7).drew | exact (Below.refl w7.heap.size w7).drew.drew | exact (Below.refl w7.heap.size w7).drew.drew.drew | exact (Below.refl w7.heap.size w7).drew.drew.drew.drew))).mono ?_; rintro x w8 ⟨rfl, hb8⟩; have h78 : Below w7.heap.size w7 w8 := Below.trans (by first | exact Below.refl w7.heap.size w7 | exact (Below.refl w7.heap.size w7).drew | exact (Below.refl w7.heap.size w7).drew.drew | exact (Below.refl w7.heap.size w7).drew.drew.drew | exact (Below.refl w7.heap.size w7).drew.drew.drew.drew) hb8; clear hb8))
  all_goals
    have h68 := h67.trans (h78.mono h67.size)
    have h58 := hb56.trans (h68.mono hb56.size)
    have h48 := hb45.trans (h58.mono hb45.size)
    have hX8 := hX6.trans (h68.mono (by have := hX6.size; simpa using this))
    have hB8 := hB6.trans (h68.mono (by have := hB6.size; simpa using this))
    have hw8 := hw6.trans (h68.mono hw6.size)
    have hs08 := hs05.below h58
    have hs8 := hs5.below h58
    have hg8 := hg5.below h58
    clear hcl hcx hcx7
    have hcx8 := box_cells hX8
    have H48 : Hid (Below w4.heap.size w4 w8) := h48
    have hkk : ¬ (((1 + e.np + e.na + e.ng * 2 : Nat) : Int) < 0) := by omega
    have hS8 := h48.size
    clear hEq he7 h67 h78 h68 h58 h48 hs5 hs05 hg5 hX6 hX5 hB6 hB5 hw6 hw5 hb56 hb45 hb46 hs4
    go_wp2_with fail
    refine (hmE.out _ H48.out).mono ?_
    rintro x w9 ⟨rfl, hm9⟩
    clear hmE H48
    generalize (1 + e.np + e.na + e.ng * 2 : Nat) = KK at *
    have hs09 := hs08.mkd hm9 (hlow.far (Nat.le_refl _))
    have hs9 := hs8.mkd hm9 (hg8.farO (Nat.le_refl _))
    have hg9 := hg8.mkd hm9
    have hb89 : Below w3.heap.size w8 w9 := hm9.below (by omega)
    have hB9 := hB8.trans (hb89.mono (by omega))
    have hw9 := hw8.trans (hb89.mono (by omega))
    have hS9 := hm9.size
    clear hcx8 hs08 hs8 hg8
    go_wp2_with fail
    refine (eqO_sl _ hs9 hs09).mono ?_
    rintro x w10 ⟨rfl, hb910⟩
    have hs010 := hs09.below hb910
    have hs10 := hs9.below hb910
    have hg10 := hg9.below hb910
    have hB10 := hB9.trans (hb910.mono (by omega))
    have hw10 := hw9.trans (hb910.mono (by omega))
    have hS10 := hb910.size
    clear hs9 hs09 hg9
    have hmS : Hid (Calls Try.prog 11 #[.slice ga5 LN.length gc5, .int .i64 ((1 : Nat) : Int)] w10 fun x w' => x = .returned (.int .i64 ((1 + LN.length * 2 : Nat) : Int)) ∧ SlO w' ga5 gc5 (mkO 1 LN.length) ∧ Mkd w4.heap.size w10.heap.size w10 w') := markO_sl (k0 := 1) w10 (by omega) (by decide) hs10.le hs10.max (hg10.wrM (Nat.le_refl _))
    have hhS : Hid (∀ W, SlO W ga5 gc5 (mkO 1 LN.length) → Calls Try.prog 12 #[.slice ga5 LN.length gc5, .int .i64 ((1 : Nat) : Int)] W fun x w' => x = .returned (.int .i64 ((1 + LN.length * 2 : Nat) : Int)) ∧ Below W.heap.size W w') := fun W hW => heldO_sl (k0 := 1) W (by omega) (by decide) hW
    have hLL1 : ¬ (((1 + LN.length * 2 : Nat) : Int) < 0) := by omega
    have Hfl : Hid (FarS va LN.length w4.heap.size w10.heap.size) := hlow.far (by omega)
    generalize (1 + LN.length * 2 : Nat) = LL at *
    go_wp2_with fail
    refine (hmS.out).mono ?_
    rintro x w11 ⟨rfl, hsm11, hm11⟩
    have hs011 := hs010.mkd hm11 Hfl.out
    have hb1011 : Below w4.heap.size w10 w11 := hm11.below (by omega)
    have hB11 := hB10.trans (hb1011.mono (by omega))
    have hw11 := hw10.trans (hb1011.mono (by omega))
    have hS11 := hb1011.size
    clear hmS hs010 hs10 hg10
    go_wp2_with fail
    refine (hhS.out _ hsm11).mono ?_
    rintro x w12 ⟨rfl, hb12⟩
    have hs012 := hs011.below hb12
    have hsm12 := hsm11.below hb12
    have hB12 := hB11.trans (hb12.mono (by omega))
    have hw12 := hw11.trans (hb12.mono (by omega))
    have hcl12 := box_cells hB12
    clear hs011 hsm11
    go_wp2_with fail
    refine (HTo.out _ hw12).mono ?_
    rintro x w13 ⟨bp13, ba13, bg13, rfl, he13, hb13, -, -, -⟩
    go_wp2_with fail
    refine (HI.out _ _ _ _ he13).mono ?_
    rintro x w14 ⟨v14, rfl, ho14, hb14⟩
    obtain ⟨ha14, hc14, rfl, hs14⟩ := ho14.sl
    have hb1214 := hb13.trans (hb14.mono hb13.size)
    have hw14 := hw12.trans (hb1214.mono hw12.size)
    have hs014 := hs012.below hb1214
    have hsm14 := hsm12.below hb1214
    clear hcl12 hs012 hsm12 he13
    go_wp2_with fail
    refine (eqO_sl _ hs14 hs014).mono ?_
    rintro x w15 ⟨rfl, hb15⟩
    have hw15 := hw14.trans (hb15.mono hw14.size)
    go_wp2_with fail
    refine (hhS.out _ (hsm14.below hb15)).mono ?_
    rintro x w16 ⟨rfl, hb16⟩
    have hw16 := hw15.trans (hb16.mono hw15.size)
    go_wp2
    go_ret
    exact ⟨rfl, hw16⟩
end Go.Proofs.Ytjfeloagimljoaa
