/-
  FnExactDelta, where impl.Delta answers as it should.
-/
import Derived.Test.YtbenfmcnmiedpaaAnE
import Derived.Test.YtbenfmcnmiedpaaDlS
namespace Go.Proofs.Ytbenfmcnmiedpaa
open Go.RowKit

theorem deV_ok {a b : List Ent} (h : AllOk a) (hb : AllOk b) : AllOk (deV a b) := by
  unfold deV
  split
  · exact dl2_ok h hb b.length (Nat.le_refl _)
  · exact fun x hx => by cases hx
theorem deV_len (a b : List Ent) : (deV a b).length ≤ a.length + b.length := by
  unfold deV
  split
  · exact dl2_len a b b.length
  · exact Nat.zero_le _
theorem deltaS_ans {xa : Option Addr} {xc : Nat} {a : List Ent} {ya : Option Addr} {yc : Nat} {b : List Ent} (w : World) (h : SlE w xa xc a) (hb : SlE w ya yc b) :
    Calls Try.prog 24 #[.slice xa a.length xc, .slice ya b.length yc] w (AnsE (deV a b) (deOk a b) w) := by
  refine (deltaS_sl w h hb).mono ?_
  rintro e w' ⟨v, rfl, ho, hbw⟩
  exact ansE_of _ hbw ho (deV_ok h.ok hb.ok)

set_option maxRecDepth 100000 in
set_option maxHeartbeats 4000000 in
theorem lawDelta_of {xa : Option Addr} {xc : Nat} {l : List Ent} {ya : Option Addr} {yc : Nat} {p : List Ent} (w : World) (hr : l.length * 48 ≤ 140737488351232) (hrp : p.length * 48 ≤ 140737488351232) (h : SlE w xa xc l) (hp : SlE w ya yc p)
    (him0 : ∀ W a' c' b' d', SlE W a' c' l → SlE W b' d' p → Calls Try.prog 25 #[.slice a' l.length c', .slice b' p.length d'] W (AnsE (deV l p) (deOk l p) W)) :
    Calls Try.prog 7 #[.slice xa l.length xc, .slice ya p.length yc] w fun e w' => e = .returned (.bool true) ∧ Below w.heap.size w w' := by
  have hsp : Hid (∀ W a' c' b' d', SlE W a' c' l → SlE W b' d' p → Calls Try.prog 24 #[.slice a' l.length c', .slice b' p.length d'] W (AnsE (deV l p) (deOk l p) W)) := fun W a' c' b' d' h1 h2 => deltaS_ans W h1 h2
  have him : Hid (_) := him0
  have hvl := deV_len l p
  clear him0
  generalize deV l p = L at *
  generalize deOk l p = qq at *
  go_enter Try.func7, Try.ntmps7
  go_wp2_with fail
  refine (szE_sl _ _ (by decide) (by decide) h).mono ?_
  rintro e w1 ⟨r, rfl, hr0, hr0', hq, hw1⟩
  have Hq : Hid (_) := hq
  clear hq
  by_cases hneg : r < 0
  · go_wp2
    go_ret
    exact ⟨rfl, hw1⟩
  have hll : l.length ≤ 1048576 := by have := Hq.out; omega
  clear Hq
  go_wp2_with fail
  refine (szE_sl _ _ (by omega) (by omega) (hp.below hw1)).mono ?_
  rintro e w1b ⟨r2, rfl, hr2, hr2', hq2, hb1b⟩
  have Hq2 : Hid (_) := hq2
  clear hq2
  have hw1b := hw1.trans (hb1b.mono hw1.size)
  by_cases hneg2 : r2 < 0
  · go_wp2
    go_ret
    exact ⟨rfl, hw1b⟩
  have hpp : p.length ≤ 1048576 := by have := Hq2.out; omega
  clear Hq2
  go_wp2_with fail
  refine (toE_sl _ hr (h.below hw1b)).mono ?_
  rintro e w2 ⟨rfl, hi2, hb2⟩
  have hw2 := hw1b.trans (hb2.mono hw1b.size)
  go_wp2_with fail
  refine (toE_sl _ hrp (hp.below hw2)).mono ?_
  rintro e w3 ⟨rfl, hj3, hb3⟩
  have hw3 := hw2.trans (hb3.mono hw2.size)
  go_wp2_with fail
  refine (hsp.out _ _ _ _ _ (hi2.below hb3) hj3).mono ?_
  rintro e w4 ⟨hb4, va, vc, rfl, hs4, _⟩
  have hw4 := hw3.trans (hb4.mono hw3.size)
  clear hi2 hj3 hb2 hb3 hb4
  go_wp2_with fail
  refine (toEw_sl _ hr (h.below hw4)).mono ?_
  rintro e w5 ⟨rfl, hx5, hwx5, hb5⟩
  have hw5 := hw4.trans (hb5.mono hw4.size)
  have hlow := hs4.low (base := w4.heap.size) (Nat.le_refl _)
  go_wp2_with fail
  refine (toEw_sl _ hrp (hp.below hw5)).mono ?_
  rintro e w6 ⟨rfl, hy6, hwy6, hb6⟩
  have hw6 := hw5.trans (hb6.mono hw5.size)
  have h46 := hb5.trans (hb6.mono hb5.size)
  have hx6 := hx5.below hb6
  have hwx6 := hwx5.below hb6
  have hs6 := hs4.below h46
  clear hx5
  go_wp2_with fail
  refine (him.out _ _ _ _ _ hx6 hy6).mono ?_
  rintro e w7 ⟨hb7, ga, gc, rfl, hs7, hg7⟩
  have hw7 := hw6.trans (hb7.mono hw6.size)
  have hs07 := hs6.below hb7
  go_wp2_with fail
  refine (eqE_sl _ hs7 hs07).mono ?_
  rintro e w8 ⟨rfl, hb8⟩
  have hw8 := hw7.trans (hb8.mono hw7.size)
  have h68 := hb7.trans (hb8.mono hb7.size)
  go_wp2_with fail
  refine (toE_sl _ hr (h.below hw8)).mono ?_
  rintro e w9 ⟨rfl, hi9, hb9⟩
  have h69 := h68.trans (hb9.mono h68.size)
  go_wp2_with fail
  refine (eqE_sl _ (hx6.below h69) hi9).mono ?_
  rintro e w9b ⟨rfl, hb9b⟩
  have h69b := h69.trans (hb9b.mono h69.size)
  have hw9b := hw6.trans (h69b.mono hw6.size)
  go_wp2_with fail
  refine (toE_sl _ hrp (hp.below hw9b)).mono ?_
  rintro e w9c ⟨rfl, hj9, hb9c⟩
  have h69c := h69b.trans (hb9c.mono h69b.size)
  go_wp2_with fail
  refine (eqE_sl _ (hy6.below h69c) hj9).mono ?_
  rintro e w10 ⟨rfl, hb10⟩
  have h610 := h69c.trans (hb10.mono h69c.size)
  have h79 := hb8.trans (hb9.mono hb8.size)
  have h79b := h79.trans (hb9b.mono h79.size)
  have h79c := h79b.trans (hb9c.mono h79b.size)
  have h710 := h79c.trans (hb10.mono h79c.size)
  have hw10 := hw6.trans (h610.mono hw6.size)
  have hs10 := hs7.below h710
  have hs010 := hs07.below h710
  have hg10 := hg7.below h710
  have hS4 := hw4.size
  have hS5 := hb5.size
  have hS6 := hb6.size
  have hS7 := hb7.size
  have hS10 := h710.size
  have hWX : Wr w10 w4.heap.size w6.heap.size (some ⟨w4.heap.size, 0, none⟩) (l.length * 3) := hwx6.wr.below h610
  have hWY : Wr w10 w4.heap.size w6.heap.size (some ⟨w5.heap.size, 0, none⟩) (p.length * 3) := (hwy6.wr.wide (by omega) (Nat.le_refl _)).below h610
  have hmX : Hid (Calls Try.prog 20 #[.slice (some ⟨w4.heap.size, 0, none⟩) l.length l.length, .int .i64 1] w10 fun e w' => e = .returned (.int .i64 ((1 + l.length * 3 : Nat) : Int)) ∧ SlE w' (some ⟨w4.heap.size, 0, none⟩) l.length (mkL 1 l.length) ∧ Mkd w4.heap.size w6.heap.size w10 w') := markE_sl (k0 := 1) w10 (by omega) (by decide) (Nat.le_refl _) (by unfold maxLen; omega) hWX
  have hKK : 1 + l.length * 3 ≤ 100000000 := by omega
  generalize (1 + l.length * 3 : Nat) = KK at *
  clear hi9 hj9 h69 h69b h69c h68 h610 h79 h79b h79c h710 hs7 hs07 hg7 hw8 hw7 hb8 hb9 hb9b hb9c hb10 hx6 hy6 hWX hwx5 hwx6 hwy6 hs6 hs4 hw9b h46
  go_wp2_with fail
  refine (hmX.out).mono ?_
  rintro e w11 ⟨rfl, _, hm11⟩
  have hs11 := hs10.mkd hm11 (hg10.farE (by omega))
  have hs011 := hs010.mkd hm11 (hlow.far (Nat.le_refl _))
  have hg11 := hg10.mkd hm11
  have hWY11 := hWY.mkd hm11
  have h1011 : Below w4.heap.size w10 w11 := hm11.below (by omega)
  have hw11 := hw10.trans (h1011.mono (by omega))
  have hS11 := hm11.size
  have hmY : Hid (Calls Try.prog 20 #[.slice (some ⟨w5.heap.size, 0, none⟩) p.length p.length, .int .i64 (KK : Int)] w11 fun e w' => e = .returned (.int .i64 ((KK + p.length * 3 : Nat) : Int)) ∧ SlE w' (some ⟨w5.heap.size, 0, none⟩) p.length (mkL KK p.length) ∧ Mkd w4.heap.size w6.heap.size w11 w') := markE_sl (k0 := KK) w11 (by omega) (by omega) (Nat.le_refl _) (by unfold maxLen; omega) hWY11
  have hkk : ¬ (((KK + p.length * 3 : Nat) : Int) < 0) := by omega
  generalize (KK + p.length * 3 : Nat) = K2 at *
  clear hmX hs10 hs010 hg10 hWY hWY11
  go_wp2_with fail
  refine (hmY.out).mono ?_
  rintro e w11b ⟨rfl, _, hm11b⟩
  have hs11b := hs11.mkd hm11b (hg11.farE (by omega))
  have hs011b := hs011.mkd hm11b (hlow.far (Nat.le_refl _))
  have hg11b := hg11.mkd hm11b
  have h1111 : Below w4.heap.size w11 w11b := hm11b.below (by omega)
  have hw11b := hw11.trans (h1111.mono (by omega))
  have hS11b := hm11b.size
  clear hmY hs11 hs011 hg11
  go_wp2_with fail
  refine (eqE_sl _ hs11b hs011b).mono ?_
  rintro e w12 ⟨rfl, hb12⟩
  have hs12 := hs11b.below hb12
  have hs012 := hs011b.below hb12
  have hg12 := hg11b.below hb12
  have hw12 := hw11b.trans (hb12.mono (by omega))
  have hS12 := hb12.size
  have hGW : Wr w12 w6.heap.size w12.heap.size ga (L.length * 3) := hg12.wr
  have hmG : Hid (Calls Try.prog 20 #[.slice ga L.length gc, .int .i64 1] w12 fun e w' => e = .returned (.int .i64 ((1 + L.length * 3 : Nat) : Int)) ∧ SlE w' ga gc (mkL 1 L.length) ∧ Mkd w6.heap.size w12.heap.size w12 w') := markE_sl (k0 := 1) w12 (by omega) (by decide) hs12.le hs12.max hGW
  have hhG : Hid (∀ W, SlE W ga gc (mkL 1 L.length) → Calls Try.prog 21 #[.slice ga L.length gc, .int .i64 1] W fun e w' => e = .returned (.int .i64 ((1 + L.length * 3 : Nat) : Int)) ∧ Below W.heap.size W w') := fun W hW => heldE_sl (k0 := 1) W (by omega) (by decide) hW
  have hLL1 : ¬ (((1 + L.length * 3 : Nat) : Int) < 0) := by omega
  generalize (1 + L.length * 3 : Nat) = LL at *
  clear hs11b hs011b hg11b hGW
  go_wp2_with fail
  refine (hmG.out).mono ?_
  rintro e w13 ⟨rfl, hsm13, hm13⟩
  have hs013 := hs012.mkd hm13 (hlow.far (by omega))
  have h1213 : Below w6.heap.size w12 w13 := hm13.below (by omega)
  have hw13 := hw12.trans (h1213.mono (by omega))
  have hS13 := hm13.size
  clear hmG hs12 hs012 hg12
  go_wp2_with fail
  refine (hhG.out _ hsm13).mono ?_
  rintro e w14 ⟨rfl, hb14⟩
  have hs014 := hs013.below hb14
  have hsm14 := hsm13.below hb14
  have hw14 := hw13.trans (hb14.mono (by omega))
  clear hs013 hsm13
  go_wp2_with fail
  refine (toE_sl _ hr (h.below hw14)).mono ?_
  rintro e w15 ⟨rfl, hi15, hb15⟩
  have hw15 := hw14.trans (hb15.mono hw14.size)
  go_wp2_with fail
  refine (toE_sl _ hrp (hp.below hw15)).mono ?_
  rintro e w16 ⟨rfl, hj16, hb16⟩
  go_wp2_with fail
  refine (him.out _ _ _ _ _ (hi15.below hb16) hj16).mono ?_
  rintro e w17 ⟨hb17, ha, hc, rfl, hs17, _⟩
  have h1416 := hb15.trans (hb16.mono hb15.size)
  have h1417 := h1416.trans (hb17.mono h1416.size)
  have hw17 := hw14.trans (h1417.mono hw14.size)
  have hs017 := hs014.below h1417
  have hsm17 := hsm14.below h1417
  clear hi15 hj16 hs014 hsm14
  go_wp2_with fail
  refine (eqE_sl _ hs17 hs017).mono ?_
  rintro e w18 ⟨rfl, hb18⟩
  have hw18 := hw17.trans (hb18.mono hw17.size)
  go_wp2_with fail
  refine (hhG.out _ (hsm17.below hb18)).mono ?_
  rintro e w19 ⟨rfl, hb19⟩
  go_wp2
  go_ret
  exact ⟨rfl, hw18.trans (hb19.mono hw18.size)⟩
end Go.Proofs.Ytbenfmcnmiedpaa
