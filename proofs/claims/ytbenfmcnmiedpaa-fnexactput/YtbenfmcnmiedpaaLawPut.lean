/-
  FnExactPut, where impl.Put answers as it should.
-/
import Derived.Test.YtbenfmcnmiedpaaAnE
import Derived.Test.YtbenfmcnmiedpaaPtS
namespace Go.Proofs.Ytbenfmcnmiedpaa
open Go.RowKit

theorem putV_ok {l : List Ent} {e : Ent} (h : AllOk l) (he : e.ty.size ≤ maxLen ∧ e.key.size ≤ maxLen ∧ e.id.size ≤ maxLen) : AllOk (putV l e) := by
  unfold putV
  split
  · exact h.set he
  · exact fun x hx => by cases hx
theorem putV_len (l : List Ent) (e : Ent) : (putV l e).length ≤ l.length + 1 := by
  unfold putV
  split
  · exact setL_len _ _ _
  · exact Nat.zero_le _
theorem putS_ans {a : Option Addr} {cap : Nat} {l : List Ent} (e0 : Ent) (w : World) (h : SlE w a cap l) (he : e0.ty.size ≤ maxLen ∧ e0.key.size ≤ maxLen ∧ e0.id.size ≤ maxLen) :
    Calls Try.prog 17 #[.slice a l.length cap, entV e0] w (AnsE (putV l e0) (putOk l e0) w) := by
  refine (putS_sl e0 w h he).mono ?_
  rintro e w' ⟨v, rfl, ho, hb⟩
  exact ansE_of _ hb ho (putV_ok h.ok he)

set_option maxRecDepth 100000 in
set_option maxHeartbeats 4000000 in
theorem lawPut_of {a : Option Addr} {cap : Nat} {l : List Ent} (e0 : Ent) (w : World) (hr : l.length * 48 ≤ 140737488351232) (h : SlE w a cap l) (he : e0.ty.size ≤ maxLen ∧ e0.key.size ≤ maxLen ∧ e0.id.size ≤ maxLen)
    (him0 : ∀ W a' cap', SlE W a' cap' l → Calls Try.prog 19 #[.slice a' l.length cap', entV e0] W (AnsE (putV l e0) (putOk l e0) W)) :
    Calls Try.prog 5 #[.slice a l.length cap, entV e0] w fun e w' => e = .returned (.bool true) ∧ Below w.heap.size w w' := by
  have hb0 : ∀ o, Below w.heap.size w (w.alloc o) := fun o => (Below.refl _ _).alloc (Nat.le_refl _) _
  have hsp : Hid (∀ W a' cap', SlE W a' cap' l → Calls Try.prog 17 #[.slice a' l.length cap', entV e0] W (AnsE (putV l e0) (putOk l e0) W)) := fun W a' cap' hW => putS_ans e0 W hW he
  have him : Hid (_) := him0
  have hvl := putV_len l e0
  clear him0
  generalize putV l e0 = L at *
  generalize putOk l e0 = qq at *
  go_enter Try.func5, Try.ntmps5
  go_wp2_with fail
  refine (szE_sl _ _ (by decide) (by decide) (h.below (hb0 _))).mono ?_
  rintro e w1 ⟨r, rfl, hr0, hr0', hq, hb1⟩
  have Hq : Hid (_) := hq
  have hB1 := hb1.mono (B' := w.heap.size + 1) (by simp)
  have hw1 := (hb0 _).trans (hb1.mono (by simp))
  have hcl := box_cells hB1
  clear hb1 hq
  by_cases hneg : r < 0
  · go_wp2
    go_ret
    exact ⟨rfl, hw1⟩
  have hll : l.length ≤ 1048576 := by have := Hq.out; omega
  clear Hq
  go_wp2_with fail
  refine (szE1_any e0 _ _ (by omega) (by omega) he.1 he.2.1 he.2.2).mono ?_
  rintro e w1b ⟨r2, rfl, hr2, hr2', hb1b⟩
  have hB1b := hB1.trans (hb1b.mono (by have := hB1.size; simpa using this))
  have hw1b := hw1.trans (hb1b.mono hw1.size)
  clear hcl
  have hcl := box_cells hB1b
  by_cases hneg2 : r2 < 0
  · go_wp2
    go_ret
    exact ⟨rfl, hw1b⟩
  go_wp2_with fail
  go_region_with (first
    | (go_at_call 11; refine (toE_sl _ hr (h.below (by first | exact hw1b | exact (hw1b).drew | exact (hw1b).drew.drew | exact (hw1b).drew.drew.drew | exact (hw1b).drew.drew.drew.drew))).mono ?_; rintro e w2 ⟨rfl, hi2, hb2'⟩; have h12 : Below w1b.heap.size w1b w2 := Below.trans (by first | exact Below.refl w1b.heap.size w1b | exact (Below.refl w1b.heap.size w1b).drew | exact (Below.refl w1b.heap.size w1b).drew.drew | exact (Below.refl w1b.heap.size w1b).drew.drew.drew | exact (Below.refl w1b.heap.size w1b).drew.drew.drew.drew) hb2'; have hcl2 := box_cells (hB1b.trans (h12.mono (by have := hB1b.size; simpa using this))))
    | (go_at_call 18; refine (toE1_any e0 _).mono ?_; rintro e w3 ⟨rfl, hb3'⟩; have h23 : Below w2.heap.size w2 w3 := Below.trans (by first | exact Below.refl w2.heap.size w2 | exact (Below.refl w2.heap.size w2).drew | exact (Below.refl w2.heap.size w2).drew.drew | exact (Below.refl w2.heap.size w2).drew.drew.drew | exact (Below.refl w2.heap.size w2).drew.drew.drew.drew) hb3')
    | (go_at_call 17; refine (hsp.out _ _ _ (hi2.below (by first | exact h23 | exact (h23).drew | exact (h23).drew.drew | exact (h23).drew.drew.drew | exact (h23).drew.drew.drew.drew))).mono ?_; rintro e w4 ⟨hb4', va, vc, rfl, hs4, _⟩; have h34 : Below w3.heap.size w3 w4 := Below.trans (by first | exact Below.refl w3.heap.size w3 | exact (Below.refl w3.heap.size w3).drew | exact (Below.refl w3.heap.size w3).drew.drew | exact (Below.refl w3.heap.size w3).drew.drew.drew | exact (Below.refl w3.heap.size w3).drew.drew.drew.drew) hb4'))
  all_goals
    have h13 := h12.trans (h23.mono h12.size)
    have h14 := h13.trans (h34.mono h13.size)
    have hB4 := hB1b.trans (h14.mono (by have := hB1b.size; simpa using this))
    have hw4 := hw1b.trans (h14.mono hw1b.size)
    clear hcl hcl2 hi2 h12 h23 h34 h13 h14
    have hcl := box_cells hB4
    go_wp2_with fail
    refine (toEw_sl _ hr (h.below hw4)).mono ?_
    rintro e w5 ⟨rfl, hx5, hwx5, hb5⟩
    have hB5 := hB4.trans (hb5.mono (by have := hB4.size; simpa using this))
    have hw5 := hw4.trans (hb5.mono hw4.size)
    have hs5 := hs4.below hb5
    have hlow := hs4.low (base := w4.heap.size) (Nat.le_refl _)
    clear hcl
    have hcl := box_cells hB5
    go_wp2_with fail
    refine (toE1_any e0 _).mono ?_
    rintro e w6 ⟨rfl, hb6⟩
    go_wp2_with fail
    refine (him.out _ _ _ (hx5.below hb6)).mono ?_
    rintro e w7 ⟨hb7, ga, gc, rfl, hs7, hg7⟩
    have h57 := hb6.trans (hb7.mono hb6.size)
    have hw7 := hw5.trans (h57.mono hw5.size)
    have hs07 := hs5.below h57
    clear hcl
    go_wp2_with fail
    refine (eqE_sl _ hs7 hs07).mono ?_
    rintro e w8 ⟨rfl, hb8⟩
    have hw8 := hw7.trans (hb8.mono hw7.size)
    have h58 := h57.trans (hb8.mono h57.size)
    go_wp2_with fail
    refine (toE_sl _ hr (h.below hw8)).mono ?_
    rintro e w9 ⟨rfl, hi9, hb9⟩
    have h59 := h58.trans (hb9.mono h58.size)
    go_wp2_with fail
    refine (eqE_sl _ (hx5.below h59) hi9).mono ?_
    rintro e w10 ⟨rfl, hb10⟩
    have h510 := h59.trans (hb10.mono h59.size)
    have h89 := hb8.trans (hb9.mono hb8.size)
    have h710 := h89.trans (hb10.mono h89.size)
    have hw10 := hw5.trans (h510.mono hw5.size)
    have hB10 := hB5.trans (h510.mono (by have := hB5.size; simpa using this))
    have hs10 := hs7.below h710
    have hs010 := hs07.below h710
    have hg10 := hg7.below h710
    have hS1 : w.heap.size + 1 ≤ w4.heap.size := by simpa using hB4.size
    have hS5 := hb5.size
    have hS6 := hb6.size
    have hS7 := hb7.size
    have hS10 := h710.size
    have hWX : Wr w10 w4.heap.size w5.heap.size (some ⟨w4.heap.size, 0, none⟩) (l.length * 3) := hwx5.wr.below h510
    have hmX : Hid (Calls Try.prog 20 #[.slice (some ⟨w4.heap.size, 0, none⟩) l.length l.length, .int .i64 1] w10 fun e w' => e = .returned (.int .i64 ((1 + l.length * 3 : Nat) : Int)) ∧ SlE w' (some ⟨w4.heap.size, 0, none⟩) l.length (mkL 1 l.length) ∧ Mkd w4.heap.size w5.heap.size w10 w') := markE_sl (k0 := 1) w10 (by omega) (by decide) (Nat.le_refl _) (by unfold maxLen; omega) hWX
    have hkk : ¬ (((1 + l.length * 3 : Nat) : Int) < 0) := by omega
    generalize (1 + l.length * 3 : Nat) = KK at *
    clear hi9 h59 h58 h57 h510 h89 h710 hs7 hs07 hg7 hw8 hw7 hb8 hb9 hb10 hx5 hWX hwx5 hs5 hs4
    go_wp2_with fail
    refine (hmX.out).mono ?_
    rintro e w11 ⟨rfl, _, hm11⟩
    have hs11 := hs10.mkd hm11 (hg10.farE (by omega))
    have hs011 := hs010.mkd hm11 (hlow.far (Nat.le_refl _))
    have hg11 := hg10.mkd hm11
    have h1011 : Below w4.heap.size w10 w11 := hm11.below (by omega)
    have hw11 := hw10.trans (h1011.mono (by omega))
    have hB11 := hB10.trans (h1011.mono (by omega))
    have hS11 := hm11.size
    clear hmX hs10 hs010 hg10
    go_wp2_with fail
    refine (eqE_sl _ hs11 hs011).mono ?_
    rintro e w12 ⟨rfl, hb12⟩
    have hs12 := hs11.below hb12
    have hs012 := hs011.below hb12
    have hg12 := hg11.below hb12
    have hw12 := hw11.trans (hb12.mono (by omega))
    have hB12 := hB11.trans (hb12.mono (by omega))
    have hS12 := hb12.size
    have hGW : Wr w12 w6.heap.size w12.heap.size ga (L.length * 3) := hg12.wr
    have hmG : Hid (Calls Try.prog 20 #[.slice ga L.length gc, .int .i64 1] w12 fun e w' => e = .returned (.int .i64 ((1 + L.length * 3 : Nat) : Int)) ∧ SlE w' ga gc (mkL 1 L.length) ∧ Mkd w6.heap.size w12.heap.size w12 w') := markE_sl (k0 := 1) w12 (by omega) (by decide) hs12.le hs12.max hGW
    have hhG : Hid (∀ W, SlE W ga gc (mkL 1 L.length) → Calls Try.prog 21 #[.slice ga L.length gc, .int .i64 1] W fun e w' => e = .returned (.int .i64 ((1 + L.length * 3 : Nat) : Int)) ∧ Below W.heap.size W w') := fun W hW => heldE_sl (k0 := 1) W (by omega) (by decide) hW
    have hLL1 : ¬ (((1 + L.length * 3 : Nat) : Int) < 0) := by omega
    generalize (1 + L.length * 3 : Nat) = LL at *
    clear hs11 hs011 hg11 hGW
    go_wp2_with fail
    refine (hmG.out).mono ?_
    rintro e w13 ⟨rfl, hsm13, hm13⟩
    have hs013 := hs012.mkd hm13 (hlow.far (by omega))
    have h1213 : Below w6.heap.size w12 w13 := hm13.below (by omega)
    have hw13 := hw12.trans (h1213.mono (by omega))
    have hB13 := hB12.trans (h1213.mono (by omega))
    have hS13 := hm13.size
    clear hmG hs12 hs012 hg12
    go_wp2_with fail
    refine (hhG.out _ hsm13).mono ?_
    rintro e w14 ⟨rfl, hb14⟩
    have hs014 := hs013.below hb14
    have hsm14 := hsm13.below hb14
    have hw14 := hw13.trans (hb14.mono (by omega))
    have hB14 := hB13.trans (hb14.mono (by omega))
    have hcl14 := box_cells hB14
    clear hs013 hsm13
    go_wp2_with fail
    go_region_with (first
      | (go_at_call 11; refine (toE_sl _ hr (h.below (by first | exact hw14 | exact (hw14).drew | exact (hw14).drew.drew | exact (hw14).drew.drew.drew | exact (hw14).drew.drew.drew.drew))).mono ?_; rintro e w15 ⟨rfl, hi15, hb15'⟩; have h1415 : Below w14.heap.size w14 w15 := Below.trans (by first | exact Below.refl w14.heap.size w14 | exact (Below.refl w14.heap.size w14).drew | exact (Below.refl w14.heap.size w14).drew.drew | exact (Below.refl w14.heap.size w14).drew.drew.drew | exact (Below.refl w14.heap.size w14).drew.drew.drew.drew) hb15'; have hcl15 := box_cells (hB14.trans (h1415.mono (by have := hB14.size; simpa using this))))
      | (go_at_call 18; refine (toE1_any e0 _).mono ?_; rintro e w16 ⟨rfl, hb16'⟩; have h1516 : Below w15.heap.size w15 w16 := Below.trans (by first | exact Below.refl w15.heap.size w15 | exact (Below.refl w15.heap.size w15).drew | exact (Below.refl w15.heap.size w15).drew.drew | exact (Below.refl w15.heap.size w15).drew.drew.drew | exact (Below.refl w15.heap.size w15).drew.drew.drew.drew) hb16')
      | (go_at_call 19; refine (him.out _ _ _ (hi15.below (by first | exact h1516 | exact (h1516).drew | exact (h1516).drew.drew | exact (h1516).drew.drew.drew | exact (h1516).drew.drew.drew.drew))).mono ?_; rintro e w17 ⟨hb17', ha, hc, rfl, hs17, _⟩; have h1617 : Below w16.heap.size w16 w17 := Below.trans (by first | exact Below.refl w16.heap.size w16 | exact (Below.refl w16.heap.size w16).drew | exact (Below.refl w16.heap.size w16).drew.drew | exact (Below.refl w16.heap.size w16).drew.drew.drew | exact (Below.refl w16.heap.size w16).drew.drew.drew.drew) hb17'))
    all_goals
      have h1416 := h1415.trans (h1516.mono h1415.size)
      have h1417 := h1416.trans (h1617.mono h1416.size)
      have hw17 := hw14.trans (h1417.mono hw14.size)
      have hs017 := hs014.below h1417
      have hsm17 := hsm14.below h1417
      clear hcl14 hcl15 hi15 h1415 h1516 h1617 h1416 h1417 hs014 hsm14
      go_wp2_with fail
      refine (eqE_sl _ hs17 hs017).mono ?_
      rintro e w18 ⟨rfl, hb18⟩
      have hw18 := hw17.trans (hb18.mono hw17.size)
      go_wp2_with fail
      refine (hhG.out _ (hsm17.below hb18)).mono ?_
      rintro e w19 ⟨rfl, hb19⟩
      go_wp2
      go_ret
      exact ⟨rfl, hw18.trans (hb19.mono hw18.size)⟩
end Go.Proofs.Ytbenfmcnmiedpaa
