/-
  FnExactExpand, where impl.Expand answers as it should.
-/
import Derived.Test.YtbenfmcnmiedpabEqT
import Derived.Test.YtbenfmcnmiedpabLkS
import Derived.Test.YtbenfmcnmiedpabAnE
import Derived.Test.YtbenfmcnmiedpabMkGp
namespace Go.Proofs.Ytbenfmcnmiedpab
open Go.RowKit

set_option maxRecDepth 100000 in
set_option maxHeartbeats 4000000 in
theorem lawExp_of {a : Option Addr} {n cap : Nat} {G : Nat → Grp} (g : Int) (w : World) (hr : n * 32 ≤ 140737488351232) (hR : ∀ i, i < n → (G i).sets.length * 48 ≤ 140737488351232) (h : SlT w a n cap G)
    (him0 : ∀ W a' cap', SlT W a' n cap' G → Calls Try.prog 12 #[.agg #[.slice a' n cap'], .int .i64 g] W (AnsE (exV G n g) (exOk G n g) W)) :
    Calls Try.prog 4 #[.agg #[.slice a n cap], .int .i64 g] w fun e w' => e = .returned (.bool true) ∧ Below w.heap.size w w' := by
  have hb0 : ∀ o, Below w.heap.size w (w.alloc o) := fun o => (Below.refl _ _).alloc (Nat.le_refl _) _
  have hnm : n ≤ maxLen := Nat.le_trans h.le h.max
  have him : Hid (_) := him0
  have hsp : Hid (∀ W a' cap', SlT W a' n cap' G → Calls Try.prog 11 #[.agg #[.slice a' n cap'], .int .i64 g] W (AnsE (exV G n g) (exOk G n g) W)) := fun W a' cap' hW => expS_sl g W hW
  have hvl := exV_len G n g
  clear him0
  generalize exV G n g = L at *
  generalize exOk G n g = qq at *
  go_enter Try.func4, Try.ntmps4
  go_wp2_with fail
  refine (szT_sl _ _ (by decide) (by decide) (h.below (hb0 _))).mono ?_
  rintro e w1 ⟨r, rfl, hr0, hr0', hq, hb1⟩
  have Hq : Hid (_) := hq
  have hB1 := hb1.mono (B' := w.heap.size + 1) (by simp)
  have hw1 := (hb0 _).trans (hb1.mono (by simp))
  have hcl := box_cells hB1
  clear hb1 hq
  by_cases hneg : r < 0
  · go_wp2
    go_ret
    exact ⟨rfl, hw1⟩
  have Hsum : Hid (n + tsum G n ≤ 1048576) := by have := Hq.out; unfold Hid; omega
  clear Hq
  go_wp2_with fail
  refine (toT_sl _ hr hR (h.below hw1)).mono ?_
  rintro e w2 ⟨b2, rfl, h2, _, hb2, hq1, hq2⟩
  have hs2 := slT_new hnm hq2 h2
  go_wp2_with fail
  refine (hsp.out _ _ _ hs2).mono ?_
  rintro e w3 ⟨hb3, va, vc, rfl, hs3, _⟩
  have hb23 := hb2.trans (hb3.mono hb2.size)
  have hB3 := hB1.trans (hb23.mono (by have := hB1.size; simpa using this))
  have hw3 := hw1.trans (hb23.mono hw1.size)
  clear hcl h2 hs2 hb2 hb3 hb23
  have hcl := box_cells hB3
  have hlow := hs3.low (base := w3.heap.size) (Nat.le_refl _)
  go_wp2_with fail
  refine (toT_sl _ hr hR (h.below hw3)).mono ?_
  rintro e w4 ⟨b4, rfl, h4, hf4, hb4, hq3, hq4⟩
  have H4 : Hid (∀ i, i < n → GrpNew w4 b4 (i * 2) (G i)) := h4
  have HF4 : Hid (Free w4 b4 (n * 2)) := hf4
  have hs4 := slT_new hnm hq4 h4
  have hB4 := hB3.trans (hb4.mono (by have := hB3.size; simpa using this))
  have hw4 := hw3.trans (hb4.mono hw3.size)
  have hv4 := hs3.below hb4
  have hS3 : w.heap.size + 1 ≤ w3.heap.size := by simpa using hB3.size
  have hS4 := hb4.size
  clear hcl h4 hf4 hs3
  have hcl := box_cells hB4
  go_wp2_with fail
  have hb45 : ∀ o, Below w4.heap.size w4 (w4.alloc o) := fun o => (Below.refl _ _).alloc (Nat.le_refl _) _
  refine (him.out _ _ _ (hs4.below (hb45 _))).mono ?_
  rintro e w5 ⟨hb5, ga, gc, rfl, hs5, hg5⟩
  have hX5 := hb5.mono (B' := w4.heap.size + 1) (by simp)
  have hg5' : Wr0 w5 (w4.heap.size + 1) ga (L.length * 3) := by simpa using hg5
  have hb5' := (hb45 _).trans (hb5.mono (by simp))
  have hw5 := hw4.trans (hb5'.mono hw4.size)
  have hB5 := hB4.trans (hb5'.mono (by have := hB4.size; simpa using this))
  have h5 := hs4.below hb5'
  have hv5 := hv4.below hb5'
  clear hcl hb5 hs4 hB4 hw4 hb4 hB3 hw3 hB1 hw1 hg5 hv4
  have hcl := box_cells hB5
  have hcx := box_cells hX5
  go_wp2_with fail
  refine (eqE_sl _ hs5 hv5).mono ?_
  rintro e w6 ⟨rfl, hb6⟩
  have hX6 := hX5.trans (hb6.mono (by have := hX5.size; simpa using this))
  have hw6 := hw5.trans (hb6.mono hw5.size)
  have hB6 := hB5.trans (hb6.mono (by have := hB5.size; simpa using this))
  have h6 := h5.below hb6
  have h56 := hb6
  clear hcl hcx
  have hcl := box_cells hB6
  have hcx := box_cells hX6
  go_wp2_with fail
  go_region_with (first
    | (go_at_call 8; refine (toT_sl _ hr hR (h.below (by first | exact hw6 | exact (hw6).drew | exact (hw6).drew.drew | exact (hw6).drew.drew.drew | exact (hw6).drew.drew.drew.drew))).mono ?_; rintro e w7 ⟨b7, rfl, h7, _, hb7, hq5, hq6⟩; have hs7 := slT_new hnm hq6 h7; have h67 : Below w6.heap.size w6 w7 := Below.trans (by first | exact Below.refl w6.heap.size w6 | exact (Below.refl w6.heap.size w6).drew | exact (Below.refl w6.heap.size w6).drew.drew | exact (Below.refl w6.heap.size w6).drew.drew.drew | exact (Below.refl w6.heap.size w6).drew.drew.drew.drew) hb7; have hcx7 := box_cells (hX6.trans (h67.mono (by have := hX6.size; simpa using this))))
    | (go_at_call 10; refine (eqT_sl _ (h6.below (by first | exact h67 | exact (h67).drew | exact (h67).drew.drew | exact (h67).drew.drew.drew | exact (h67).drew.drew.drew.drew)) (hs7.below (by first | exact Below.refl w7.heap.size w7 | exact (Below.refl w7.heap.size w7).drew | exact (Below.refl w7.heap.size w7).drew.drew | exact (Below.refl w7.heap.size w7).drew.drew.drew | exact (Below.refl w7.heap.size w7).drew.drew.drew.drew))).mono ?_; rintro e w8 ⟨rfl, hb8⟩; have h78 : Below w7.heap.size w7 w8 := Below.trans (by first | exact Below.refl w7.heap.size w7 | exact (Below.refl w7.heap.size w7).drew | exact (Below.refl w7.heap.size w7).drew.drew | exact (Below.refl w7.heap.size w7).drew.drew.drew | exact (Below.refl w7.heap.size w7).drew.drew.drew.drew) hb8))
  all_goals
    have h68 := h67.trans (h78.mono h67.size)
    have h58 := h56.trans (h68.mono h56.size)
    have hw8 := hw5.trans (h58.mono hw5.size)
    have hB8 := hB5.trans (h58.mono (by have := hB5.size; simpa using this))
    have hX8 := hX5.trans (h58.mono (by have := hX5.size; simpa using this))
    have hs8 := hs5.below h58
    have hv8 := hv5.below h58
    have hg8 := hg5'.below h58
    have h48 := hb5'.trans (h58.mono hb5'.size)
    have hS5 : w4.heap.size + 1 ≤ w5.heap.size := by simpa using hX5.size
    have hS8 := h58.size
    have hmX : Hid (Calls Try.prog 14 #[.agg #[.slice (some ⟨b4, 0, none⟩) n n], .int .i64 1] w8 fun e w' => e = .returned (.int .i64 ((1 + (n + tsum G n * 3) : Nat) : Int)) ∧ Mkd b4 w4.heap.size w8 w') := markT_any (k0 := 1) w8 (by have := Hsum.out; omega) (by have := Hsum.out; omega) hq4 h48 HF4.out H4.out
    have hkk : ¬ (((1 + (n + tsum G n * 3) : Nat) : Int) < 0) := by omega
    generalize (1 + (n + tsum G n * 3) : Nat) = KK at *
    clear hcl hcx hcx7 h7 hs7 h67 h78 h68 h58 hb6 h56 hw6 hB6 hX6 h5 h6 hs5 hv5 hg5' hq5 hq6 hb7 hb8 hX5 hB5
    have hcl := box_cells hB8
    have hcx := box_cells hX8
    go_wp2_with fail
    refine (hmX.out).mono ?_
    rintro e w9 ⟨rfl, hm9⟩
    have hs9 := hs8.mkd hm9 (hg8.farE (by omega))
    have hv9 := hv8.mkd hm9 (hlow.far (by omega))
    have hg9 := hg8.mkd hm9
    have h89 : Below b4 w8 w9 := hm9.below (by omega)
    have hw9 := hw8.trans (h89.mono (by omega))
    have hB9 := hB8.trans (h89.mono (by omega))
    have hS9 := hm9.size
    clear hmX hs8 hv8 hg8 hcl hcx
    have hcl := box_cells hB9
    go_wp2_with fail
    refine (eqE_sl _ hs9 hv9).mono ?_
    rintro e w10 ⟨rfl, hb10⟩
    have hs10 := hs9.below hb10
    have hv10 := hv9.below hb10
    have hg10 := hg9.below hb10
    have hw10 := hw9.trans (hb10.mono (by omega))
    have hB10 := hB9.trans (hb10.mono (by omega))
    have hS10 := hb10.size
    have hGW : Wr w10 (w4.heap.size + 1) w10.heap.size ga (L.length * 3) := hg10.wr
    have hmG : Hid (Calls Try.prog 15 #[.slice ga L.length gc, .int .i64 1] w10 fun e w' => e = .returned (.int .i64 ((1 + L.length * 3 : Nat) : Int)) ∧ SlE w' ga gc (mkL 1 L.length) ∧ Mkd (w4.heap.size + 1) w10.heap.size w10 w') := markE_sl (k0 := 1) w10 (by omega) (by decide) hs10.le hs10.max hGW
    have hhG : Hid (∀ W, SlE W ga gc (mkL 1 L.length) → Calls Try.prog 16 #[.slice ga L.length gc, .int .i64 1] W fun e w' => e = .returned (.int .i64 ((1 + L.length * 3 : Nat) : Int)) ∧ Below W.heap.size W w') := fun W hW => heldE_sl (k0 := 1) W (by omega) (by decide) hW
    have hLL1 : ¬ (((1 + L.length * 3 : Nat) : Int) < 0) := by omega
    generalize (1 + L.length * 3 : Nat) = LL at *
    clear hs9 hv9 hg9 hGW hcl
    go_wp2_with fail
    refine (hmG.out).mono ?_
    rintro e w11 ⟨rfl, hsm11, hm11⟩
    have hv11 := hv10.mkd hm11 (hlow.far (by omega))
    have h1011 : Below (w4.heap.size + 1) w10 w11 := hm11.below (by omega)
    have hw11 := hw10.trans (h1011.mono (by omega))
    have hB11 := hB10.trans (h1011.mono (by omega))
    have hS11 := hm11.size
    clear hmG hs10 hv10 hg10
    go_wp2_with fail
    refine (hhG.out _ hsm11).mono ?_
    rintro e w12 ⟨rfl, hb12⟩
    have hv12 := hv11.below hb12
    have hsm12 := hsm11.below hb12
    have hw12 := hw11.trans (hb12.mono (by omega))
    have hB12 := hB11.trans (hb12.mono (by omega))
    clear hv11 hsm11
    have hcl := box_cells hB12
    go_wp2_with fail
    refine (toT_sl _ hr hR (h.below hw12)).mono ?_
    rintro e w13 ⟨b13, rfl, h13, _, hb13, hq7, hq8⟩
    have hs13 := slT_new hnm hq8 h13
    clear hcl
    go_wp2_with fail
    refine (him.out _ _ _ hs13).mono ?_
    rintro e w14 ⟨hb14, ha, hc, rfl, hs14, _⟩
    have h1214 := hb13.trans (hb14.mono hb13.size)
    have hw14 := hw12.trans (h1214.mono hw12.size)
    have hv14 := hv12.below h1214
    have hsm14 := hsm12.below h1214
    clear h13 hs13 hv12 hsm12
    go_wp2_with fail
    refine (eqE_sl _ hs14 hv14).mono ?_
    rintro e w15 ⟨rfl, hb15⟩
    have hw15 := hw14.trans (hb15.mono hw14.size)
    go_wp2_with fail
    refine (hhG.out _ (hsm14.below hb15)).mono ?_
    rintro e w16 ⟨rfl, hb16⟩
    go_wp2
    go_ret
    exact ⟨rfl, hw15.trans (hb16.mono hw15.size)⟩
end Go.Proofs.Ytbenfmcnmiedpab
