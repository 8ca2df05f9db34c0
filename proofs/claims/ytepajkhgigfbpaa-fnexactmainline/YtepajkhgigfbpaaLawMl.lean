import Derived.Test.YtepajkhgigfbpaaMlI
import Derived.Test.YtepajkhgigfbpaaMlS
import Derived.Test.YtepajkhgigfbpaaAns
import Derived.Test.YtepajkhgigfbpaaSz2
namespace Go.Proofs.Ytepajkhgigfbpaa
open Go.RowKit

/-- the answer is the texts S 0 .. S (nl-1), in a row of the call's own, and the mark c. -/
def AnsB (nl : Nat) (S : Nat → ByteArray) (c : Bool) (w : World) (e : Ending) (w' : World) : Prop := Below w.heap.size w w' ∧
  ∃ a cap, e = .returned (.tuple #[.slice a nl cap, .bool c]) ∧ SlS w' a nl cap S ∧ Wr0 w' w.heap.size a nl
theorem ansB_of {w w' : World} {v : Value} {L : List ByteArray} (c : Bool) (hb : Below w.heap.size w w') (ho : OwnL w' w.heap.size v L) (hs : ∀ s ∈ L, s.size ≤ maxLen) : AnsB L.length (getL L) c w (.returned (.tuple #[v, .bool c])) w' := by
  obtain ⟨a, cap, rfl, h1, h2⟩ := ho.sl hs
  exact ⟨hb, a, cap, rfl, h1, h2⟩

/-- the spec's answer and the program's are the same. -/
theorem ml_both {a : Option Addr} {n cap : Nat} {E : Nat → Ev} {w : World} (s : ByteArray) (hs : s.size ≤ maxLen) (h : SlV w a n cap E) : ∃ nl S c, nl ≤ 300 ∧
    (∀ W a' cap', SlV W a' n cap' E → Calls Try.prog 5 #[.agg #[.slice a' n cap'], .string s] W (AnsB nl S c W)) ∧
    (∀ W a' cap', SlV W a' n cap' E → Calls Try.prog 7 #[.agg #[.slice a' n cap'], .string s] W (AnsB nl S c W)) := by
  have hids : ∀ i, i < n → (E i).id.size ≤ maxLen := fun i hi => by
    rcases h.cells with h0 | ⟨b, off, _, _, hc⟩
    · omega
    · obtain ⟨_, _, _, _, _, _, _, hok⟩ := hc i hi
      exact hok.hid
  obtain ⟨L, hL⟩ : ∃ L : List ByteArray, L = (List.range (mlL E n s).length).map (fun k => (E (lX (mlL E n s) k).toNat).id) := ⟨_, rfl⟩
  have hr : mlOk E n s = true → roomTo E n = true := fun h => by
    unfold mlOk at h
    rw [Bool.and_eq_true] at h
    exact h.1
  have h3 : L.length ≤ 300 := by
    rw [hL, List.length_map, List.length_range]
    unfold mlL
    split
    · rename_i hq
      have := room_300 (hr hq)
      have := ln_len E n (posV E n s)
      omega
    · simp
  have h4 : ∀ t ∈ L, t.size ≤ maxLen := fun t ht => by
    rw [hL, List.mem_map] at ht
    obtain ⟨k, hk, rfl⟩ := ht
    rw [List.mem_range] at hk
    have hmem : ∀ i ∈ mlL E n s, i < n := fun i hi => by
      unfold mlL at hi
      split at hi
      · rename_i hq
        exact ln_mem (hr hq) (posV_bd E s n).2 i hi
      · cases hi
    obtain ⟨p, hp, e⟩ := lX_lt hmem hk
    rw [e, Int.toNat_natCast]
    exact hids p hp
  have key : ∀ W e W', MlPost W E n s e W' → AnsB L.length (getL L) (mlOk E n s) W e W' := fun W e W' ⟨hb, v, he, ho⟩ => by
    subst he
    have := ho.list
    rw [← hL] at this
    exact ansB_of _ hb this h4
  exact ⟨L.length, getL L, mlOk E n s, h3, fun W a' cap' h' => (mlS_sl s W h').mono (key W), fun W a' cap' h' => (mlI_sl s hs W h').mono (key W)⟩

theorem slV_newM {w : World} {B n : Nat} {E : Nat → Ev} (hn : n ≤ maxLen) (hB : B < w.heap.size) (h : ∀ i, i < n → EvNewW w B (i * 10) (E i)) : SlV w (some ⟨B, 0, none⟩) n n E :=
  ⟨Nat.le_refl _, hn, Or.inr ⟨B, 0, rfl, hB, fun i hi => by rw [Nat.zero_add]; exact (h i hi).plain.at⟩⟩

set_option maxRecDepth 100000 in
set_option maxHeartbeats 4000000 in
theorem lawMl_any {a : Option Addr} {n cap : Nat} {E : Nat → Ev} (s : ByteArray) (hs : s.size ≤ maxLen) (w : World) (hr : n * 168 ≤ 140737488351232) (hR : ∀ i, i < n → EvReach (E i)) (h : SlV w a n cap E) :
    Calls Try.prog 3 #[.agg #[.slice a n cap], .string s] w fun e w' => e = .returned (.bool true) ∧ Below w.heap.size w w' := by
  have hb0 : ∀ o, Below w.heap.size w (w.alloc o) := fun o => (Below.refl _ _).alloc (Nat.le_refl _) _
  obtain ⟨nl, S, c, hnl, hsp0, him0⟩ := ml_both s hs h
  have hsp : Hid (_) := hsp0
  have him : Hid (_) := him0
  have hnm : n ≤ maxLen := Nat.le_trans h.le h.max
  clear hsp0 him0
  by_cases hbig : 1048576 < s.size
  · go_enter Try.func3, Try.ntmps3
    go_wp2
    go_ret
    exact ⟨rfl, hb0 _⟩
  go_enter Try.func3, Try.ntmps3
  go_wp2_with fail
  refine (szRq_sl _ _ (by decide) (by decide) (h.below (hb0 _))).mono ?_
  rintro e w1 ⟨r, rfl, hr0, hr0', hq, hb1⟩
  have Hq : Hid (_) := hq
  have hB1 := hb1.mono (B' := w.heap.size + 1) (by simp)
  have hw1 := (hb0 _).trans (hb1.mono (by simp))
  have hcl := box_cells hB1
  clear hb1 hq
  by_cases hneg : r < 0
  · go_wp2
    go_ret
    exact ⟨rfl, hw1⟩
  have Hsum : Hid (1 + esum E n ≤ 100000000) := by
    have := esum_le E n
    have := Hq.out
    show 1 + esum E n ≤ 100000000
    omega
  clear Hq
  go_wp2_with fail
  refine (toR_sl _ hr hR (h.below hw1)).mono ?_
  rintro e w2 ⟨b2, rfl, h2, hb2⟩
  go_wp2_with fail
  refine (hsp.out _ _ _ h2).mono ?_
  rintro e w3 ⟨hb3, va, vc, rfl, hs3, _⟩
  have hb13 := hb2.trans (hb3.mono hb2.size)
  have hB3 := hB1.trans (hb13.mono (by have := hB1.size; simpa using this))
  have hw3 := hw1.trans (hb13.mono hw1.size)
  clear hcl h2 hb2 hb3 hb13 hsp
  have hcl := box_cells hB3
  go_wp2_with fail
  refine (toRw_sl _ hr hR (h.below hw3)).mono ?_
  rintro e w4 ⟨B, rfl, hev4, hfr4, hb4, hB31, hB4'⟩
  have hB4 := hB3.trans (hb4.mono (by have := hB3.size; simpa using this))
  have hw4 := hw3.trans (hb4.mono hw3.size)
  have hs4 := hs3.below hb4
  have hlow := hs3.low (base := B) hB31
  have hslv4 := slV_newM hnm hB4' hev4
  have HE : Hid (∀ i, i < n → EvNewW w4 B (i * 10) (E i)) := hev4
  have HF : Hid (Free w4 B (n * 10)) := hfr4
  have hSz3 : w.heap.size + 1 ≤ w3.heap.size := by simpa using hB3.size
  clear hcl hev4 hfr4 hs3
  have hcl := box_cells hB4
  have hbA : ∀ o, Below w4.heap.size w4 (w4.alloc o) := fun o => (Below.refl _ _).alloc (Nat.le_refl _) _
  go_wp2_with fail
  refine (him.out _ _ _ (hslv4.below (hbA _))).mono ?_
  rintro e w5 ⟨hb5, ga, gc, rfl, hs5, hg5⟩
  have hX5 := hb5.mono (B' := w4.heap.size + 1) (by simp)
  have hb45 := (hbA _).trans (hb5.mono (by simp))
  have hg5' := hg5.low (lo' := w4.heap.size) (by simp)
  have hB5 := hB4.trans (hb45.mono (by have := hB4.size; simpa using this))
  have hw5 := hw4.trans (hb45.mono hw4.size)
  have hs05 := hs4.below hb45
  clear hcl hb5 hg5
  have hcl := box_cells hB5
  have hcx := box_cells hX5
  go_wp2_with fail
  refine (eqS_sl _ hs5 hs05).mono ?_
  rintro e w6 ⟨rfl, hd6⟩
  have hb56 := hd6.below w5.heap.size
  have hX6 := hX5.trans (hb56.mono (by have := hX5.size; simpa using this))
  have hB6 := hB5.trans (hb56.mono (by have := hB5.size; simpa using this))
  have hw6 := hw5.trans (hb56.mono hw5.size)
  have hb46 := hb45.trans (hb56.mono hb45.size)
  have hslv6 := hslv4.below hb46
  clear hcl hcx
  have hcl := box_cells hB6
  have hcx := box_cells hX6
  go_wp2_with fail
  go_region_with (first
    | (go_at_call 6; refine (toR_sl _ hr hR (h.below (by first | exact hw6 | exact (hw6).drew | exact (hw6).drew.drew | exact (hw6).drew.drew.drew | exact (hw6).drew.drew.drew.drew))).mono ?_; rintro e w7 ⟨b7, rfl, h7, hb7⟩; have h67 : Below w6.heap.size w6 w7 := Below.trans (by first | exact Below.refl w6.heap.size w6 | exact (Below.refl w6.heap.size w6).drew | exact (Below.refl w6.heap.size w6).drew.drew | exact (Below.refl w6.heap.size w6).drew.drew.drew | exact (Below.refl w6.heap.size w6).drew.drew.drew.drew) hb7; have hcx7 := box_cells (hX6.trans (h67.mono (by have := hX6.size; simpa using this))))
    | (go_at_call 9; refine (eqR_sl _ (hslv6.below (by first | exact h67 | exact (h67).drew | exact (h67).drew.drew | exact (h67).drew.drew.drew | exact (h67).drew.drew.drew.drew)) (h7.below (by first | exact Below.refl w7.heap.size w7 | exact (Below.refl w7.heap.size w7).drew | exact (Below.refl w7.heap.size w7).drew.drew | exact (Below.refl w7.heap.size w7).drew.drew.drew | exact (Below.refl w7.heap.size w7).drew.drew.drew.drew))).mono ?_; rintro e w8 ⟨rfl, hb8⟩; have h78 : Below w7.heap.size w7 w8 := Below.trans (by first | exact Below.refl w7.heap.size w7 | exact (Below.refl w7.heap.size w7).drew | exact (Below.refl w7.heap.size w7).drew.drew | exact (Below.refl w7.heap.size w7).drew.drew.drew | exact (Below.refl w7.heap.size w7).drew.drew.drew.drew) hb8))
  all_goals
    have h68 := h67.trans (h78.mono h67.size)
    have h58 := hb56.trans (h68.mono hb56.size)
    have h48 := hb45.trans (h58.mono hb45.size)
    have hX8 := hX6.trans (h68.mono (by have := hX6.size; simpa using this))
    have hB8 := hB6.trans (h68.mono (by have := hB6.size; simpa using this))
    have hw8 := hw6.trans (h68.mono hw6.size)
    have hs08 := hs05.below h58
    have hs8 := hs5.below h58
    have hg8 := hg5'.below h58
    clear hcl hcx hcx7
    have hcx8 := box_cells hX8
    have hmR : Hid (Calls Try.prog 10 #[.agg #[.slice (some ⟨B, 0, none⟩) n n], .int .i64 1] w8 fun e w' => e = .returned (.int .i64 ((1 + esum E n : Nat) : Int)) ∧ Mkd B w4.heap.size w8 w') := markR_any (k0 := 1) w8 hnm Hsum.out hB4' h48 HF.out HE.out
    have hkk : ¬ (((1 + esum E n : Nat) : Int) < 0) := by omega
    generalize (1 + esum E n : Nat) = KK at *
    have hS4 := hb4.size
    have hS8 := h48.size
    clear HE HF hslv4 hslv6 h7 h67 h78 h68 h58 h48 hs5 hs05 hg5' hX6 hX5 hB6 hB5 hw6 hw5 hb56 hb45 hb46 hs4
    go_wp2_with fail
    refine (hmR.out).mono ?_
    rintro e w9 ⟨rfl, hm9⟩
    have hs09 := hs08.mkd hm9 (hlow.far (Nat.le_refl _))
    have hs9 := hs8.mkd hm9 (hg8.far (Nat.le_refl _))
    have hg9 := hg8.mkd hm9
    have hb89 : Below B w8 w9 := hm9.below (by omega)
    have hB9 := hB8.trans (hb89.mono (by omega))
    have hw9 := hw8.trans (hb89.mono (by omega))
    have hS9 := hm9.size
    clear hmR hcx8 hs08 hs8 hg8
    go_wp2_with fail
    refine (eqS_sl _ hs9 hs09).mono ?_
    rintro e w10 ⟨rfl, hd10⟩
    have hb910 := hd10.below w9.heap.size
    have hs010 := hs09.below hb910
    have hs10 := hs9.below hb910
    have hg10 := hg9.below hb910
    have hB10 := hB9.trans (hb910.mono (by omega))
    have hw10 := hw9.trans (hb910.mono (by omega))
    have hS10 := hb910.size
    clear hs9 hs09 hg9
    have hmS : Hid (Calls Try.prog 11 #[.slice ga nl gc, .int .i64 1] w10 fun e w' => e = .returned (.int .i64 ((1 + nl : Nat) : Int)) ∧ SlS w' ga nl gc (fun i => mkT (1 + i)) ∧ w10.grownBy w' (rowOf ga nl)) := markS_sl (k0 := 1) w10 (by omega) (by decide) hs10 hg10.slw
    have hhS : Hid (∀ W, SlS W ga nl gc (fun i => mkT (1 + i)) → Calls Try.prog 12 #[.slice ga nl gc, .int .i64 1] W fun e w' => e = .returned (.int .i64 ((1 + nl : Nat) : Int)) ∧ Below W.heap.size W w') := fun W hW => heldS_sl (k0 := 1) W (by omega) (by decide) hW
    have hLL1 : ¬ (((1 + nl : Nat) : Int) < 0) := by omega
    generalize (1 + nl : Nat) = LL at *
    go_wp2_with fail
    refine (hmS.out).mono ?_
    rintro e w11 ⟨rfl, hsm11, hg11⟩
    have hs011 := hs010.grownL hg11 (base := B) (fun b hb => by have := hg10.row b hb; omega) hlow
    have hb1011 : Below w4.heap.size w10 w11 := (Below.refl _ _).grown hg11 (by omega) (fun b hb => hg10.row b hb)
    have hB11 := hB10.trans (hb1011.mono (by omega))
    have hw11 := hw10.trans (hb1011.mono (by omega))
    have hS11 := hb1011.size
    clear hmS hs010 hs10 hg10
    go_wp2_with fail
    refine (hhS.out _ hsm11).mono ?_
    rintro e w12 ⟨rfl, hb12⟩
    have hs012 := hs011.below hb12
    have hsm12 := hsm11.below hb12
    have hB12 := hB11.trans (hb12.mono (by omega))
    have hw12 := hw11.trans (hb12.mono (by omega))
    have hcl12 := box_cells hB12
    clear hs011 hsm11
    go_wp2_with fail
    refine (toR_sl _ hr hR (h.below hw12)).mono ?_
    rintro e w13 ⟨b13, rfl, h13, hb13⟩
    go_wp2_with fail
    refine (him.out _ _ _ h13).mono ?_
    rintro e w14 ⟨hb14, ha, hc, rfl, hs14, _⟩
    have hb1214 := hb13.trans (hb14.mono hb13.size)
    have hw14 := hw12.trans (hb1214.mono hw12.size)
    have hs014 := hs012.below hb1214
    have hsm14 := hsm12.below hb1214
    clear hcl12 hs012 hsm12
    go_wp2_with fail
    refine (eqS_sl _ hs14 hs014).mono ?_
    rintro e w15 ⟨rfl, hd15⟩
    have hw15 := hw14.trans (hd15.below _)
    go_wp2_with fail
    refine (hhS.out _ (hsm14.below (hd15.below _))).mono ?_
    rintro e w16 ⟨rfl, hb16⟩
    have hw16 := hw15.trans (hb16.mono hw15.size)
    go_wp2
    go_ret
    exact ⟨rfl, hw16⟩
end Go.Proofs.Ytepajkhgigfbpaa
