import Derived.Test.YtfjfhnjoghlbfaaGreatRows
import Derived.Test.YtfjfhnjoghlbfaaGreatOpenA
import Derived.Test.YtfjfhnjoghlbfaaGreatPoJ
import Derived.Test.YtfjfhnjoghlbfaaGreatAns
import Derived.Test.YtfjfhnjoghlbfaaGreatSz2
namespace Go.Proofs.YtfjfhnjoghlbfaaGreat
open Go.RowKit

theorem SlS.grownF {w w' : World} {a : Option Addr} {n cap lo hi : Nat} {S : Nat → ByteArray} {row : Option Nat} (h : SlS w a n cap S) (hg : w.grownBy w' row) (hr : ∀ b, row = some b → lo ≤ b ∧ b < hi) (hf : FarS a n lo hi) : SlS w' a n cap S := by
  refine ⟨h.le, h.max, h.size, ?_⟩
  rcases h.cells with h0 | ⟨b, off, rfl, hlt, hc⟩
  · exact Or.inl h0
  · rcases hf with h0 | ⟨b', off', e, hf⟩
    · exact Or.inl h0
    · injection e with e; injection e with e1 e2 _
      subst e1 e2
      refine Or.inr ⟨b, off, rfl, Nat.lt_of_lt_of_le hlt hg.size, fun i hi => ?_⟩
      rw [World.cell?_of_block (a := ⟨b, off + i, none⟩) (hg.block b hlt (fun e => by have := hr b e.symm; omega))]
      exact hc i hi
theorem Wr0.grownF {w w' : World} {a : Option Addr} {n base lo hi : Nat} {row : Option Nat} (h : Wr0 w base a n) (hg : w.grownBy w' row) (hr : ∀ b, row = some b → lo ≤ b ∧ b < hi) (hf : FarS a n lo hi) : Wr0 w' base a n := by
  rcases h with h0 | ⟨b, off, rfl, h1, h3, hc⟩
  · exact Or.inl h0
  · rcases hf with h0 | ⟨b', off', e, hf⟩
    · exact Or.inl h0
    · injection e with e; injection e with e1 e2 _
      subst e1 e2
      have hblk : w'.heap[b]? = w.heap[b]? := hg.block b h3 (fun e => by have := hr b e.symm; omega)
      refine Or.inr ⟨b, off, rfl, h1, Nat.lt_of_lt_of_le h3 hg.size, fun i hi => ⟨?_, ?_⟩⟩
      · rw [World.cell?_of_block (a := ⟨b, off + i, none⟩) hblk]; exact (hc i hi).1
      · rw [World.frozen?_of_block (a := ⟨b, off + i, none⟩) hblk]; exact (hc i hi).2
theorem row_at {b n q : Nat} (h : rowOf (some ⟨b, 0, none⟩) n = some q) : q = b := by
  unfold rowOf at h
  split at h
  · cases h
  · simpa [blk] using h.symm

/-- the answer is the texts S 0 .. S (nl-1), in a row of the call's own, and the mark c. -/
def AnsB (nl : Nat) (S : Nat → ByteArray) (c : Bool) (w : World) (e : Ending) (w' : World) : Prop := Below w.heap.size w w' ∧
  ∃ a cap, e = .returned (.tuple #[.slice a nl cap, .bool c]) ∧ SlS w' a nl cap S ∧ Wr0 w' w.heap.size a nl
theorem ansB_of {w w' : World} {v : Value} {L : List ByteArray} (c : Bool) (hb : Below w.heap.size w w') (ho : OwnL w' w.heap.size v L) (hs : ∀ s ∈ L, s.size ≤ maxLen) : AnsB L.length (getL L) c w (.returned (.tuple #[v, .bool c])) w' := by
  obtain ⟨a, cap, rfl, h1, h2⟩ := ho.sl hs
  exact ⟨hb, a, cap, rfl, h1, h2⟩

/-- the spec's answer and the program's are the same. -/
theorem po_both {a : Option Addr} {n cap : Nat} {E : Nat → Ev} {w : World} (h : SlV w a n cap E) (S : Nat → ByteArray) (m : Nat) : ∃ nl X c, nl ≤ 300 ∧
    (∀ W a' cap' ia icap, SlV W a' n cap' E → SlS W ia m icap S → Calls Tryz.prog 6 #[.agg #[.slice a' n cap'], .slice ia m icap] W (AnsB nl X c W)) ∧
    (∀ W a' cap' ia icap, SlV W a' n cap' E → SlS W ia m icap S → Calls Tryz.prog 9 #[.agg #[.slice a' n cap'], .slice ia m icap] W (AnsB nl X c W)) := by
  have hids : ∀ i, i < n → (E i).id.size ≤ maxLen := fun i hi => by
    rcases h.cells with h0 | ⟨b, off, _, _, hc⟩
    · omega
    · obtain ⟨_, _, _, _, _, _, _, hok⟩ := hc i hi
      exact hok.hid
  have key : ∃ nl X c, nl ≤ 300 ∧ ∀ W e W', PoPost W E n S m e W' → AnsB nl X c W e W' := by
    cases hok : poOk E n S m
    · refine ⟨0, getL [], false, by decide, ?_⟩
      rintro W e W' ⟨hb, v, o, rfl, ho, ⟨hq, _⟩ | ⟨_, rfl⟩⟩
      · rw [hok] at hq; cases hq
      · rw [hok]
        exact ansB_of false hb ho (fun s hs => by cases hs)
    · have hroom : roomTo E n = true := by unfold poOk at hok; rw [Bool.and_eq_true] at hok; exact hok.1
      have h300 := room_300 hroom
      by_cases hex : ∃ o : List Nat, PoOrd E n S m o
      · obtain ⟨o, h1⟩ := hex
        have h4 : ∀ t ∈ o.map (fun p => (E p).id), t.size ≤ maxLen := fun t ht => by
          obtain ⟨p, hp, rfl⟩ := List.mem_map.1 ht
          exact hids p (h1.lt p hp)
        have h3 : (o.map fun p => (E p).id).length ≤ 300 := by
          rw [List.length_map]
          have := ord_len h1.1 (fun q hq => hq.1)
          omega
        refine ⟨_, getL (o.map fun p => (E p).id), true, h3, ?_⟩
        rintro W e W' ⟨hb, v, o', rfl, ho, ⟨_, q1⟩ | ⟨hq, _⟩⟩
        · rw [q1.uniq h1] at ho
          rw [hok]
          exact ansB_of true hb ho h4
        · rw [hok] at hq; cases hq
      · refine ⟨0, getL [], true, by decide, ?_⟩
        rintro W e W' ⟨hb, v, o', rfl, ho, ⟨_, q1⟩ | ⟨hq, _⟩⟩
        · exact absurd ⟨o', q1⟩ hex
        · rw [hok] at hq; cases hq
  obtain ⟨nl, X, c, hnl, hk⟩ := key
  exact ⟨nl, X, c, hnl, fun W a' cap' ia icap h1 h2 => (poS_sl W h1 h2).mono (hk W), fun W a' cap' ia icap h1 h2 => (poJ_sl W h1 h2).mono (hk W)⟩

theorem slV_new2 {w : World} {B n : Nat} {E : Nat → Ev} (hn : n ≤ maxLen) (hB : B < w.heap.size) (h : ∀ i, i < n → EvNewW w B (i * 10) (E i)) : SlV w (some ⟨B, 0, none⟩) n n E :=
  ⟨Nat.le_refl _, hn, Or.inr ⟨B, 0, rfl, hB, fun i hi => by rw [Nat.zero_add]; exact (h i hi).plain.at⟩⟩

set_option maxRecDepth 100000 in
set_option maxHeartbeats 4000000 in
theorem lawPo_any {a : Option Addr} {n cap : Nat} {E : Nat → Ev} {ia : Option Addr} {m icap : Nat} {S : Nat → ByteArray} (w : World) (hr : n * 168 ≤ 140737488351232) (hR : ∀ i, i < n → EvReach (E i)) (hri : m * 16 ≤ 140737488351232) (h : SlV w a n cap E) (hi : SlS w ia m icap S) :
    Calls Tryz.prog 3 #[.agg #[.slice a n cap], .slice ia m icap] w fun e w' => e = .returned (.bool true) ∧ Below w.heap.size w w' := by
  have hb0 : ∀ o, Below w.heap.size w (w.alloc o) := fun o => (Below.refl _ _).alloc (Nat.le_refl _) _
  obtain ⟨nl, X, c, hnl, hsp0, him0⟩ := po_both h S m
  have hsp : Hid (_) := hsp0
  have him : Hid (_) := him0
  have hnm : n ≤ maxLen := Nat.le_trans h.le h.max
  clear hsp0 him0
  go_enter Tryz.func3, Tryz.ntmps3
  go_wp2_with fail
  refine (szRq_sl _ _ (by decide) (by decide) (h.below (hb0 _))).mono ?_
  rintro e w1 ⟨r, rfl, hr0, hr0', hq, hb1⟩
  have Hq : Hid (_) := hq
  have hB1 := hb1.mono (B' := w.heap.size + 1) (by simp)
  have hw1 := (hb0 _).trans (hb1.mono (by simp))
  have hcl := box_cells hB1
  clear hb1 hq
  by_cases hneg : r < 0
  · go_wp2
    go_ret
    exact ⟨rfl, hw1⟩
  have Hsum : Hid (1 + esum E n ≤ 100000000) := by
    have := esum_le E n
    have := Hq.out
    show 1 + esum E n ≤ 100000000
    omega
  clear Hq
  go_wp2_with fail
  refine (szSq_sl _ _ (by omega) (by omega) (hi.below hw1)).mono ?_
  rintro e w1' ⟨r2, rfl, hr2, hr2', hq2, hw1'⟩
  subst hw1'
  have Hq2 : Hid (_) := hq2
  clear hq2
  by_cases hneg2 : r2 < 0
  · go_wp2
    go_ret
    exact ⟨rfl, hw1⟩
  have hmm : m ≤ 1048576 := by have := Hq2.out; omega
  clear Hq2
  go_wp2_with fail
  refine (toR_sl _ hr hR (h.below hw1)).mono ?_
  rintro e w2 ⟨b2, rfl, h2, hb2⟩
  have hw2 := hw1.trans (hb2.mono hw1.size)
  go_wp2_with fail
  refine (toS_sl _ hri (hi.below hw2)).mono ?_
  rintro e w2' ⟨rfl, hi2, hb2'⟩
  go_wp2_with fail
  refine (hsp.out _ _ _ _ _ (h2.below hb2') hi2).mono ?_
  rintro e w3 ⟨hb3, va, vc, rfl, hs3, _⟩
  have hb12' := hb2.trans (hb2'.mono hb2.size)
  have hb13 := hb12'.trans (hb3.mono hb12'.size)
  have hB3 := hB1.trans (hb13.mono (by have := hB1.size; simpa using this))
  have hw3 := hw1.trans (hb13.mono hw1.size)
  clear hcl h2 hb2 hb2' hb12' hb3 hb13 hsp hi2 hw2
  have hcl := box_cells hB3
  go_wp2_with fail
  refine (toRw_sl _ hr hR (h.below hw3)).mono ?_
  rintro e w4 ⟨B, rfl, hev4, hfr4, hb4, hB31, hB4'⟩
  have hB4 := hB3.trans (hb4.mono (by have := hB3.size; simpa using this))
  have hw4 := hw3.trans (hb4.mono hw3.size)
  have hs4 := hs3.below hb4
  have hlow := hs3.low (base := B) hB31
  have hslv4 := slV_new2 hnm hB4' hev4
  have HE : Hid (∀ i, i < n → EvNewW w4 B (i * 10) (E i)) := hev4
  have HF : Hid (Free w4 B (n * 10)) := hfr4
  have hSz3 : w.heap.size + 1 ≤ w3.heap.size := by simpa using hB3.size
  clear hcl hev4 hfr4 hs3
  have hcl := box_cells hB4
  have hbA : ∀ o, Below w4.heap.size w4 (w4.alloc o) := fun o => (Below.refl _ _).alloc (Nat.le_refl _) _
  go_wp2_with fail
  refine (toSw_sl _ hri ((hi.below hw4).below (hbA _))).mono ?_
  rintro e wx ⟨rfl, hix, hwx, hbx⟩
  simp only [World.size_alloc] at hix hwx
  have hXx := hbx.mono (B' := w4.heap.size + 1) (by simp)
  have hb4x := (hbA _).trans (hbx.mono (by simp))
  have hcx := box_cells hXx
  have hSx : w4.heap.size + 1 ≤ wx.heap.size := by simpa using hXx.size
  have HWX : Hid (∀ q, rowOf (some ⟨w4.heap.size + 1, 0, none⟩) m = some q → w4.heap.size + 1 ≤ q ∧ q < wx.heap.size) := fun q hq => by
    have e1 := row_at hq
    rcases hwx with h0 | ⟨b', o', e', q1, q2, _⟩
    · subst h0; simp [rowOf] at hq
    · have e2 : w4.heap.size + 1 = b' := by injection e' with e'; injection e'
      exact ⟨by omega, by omega⟩
  clear hbx
  go_wp2_with fail
  refine (him.out _ _ _ _ _ (hslv4.below hb4x) hix).mono ?_
  rintro e w5 ⟨hb5, ga, gc, rfl, hs5, hg5⟩
  have hX5 := hXx.trans (hb5.mono (by have := hXx.size; simpa using this))
  have hb45 := hb4x.trans (hb5.mono hb4x.size)
  have hix5 := hix.below hb5
  have hwx5 := hwx.below hb5
  have hB5 := hB4.trans (hb45.mono (by have := hB4.size; simpa using this))
  have hw5 := hw4.trans (hb45.mono hw4.size)
  have hs05 := hs4.below hb45
  clear hcl hcx hb5 hix hwx
  have hcl := box_cells hB5
  have hcx := box_cells hX5
  go_wp2_with fail
  refine (eqS_sl _ hs5 hs05).mono ?_
  rintro e w6 ⟨rfl, hd6⟩
  have hb56 := hd6.below w5.heap.size
  have hX6 := hX5.trans (hb56.mono (by have := hX5.size; simpa using this))
  have hB6 := hB5.trans (hb56.mono (by have := hB5.size; simpa using this))
  have hw6 := hw5.trans (hb56.mono hw5.size)
  have hb46 := hb45.trans (hb56.mono hb45.size)
  have hslv6 := hslv4.below hb46
  clear hcl hcx
  have hcl := box_cells hB6
  have hcx := box_cells hX6
  go_wp2_with fail
  go_region_with (first
    | (go_at_call 7; refine (toR_sl _ hr hR (h.below (by first | exact hw6 | exact (hw6).drew | exact (hw6).drew.drew | exact (hw6).drew.drew.drew | exact (hw6).drew.drew.drew.drew))).mono ?_; rintro e w7 ⟨b7, rfl, h7, hb7⟩; have h67 : Below w6.heap.size w6 w7 := Below.trans (by first | exact Below.refl w6.heap.size w6 | exact (Below.refl w6.heap.size w6).drew | exact (Below.refl w6.heap.size w6).drew.drew | exact (Below.refl w6.heap.size w6).drew.drew.drew | exact (Below.refl w6.heap.size w6).drew.drew.drew.drew) hb7; have hcx7 := box_cells (hX6.trans (h67.mono (by have := hX6.size; simpa using this))))
    | (go_at_call 11; refine (eqR_sl _ (hslv6.below (by first | exact h67 | exact (h67).drew | exact (h67).drew.drew | exact (h67).drew.drew.drew | exact (h67).drew.drew.drew.drew)) (h7.below (by first | exact Below.refl w7.heap.size w7 | exact (Below.refl w7.heap.size w7).drew | exact (Below.refl w7.heap.size w7).drew.drew | exact (Below.refl w7.heap.size w7).drew.drew.drew | exact (Below.refl w7.heap.size w7).drew.drew.drew.drew))).mono ?_; rintro e w8 ⟨rfl, hb8⟩; have h78 : Below w7.heap.size w7 w8 := Below.trans (by first | exact Below.refl w7.heap.size w7 | exact (Below.refl w7.heap.size w7).drew | exact (Below.refl w7.heap.size w7).drew.drew | exact (Below.refl w7.heap.size w7).drew.drew.drew | exact (Below.refl w7.heap.size w7).drew.drew.drew.drew) hb8))
  all_goals
    have h68 := h67.trans (h78.mono h67.size)
    have hw8' := hw6.trans (h68.mono hw6.size)
    clear hcl hcx hcx7
    go_wp2_with fail
    refine (toS_sl _ hri (hi.below hw8')).mono ?_
    rintro e w8a ⟨rfl, hi8, hb8a⟩
    have h58' := hb56.trans (h68.mono hb56.size)
    have hix8 := (hix5.below h58').below hb8a
    go_wp2_with fail
    refine (eqS_sl _ hix8 hi8).mono ?_
    rintro e w8b ⟨rfl, hd8b⟩
    have h88b := hb8a.trans ((hd8b.below w8a.heap.size).mono hb8a.size)
    have h58 := h58'.trans (h88b.mono h58'.size)
    have h48 := hb45.trans (h58.mono hb45.size)
    have hX8 := hX5.trans (h58.mono (by have := hX5.size; simpa using this))
    have hB8 := hB5.trans (h58.mono (by have := hB5.size; simpa using this))
    have hw8 := hw5.trans (h58.mono hw5.size)
    have hs08 := hs05.below h58
    have hs8 := hs5.below h58
    have hg8 := hg5.below h58
    have hix9 := hix5.below h58
    have hwx9 := hwx5.below h58
    have hcx8 := box_cells hX8
    have hmR : Hid (Calls Tryz.prog 12 #[.agg #[.slice (some ⟨B, 0, none⟩) n n], .int .i64 1] w8b fun e w' => e = .returned (.int .i64 ((1 + esum E n : Nat) : Int)) ∧ Mkd B w4.heap.size w8b w') := markR_any (k0 := 1) w8b hnm Hsum.out hB4' h48 HF.out HE.out
    have hkb : 1 + esum E n ≤ 100000000 := Hsum.out
    generalize (1 + esum E n : Nat) = KK at *
    have hS4 := hb4.size
    have hS5 := hb45.size
    have hS8 := h58.size
    clear HE HF hslv4 hslv6 h7 h67 h78 h68 h58 h58' h48 hs5 hs05 hg5 hX6 hX5 hXx hB6 hB5 hw6 hw5 hw8' hb56 hb45 hb46 hs4 hix5 hwx5 hix8 hi8 hb8a hd8b h88b hb4x
    go_wp2_with fail
    refine (hmR.out).mono ?_
    rintro e w9 ⟨rfl, hm9⟩
    have hs09 := hs08.mkd hm9 (hlow.far (Nat.le_refl _))
    have hs9 := hs8.mkd hm9 (hg8.far (by omega))
    have hg9 := hg8.mkd hm9
    have hixm := hix9.mkd hm9 (hwx9.far (by omega))
    have hwxm := hwx9.mkd hm9
    have hb89 : Below B w8b w9 := hm9.below (by omega)
    have hB9 := hB8.trans (hb89.mono (by omega))
    have hw9 := hw8.trans (hb89.mono (by omega))
    have hS9 := hm9.size
    have hmI : Hid (Calls Tryz.prog 13 #[.slice (some ⟨w4.heap.size + 1, 0, none⟩) m m, .int .i64 (KK : Int)] w9 fun e w' => e = .returned (.int .i64 ((KK + m : Nat) : Int)) ∧ SlS w' (some ⟨w4.heap.size + 1, 0, none⟩) m m (fun i => mkT (KK + i)) ∧ w9.grownBy w' (rowOf (some ⟨w4.heap.size + 1, 0, none⟩) m)) := markS_sl (k0 := KK) w9 (by omega) (by omega) hixm hwxm.slw
    have hkk : ¬ (((KK + m : Nat) : Int) < 0) := by omega
    generalize (KK + m : Nat) = K2 at *
    have hfl : FarS va nl (w4.heap.size + 1) wx.heap.size := hlow.far (by omega)
    have hfg : FarS ga nl (w4.heap.size + 1) wx.heap.size := hg9.far (Nat.le_refl _)
    clear hmR hcx8 hs08 hs8 hg8 hix9 hwx9 hixm
    go_wp2_with fail
    refine (hmI.out).mono ?_
    rintro e w9b ⟨rfl, _, hgr⟩
    have hrw := HWX.out
    have hs09b := hs09.grownF hgr hrw hfl
    have hs9b := hs9.grownF hgr hrw hfg
    have hg9b := hg9.grownF hgr hrw hfg
    have hb99 : Below w4.heap.size w9 w9b := (Below.refl _ _).grown hgr (by omega) (fun q hq => by have := hrw q hq; omega)
    have hB9b := hB9.trans (hb99.mono (by omega))
    have hw9b := hw9.trans (hb99.mono (by omega))
    have hS9b := hb99.size
    clear hmI hs09 hs9 hg9 hgr hrw
    go_wp2_with fail
    refine (eqS_sl _ hs9b hs09b).mono ?_
    rintro e w10 ⟨rfl, hd10⟩
    have hb910 := hd10.below w9b.heap.size
    have hs010 := hs09b.below hb910
    have hs10 := hs9b.below hb910
    have hg10 := hg9b.below hb910
    have hB10 := hB9b.trans (hb910.mono (by omega))
    have hw10 := hw9b.trans (hb910.mono (by omega))
    have hS10 := hb910.size
    clear hs9b hs09b hg9b
    have hmS : Hid (Calls Tryz.prog 13 #[.slice ga nl gc, .int .i64 1] w10 fun e w' => e = .returned (.int .i64 ((1 + nl : Nat) : Int)) ∧ SlS w' ga nl gc (fun i => mkT (1 + i)) ∧ w10.grownBy w' (rowOf ga nl)) := markS_sl (k0 := 1) w10 (by omega) (by decide) hs10 hg10.slw
    have hhS : Hid (∀ W, SlS W ga nl gc (fun i => mkT (1 + i)) → Calls Tryz.prog 14 #[.slice ga nl gc, .int .i64 1] W fun e w' => e = .returned (.int .i64 ((1 + nl : Nat) : Int)) ∧ Below W.heap.size W w') := fun W hW => heldS_sl (k0 := 1) W (by omega) (by decide) hW
    have hLL1 : ¬ (((1 + nl : Nat) : Int) < 0) := by omega
    generalize (1 + nl : Nat) = LL at *
    go_wp2_with fail
    refine (hmS.out).mono ?_
    rintro e w11 ⟨rfl, hsm11, hg11⟩
    have hs011 := hs010.grownL hg11 (base := B) (fun b hb => by have := hg10.row b hb; omega) hlow
    have hb1011 : Below w4.heap.size w10 w11 := (Below.refl _ _).grown hg11 (by omega) (fun b hb => by have := hg10.row b hb; omega)
    have hB11 := hB10.trans (hb1011.mono (by omega))
    have hw11 := hw10.trans (hb1011.mono (by omega))
    have hS11 := hb1011.size
    clear hmS hs010 hs10 hg10
    go_wp2_with fail
    refine (hhS.out _ hsm11).mono ?_
    rintro e w12 ⟨rfl, hb12⟩
    have hs012 := hs011.below hb12
    have hsm12 := hsm11.below hb12
    have hB12 := hB11.trans (hb12.mono (by omega))
    have hw12 := hw11.trans (hb12.mono (by omega))
    have hcl12 := box_cells hB12
    clear hs011 hsm11
    go_wp2_with fail
    refine (toR_sl _ hr hR (h.below hw12)).mono ?_
    rintro e w13 ⟨b13, rfl, h13, hb13⟩
    have hw13 := hw12.trans (hb13.mono hw12.size)
    go_wp2_with fail
    refine (toS_sl _ hri (hi.below hw13)).mono ?_
    rintro e w13b ⟨rfl, hi13, hb13b⟩
    go_wp2_with fail
    refine (him.out _ _ _ _ _ (h13.below hb13b) hi13).mono ?_
    rintro e w14 ⟨hb14, ha, hc, rfl, hs14, _⟩
    have hb1213 := hb13.trans (hb13b.mono hb13.size)
    have hb1214 := hb1213.trans (hb14.mono hb1213.size)
    have hw14 := hw12.trans (hb1214.mono hw12.size)
    have hs014 := hs012.below hb1214
    have hsm14 := hsm12.below hb1214
    clear hcl12 hs012 hsm12
    go_wp2_with fail
    refine (eqS_sl _ hs14 hs014).mono ?_
    rintro e w15 ⟨rfl, hd15⟩
    have hw15 := hw14.trans (hd15.below _)
    go_wp2_with fail
    refine (hhS.out _ (hsm14.below (hd15.below _))).mono ?_
    rintro e w16 ⟨rfl, hb16⟩
    have hw16 := hw15.trans (hb16.mono hw15.size)
    go_wp2
    go_ret
    exact ⟨rfl, hw16⟩
end Go.Proofs.YtfjfhnjoghlbfaaGreat
namespace Go.Proofs.YtfjfhnjoghlbfaaGreat
open Go.ChangeShapes Go.WideShapes Go.ChangeAt Go.RowKit

theorem Tryz.own : ownKnob Tryz.prog.godebug = none := by kernel_rfl
theorem Tryz.laidOut : laidOutB Tryz.prog = true := by kernel_rfl

set_option maxRecDepth 100000 in
theorem fnExactPowerOrder_lifted (os : Os) (started : os.Started) (H : Type) (enc : TypeId × Value → H) :
    ReturnsInHanded {} Tryz.checked os 3 .any (Rows.fnExactPowerOrderSpec.pre6 enc Tryz.prog Tryz.f3 Rows.fnExactPowerOrderRow.domain false) (Rows.fnExactPowerOrderSpec.post enc Tryz.prog Tryz.f3 false true false false) := by
  refine returnsInHanded_of_change_sized (C := Tryz.checked) Tryz.own started (by kernel_rfl) Tryz.func3
    (ChangeSpec.witness6 (enc := enc) (C := Tryz.checked) false ⟨#[], #[.agg #[.slice none 0 0], .slice none 0 0], []⟩ 8 (by kernel_rfl) (by kernel_rfl) (by kernel_rfl) (by kernel_rfl)) ?_
  intro W base args ds gs before hval0 hW _ hsz0 _
  have hsz : (DataW.weightsEach Tryz.prog (Tryz.f3.params.toList ++ Rows.fnExactPowerOrderSpec.plain.varTypes Tryz.prog) (ds ++ gs)).all (· ≤ reachBytes) = true := hsz0
  clear hsz0
  have hval : ∀ (j : Nat) t v, Tryz.f3.params[j]? = some t → args[j]? = some v → Value.okWide Tryz.prog W .any base t v := hval0
  have hW' := hW
  obtain ⟨p, q, hA0, hV, rfl, _, _⟩ := hW
  have hA : DataW.TrodAll enc Tryz.prog W 0 (fun _ => true) true Tryz.f3.params.toList args.toList ds p := hA0
  rw [Tryz.params3] at hA hval hsz
  obtain ⟨v0, v1, d0, d1, p0, p1, rfl, rfl, rfl, h0, h1⟩ := trodAll_two hA
  obtain ⟨rfl, rfl⟩ := trodVars_none hV
  obtain ⟨cs, rfl, hcs⟩ := okWide_struct Tryz.underlying24 (hval 0 24 v0 rfl rfl)
  obtain ⟨sa1, sn1, sc1, rfl⟩ := okWide_slice Tryz.underlying25 (hval 1 25 v1 rfl rfl)
  have h0k := h0
  have h1k := h1
  obtain ⟨fuel, hf⟩ := h0
  obtain ⟨fuel1, hf1⟩ := h1
  clear hA0 hval0
  simp only [List.append_nil] at hW'
  have hlt : ∀ x ∈ p0 ++ p1, x.block < W.heap.size := fun x hx => by simpa using hW'.lt x hx
  have hlt0 : ∀ x ∈ p0, x.block < W.heap.size := fun x hx => hlt x (List.mem_append_left _ hx)
  have hlt1 : ∀ x ∈ p1, x.block < W.heap.size := fun x hx => hlt x (List.mem_append_right _ hx)
  obtain ⟨a, n, cap, E, heq, hin, r0, r1⟩ := in_room hf hlt0 (fun z hz => by
    have := List.all_eq_true.1 hsz z (DataW.weights_mem_each (j := 0) (t := 24) rfl rfl z hz)
    simpa using this)
  obtain ⟨ia, m, icap, S, heq1, hs, r3⟩ := in_strs hf1 hlt1 (fun z hz => by
    have := List.all_eq_true.1 hsz z (DataW.weights_mem_each (j := 1) (t := 25) rfl rfl z hz)
    simpa using this)
  have hagg : cs = #[.slice a n cap] := by
    simp only [Value.cells] at heq
    exact Array.toList_inj.1 heq
  subst hagg
  simp only [Value.cells, List.cons.injEq, and_true] at heq1
  injection heq1 with e1 e2 e3
  subst e1 e2 e3
  refine (lawPo_any W r0 r1 r3 hin hs).mono fun e W' ⟨he, hnx⟩ => ?_
  subst he
  refine ⟨_, rfl, _, _, _, [], p0 ++ p1, [], hW', ?_, ?_, rfl, hnx.frame _, fun h => by cases h⟩
  · exact trodAll_mk1 (shut_bool Tryz.underlying4 true)
  · exact trodAll_mk2 (Below.trod Tryz.laidOut (by kernel_rfl) (of_decide_eq_true (by kernel_rfl)) h0k hnx hlt0) (Below.trod Tryz.laidOut (by kernel_rfl) (of_decide_eq_true (by kernel_rfl)) h1k hnx hlt1)

theorem fnExactPowerOrder_holds : Rows.FnExactPowerOrderSaid :=
  OpenClaim.holds_of_wide 3 Tryz.f3 rfl rfl rfl rfl rfl rfl rfl ⟨rfl, rfl, rfl, rfl, rfl⟩ rfl rfl rfl rfl rfl (by kernel_rfl) Tryz.func3 (by kernel_rfl)
    (of_decide_eq_true (by kernel_rfl)) (by unfold Func.isWrapper; first | (rw [if_pos (by decide +kernel)]; kernel_rfl) | (rw [if_neg (by decide +kernel)]; exact ⟨rfl, rfl⟩))
    (fun os started H enc _ => fnExactPowerOrder_lifted os started H enc)
#print axioms fnExactPowerOrder_holds
end Go.Proofs.YtfjfhnjoghlbfaaGreat
