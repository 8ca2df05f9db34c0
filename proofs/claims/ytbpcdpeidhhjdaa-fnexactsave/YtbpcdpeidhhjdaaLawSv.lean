/-
  FnExactSave.
-/
import Derived.Test.YtbpcdpeidhhjdaaSvS
import Derived.Test.YtbpcdpeidhhjdaaSvI
import Derived.Test.YtbpcdpeidhhjdaaMkP
import Derived.Test.YtbpcdpeidhhjdaaEqT
namespace Go.Proofs.Ytbpcdpeidhhjdaa
open Go.RowKit

theorem gsum_ext (G : Nat → Grp) (g : Grp) (m : Nat) : ∀ n, n ≤ m → gsum (gln (extP G m g)) n = n + tsum G n * 3
  | 0, _ => rfl
  | n + 1, h => by
    unfold gsum tsum
    rw [gsum_ext G g m n (by omega)]
    have : gln (extP G m g) n = (G n).sets.length := by unfold gln; rw [← extP_lt n (by omega)]
    rw [this]
    omega
theorem nwG_len {G : Nat → Grp} {n : Nat} {s : List Ent} {near : Int} (h : stoTo G n = true) : (nwG G n s near).sets.length ≤ 300 + s.length := by
  cases e : nwB G n near
  · rw [nwG_no e]; show s.length ≤ _; omega
  · rw [nwG_yes e]
    have h3 := e
    unfold nwB at h3
    simp only [Bool.and_eq_true, decide_eq_true_eq] at h3
    have h4 := (grpOk_parts (stoTo_at h near.toNat (by omega))).2.2.2.2
    have h5 := dl2_len (expF G (near.toNat + 1) near.toNat) s s.length
    show (dl2 (expF G (near.toNat + 1) near.toNat) s s.length).length ≤ _
    omega
theorem sv_bd (G : Nat → Grp) (n : Nat) (s : List Ent) (near f : Int) : svN G n s f ≤ n + 1 ∧ gsum (gln (extP G n (nwG G n s near))) (svN G n s f) ≤ n + tsum G n * 3 + (1 + (300 + s.length) * 3) := by
  have h0 := gsum_ext G (nwG G n s near) n n (Nat.le_refl _)
  cases hok : (stoB G n && stB s)
  · rw [(sv_bad hok).1]; exact ⟨Nat.zero_le _, Nat.zero_le _⟩
  · by_cases h1 : 0 ≤ f
    · rw [(sv_old hok h1).1]; exact ⟨by omega, by omega⟩
    · by_cases h2 : 1000 ≤ n
      · rw [(sv_full hok h1 h2).1]; exact ⟨Nat.zero_le _, Nat.zero_le _⟩
      · rw [(sv_new hok h1 h2).1]
        refine ⟨Nat.le_refl _, ?_⟩
        have h3 : gln (extP G n (nwG G n s near)) n = (nwG G n s near).sets.length := by unfold gln extP; rw [if_pos rfl]
        have h4 : (nwG G n s near).sets.length ≤ 300 + s.length := nwG_len (by
          rw [Bool.and_eq_true] at hok
          have := hok.1
          unfold stoB at this
          rw [Bool.and_eq_true] at this
          exact this.2)
        show gsum (gln (extP G n (nwG G n s near))) n + (1 + gln (extP G n (nwG G n s near)) n * 3) ≤ _
        rw [h3]
        omega
/-- a copy of the store, at block b. -/
def StC (w : World) (lo b n : Nat) (G : Nat → Grp) : Prop := (∀ i, i < n → GrpNew w b (i * 2) (G i)) ∧ Free w b (n * 2) ∧ lo ≤ b ∧ b < w.heap.size
theorem StC.slt {w : World} {lo b n : Nat} {G : Nat → Grp} (h : StC w lo b n G) (hn : n ≤ maxLen) : SlT w (some ⟨b, 0, none⟩) n n G := slT_new hn h.2.2.2 h.1
/-- what both Saves answer. -/
def AnP (W : World) (N : Nat) (X : Nat → Grp) (cd : Int) (x : Ending) (w' : World) : Prop := ∃ va vc T, x = .returned (.tuple #[.agg #[.slice va N vc], .int .i64 cd]) ∧ Hid (RowP w' W.heap.size (.slice va N vc) N X T) ∧ Below W.heap.size W w'
theorem SvPost.an {G : Nat → Grp} {n : Nat} {s : List Ent} {near f : Int} {W w' : World} {x : Ending} (h : SvPost G n s near f W x w') : AnP W (svN G n s f) (extP G n (nwG G n s near)) (svC G n s f) x w' := by
  obtain ⟨v, T, rfl, hV, hb⟩ := h
  obtain ⟨va, vc, rfl, _⟩ := hV.out.slt
  exact ⟨va, vc, T, rfl, hV, hb⟩

set_option maxRecDepth 100000 in
set_option maxHeartbeats 8000000 in
theorem lawSv_any {a : Option Addr} {n cap : Nat} {G : Nat → Grp} {sa : Option Addr} {sc : Nat} {s : List Ent} (near : Int) (w : World) (hr : n * 32 ≤ 140737488351232) (hR : ∀ i, i < n → (G i).sets.length * 48 ≤ 140737488351232) (hrs : s.length * 48 ≤ 140737488351232) (h : SlT w a n cap G) (hs : SlE w sa sc s) :
    Calls Try.prog 3 #[.agg #[.slice a n cap], .slice sa s.length sc, .int .i64 near] w fun e w' => e = .returned (.bool true) ∧ Below w.heap.size w w' := by
  have hnm : n ≤ maxLen := Nat.le_trans h.le h.max
  obtain ⟨f, hf⟩ := fnd_ex G s n
  obtain ⟨wa, hwa⟩ : ∃ wa, wa = w.alloc (.cells #[.slice a n cap] 24) := ⟨_, rfl⟩
  have hba : Below w.heap.size w wa := by rw [hwa]; exact (Below.refl _ _).alloc (Nat.le_refl _) _
  have hza : w.heap.size < wa.heap.size := by rw [hwa]; simp
  have hcr : Hid (∀ W, Below wa.heap.size wa W → W.cell? ⟨w.heap.size, 0, none⟩ = some (.slice a n cap)) := fun W hW => (hW.cell (by exact hza)).trans (by rw [hwa]; exact World.cell?_alloc_at _ _ _ _ rfl)
  have HT : Hid (∀ W, Below wa.heap.size wa W → SlT W a n cap G ∧ SlE W sa sc s) := fun W hW => ⟨h.below (hba.trans (hW.mono hba.size)), hs.below (hba.trans (hW.mono hba.size))⟩
  have HTo : Hid (∀ W, Below wa.heap.size wa W → Calls Try.prog 7 #[.agg #[.slice a n cap]] W fun x w' => ∃ b, x = .returned (.agg #[.slice (some ⟨b, 0, none⟩) n n]) ∧ Hid (StC w' W.heap.size b n G) ∧ Below W.heap.size W w') := fun W hW => (toT_sl W hr hR (HT.out W hW).1).mono fun _ _ ⟨b, h1, h2, h3, h4, h5, h6⟩ => ⟨b, h1, ⟨h2, h3, h5, h6⟩, h4⟩
  have HTe : Hid (∀ W, Below wa.heap.size wa W → Calls Try.prog 8 #[.slice sa s.length sc] W fun x w' => x = .returned (.slice (some ⟨W.heap.size, 0, none⟩) s.length s.length) ∧ Hid (SlE w' (some ⟨W.heap.size, 0, none⟩) s.length s ∧ Wr w' W.heap.size w'.heap.size (some ⟨W.heap.size, 0, none⟩) (s.length * 3)) ∧ Below W.heap.size W w') := fun W hW => (toEw_sl W hrs (HT.out W hW).2).mono fun _ _ ⟨h1, h2, h3, h4⟩ => ⟨h1, ⟨h2, h3.wr⟩, h4⟩
  have HSr : Hid (Calls Try.prog 4 #[.agg #[.slice a n cap], .int .i64 1048576] wa fun x w' => ∃ r : Int, x = .returned (.int .i64 r) ∧ -1 ≤ r ∧ r ≤ 1048576 ∧ Hid (r < 0 ∨ r + n + tsum G n ≤ 1048576) ∧ Below wa.heap.size wa w') := szT_sl _ _ (by decide) (by decide) (HT.out wa (Below.refl _ _)).1
  have HSe : Hid (∀ W (r : Int), Below wa.heap.size wa W → 0 ≤ r → r ≤ 1048576 → Calls Try.prog 5 #[.slice sa s.length sc, .int .i64 r] W fun x w' => ∃ r2 : Int, x = .returned (.int .i64 r2) ∧ -1 ≤ r2 ∧ r2 ≤ r ∧ Hid (r2 < 0 ∨ r2 + s.length ≤ r) ∧ Below wa.heap.size wa w') := fun W r hW h1 h2 => (szE_sl r W h1 h2 (HT.out W hW).2).mono fun _ _ ⟨r2, q1, q2, q3, q4, q5⟩ => ⟨r2, q1, q2, q3, q4, hW.trans (q5.mono hW.size)⟩
  have HSp : Hid (∀ (W : World) (b : Nat) (ea : Option Addr) (ec : Nat), SlT W (some ⟨b, 0, none⟩) n n G → SlE W ea ec s → Calls Try.prog 6 #[.agg #[.slice (some ⟨b, 0, none⟩) n n], .slice ea s.length ec, .int .i64 near] W (AnP W (svN G n s f) (extP G n (nwG G n s near)) (svC G n s f))) := fun W b ea ec h1 h2 => (svS_any b 0 n n near f W hf h1 h2).mono fun _ _ q => q.an
  have HIm : Hid (∀ (W : World) (b : Nat) (ea : Option Addr) (ec : Nat), SlT W (some ⟨b, 0, none⟩) n n G → SlE W ea ec s → Calls Try.prog 9 #[.agg #[.slice (some ⟨b, 0, none⟩) n n], .slice ea s.length ec, .int .i64 near] W (AnP W (svN G n s f) (extP G n (nwG G n s near)) (svC G n s f))) := fun W b ea ec h1 h2 => (svI_any b 0 n n near f W hf h1 h2).mono fun _ _ q => q.an
  have HBd : Hid (svN G n s f ≤ n + 1 ∧ gsum (gln (extP G n (nwG G n s near))) (svN G n s f) ≤ n + tsum G n * 3 + (1 + (300 + s.length) * 3)) := sv_bd G n s near f
  clear hf h hs HT
  generalize svN G n s f = N at *
  generalize svC G n s f = cd at *
  generalize extP G n (nwG G n s near) = X at *
  have r0 : (w.alloc (.cells #[.slice a n cap] 24)).cell? ⟨w.heap.size, 0, none⟩ = some (.slice a n cap) := by rw [← hwa]; exact hcr.out _ (Below.refl _ _)
  go_enter Try.func3, Try.ntmps3
  go_wp2_with fail
  rw [← hwa]
  clear hwa r0
  refine HSr.out.mono ?_
  rintro x w1 ⟨r, rfl, hr0, hr1, hq1, hb1⟩
  by_cases hneg : r < 0
  · go_wp2
    go_ret
    exact ⟨rfl, hba.trans (hb1.mono hba.size)⟩
  go_wp2_with fail
  refine (HSe.out _ _ hb1 (by omega) hr1).mono ?_
  rintro x w2 ⟨r2, rfl, hr2, hr3, hq2, hb2⟩
  by_cases hneg2 : r2 < 0
  · go_wp2
    go_ret
    exact ⟨rfl, hba.trans (hb2.mono hba.size)⟩
  have Hbd : Hid (1 + gsum (gln X) N ≤ 100000000 ∧ 1 + (n + tsum G n * 3) + s.length * 3 ≤ 100000000 ∧ n ≤ 1048576 ∧ N ≤ 1048577) := by
    have q1 := hq1.out
    have q2 := hq2.out
    have q3 := HBd.out
    exact ⟨by omega, by omega, by omega, by omega⟩
  clear HSr HSe hr0 hr1 hr2 hr3 hb1 hq1 hq2 HBd hneg
  have c2 := hcr.out _ hb2
  go_wp2_with fail
  refine (HTo.out _ hb2).mono ?_
  rintro x w3 ⟨b3, rfl, hS3, hb3'⟩
  have hb3 := hb2.trans (hb3'.mono hb2.size)
  clear c2
  go_wp2_with fail
  refine (HTe.out _ hb3).mono ?_
  rintro x w4 ⟨rfl, hE4, hb4'⟩
  have hb4 := hb3.trans (hb4'.mono hb3.size)
  go_wp2_with fail
  refine (HSp.out w4 b3 _ _ ((hS3.out.slt hnm).below hb4') hE4.out.1).mono ?_
  rintro x w5 ⟨va, vc, T0, rfl, hV5, hb5'⟩
  have hb5 := hb4.trans (hb5'.mono hb4.size)
  obtain ⟨w6, hw6⟩ : ∃ w6, w6 = w5.alloc (.cells #[.slice va N vc] 30) := ⟨_, rfl⟩
  have h56 : Below w5.heap.size w5 w6 := by rw [hw6]; exact (Below.refl _ _).alloc (Nat.le_refl _) _
  have hz6 : w5.heap.size < w6.heap.size := by rw [hw6]; simp
  have hb6 := hb5.trans (h56.mono hb5.size)
  have HW0 : Hid (∀ W, Below w6.heap.size w6 W → SlT W va N vc X) := fun W hW => by
    obtain ⟨a', c', e, q⟩ := (hV5.out.below (h56.trans (hW.mono h56.size))).slt
    injection e with e1 _ e3
    rw [e1, e3]
    exact q
  have HcO : Hid (∀ W, Below w6.heap.size w6 W → W.cell? ⟨w5.heap.size, 0, none⟩ = some (.slice va N vc)) := fun W hW => (hW.cell (by exact hz6)).trans (by rw [hw6]; exact World.cell?_alloc_at _ _ _ _ rfl)
  have HcS : Hid (∀ W, Below w6.heap.size w6 W → W.cell? ⟨w.heap.size, 0, none⟩ = some (.slice a n cap)) := fun W hW => hcr.out W (hb6.trans (hW.mono hb6.size))
  have HTo6 : Hid (∀ W, Below w6.heap.size w6 W → Calls Try.prog 7 #[.agg #[.slice a n cap]] W fun x w' => ∃ b, x = .returned (.agg #[.slice (some ⟨b, 0, none⟩) n n]) ∧ Hid (StC w' W.heap.size b n G) ∧ Below W.heap.size W w') := fun W hW => HTo.out W (hb6.trans (hW.mono hb6.size))
  have HTe6 : Hid (∀ W, Below w6.heap.size w6 W → Calls Try.prog 8 #[.slice sa s.length sc] W fun x w' => x = .returned (.slice (some ⟨W.heap.size, 0, none⟩) s.length s.length) ∧ Hid (SlE w' (some ⟨W.heap.size, 0, none⟩) s.length s ∧ Wr w' W.heap.size w'.heap.size (some ⟨W.heap.size, 0, none⟩) (s.length * 3)) ∧ Below W.heap.size W w') := fun W hW => HTe.out W (hb6.trans (hW.mono hb6.size))
  have HFin : Hid (∀ W, Below w6.heap.size w6 W → Below w.heap.size w W) := fun W hW => hba.trans ((hb6.trans (hW.mono hb6.size)).mono hba.size)
  have e6 : (w5.alloc (.cells #[.slice va N vc] 30)).cell? ⟨w.heap.size, 0, none⟩ = some (.slice a n cap) := by rw [← hw6]; exact HcS.out _ (Below.refl _ _)
  clear hV5 hS3 hE4 hb5' hb4' hb3' hb3 hb4 hb2 HSp HTo HTe hcr h56
  go_wp2_with fail
  rw [← hw6]
  clear hw6 e6 hb5
  refine (HTo6.out _ (Below.refl _ _)).mono ?_
  rintro x w7 ⟨b7, rfl, hS7, h67⟩
  obtain ⟨w8, hw8⟩ : ∃ w8, w8 = w7.alloc (.cells #[.slice (some ⟨b7, 0, none⟩) n n] 30) := ⟨_, rfl⟩
  have h78 : Below w7.heap.size w7 w8 := by rw [hw8]; exact (Below.refl _ _).alloc (Nat.le_refl _) _
  have hz8 : w7.heap.size < w8.heap.size := by rw [hw8]; simp
  have HcP : Hid (∀ W, Below w8.heap.size w8 W → W.cell? ⟨w7.heap.size, 0, none⟩ = some (.slice (some ⟨b7, 0, none⟩) n n)) := fun W hW => (hW.cell (by show w7.heap.size < w8.heap.size; omega)).trans (by rw [hw8]; exact World.cell?_alloc_at _ _ _ _ rfl)
  have h68 := h67.trans (h78.mono h67.size)
  go_wp2_with fail
  rw [← hw8]
  clear hw8
  refine (HTe6.out _ h68).mono ?_
  rintro x w9 ⟨rfl, hE9, h89⟩
  have h69 := h68.trans (h89.mono h68.size)
  have h79 := h78.trans (h89.mono h78.size)
  have c9 := HcP.out _ h89
  go_wp2_with fail
  refine (HIm.out w9 b7 _ _ ((hS7.out.slt hnm).below h79) hE9.out.1).mono ?_
  rintro x w10 ⟨ga, gc, T, rfl, hV10, h910⟩
  clear c9
  obtain ⟨w11, hw11⟩ : ∃ w11, w11 = w10.alloc (.cells #[.slice ga N gc] 30) := ⟨_, rfl⟩
  have h1011 : Below w10.heap.size w10 w11 := by rw [hw11]; exact (Below.refl _ _).alloc (Nat.le_refl _) _
  have hz11 : w10.heap.size < w11.heap.size := by rw [hw11]; simp
  have cQ11 : w11.cell? ⟨w10.heap.size, 0, none⟩ = some (.slice ga N gc) := by rw [hw11]; exact World.cell?_alloc_at _ _ _ _ rfl
  have h911 := h910.trans (h1011.mono h910.size)
  have h811 := h89.trans (h911.mono h89.size)
  have h711 := h78.trans (h811.mono h78.size)
  have h611 := h67.trans (h711.mono h67.size)
  have HRV : Hid (RowP w11 w9.heap.size (.slice ga N gc) N X T ∧ (∀ g, (Value.slice ga N gc).ownBlock = some g → g < w10.heap.size) ∧ ∀ i, i < N → (T i).hi ≤ w10.heap.size) := ⟨hV10.out.below h1011, fun g hg => (hV10.out.gt g hg).2, fun i hi => (hV10.out.q i hi).hh.2⟩
  have HG : Hid (∀ (W : World) (T : Nat → Lg) (b : Nat), RowP W b (.slice ga N gc) N X T → SlT W ga N gc X) := fun W T b hV => by
    obtain ⟨a', c', e, q⟩ := hV.slt
    injection e with e1 _ e3
    rw [e1, e3]
    exact q
  have HsX : Hid (∀ W, Below w9.heap.size w9 W → SlE W (some ⟨w8.heap.size, 0, none⟩) s.length s) := fun W hW => hE9.out.1.below hW
  have HwX : Hid (∀ W, Below w9.heap.size w9 W → Wr W w8.heap.size w9.heap.size (some ⟨w8.heap.size, 0, none⟩) (s.length * 3)) := fun W hW => hE9.out.2.below hW
  have HSX : Hid (∀ W, Below w7.heap.size w7 W → SlT W (some ⟨b7, 0, none⟩) n n G) := fun W hW => (hS7.out.slt hnm).below hW
  have hsz : Hid (w6.heap.size ≤ b7 ∧ b7 < w7.heap.size ∧ w7.heap.size < w8.heap.size ∧ w8.heap.size ≤ w9.heap.size ∧ w9.heap.size ≤ w10.heap.size ∧ w10.heap.size < w11.heap.size) := ⟨hS7.out.2.2.1, hS7.out.2.2.2, by omega, h89.size, h910.size, by omega⟩
  have cO11 : (w10.alloc (.cells #[.slice ga N gc] 30)).cell? ⟨w5.heap.size, 0, none⟩ = some (.slice va N vc) := by rw [← hw11]; exact HcO.out _ h611
  have hz10 : w5.heap.size ≠ w10.heap.size := by have := hsz.out; omega
  clear hV10 hE9
  go_wp2_with fail
  rw [← hw11]
  clear hw11 cO11
  refine (eqT_sl _ (HG.out w11 T _ HRV.out.1) (HW0.out _ h611)).mono ?_
  rintro x w12 ⟨rfl, h1112⟩
  have h612 := h611.trans (h1112.mono h611.size)
  have h812 := h811.trans (h1112.mono h811.size)
  have h712 := h711.trans (h1112.mono h711.size)
  have HS14 : Hid (∀ W, Below w12.heap.size w12 W → W.cell? ⟨w7.heap.size, 0, none⟩ = some (.slice (some ⟨b7, 0, none⟩) n n) ∧ W.cell? ⟨w.heap.size, 0, none⟩ = some (.slice a n cap)) := fun W hW => ⟨HcP.out W (h812.trans (hW.mono h812.size)), HcS.out W (h612.trans (hW.mono h612.size))⟩
  have HTo14 : Hid (∀ W, Below w12.heap.size w12 W → Calls Try.prog 7 #[.agg #[.slice a n cap]] W fun x w' => ∃ b, x = .returned (.agg #[.slice (some ⟨b, 0, none⟩) n n]) ∧ Hid (SlT w' (some ⟨b, 0, none⟩) n n G) ∧ Below w12.heap.size w12 w') := fun W hW => (HTo6.out W (h612.trans (hW.mono h612.size))).mono fun _ _ ⟨b, q1, q2, q3⟩ => ⟨b, q1, q2.out.slt hnm, hW.trans (q3.mono hW.size)⟩
  have HEq14 : Hid (∀ (V W : World) (b : Nat), Below w12.heap.size w12 V → Hid (SlT V (some ⟨b, 0, none⟩) n n G) → Below V.heap.size V W → Calls Try.prog 10 #[.agg #[.slice (some ⟨b7, 0, none⟩) n n], .agg #[.slice (some ⟨b, 0, none⟩) n n]] W fun x w' => x = .returned (.bool true) ∧ Below w12.heap.size w12 w') := fun V W b hV hs hVW => by
    have hW := hV.trans (hVW.mono hV.size)
    exact (eqT_sl W (HSX.out W (h712.trans (hW.mono h712.size))) (hs.out.below hVW)).mono fun _ _ ⟨q1, q2⟩ => ⟨q1, hW.trans (q2.mono hW.size)⟩
  have hrf12 : Below w12.heap.size w12 w12 := Below.refl _ _
  go_wp2_with fail
  go_cut [62] (fun v wx => v = .bool false ∧ Below w12.heap.size w12 wx)
  case first =>
    refine wp_region_held_drew (S := fun W => W.cell? ⟨w7.heap.size, 0, none⟩ = some (.slice (some ⟨b7, 0, none⟩) n n) ∧ W.cell? ⟨w.heap.size, 0, none⟩ = some (.slice a n cap)) (by kernel_rfl) ?_ (fun hHeld => ?_)
    · (try dsimp only); exact HS14.out _ (by first | with_reducible exact hrf12 | with_reducible exact hrf12.drew | with_reducible exact hrf12.drew.drew | with_reducible exact hrf12.drew.drew.drew)
    refine wpAnyH_take (i := 0) (v := ?vm1) rfl (by kernel_rfl) (by kernel_rfl) (by kernel_rfl) (fun _ _ _ h => h) (Or.inl ⟨by rfl, ?hm1⟩) (by assumption) ?_
    case hm1 => (intro w hSw; (try dsimp only at hSw); go_simp; try (with_reducible rfl))
    simp only [Act.put, List.getElem_toArray, List.getElem_cons_zero, List.setIfInBounds_toArray, List.set_cons_zero, List.set_cons_succ]
    refine wpAnyH_take (i := 1) (v := ?vm2) rfl (by kernel_rfl) (by kernel_rfl) (by kernel_rfl) (fun _ _ _ h => h) (Or.inl ⟨by rfl, ?hm2⟩) (by assumption) ?_
    case hm2 => (intro w hSw; (try dsimp only at hSw); go_simp; try (with_reducible rfl))
    simp only [Act.put, List.getElem_toArray, List.getElem_cons_zero, List.getElem_cons_succ, List.setIfInBounds_toArray, List.set_cons_zero, List.set_cons_succ]
    refine wpAnyH_ready (rs := [2]) (by kernel_rfl) (by simp) ?_
    refine AllReadyH.cons rfl (fun K hK => ?_) AllReadyH.nil
    go_simp
    go_at_call 7
    refine (HTo14.out _ (by first | with_reducible exact hrf12 | with_reducible exact hrf12.drew | with_reducible exact hrf12.drew.drew | with_reducible exact hrf12.drew.drew.drew)).mono ?_
    rintro x w13 ⟨b13, rfl, hS13, hb13⟩
    try dsimp only
    refine hK.out _ _ ?_ (fun hHeld => ?_)
    · (try dsimp only); exact HS14.out _ (by first | with_reducible exact hb13 | with_reducible exact hb13.drew | with_reducible exact hb13.drew.drew | with_reducible exact hb13.drew.drew.drew)
    clear hK K
    try simp only [Act.put, List.getElem_toArray, List.getElem_cons_zero, List.getElem_cons_succ, List.setIfInBounds_toArray, List.set_cons_zero, List.set_cons_succ]
    refine wpAnyH_ready (rs := [3]) (by kernel_rfl) (by simp) ?_
    refine AllReadyH.cons rfl (fun K hK => ?_) AllReadyH.nil
    go_simp
    go_at_call 10
    refine (HEq14.out w13 _ b13 hb13 hS13 (by first | with_reducible exact (Below.refl w13.heap.size w13) | with_reducible exact (Below.refl w13.heap.size w13).drew | with_reducible exact (Below.refl w13.heap.size w13).drew.drew | with_reducible exact (Below.refl w13.heap.size w13).drew.drew.drew)).mono ?_
    rintro x w14 ⟨rfl, hb14⟩
    try dsimp only
    refine hK.out _ _ ?_ (fun hHeld => ?_)
    · (try dsimp only); exact HS14.out _ (by first | with_reducible exact hb14 | with_reducible exact hb14.drew | with_reducible exact hb14.drew.drew | with_reducible exact hb14.drew.drew.drew)
    clear hK K
    try simp only [Act.put, List.getElem_toArray, List.getElem_cons_zero, List.getElem_cons_succ, List.setIfInBounds_toArray, List.set_cons_zero, List.set_cons_succ]
    refine wpAnyH_take (i := 4) (v := ?vm3) rfl (by kernel_rfl) (by kernel_rfl) (by kernel_rfl) (fun _ _ _ h => h) (Or.inl ⟨by rfl, ?hm3⟩) (by assumption) ?_
    case hm3 => (intro w hSw; (try dsimp only at hSw); go_simp; try (with_reducible rfl))
    simp only [Act.put, List.getElem_toArray, List.getElem_cons_zero, List.getElem_cons_succ, List.setIfInBounds_toArray, List.set_cons_zero, List.set_cons_succ]
    refine wpAnyH_done (by kernel_rfl) ?_ _
    (try go_wp2_with fail)
    go_meet
    exact ⟨rfl, by first | exact hb14 | exact hb14.drew⟩
  case rest =>
    obtain ⟨rfl, h1214⟩ := hcut
    obtain ⟨w14, hw14⟩ : ∃ W : World, W = wc := ⟨_, rfl⟩
    subst hw14
    clear HS14 HTo14 HEq14 hrf12
    have h614 := h612.trans (h1214.mono h612.size)
    have h1114 := h1112.trans (h1214.mono h1112.size)
    go_wp2_with fail
    refine (HTe6.out _ h614).mono ?_
    rintro x w15 ⟨rfl, hE15, h1415⟩
    have h1115 := h1114.trans (h1415.mono h1114.size)
    have h915 := h911.trans (h1115.mono h911.size)
    go_wp2_with fail
    refine (eqE_sl _ (HsX.out _ h915) hE15.out.1).mono ?_
    rintro x w16 ⟨rfl, h1516⟩
    have h1116 := h1115.trans (h1516.mono h1115.size)
    have h916 := h911.trans (h1116.mono h911.size)
    have h816 := h811.trans (h1116.mono h811.size)
    have h716 := h711.trans (h1116.mono h711.size)
    have h616 := h611.trans (h1116.mono h611.size)
    have c16 := HcP.out _ h816
    have hmX : Hid (Calls Try.prog 12 #[.agg #[.slice (some ⟨b7, 0, none⟩) n n], .int .i64 1] w16 fun e w' => e = .returned (.int .i64 ((1 + (n + tsum G n * 3) : Nat) : Int)) ∧ Mkd b7 w7.heap.size w16 w') := markT_any (k0 := 1) w16 (by have := Hbd.out; omega) (by have := Hbd.out; omega) hS7.out.2.2.2 h716 hS7.out.2.1 hS7.out.1
    have HmE : Hid (∀ W, Mkd b7 w7.heap.size w16 W → Calls Try.prog 13 #[.slice (some ⟨w8.heap.size, 0, none⟩) s.length s.length, .int .i64 ((1 + (n + tsum G n * 3) : Nat) : Int)] W fun e w' => e = .returned (.int .i64 ((1 + (n + tsum G n * 3) + s.length * 3 : Nat) : Int)) ∧ Mkd w8.heap.size w9.heap.size W w') := fun W hW => (markE_sl W (by have := Hbd.out; omega) (by have := Hbd.out; omega) (Nat.le_refl _) (by unfold maxLen; omega) ((HwX.out _ h916).mkd hW)).mono fun _ _ ⟨q1, _, q3⟩ => ⟨q1, q3⟩
    have hkk : ¬ (((1 + (n + tsum G n * 3) + s.length * 3 : Nat) : Int) < 0) := by omega
    have HcQ : Hid (∀ W1 W2, Mkd b7 w7.heap.size w16 W1 → Mkd w8.heap.size w9.heap.size W1 W2 → W2.cell? ⟨w10.heap.size, 0, none⟩ = some (.slice ga N gc) ∧ RowP W2 w9.heap.size (.slice ga N gc) N X T ∧ Below w6.heap.size w6 W2 ∧ w16.heap.size ≤ W2.heap.size) := fun W1 W2 q1 q2 => by
      have hz := hsz.out
      have s1 := q1.size
      have s2 := q2.size
      have s16 := h1116.size
      refine ⟨(q2.cell (by omega) (Or.inr (by omega))).trans ((q1.cell (by omega) (Or.inr (by omega))).trans ((h1116.cell (by show w10.heap.size < w11.heap.size; omega)).trans cQ11)), (((HRV.out.1.below h1116).mkd q1 (by omega)).mkd q2 (Nat.le_refl _)), ?_, by omega⟩
      exact (h616.trans ((q1.below (by omega)).mono (by omega))).trans ((q2.below (by omega)).mono (by omega))
    clear h614 h1114 h1115 h915 hE15 h1415 h1516 h1214 HsX HwX HSX HcP h816 h716 hS7
    generalize (1 + (n + tsum G n * 3) + s.length * 3 : Nat) = K2 at *
    generalize (1 + (n + tsum G n * 3) : Nat) = K1 at *
    go_wp2_with fail
    refine hmX.out.mono ?_
    rintro x w17 ⟨rfl, hm17⟩
    clear c16 hmX
    go_wp2_with fail
    refine (HmE.out _ hm17).mono ?_
    rintro x w18 ⟨rfl, hm18⟩
    obtain ⟨cQ18, hV18', h618, hz18⟩ := HcQ.out _ _ hm17 hm18
    have hV18 : Hid (RowP w18 w9.heap.size (.slice ga N gc) N X T) := hV18'
    clear hV18' HcQ HmE hm17 hm18
    have cO18 := HcO.out _ h618
    go_wp2_with fail
    refine (eqT_sl _ (HG.out w18 T _ hV18.out) (HW0.out _ h618)).mono ?_
    rintro x w19 ⟨rfl, h1819⟩
    have h619 := h618.trans (h1819.mono h618.size)
    have hlt18 : w10.heap.size < w18.heap.size := by have := hsz.out; have := h1116.size; omega
    have cQ19 := (h1819.cell (by exact hlt18)).trans cQ18
    have hlt19 : w10.heap.size < w19.heap.size := Nat.lt_of_lt_of_le hlt18 h1819.size
    have HMr : Hid (Calls Try.prog 12 #[.agg #[.slice ga N gc], .int .i64 1] w19 (MsPost w19 w9.heap.size w10.heap.size (.slice ga N gc) N X)) := mkS_row w19 (hV18.out.below h1819) HRV.out.2 Hbd.out.1 (by have := Hbd.out; omega)
    clear cQ18 cO18
    go_wp2_with fail
    refine HMr.out.mono ?_
    rintro x w20 ⟨rfl, ⟨a1, c1, q, hsM'⟩, hm20⟩
    have hsM : Hid (SlT w20 ga N gc (mkG X 1)) := by
      injection q with q1 q2 q3
      rw [q1, q3]
      exact hsM'
    clear q hsM' HMr
    have hz20 := hm20.size
    have cQ20 := (hm20.cell hlt19 (Or.inr (Nat.le_refl _))).trans cQ19
    have h620 : Below w6.heap.size w6 w20 := h619.trans ((hm20.below (by have := hsz.out; omega)).mono (by have := hsz.out; omega))
    have HHd : Hid (∀ W, Below w20.heap.size w20 W → Calls Try.prog 14 #[.agg #[.slice ga N gc], .int .i64 1] W fun e w' => e = .returned (.int .i64 ((1 + gsum (gln X) N : Nat) : Int)) ∧ Below W.heap.size W w') := fun W hW => heldS_sl W (by have := Hbd.out; omega) Hbd.out.1 (hsM.out.below hW)
    have hKp : ¬ (((1 + gsum (gln X) N : Nat) : Int) < 0) := by omega
    have hlt20 : w10.heap.size < w20.heap.size := by omega
    clear cQ19 hm20 hsM hV18 HRV
    generalize (1 + gsum (gln X) N : Nat) = KK at *
    go_wp2_with fail
    refine (HHd.out _ (Below.refl _ _)).mono ?_
    rintro x w21 ⟨rfl, h2021⟩
    have h621 := h620.trans (h2021.mono h620.size)
    have cS21 := HcS.out _ h621
    go_wp2_with fail
    refine (HTo6.out _ h621).mono ?_
    rintro x w22 ⟨b22, rfl, hS22, h2122⟩
    have h622 := h621.trans (h2122.mono h621.size)
    clear cS21
    go_wp2_with fail
    refine (HTe6.out _ h622).mono ?_
    rintro x w23 ⟨rfl, hE23, h2223⟩
    go_wp2_with fail
    refine (HIm.out w23 b22 _ _ ((hS22.out.slt hnm).below h2223) hE23.out.1).mono ?_
    rintro x w24 ⟨ha, hc, T3, rfl, hV24, h2324⟩
    have h2224 := h2223.trans (h2324.mono h2223.size)
    have h624 := h622.trans (h2224.mono h622.size)
    have h2024 := h2021.trans ((h2122.trans (h2224.mono h2122.size)).mono h2021.size)
    obtain ⟨w25, hw25⟩ : ∃ w25, w25 = w24.alloc (.cells #[.slice ha N hc] 30) := ⟨_, rfl⟩
    have h2425 : Below w24.heap.size w24 w25 := by rw [hw25]; exact (Below.refl _ _).alloc (Nat.le_refl _) _
    have h625 := h624.trans (h2425.mono h624.size)
    have h2025 := h2024.trans (h2425.mono h2024.size)
    have hs25 : Hid (SlT w25 ha N hc X) := by
      obtain ⟨a', c', e, q⟩ := (hV24.out.below h2425).slt
      injection e with e1 _ e3
      rw [e1, e3]
      exact q
    have cO25 : (w24.alloc (.cells #[.slice ha N hc] 30)).cell? ⟨w5.heap.size, 0, none⟩ = some (.slice va N vc) := by rw [← hw25]; exact HcO.out _ h625
    have hz24 : w5.heap.size ≠ w24.heap.size := by have := h624.size; omega
    clear hV24 hS22 hE23 HTo6 HTe6 HIm
    go_wp2_with fail
    rw [← hw25]
    clear hw25 cO25
    refine (eqT_sl _ hs25.out (HW0.out _ h625)).mono ?_
    rintro x w26 ⟨rfl, h2526⟩
    have h626 := h625.trans (h2526.mono h625.size)
    have h2026 := h2025.trans (h2526.mono h2025.size)
    have cQ26 := (h2026.cell (by exact hlt20)).trans cQ20
    go_wp2_with fail
    refine (HHd.out _ h2026).mono ?_
    rintro x w27 ⟨rfl, h2627⟩
    have hfin := HFin.out _ (h626.trans (h2627.mono h626.size))
    go_wp2
    go_ret
    exact ⟨rfl, hfin⟩
end Go.Proofs.Ytbpcdpeidhhjdaa
