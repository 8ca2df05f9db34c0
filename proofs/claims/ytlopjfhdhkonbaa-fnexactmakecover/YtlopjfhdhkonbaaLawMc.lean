/-
  FnExactMakeCover.
-/
import Derived.Test.YtlopjfhdhkonbaaMcS
import Derived.Test.YtlopjfhdhkonbaaMcI
import Derived.Test.YtlopjfhdhkonbaaMkC
import Derived.Test.YtlopjfhdhkonbaaCovE
import Derived.Test.YtlopjfhdhkonbaaLawA
import Derived.Test.YtlopjfhdhkonbaaMkR
import Derived.Test.YtlopjfhdhkonbaaSz2
import Derived.Deep.DeepCutAuto
namespace Go.Proofs.Ytlopjfhdhkonbaa
open Go.RowKit

theorem sumN_bd {rn : Nat → Nat} {M : Nat} : ∀ k, (∀ p, p < k → rn p ≤ M) → sumN rn k ≤ k * M
  | 0, _ => Nat.zero_le _
  | k + 1, h => by
    have h1 := sumN_bd k (fun p hp => h p (by omega))
    have h2 := h k (Nat.lt_succ_self _)
    rw [Nat.succ_mul]
    show sumN rn k + rn k ≤ _
    omega
theorem mc_bd (E : Nat → Ev) (n : Nat) : mcN E n ≤ 300 ∧ sumN (mcR E n) (mcN E n) ≤ 90000 := by
  have h0 : mcN E n ≤ 300 := by
    unfold mcN
    split
    · rename_i h; exact room_300 h
    · exact Nat.zero_le _
  have h1 := sumN_bd (rn := mcR E n) (M := 300) (mcN E n) (fun p hp => by
    have hr : roomTo E n = true := by
      cases e : roomTo E n
      · unfold mcN at hp; rw [e] at hp; exact absurd hp (Nat.not_lt_zero _)
      · rfl
    have := chN_le (rsE_lt hr) (p + 1)
    show chN (naE E) (rsE E n) (p + 1) ≤ 300
    omega)
  exact ⟨h0, by omega⟩
/-- a copy of the room, at block b. -/
def RmX (w : World) (lo b n : Nat) (E : Nat → Ev) : Prop := (∀ i, i < n → EvNewW w b (i * 10) (E i)) ∧ Free w b (n * 10) ∧ lo ≤ b ∧ b < w.heap.size
theorem RmX.slv {w : World} {lo b n : Nat} {E : Nat → Ev} (h : RmX w lo b n E) (hn : n ≤ maxLen) : SlV w (some ⟨b, 0, none⟩) n n E :=
  ⟨Nat.le_refl _, hn, Or.inr ⟨b, 0, rfl, h.2.2.2, fun i hi => by rw [Nat.zero_add]; exact (h.1 i hi).plain.at⟩⟩
/-- what both MakeCovers answer. -/
def AnC (W : World) (N : Nat) (f : Nat → Sp) (rn : Nat → Nat) (X : Nat → Nat → Int) (cd : Bool) (x : Ending) (w' : World) : Prop := ∃ sa sc ra rc T, x = .returned (.tuple #[.agg #[.slice sa N sc, .slice ra N rc], .bool cd]) ∧ Hid (CovO w' W.heap.size (.slice sa N sc) N (.slice ra N rc) N f rn X T) ∧ Below W.heap.size W w'
theorem McPost.an {E : Nat → Ev} {n : Nat} {W w' : World} {x : Ending} (h : McPost E n W x w') : AnC W (mcN E n) (mcF E n) (mcR E n) (mcX E n) (roomTo E n) x w' := by
  obtain ⟨sv, rv, T, rfl, hV, hb⟩ := h
  obtain ⟨sa, sc, rfl, _⟩ := hV.out.sls
  obtain ⟨ra, rc, rfl, _⟩ := hV.out.r.sl
  exact ⟨sa, sc, ra, rc, T, rfl, hV, hb⟩
theorem CovO.view {w : World} {base n sc rc : Nat} {sa ra : Option Addr} {f : Nat → Sp} {rn : Nat → Nat} {X : Nat → Nat → Int} {T : Nat → Lr} (h : CovO w base (.slice sa n sc) n (.slice ra n rc) n f rn X T) : SlP w sa n sc (spC f) (spQ f) ∧ SlL w ra n rc rn X := by
  obtain ⟨a1, c1, e, h1⟩ := h.sls
  obtain ⟨a2, c2, e', h2⟩ := h.r.sl
  injection e with q1 _ q3
  injection e' with q4 _ q6
  rw [q1, q3, q4, q6]
  exact ⟨h1, h2⟩
theorem CovO.mkdX {w w' : World} {base n sc rc lo hi : Nat} {sa ra : Option Addr} {f : Nat → Sp} {rn : Nat → Nat} {X : Nat → Nat → Int} {T : Nat → Lr} (h : CovO w base (.slice sa n sc) n (.slice ra n rc) n f rn X T) (hm : Mkd lo hi w w') (hd : hi ≤ base) : CovO w' base (.slice sa n sc) n (.slice ra n rc) n f rn X T :=
  ⟨rowKept h.s (fun g hg => hm.block g (rowGt h.s g hg).2 (Or.inr (Nat.le_trans hd (rowGt h.s g hg).1))), h.r.mkd hm hd, h.ap⟩

set_option maxRecDepth 100000 in
set_option maxHeartbeats 8000000 in
theorem lawMc_any {a : Option Addr} {n cap : Nat} {E : Nat → Ev} (w : World) (hr : n * 168 ≤ 140737488351232) (hR : ∀ i, i < n → EvReach (E i)) (h : SlV w a n cap E) :
    Calls Try.prog 3 #[.agg #[.slice a n cap]] w fun e w' => e = .returned (.bool true) ∧ Below w.heap.size w w' := by
  have hnm : n ≤ maxLen := Nat.le_trans h.le h.max
  obtain ⟨wa, hwa⟩ : ∃ wa, wa = w.alloc (.cells #[.slice a n cap] 24) := ⟨_, rfl⟩
  have hba : Below w.heap.size w wa := by rw [hwa]; exact (Below.refl _ _).alloc (Nat.le_refl _) _
  have hza : w.heap.size < wa.heap.size := by rw [hwa]; simp
  have hcr : Hid (∀ W, Below wa.heap.size wa W → W.cell? ⟨w.heap.size, 0, none⟩ = some (.slice a n cap)) := fun W hW => (hW.cell (by exact hza)).trans (by rw [hwa]; exact World.cell?_alloc_at _ _ _ _ rfl)
  have HT : Hid (∀ W, Below wa.heap.size wa W → SlV W a n cap E) := fun W hW => h.below (hba.trans (hW.mono hba.size))
  have HTo : Hid (∀ W, Below wa.heap.size wa W → Calls Try.prog 6 #[.agg #[.slice a n cap]] W fun x w' => ∃ b, x = .returned (.agg #[.slice (some ⟨b, 0, none⟩) n n]) ∧ Hid (RmX w' W.heap.size b n E) ∧ Below W.heap.size W w') := fun W hW => (toRw_sl W hr hR (HT.out W hW)).mono fun _ _ ⟨b, h1, h2, h3, h4, h5, h6⟩ => ⟨b, h1, ⟨h2, h3, h5, h6⟩, h4⟩
  have HSr : Hid (Calls Try.prog 4 #[.agg #[.slice a n cap], .int .i64 1048576] wa fun x w' => ∃ r : Int, x = .returned (.int .i64 r) ∧ -1 ≤ r ∧ r ≤ 1048576 ∧ Hid (r < 0 ∨ r + n + nsum E n ≤ 1048576) ∧ Below wa.heap.size wa w') := szRq_sl _ _ (by decide) (by decide) (HT.out wa (Below.refl _ _))
  have HSp : Hid (∀ (W : World) (b : Nat), SlV W (some ⟨b, 0, none⟩) n n E → Calls Try.prog 5 #[.agg #[.slice (some ⟨b, 0, none⟩) n n]] W (AnC W (mcN E n) (mcF E n) (mcR E n) (mcX E n) (roomTo E n))) := fun W b h1 => (mcS_any b 0 n n W h1).mono fun _ _ q => q.an
  have HIm : Hid (∀ (W : World) (b : Nat), SlV W (some ⟨b, 0, none⟩) n n E → Calls Try.prog 7 #[.agg #[.slice (some ⟨b, 0, none⟩) n n]] W (AnC W (mcN E n) (mcF E n) (mcR E n) (mcX E n) (roomTo E n))) := fun W b h1 => (mcI_sl W h1).mono fun _ _ q => q.an
  have HBd : Hid (mcN E n ≤ 300 ∧ sumN (mcR E n) (mcN E n) ≤ 90000 ∧ esum E n ≤ 7 * n + 2 * nsum E n) := ⟨(mc_bd E n).1, (mc_bd E n).2, esum_le E n⟩
  clear h HT
  generalize mcN E n = N at *
  generalize roomTo E n = cd at *
  generalize mcX E n = X at *
  generalize mcR E n = rn at *
  generalize mcF E n = f at *
  have r0 : (w.alloc (.cells #[.slice a n cap] 24)).cell? ⟨w.heap.size, 0, none⟩ = some (.slice a n cap) := by rw [← hwa]; exact hcr.out _ (Below.refl _ _)
  go_enter Try.func3, Try.ntmps3
  go_wp2_with fail
  rw [← hwa]
  clear hwa r0
  refine HSr.out.mono ?_
  rintro x w2 ⟨r, rfl, hr0, hr1, hq1, hb2⟩
  by_cases hneg : r < 0
  · go_wp2
    go_ret
    exact ⟨rfl, hba.trans (hb2.mono hba.size)⟩
  have Hbd : Hid (1 + N * 2 + sumN rn N ≤ 100000000 ∧ 1 + esum E n ≤ 100000000 ∧ n ≤ 1048576) := by
    have q1 := hq1.out
    have q3 := HBd.out
    exact ⟨by omega, by omega, by omega⟩
  clear HSr hr0 hr1 hq1 HBd
  have c2 := hcr.out _ hb2
  go_wp2_with fail
  refine (HTo.out _ hb2).mono ?_
  rintro x w3 ⟨b3, rfl, hS3, hb3'⟩
  have hb3 := hb2.trans (hb3'.mono hb2.size)
  clear c2
  go_wp2_with fail
  refine (HSp.out w3 b3 (hS3.out.slv hnm)).mono ?_
  rintro x w5 ⟨va, vc, ua, uc, T0, rfl, hV5, hb5'⟩
  have hb5 := hb3.trans (hb5'.mono hb3.size)
  obtain ⟨w6, hw6⟩ : ∃ w6, w6 = w5.alloc (.cells #[.slice va N vc, .slice ua N uc] 29) := ⟨_, rfl⟩
  have h56 : Below w5.heap.size w5 w6 := by rw [hw6]; exact (Below.refl _ _).alloc (Nat.le_refl _) _
  have hz6 : w5.heap.size < w6.heap.size := by rw [hw6]; simp
  have hb6 := hb5.trans (h56.mono hb5.size)
  have HW0 : Hid (∀ W, Below w6.heap.size w6 W → SlP W va N vc (spC f) (spQ f) ∧ SlL W ua N uc rn X) := fun W hW => (hV5.out.below (h56.trans (hW.mono h56.size))).view
  have HcO : Hid (∀ W, Below w6.heap.size w6 W → W.cell? ⟨w5.heap.size, 0, none⟩ = some (.slice va N vc) ∧ W.cell? ⟨w5.heap.size, 1, none⟩ = some (.slice ua N uc)) := fun W hW => ⟨(hW.cell (by exact hz6)).trans (by rw [hw6]; exact World.cell?_alloc_at _ _ _ _ rfl), (hW.cell (by exact hz6)).trans (by rw [hw6]; exact World.cell?_alloc_at _ _ _ _ rfl)⟩
  have HcS : Hid (∀ W, Below w6.heap.size w6 W → W.cell? ⟨w.heap.size, 0, none⟩ = some (.slice a n cap)) := fun W hW => hcr.out W (hb6.trans (hW.mono hb6.size))
  have HTo6 : Hid (∀ W, Below w6.heap.size w6 W → Calls Try.prog 6 #[.agg #[.slice a n cap]] W fun x w' => ∃ b, x = .returned (.agg #[.slice (some ⟨b, 0, none⟩) n n]) ∧ Hid (RmX w' W.heap.size b n E) ∧ Below W.heap.size W w') := fun W hW => HTo.out W (hb6.trans (hW.mono hb6.size))
  have HFin : Hid (∀ W, Below w6.heap.size w6 W → Below w.heap.size w W) := fun W hW => hba.trans ((hb6.trans (hW.mono hb6.size)).mono hba.size)
  have e6 : (w5.alloc (.cells #[.slice va N vc, .slice ua N uc] 29)).cell? ⟨w.heap.size, 0, none⟩ = some (.slice a n cap) := by rw [← hw6]; exact HcS.out _ (Below.refl _ _)
  clear hV5 hS3 hb5' hb3' hb3 hb2 HSp HTo hcr h56
  go_wp2_with fail
  rw [← hw6]
  clear hw6 e6 hb5
  refine (HTo6.out _ (Below.refl _ _)).mono ?_
  rintro x w7 ⟨b7, rfl, hS7, h67⟩
  obtain ⟨w8, hw8⟩ : ∃ w8, w8 = w7.alloc (.cells #[.slice (some ⟨b7, 0, none⟩) n n] 34) := ⟨_, rfl⟩
  have h78 : Below w7.heap.size w7 w8 := by rw [hw8]; exact (Below.refl _ _).alloc (Nat.le_refl _) _
  have hz8 : w7.heap.size < w8.heap.size := by rw [hw8]; simp
  have HcP : Hid (∀ W, Below w8.heap.size w8 W → W.cell? ⟨w7.heap.size, 0, none⟩ = some (.slice (some ⟨b7, 0, none⟩) n n)) := fun W hW => (hW.cell (by show w7.heap.size < w8.heap.size; omega)).trans (by rw [hw8]; exact World.cell?_alloc_at _ _ _ _ rfl)
  have h68 := h67.trans (h78.mono h67.size)
  go_wp2_with fail
  rw [← hw8]
  clear hw8
  refine (HIm.out w8 b7 ((hS7.out.slv hnm).below h78)).mono ?_
  rintro x w10 ⟨ga, gc, pa, pc, T, rfl, hV10, h910⟩
  obtain ⟨w11, hw11⟩ : ∃ w11, w11 = w10.alloc (.cells #[.slice ga N gc, .slice pa N pc] 29) := ⟨_, rfl⟩
  have h1011 : Below w10.heap.size w10 w11 := by rw [hw11]; exact (Below.refl _ _).alloc (Nat.le_refl _) _
  have hz11 : w10.heap.size < w11.heap.size := by rw [hw11]; simp
  have cQ11 : w11.cell? ⟨w10.heap.size, 0, none⟩ = some (.slice ga N gc) := by rw [hw11]; exact World.cell?_alloc_at _ _ _ _ rfl
  have cR11 : w11.cell? ⟨w10.heap.size, 1, none⟩ = some (.slice pa N pc) := by rw [hw11]; exact World.cell?_alloc_at _ _ _ _ rfl
  have h811 := h910.trans (h1011.mono h910.size)
  have h711 := h78.trans (h811.mono h78.size)
  have h611 := h67.trans (h711.mono h67.size)
  have HRV : Hid (CovO w11 w8.heap.size (.slice ga N gc) N (.slice pa N pc) N f rn X T ∧ (∀ g, (Value.slice ga N gc).ownBlock = some g → g < w10.heap.size) ∧ ∀ i, i < N → (T i).hi ≤ w10.heap.size) := ⟨hV10.out.below h1011, fun g hg => (rowGt hV10.out.s g hg).2, fun i hi => (hV10.out.r.q i hi).hh.2⟩
  have HSX : Hid (∀ W, Below w7.heap.size w7 W → SlV W (some ⟨b7, 0, none⟩) n n E) := fun W hW => (hS7.out.slv hnm).below hW
  have hsz : Hid (w6.heap.size ≤ b7 ∧ b7 < w7.heap.size ∧ w7.heap.size < w8.heap.size ∧ w8.heap.size ≤ w10.heap.size ∧ w10.heap.size < w11.heap.size) := ⟨hS7.out.2.2.1, hS7.out.2.2.2, by omega, h910.size, by omega⟩
  have cO11 : (w10.alloc (.cells #[.slice ga N gc, .slice pa N pc] 29)).cell? ⟨w5.heap.size, 0, none⟩ = some (.slice va N vc) := by rw [← hw11]; exact (HcO.out _ h611).1
  have cP11 : (w10.alloc (.cells #[.slice ga N gc, .slice pa N pc] 29)).cell? ⟨w5.heap.size, 1, none⟩ = some (.slice ua N uc) := by rw [← hw11]; exact (HcO.out _ h611).2
  have hz10 : w5.heap.size ≠ w10.heap.size := by have := hsz.out; omega
  clear hV10
  go_wp2_with fail
  rw [← hw11]
  clear hw11 cO11 cP11
  refine (eqC_any _ HRV.out.1.view.1 HRV.out.1.view.2 (HW0.out _ h611).1 (HW0.out _ h611).2).mono ?_
  rintro x w12 ⟨rfl, h1112⟩
  have h612 := h611.trans (h1112.mono h611.size)
  have h812 := h811.trans (h1112.mono h811.size)
  have h712 := h711.trans (h1112.mono h711.size)
  have HS14 : Hid (∀ W, Below w12.heap.size w12 W → W.cell? ⟨w7.heap.size, 0, none⟩ = some (.slice (some ⟨b7, 0, none⟩) n n) ∧ W.cell? ⟨w.heap.size, 0, none⟩ = some (.slice a n cap)) := fun W hW => ⟨HcP.out W (h812.trans (hW.mono h812.size)), HcS.out W (h612.trans (hW.mono h612.size))⟩
  have HTo14 : Hid (∀ W, Below w12.heap.size w12 W → Calls Try.prog 6 #[.agg #[.slice a n cap]] W fun x w' => ∃ b, x = .returned (.agg #[.slice (some ⟨b, 0, none⟩) n n]) ∧ Hid (SlV w' (some ⟨b, 0, none⟩) n n E) ∧ Below w12.heap.size w12 w') := fun W hW => (HTo6.out W (h612.trans (hW.mono h612.size))).mono fun _ _ ⟨b, q1, q2, q3⟩ => ⟨b, q1, q2.out.slv hnm, hW.trans (q3.mono hW.size)⟩
  have HEq14 : Hid (∀ (V W : World) (b : Nat), Below w12.heap.size w12 V → Hid (SlV V (some ⟨b, 0, none⟩) n n E) → Below V.heap.size V W → Calls Try.prog 9 #[.agg #[.slice (some ⟨b7, 0, none⟩) n n], .agg #[.slice (some ⟨b, 0, none⟩) n n]] W fun x w' => x = .returned (.bool true) ∧ Below w12.heap.size w12 w') := fun V W b hV hs hVW => by
    have hW := hV.trans (hVW.mono hV.size)
    exact (eqR_sl W (HSX.out W (h712.trans (hW.mono h712.size))) (hs.out.below hVW)).mono fun _ _ ⟨q1, q2⟩ => ⟨q1, hW.trans (q2.mono hW.size)⟩
  have hrf12 : Below w12.heap.size w12 w12 := Below.refl _ _
  go_wp2_with fail
  go_cut [45] (fun v wx => v = .bool false ∧ Below w12.heap.size w12 wx)
  case first =>
    refine wp_region_held_drew (S := fun W => W.cell? ⟨w7.heap.size, 0, none⟩ = some (.slice (some ⟨b7, 0, none⟩) n n) ∧ W.cell? ⟨w.heap.size, 0, none⟩ = some (.slice a n cap)) (by kernel_rfl) ?_ (fun hHeld => ?_)
    · (try dsimp only); exact HS14.out _ (by first | with_reducible exact hrf12 | with_reducible exact hrf12.drew | with_reducible exact hrf12.drew.drew | with_reducible exact hrf12.drew.drew.drew)
    refine wpAnyH_take (i := 0) (v := ?vm1) rfl (by kernel_rfl) (by kernel_rfl) (by kernel_rfl) (fun _ _ _ h => h) (Or.inl ⟨by rfl, ?hm1⟩) (by assumption) ?_
    case hm1 => (intro w hSw; (try dsimp only at hSw); go_simp; try (with_reducible rfl))
    simp only [Act.put, List.getElem_toArray, List.getElem_cons_zero, List.setIfInBounds_toArray, List.set_cons_zero, List.set_cons_succ]
    refine wpAnyH_take (i := 1) (v := ?vm2) rfl (by kernel_rfl) (by kernel_rfl) (by kernel_rfl) (fun _ _ _ h => h) (Or.inl ⟨by rfl, ?hm2⟩) (by assumption) ?_
    case hm2 => (intro w hSw; (try dsimp only at hSw); go_simp; try (with_reducible rfl))
    simp only [Act.put, List.getElem_toArray, List.getElem_cons_zero, List.getElem_cons_succ, List.setIfInBounds_toArray, List.set_cons_zero, List.set_cons_succ]
    refine wpAnyH_ready (rs := [2]) (by kernel_rfl) (by simp) ?_
    refine AllReadyH.cons rfl (fun K hK => ?_) AllReadyH.nil
    go_simp
    go_at_call 6
    refine (HTo14.out _ (by first | with_reducible exact hrf12 | with_reducible exact hrf12.drew | with_reducible exact hrf12.drew.drew | with_reducible exact hrf12.drew.drew.drew)).mono ?_
    rintro x w13 ⟨b13, rfl, hS13, hb13⟩
    try dsimp only
    refine hK.out _ _ ?_ (fun hHeld => ?_)
    · (try dsimp only); exact HS14.out _ (by first | with_reducible exact hb13 | with_reducible exact hb13.drew | with_reducible exact hb13.drew.drew | with_reducible exact hb13.drew.drew.drew)
    clear hK K
    try simp only [Act.put, List.getElem_toArray, List.getElem_cons_zero, List.getElem_cons_succ, List.setIfInBounds_toArray, List.set_cons_zero, List.set_cons_succ]
    refine wpAnyH_ready (rs := [3]) (by kernel_rfl) (by simp) ?_
    refine AllReadyH.cons rfl (fun K hK => ?_) AllReadyH.nil
    go_simp
    go_at_call 9
    refine (HEq14.out w13 _ b13 hb13 hS13 (by first | with_reducible exact (Below.refl w13.heap.size w13) | with_reducible exact (Below.refl w13.heap.size w13).drew | with_reducible exact (Below.refl w13.heap.size w13).drew.drew | with_reducible exact (Below.refl w13.heap.size w13).drew.drew.drew)).mono ?_
    rintro x w14 ⟨rfl, hb14⟩
    try dsimp only
    refine hK.out _ _ ?_ (fun hHeld => ?_)
    · (try dsimp only); exact HS14.out _ (by first | with_reducible exact hb14 | with_reducible exact hb14.drew | with_reducible exact hb14.drew.drew | with_reducible exact hb14.drew.drew.drew)
    clear hK K
    try simp only [Act.put, List.getElem_toArray, List.getElem_cons_zero, List.getElem_cons_succ, List.setIfInBounds_toArray, List.set_cons_zero, List.set_cons_succ]
    refine wpAnyH_take (i := 4) (v := ?vm3) rfl (by kernel_rfl) (by kernel_rfl) (by kernel_rfl) (fun _ _ _ h => h) (Or.inl ⟨by rfl, ?hm3⟩) (by assumption) ?_
    case hm3 => (intro w hSw; (try dsimp only at hSw); go_simp; try (with_reducible rfl))
    simp only [Act.put, List.getElem_toArray, List.getElem_cons_zero, List.getElem_cons_succ, List.setIfInBounds_toArray, List.set_cons_zero, List.set_cons_succ]
    refine wpAnyH_done (by kernel_rfl) ?_ _
    (try go_wp2_with fail)
    go_meet
    exact ⟨rfl, by first | exact hb14 | exact hb14.drew⟩
  case rest =>
    obtain ⟨rfl, h1214⟩ := hcut
    obtain ⟨w16, hw16⟩ : ∃ W : World, W = wc := ⟨_, rfl⟩
    subst hw16
    clear HS14 HTo14 HEq14 hrf12
    have h1116 := h1112.trans (h1214.mono h1112.size)
    have h816 := h811.trans (h1116.mono h811.size)
    have h716 := h711.trans (h1116.mono h711.size)
    have h616 := h611.trans (h1116.mono h611.size)
    have c16 := HcP.out _ h816
    have hmX : Hid (Calls Try.prog 10 #[.agg #[.slice (some ⟨b7, 0, none⟩) n n], .int .i64 1] w16 fun e w' => e = .returned (.int .i64 ((1 + esum E n : Nat) : Int)) ∧ Mkd b7 w7.heap.size w16 w') := markR_any (k0 := 1) w16 hnm Hbd.out.2.1 hS7.out.2.2.2 h716 hS7.out.2.1 hS7.out.1
    have hkk : ¬ (((1 + esum E n : Nat) : Int) < 0) := by omega
    have HcQ : Hid (∀ W1, Mkd b7 w7.heap.size w16 W1 → W1.cell? ⟨w10.heap.size, 0, none⟩ = some (.slice ga N gc) ∧ W1.cell? ⟨w10.heap.size, 1, none⟩ = some (.slice pa N pc) ∧ CovO W1 w8.heap.size (.slice ga N gc) N (.slice pa N pc) N f rn X T ∧ Below w6.heap.size w6 W1 ∧ w16.heap.size ≤ W1.heap.size) := fun W1 q1 => by
      have hz := hsz.out
      have s1 := q1.size
      have s16 := h1116.size
      exact ⟨(q1.cell (by omega) (Or.inr (by omega))).trans ((h1116.cell (by show w10.heap.size < w11.heap.size; omega)).trans cQ11), (q1.cell (by omega) (Or.inr (by omega))).trans ((h1116.cell (by show w10.heap.size < w11.heap.size; omega)).trans cR11), (HRV.out.1.below h1116).mkdX q1 (by omega), h616.trans ((q1.below (by omega)).mono (by omega)), s1⟩
    clear h1214 HSX HcP h816 h716 hS7
    generalize (1 + esum E n : Nat) = K2 at *
    go_wp2_with fail
    refine hmX.out.mono ?_
    rintro x w18 ⟨rfl, hm18⟩
    clear c16 hmX
    obtain ⟨cQ18, cR18, hV18', h618, hz18⟩ := HcQ.out _ hm18
    have hV18 : Hid (CovO w18 w8.heap.size (.slice ga N gc) N (.slice pa N pc) N f rn X T) := hV18'
    clear hV18' HcQ hm18
    obtain ⟨cO18, cP18⟩ := HcO.out _ h618
    go_wp2_with fail
    refine (eqC_any _ hV18.out.view.1 hV18.out.view.2 (HW0.out _ h618).1 (HW0.out _ h618).2).mono ?_
    rintro x w19 ⟨rfl, h1819⟩
    have h619 := h618.trans (h1819.mono h618.size)
    have hlt18 : w10.heap.size < w18.heap.size := by have := hsz.out; have := h1116.size; omega
    have cQ19 := (h1819.cell (by exact hlt18)).trans cQ18
    have cR19 := (h1819.cell (by exact hlt18)).trans cR18
    have hlt19 : w10.heap.size < w19.heap.size := Nat.lt_of_lt_of_le hlt18 h1819.size
    have HMr : Hid (Calls Try.prog 11 #[.agg #[.slice ga N gc, .slice pa N pc], .int .i64 1] w19 fun x w' => x = .returned (.int .i64 ((1 + N * 2 + sumN rn N : Nat) : Int)) ∧ Hid (McM w' ga pa N rn T) ∧ Mkd w8.heap.size w10.heap.size w19 w') := mkC_row w19 (hV18.out.below h1819) HRV.out.2 Hbd.out.1
    have HHd0 : Hid (∀ w20, McM w20 ga pa N rn T → ∀ W, Below w20.heap.size w20 W → Calls Try.prog 12 #[.agg #[.slice ga N gc, .slice pa N pc], .int .i64 1] W fun e w' => e = .returned (.int .i64 ((1 + N * 2 + sumN rn N : Nat) : Int)) ∧ Below W.heap.size W w') := fun w20 hM W hW => heldC_row W (hM.below hW) Hbd.out.1
    have hKp : ¬ (((1 + N * 2 + sumN rn N : Nat) : Int) < 0) := by omega
    generalize (1 + N * 2 + sumN rn N : Nat) = KK at *
    clear cQ18 cO18 cR18 cP18
    go_wp2_with fail
    refine HMr.out.mono ?_
    rintro x w20 ⟨rfl, hsM, hm20⟩
    clear HMr
    have hz20 := hm20.size
    have cQ20 := (hm20.cell hlt19 (Or.inr (Nat.le_refl _))).trans cQ19
    have cR20 := (hm20.cell hlt19 (Or.inr (Nat.le_refl _))).trans cR19
    have h620 : Below w6.heap.size w6 w20 := h619.trans ((hm20.below (by have := hsz.out; omega)).mono (by have := hsz.out; omega))
    have HHd := HHd0.out w20 hsM.out
    have hlt20 : w10.heap.size < w20.heap.size := by omega
    have HHd : Hid (∀ W, Below w20.heap.size w20 W → Calls Try.prog 12 #[.agg #[.slice ga N gc, .slice pa N pc], .int .i64 1] W fun e w' => e = .returned (.int .i64 (KK : Int)) ∧ Below W.heap.size W w') := HHd
    clear cQ19 cR19 hm20 hsM hV18 HRV HHd0
    go_wp2_with fail
    refine (HHd.out _ (Below.refl _ _)).mono ?_
    rintro x w21 ⟨rfl, h2021⟩
    have h621 := h620.trans (h2021.mono h620.size)
    have cS21 := HcS.out _ h621
    go_wp2_with fail
    refine (HTo6.out _ h621).mono ?_
    rintro x w22 ⟨b22, rfl, hS22, h2122⟩
    have h622 := h621.trans (h2122.mono h621.size)
    clear cS21
    go_wp2_with fail
    refine (HIm.out w22 b22 (hS22.out.slv hnm)).mono ?_
    rintro x w24 ⟨ha, hc, ka, kc, T3, rfl, hV24, h2224⟩
    have h624 := h622.trans (h2224.mono h622.size)
    have h2024 := h2021.trans ((h2122.trans (h2224.mono h2122.size)).mono h2021.size)
    obtain ⟨w25, hw25⟩ : ∃ w25, w25 = w24.alloc (.cells #[.slice ha N hc, .slice ka N kc] 29) := ⟨_, rfl⟩
    have h2425 : Below w24.heap.size w24 w25 := by rw [hw25]; exact (Below.refl _ _).alloc (Nat.le_refl _) _
    have h625 := h624.trans (h2425.mono h624.size)
    have h2025 := h2024.trans (h2425.mono h2024.size)
    have hs25 : Hid (SlP w25 ha N hc (spC f) (spQ f) ∧ SlL w25 ka N kc rn X) := (hV24.out.below h2425).view
    have cO25 : (w24.alloc (.cells #[.slice ha N hc, .slice ka N kc] 29)).cell? ⟨w5.heap.size, 0, none⟩ = some (.slice va N vc) := by rw [← hw25]; exact (HcO.out _ h625).1
    have cP25 : (w24.alloc (.cells #[.slice ha N hc, .slice ka N kc] 29)).cell? ⟨w5.heap.size, 1, none⟩ = some (.slice ua N uc) := by rw [← hw25]; exact (HcO.out _ h625).2
    have hz24 : w5.heap.size ≠ w24.heap.size := by have := h624.size; omega
    clear hV24 hS22 HTo6 HIm
    go_wp2_with fail
    rw [← hw25]
    clear hw25 cO25 cP25
    refine (eqC_any _ hs25.out.1 hs25.out.2 (HW0.out _ h625).1 (HW0.out _ h625).2).mono ?_
    rintro x w26 ⟨rfl, h2526⟩
    have h626 := h625.trans (h2526.mono h625.size)
    have h2026 := h2025.trans (h2526.mono h2025.size)
    have cQ26 := (h2026.cell (by exact hlt20)).trans cQ20
    have cR26 := (h2026.cell (by exact hlt20)).trans cR20
    go_wp2_with fail
    refine (HHd.out _ h2026).mono ?_
    rintro x w27 ⟨rfl, h2627⟩
    have hfin := HFin.out _ (h626.trans (h2627.mono h626.size))
    go_wp2
    go_ret
    exact ⟨rfl, hfin⟩
end Go.Proofs.Ytlopjfhdhkonbaa
