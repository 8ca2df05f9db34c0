/-
  spec's l3Spot.
-/
import Derived.Test.YtlopjfhdhkonbaaCoS
import Derived.Test.YtlopjfhdhkonbaaRmS
import Derived.Deep.RegionHeld3
import Derived.Deep.CutRange
namespace Go.Proofs.Ytlopjfhdhkonbaa
open Go.RowKit

set_option maxRecDepth 100000 in
set_option maxHeartbeats 4000000 in
theorem spotS_any (b off n cap k ch : Nat) {E : Nat → Ev} {f : Nat → Sp} {sa : Option Addr} {scap : Nat} (w : World) (hroom : roomTo E n = true) (hk : k < n) (h : SlV w (some ⟨b, off, none⟩) n cap E) (hs : SlP w sa k scap (spC f) (spQ f)) (hq : ∀ p, p < k → (f p).q < 1000000) :
    Calls Try.prog 15 #[.agg #[.slice (some ⟨b, off, none⟩) n cap], .slice sa k scap, .int .i64 (ch : Int), .int .i64 (k : Int)] w fun x w' => x = .returned (.agg #[.int .i64 ((((nxtTo f k (rsE E n k) (naE E k)).getD ⟨ch, 1⟩).c : Nat) : Int), .int .i64 ((((nxtTo f k (rsE E n k) (naE E k)).getD ⟨ch, 1⟩).q : Nat) : Int)]) ∧ Below w.heap.size w w' := by
  have hnn := Nat.le_trans h.le h.max
  unfold maxLen at hnn
  obtain ⟨hb, aa, ca, hc7, hsa⟩ : b < w.heap.size ∧ ∃ aa ca, w.cell? ⟨b, off + k * 10 + 7, none⟩ = some (.slice aa (E k).na ca) ∧ SlS w aa (E k).na ca (E k).Av := by
    rcases h.cells with h0 | ⟨b', off', e, hlt, hc⟩
    · omega
    · injection e with e; injection e with e1 e2 _
      subst e1 e2
      obtain ⟨_, _, aa, ca, _, _, hcs, hok⟩ := hc k hk
      exact ⟨hlt, aa, ca, hcs.c7, hok.ha⟩
  have hna := Nat.le_trans hsa.le hsa.max
  unfold maxLen at hna
  obtain ⟨wa, hwa⟩ : ∃ wa, wa = (w.alloc (.cells #[.slice (some ⟨b, off, none⟩) n cap] 34)).alloc (.cells #[.int .i64 0, .int .i64 0] 44) := ⟨_, rfl⟩
  have hba : Below w.heap.size w wa := by rw [hwa]; exact ((Below.refl _ _).alloc (Nat.le_refl _) _).alloc (by simp) _
  have hza : w.heap.size + 1 < wa.heap.size := by rw [hwa]; simp
  have hca : Hid (∀ W, Below wa.heap.size wa W → W.cell? ⟨w.heap.size, 0, none⟩ = some (.slice (some ⟨b, off, none⟩) n cap) ∧ W.cell? ⟨w.heap.size + 1, 0, none⟩ = some (.int .i64 0) ∧ W.cell? ⟨w.heap.size + 1, 1, none⟩ = some (.int .i64 0) ∧ W.frozen? ⟨w.heap.size + 1, 0, none⟩ = false ∧ W.frozen? ⟨w.heap.size + 1, 1, none⟩ = false) := fun W hW => by
    refine ⟨(hW.cell (by show w.heap.size < wa.heap.size; omega)).trans ?_, (hW.cell (by exact hza)).trans ?_, (hW.cell (by exact hza)).trans ?_, (hW.frozen (by exact hza)).trans ?_, (hW.frozen (by exact hza)).trans ?_⟩ <;> rw [hwa]
    · rw [World.cell?_alloc_past _ _ _ (by simp)]; exact World.cell?_alloc_at _ _ _ _ rfl
    · exact World.cell?_alloc_at _ _ _ _ (by simp)
    · exact World.cell?_alloc_at _ _ _ _ (by simp)
    · exact World.frozen?_alloc_at _ _ _ _ (by simp)
    · exact World.frozen?_alloc_at _ _ _ _ (by simp)
  have r0 : ((w.alloc (.cells #[.slice (some ⟨b, off, none⟩) n cap] 34)).alloc (.cells #[.int .i64 0, .int .i64 0] 44)).cell? ⟨w.heap.size, 0, none⟩ = some (.slice (some ⟨b, off, none⟩) n cap) := by rw [← hwa]; exact (hca.out _ (Below.refl _ _)).1
  have r1 : ((w.alloc (.cells #[.slice (some ⟨b, off, none⟩) n cap] 34)).alloc (.cells #[.int .i64 0, .int .i64 0] 44)).cell? ⟨b, off + k * 10 + 7, none⟩ = some (.slice aa (E k).na ca) := by rw [← hwa]; exact (hba.cell (by exact hb)).trans hc7
  have Hat : Hid (∀ j, j < (E k).na → ∀ W, Below wa.heap.size wa W → Calls Try.prog 17 #[.agg #[.slice (some ⟨b, off, none⟩) n cap], .string ((E k).Av j)] W fun x w' => x = .returned (.int .i64 ((rsE E n k j : Nat) : Int)) ∧ Below W.heap.size W w') := fun j hj W hW => by
    refine (l2At_sl _ W (h.below (hba.trans (hW.mono hba.size)))).mono ?_
    rintro x w' ⟨rfl, rfl⟩
    rw [(rsE_at hroom hk hj).1]
    exact ⟨rfl, (Below.refl _ _).alloc (Nat.le_refl _) _⟩
  have HA : Hid (∀ j, j < (E k).na → ∃ ab ao, aa = some ⟨ab, ao, none⟩ ∧ ab < w.heap.size ∧ w.cell? ⟨ab, ao + j, none⟩ = some (.string ((E k).Av j))) := fun j hj => by
    rcases hsa.cells with h0 | ⟨ab, ao, e, hlt, hc⟩
    · omega
    · exact ⟨ab, ao, e, hlt, hc j hj⟩
  have HL : Hid (∀ p, p < k → ∃ sb so, sa = some ⟨sb, so, none⟩ ∧ sb < w.heap.size ∧ w.cell? ⟨sb, so + p * 2, none⟩ = some (.int .i64 ((f p).c : Int)) ∧ w.cell? ⟨sb, so + p * 2 + 1, none⟩ = some (.int .i64 ((f p).q : Int)) ∧ ∀ W, Below w.heap.size w W → Calls Try.prog 33 #[.slice sa k scap, .int .i64 (p : Int)] W fun e w' => e = .returned (.bool (lastTo f p k)) ∧ Dr W w') := fun p hp => by
    rcases hs.cells with h0 | ⟨sb, so, e, hlt, c1, c2⟩
    · omega
    · exact ⟨sb, so, e, hlt, c1 p hp, c2 p hp, fun W hW => by rw [e]; exact isLast_any sb so scap k p f W (Nat.le_trans hs.le hs.max) hp (fun i hi => (hW.cell (by exact hlt)).trans (c1 i hi)) (fun i hi => (hW.cell (by exact hlt)).trans (c2 i hi))⟩
  have HK : Hid (∀ j, j < (E k).na → rsE E n k j < k ∧ (f (rsE E n k j)).q < 1000000) := fun j hj => ⟨rsE_lt hroom k hk j hj, hq _ (rsE_lt hroom k hk j hj)⟩
  obtain ⟨V, hV⟩ : ∃ V, V = (nxtTo f k (rsE E n k) (naE E k)).getD ⟨ch, 1⟩ := ⟨_, rfl⟩
  have HV : Hid (V = (nxtTo f k (rsE E n k) (naE E k)).getD ⟨ch, 1⟩) := hV
  have hsn := Nat.le_trans hs.le hs.max
  unfold maxLen at hsn
  rw [← hV]
  clear hV h hs hq hsa hc7
  have hki : (k : Int) < (n : Int) := by omega
  go_enter Try.func15, Try.ntmps15
  go_wp2_with fail
  rw [← hwa]
  clear hwa r0 r1 hki
  go_loopw [10] (fun iv wr => ∃ j : Nat, j ≤ (E k).na ∧ iv = .int .i64 (j : Int) ∧ Hid (nxtTo f k (rsE E n k) j = none) ∧ Below wa.heap.size wa wr) (fun iv _ => (E k).na - (intOf iv).toNat)
  case atStart => exact ⟨0, Nat.zero_le _, rfl, rfl, Below.refl _ _⟩
  case round =>
    obtain ⟨j, hj, rfl, hno, hbel⟩ := hrel
    have hw := hba.trans (hbel.mono hba.size)
    by_cases hlt : j < (E k).na
    · obtain ⟨ab, ao, rfl, hab, haj⟩ := HA.out j hlt
      have HS : Hid (∀ W, Below wr.heap.size wr W → W.cell? ⟨w.heap.size, 0, none⟩ = some (.slice (some ⟨b, off, none⟩) n cap) ∧ W.cell? ⟨ab, ao + j, none⟩ = some (.string ((E k).Av j))) := fun W hW => ⟨(hca.out W (hbel.trans (hW.mono hbel.size))).1, ((hw.trans (hW.mono hw.size)).cell (by exact hab)).trans haj⟩
      have Hat : Hid (∀ W, Below wr.heap.size wr W → Calls Try.prog 17 #[.agg #[.slice (some ⟨b, off, none⟩) n cap], .string ((E k).Av j)] W fun x w' => x = .returned (.int .i64 ((rsE E n k j : Nat) : Int)) ∧ Below wr.heap.size wr w') := fun W hW => (Hat.out j hlt W (hbel.trans (hW.mono hbel.size))).mono fun _ _ ⟨q1, q2⟩ => ⟨q1, hW.trans (q2.mono hW.size)⟩
      obtain ⟨k1, k2⟩ := HK.out j hlt
      obtain ⟨sb, so, rfl, hsb, s1, s2, hlast⟩ := HL.out (rsE E n k j) k1
      have HLast : Hid (∀ W, Below w.heap.size w W → Calls Try.prog 33 #[.slice (some ⟨sb, so, none⟩) k scap, .int .i64 ((rsE E n k j : Nat) : Int)] W fun e w' => e = .returned (.bool (lastTo f (rsE E n k j) k)) ∧ Dr W w') := hlast
      have Hyes : Hid (lastTo f (rsE E n k j) k = true → V = ⟨(f (rsE E n k j)).c, (f (rsE E n k j)).q + 1⟩) := fun e => by rw [HV.out, nxtTo_some (nxtTo_at hno.out e) (show j + 1 ≤ naE E k by unfold naE; omega)]; rfl
      have Hnn : Hid (lastTo f (rsE E n k j) k = false → nxtTo f k (rsE E n k) (j + 1) = none) := fun e => nxtTo_no hno.out e
      have hrf : Below wr.heap.size wr wr := Below.refl _ _
      have i0 : (0 : Int) ≤ (j : Int) := by omega
      have i1 : (j : Int) < ((E k).na : Int) := by omega
      have p0 : (0 : Int) ≤ ((rsE E n k j : Nat) : Int) := by omega
      have p1 : ((rsE E n k j : Nat) : Int) < (k : Int) := by omega
      clear hlast haj HA HL HK
      generalize (E k).Av j = av at *
      generalize lastTo f (rsE E n k j) k = lt at *
      generalize (f (rsE E n k j)).c = fc at *
      generalize (f (rsE E n k j)).q = fq at *
      generalize rsE E n k j = p at *
      go_wp2_with fail
      go_cut [11] from 18 to 44 (fun v wx => v = .int .i64 (p : Int) ∧ Below wr.heap.size wr wx)
      case first =>
        refine wp_region_held_drew (S := fun W => W.cell? ⟨w.heap.size, 0, none⟩ = some (.slice (some ⟨b, off, none⟩) n cap) ∧ W.cell? ⟨ab, ao + j, none⟩ = some (.string av)) (by kernel_rfl) ?_ (fun hHeld => ?_)
        · (try dsimp only); exact HS.out _ (by first | with_reducible exact hrf | with_reducible exact hrf.drew | with_reducible exact hrf.drew.drew | with_reducible exact hrf.drew.drew.drew)
        refine wpAnyH_take (i := 0) (v := ?vm1) rfl (by kernel_rfl) (by kernel_rfl) (by kernel_rfl) (fun _ _ _ h => h) (Or.inl ⟨by rfl, ?hm1⟩) (by assumption) ?_
        case hm1 => (intro w hSw; (try dsimp only at hSw); go_simp; try (with_reducible rfl))
        simp only [Act.put, List.getElem_toArray, List.getElem_cons_zero, List.setIfInBounds_toArray, List.set_cons_zero, List.set_cons_succ]
        refine wpAnyH_take (i := 1) (v := ?vm2) rfl (by kernel_rfl) (by kernel_rfl) (by kernel_rfl) (fun _ _ _ h => h) (Or.inl ⟨by rfl, ?hm2⟩) (by assumption) ?_
        case hm2 => (intro w hSw; (try dsimp only at hSw); go_simp; try (with_reducible rfl))
        simp only [Act.put, List.getElem_toArray, List.getElem_cons_zero, List.getElem_cons_succ, List.setIfInBounds_toArray, List.set_cons_zero, List.set_cons_succ]
        refine wpAnyH_take (i := 2) (v := ?vm3) rfl (by kernel_rfl) (by kernel_rfl) (by kernel_rfl) (fun _ _ _ h => h) (Or.inl ⟨by rfl, ?hm3⟩) (by assumption) ?_
        case hm3 => (intro w hSw; (try dsimp only at hSw); go_simp; try (with_reducible rfl))
        simp only [Act.put, List.getElem_toArray, List.getElem_cons_zero, List.getElem_cons_succ, List.setIfInBounds_toArray, List.set_cons_zero, List.set_cons_succ]
        refine wpAnyH_take (i := 3) (v := ?vm4) rfl (by kernel_rfl) (by kernel_rfl) (by kernel_rfl) (fun _ _ _ h => h) (Or.inl ⟨by rfl, ?hm4⟩) (by assumption) ?_
        case hm4 => (intro w hSw; (try dsimp only at hSw); go_simp; try (with_reducible rfl))
        simp only [Act.put, List.getElem_toArray, List.getElem_cons_zero, List.getElem_cons_succ, List.setIfInBounds_toArray, List.set_cons_zero, List.set_cons_succ]
        refine wpAnyH_take (i := 4) (v := ?vm5) rfl (by kernel_rfl) (by kernel_rfl) (by kernel_rfl) (fun _ _ _ h => h) (Or.inl ⟨by rfl, ?hm5⟩) (by assumption) ?_
        case hm5 => (intro w hSw; (try dsimp only at hSw); go_simp; try (with_reducible rfl))
        simp only [Act.put, List.getElem_toArray, List.getElem_cons_zero, List.getElem_cons_succ, List.setIfInBounds_toArray, List.set_cons_zero, List.set_cons_succ]
        refine wpAnyH_ready (rs := [5]) (by kernel_rfl) (by simp) ?_
        refine AllReadyH.cons rfl (fun K hK => ?_) AllReadyH.nil
        go_simp
        go_at_call 17
        refine (Hat.out _ (by first | with_reducible exact hrf | with_reducible exact hrf.drew | with_reducible exact hrf.drew.drew | with_reducible exact hrf.drew.drew.drew)).mono ?_
        rintro x w1 ⟨rfl, hb1⟩
        try dsimp only
        refine hK.out _ _ ?_ (fun hHeld => ?_)
        · (try dsimp only); exact HS.out _ (by first | with_reducible exact hb1 | with_reducible exact hb1.drew | with_reducible exact hb1.drew.drew | with_reducible exact hb1.drew.drew.drew)
        clear hK K
        try simp only [Act.put, List.getElem_toArray, List.getElem_cons_zero, List.getElem_cons_succ, List.setIfInBounds_toArray, List.set_cons_zero, List.set_cons_succ]
        refine wpAnyH_take (i := 6) (v := ?vm6) rfl (by kernel_rfl) (by kernel_rfl) (by kernel_rfl) (fun _ _ _ h => h) (Or.inl ⟨by rfl, ?hm6⟩) (by assumption) ?_
        case hm6 => (intro w hSw; (try dsimp only at hSw); go_simp; try (with_reducible rfl))
        simp only [Act.put, List.getElem_toArray, List.getElem_cons_zero, List.getElem_cons_succ, List.setIfInBounds_toArray, List.set_cons_zero, List.set_cons_succ]
        refine wpAnyH_done (by kernel_rfl) ?_ _
        (try go_wp2_with fail)
        go_meet
        exact ⟨rfl, by first | exact hb1 | exact hb1.drew⟩
      case rest =>
        obtain ⟨rfl, hbc⟩ := hcut
        obtain ⟨w1, hw1⟩ : ∃ W : World, W = wc := ⟨_, rfl⟩
        subst hw1
        have hb1 := hbel.trans (hbc.mono hbel.size)
        have hww1 := hba.trans (hb1.mono hba.size)
        clear HS Hat
        go_wp2_with fail
        refine (HLast.out _ hww1).mono ?_
        rintro x w2 ⟨rfl, hd2⟩
        have hb2 : Below wa.heap.size wa w2 := hb1.trans ((hd2.below w1.heap.size).mono hb1.size)
        have hww2 := hba.trans (hb2.mono hba.size)
        cases lt
        case false =>
          have hno2 : Hid (_) := Hnn.out rfl
          clear Hyes Hnn
          go_wp2
          go_roundw
          case rel => exact ⟨j + 1, by omega, by go_num, hno2, hb2⟩
          case measure => simp [intOf]; omega
        case true =>
          have hv : V = ⟨fc, fq + 1⟩ := Hyes.out rfl
          subst hv
          clear Hyes Hnn
          have z1 := (hww2.cell (by exact hsb)).trans s1
          have z2 := (hww2.cell (by exact hsb)).trans s2
          have iw : IntKind.i64.wrap ((fq : Int) + 1) = (fq : Int) + 1 := by rw [IntKind.wrap_i64]; omega
          obtain ⟨-, y0, y1, y2, y3⟩ := hca.out _ hb2
          obtain ⟨-, d0, d1, d2, d3⟩ := hca.out _ hb2.drew
          have hsbn : sb ≠ w.heap.size + 1 := by omega
          have HS7 : Hid (∀ W, Dr w2 W → W.cell? ⟨sb, so + p * 2, none⟩ = some (.int .i64 (fc : Int)) ∧ W.cell? ⟨sb, so + p * 2 + 1, none⟩ = some (.int .i64 (fq : Int))) := fun W hW => ⟨(hW.cell _).trans z1, (hW.cell _).trans z2⟩
          have HS8 : Hid (((w2.drew.setCell ⟨w.heap.size + 1, 0, none⟩ (.int .i64 (fc : Int))).setCell ⟨w.heap.size + 1, 1, none⟩ (.int .i64 ((fq : Int) + 1))).cell? ⟨sb, so + p * 2, none⟩ = some (.int .i64 (fc : Int)) ∧ ((w2.drew.setCell ⟨w.heap.size + 1, 0, none⟩ (.int .i64 (fc : Int))).setCell ⟨w.heap.size + 1, 1, none⟩ (.int .i64 ((fq : Int) + 1))).cell? ⟨sb, so + p * 2 + 1, none⟩ = some (.int .i64 (fq : Int))) := by
            refine ⟨?_, ?_⟩ <;> rw [far_block (by omega), far_block (by omega)]
            · exact (hww2.drew.cell (by exact hsb)).trans s1
            · exact (hww2.drew.cell (by exact hsb)).trans s2
          obtain ⟨W0, hW0⟩ : ∃ W0, W0 = (w2.setCell ⟨w.heap.size + 1, 0, none⟩ (.int .i64 (fc : Int))).setCell ⟨w.heap.size + 1, 1, none⟩ (.int .i64 ((fq : Int) + 1)) := ⟨_, rfl⟩
          have g0 : W0.cell? ⟨w.heap.size + 1, 0, none⟩ = some (.int .i64 (fc : Int)) := by rw [hW0, set_far (by omega)]; exact set_same ⟨_, y0⟩
          have g1 : W0.cell? ⟨w.heap.size + 1, 1, none⟩ = some (.int .i64 ((fq : Int) + 1)) := by rw [hW0]; exact set_same ⟨_, by rw [set_far (by omega)]; exact y1⟩
          have hz0 : w.heap.size + 1 < W0.heap.size := by rw [hW0]; have := hb2.size; simp [World.setCell]; omega
          have hAl : Below W0.heap.size W0 W0.drew := (Below.refl _ _).drew
          have f0 := (hAl.cell (by exact hz0)).trans g0
          have f1 := (hAl.cell (by exact hz0)).trans g1
          have hfin : Hid (Below w.heap.size w W0.drew) := by
            have : Below w.heap.size w W0 := by rw [hW0]; exact (hww2.setCell (by exact Nat.le_succ _) _).setCell (by exact Nat.le_succ _) _
            exact this.trans (hAl.mono this.size)
          rw [hW0] at f0 f1 hfin
          clear g0 g1 hAl hW0 hz0
          go_wp2_with fail
          refine wp_region_held_drew (S := fun W => W.cell? ⟨sb, so + p * 2, none⟩ = some (.int .i64 (fc : Int)) ∧ W.cell? ⟨sb, so + p * 2 + 1, none⟩ = some (.int .i64 (fq : Int))) (by kernel_rfl) ?_ (fun hHeld => ?_)
          · (try dsimp only); first | exact ⟨z1, z2⟩ | exact HS7.out _ (by first | with_reducible exact (Dr.refl w2) | with_reducible exact (Dr.refl w2).drew | with_reducible exact (Dr.refl w2).drew.drew | with_reducible exact (Dr.refl w2).drew.drew.drew)
          refine wpAnyH_take (i := 0) (v := ?vm7) rfl (by kernel_rfl) (by kernel_rfl) (by kernel_rfl) (fun _ _ _ h => h) (Or.inl ⟨by rfl, ?hm7⟩) (by assumption) ?_
          case hm7 => (intro w hSw; (try dsimp only at hSw); go_simp; try (with_reducible rfl))
          simp only [Act.put, List.getElem_toArray, List.getElem_cons_zero, List.setIfInBounds_toArray, List.set_cons_zero, List.set_cons_succ]
          refine wpAnyH_take (i := 1) (v := ?vm8) rfl (by kernel_rfl) (by kernel_rfl) (by kernel_rfl) (fun _ _ _ h => h) (Or.inl ⟨by rfl, ?hm8⟩) (by assumption) ?_
          case hm8 => (intro w hSw; (try dsimp only at hSw); go_simp; try (with_reducible rfl))
          simp only [Act.put, List.getElem_toArray, List.getElem_cons_zero, List.getElem_cons_succ, List.setIfInBounds_toArray, List.set_cons_zero, List.set_cons_succ]
          refine wpAnyH_take (i := 2) (v := ?vm9) rfl (by kernel_rfl) (by kernel_rfl) (by kernel_rfl) (fun _ _ _ h => h) (Or.inl ⟨by rfl, ?hm9⟩) (by assumption) ?_
          case hm9 => (intro w hSw; (try dsimp only at hSw); go_simp; try (with_reducible rfl))
          simp only [Act.put, List.getElem_toArray, List.getElem_cons_zero, List.getElem_cons_succ, List.setIfInBounds_toArray, List.set_cons_zero, List.set_cons_succ]
          refine wpAnyH_take (i := 3) (v := ?vm10) rfl (by kernel_rfl) (by kernel_rfl) (by kernel_rfl) (fun _ _ _ h => h) (Or.inl ⟨by rfl, ?hm10⟩) (by assumption) ?_
          case hm10 => (intro w hSw; (try dsimp only at hSw); go_simp; try (with_reducible rfl))
          simp only [Act.put, List.getElem_toArray, List.getElem_cons_zero, List.getElem_cons_succ, List.setIfInBounds_toArray, List.set_cons_zero, List.set_cons_succ]
          refine wpAnyH_take (i := 4) (v := ?vm11) rfl (by kernel_rfl) (by kernel_rfl) (by kernel_rfl) (fun _ _ _ h => h) (Or.inl ⟨by rfl, ?hm11⟩) (by assumption) ?_
          case hm11 => (intro w hSw; (try dsimp only at hSw); go_simp; try (with_reducible rfl))
          simp only [Act.put, List.getElem_toArray, List.getElem_cons_zero, List.getElem_cons_succ, List.setIfInBounds_toArray, List.set_cons_zero, List.set_cons_succ]
          refine wpAnyH_take (i := 5) (v := ?vm12) rfl (by kernel_rfl) (by kernel_rfl) (by kernel_rfl) (fun _ _ _ h => h) (Or.inl ⟨by rfl, ?hm12⟩) (by assumption) ?_
          case hm12 => (intro w hSw; (try dsimp only at hSw); go_simp; try (with_reducible rfl))
          simp only [Act.put, List.getElem_toArray, List.getElem_cons_zero, List.getElem_cons_succ, List.setIfInBounds_toArray, List.set_cons_zero, List.set_cons_succ]
          refine wpAnyH_take (i := 6) (v := ?vm13) rfl (by kernel_rfl) (by kernel_rfl) (by kernel_rfl) (fun _ _ _ h => h) (Or.inl ⟨by rfl, ?hm13⟩) (by assumption) ?_
          case hm13 => (intro w hSw; (try dsimp only at hSw); go_simp; try (with_reducible rfl))
          simp only [Act.put, List.getElem_toArray, List.getElem_cons_zero, List.getElem_cons_succ, List.setIfInBounds_toArray, List.set_cons_zero, List.set_cons_succ]
          refine wpAnyH_take (i := 7) (v := ?vm14) rfl (by kernel_rfl) (by kernel_rfl) (by kernel_rfl) (fun _ _ _ h => h) (Or.inl ⟨by rfl, ?hm14⟩) (by assumption) ?_
          case hm14 => (intro w hSw; (try dsimp only at hSw); go_simp; try (with_reducible rfl))
          simp only [Act.put, List.getElem_toArray, List.getElem_cons_zero, List.getElem_cons_succ, List.setIfInBounds_toArray, List.set_cons_zero, List.set_cons_succ]
          refine wpAnyH_take (i := 8) (v := ?vm15) rfl (by kernel_rfl) (by kernel_rfl) (by kernel_rfl) (fun _ _ _ h => h) (Or.inl ⟨by rfl, ?hm15⟩) (by assumption) ?_
          case hm15 => (intro w hSw; (try dsimp only at hSw); go_simp; try (with_reducible rfl))
          simp only [Act.put, List.getElem_toArray, List.getElem_cons_zero, List.getElem_cons_succ, List.setIfInBounds_toArray, List.set_cons_zero, List.set_cons_succ]
          refine wpAnyH_take (i := 9) (v := ?vm16) rfl (by kernel_rfl) (by kernel_rfl) (by kernel_rfl) (fun _ _ _ h => h) (Or.inl ⟨by rfl, ?hm16⟩) (by assumption) ?_
          case hm16 => (intro w hSw; (try dsimp only at hSw); go_simp; try (with_reducible rfl))
          simp only [Act.put, List.getElem_toArray, List.getElem_cons_zero, List.getElem_cons_succ, List.setIfInBounds_toArray, List.set_cons_zero, List.set_cons_succ]
          refine wpAnyH_take (i := 10) (v := ?vm17) rfl (by kernel_rfl) (by kernel_rfl) (by kernel_rfl) (fun _ _ _ h => h) (Or.inl ⟨by rfl, ?hm17⟩) (by assumption) ?_
          case hm17 => (intro w hSw; (try dsimp only at hSw); go_simp; try (with_reducible rfl))
          simp only [Act.put, List.getElem_toArray, List.getElem_cons_zero, List.getElem_cons_succ, List.setIfInBounds_toArray, List.set_cons_zero, List.set_cons_succ]
          refine wpAnyH_take (i := 11) (v := ?vm18) rfl (by kernel_rfl) (by kernel_rfl) (by kernel_rfl) (fun _ _ _ h => h) (Or.inl ⟨by rfl, ?hm18⟩) (by assumption) ?_
          case hm18 => (intro w hSw; (try dsimp only at hSw); go_simp; try (with_reducible rfl))
          simp only [Act.put, List.getElem_toArray, List.getElem_cons_zero, List.getElem_cons_succ, List.setIfInBounds_toArray, List.set_cons_zero, List.set_cons_succ]
          refine wpAnyH_ready (rs := [12]) (by kernel_rfl) (by simp) ?_
          refine AllReadyH.cons rfl (fun K hK => ?_) AllReadyH.nil
          go_simp
          refine hK.out _ _ ?_ (fun hHeld => ?_)
          · (try dsimp only); exact HS8.out
          clear hK K
          try simp only [Act.put, List.getElem_toArray, List.getElem_cons_zero, List.getElem_cons_succ, List.setIfInBounds_toArray, List.set_cons_zero, List.set_cons_succ]
          refine wpAnyH_done (by kernel_rfl) ?_ _
          (try go_wp2_with fail)
          exact bodyPost_ret (v := .agg #[.int .i64 (fc : Int), .int .i64 ((fq : Int) + 1)]) (by simp [results, Try.results15, go_sem, f0, f1]) rfl ⟨by first | rfl | (congr 5), hfin.out⟩
    · have hjm : j = (E k).na := by omega
      subst hjm
      have hv : V = ⟨ch, 1⟩ := by rw [HV.out, show naE E k = (E k).na from rfl, hno.out]; rfl
      subst hv
      obtain ⟨-, y0, y1, y2, y3⟩ := hca.out _ hbel
      clear HA HL HK Hat
      go_wp2
      refine bodyPost_ret (v := .agg #[.int .i64 (ch : Int), .int .i64 1]) (by simp [results, Try.results15, go_sem, y0, y1]) rfl ⟨by first | rfl | (congr 5), ?_⟩
      repeat' (first | exact hw | (refine Below.setCell ?_ (by exact Nat.le_succ _) _))
end Go.Proofs.Ytlopjfhdhkonbaa
