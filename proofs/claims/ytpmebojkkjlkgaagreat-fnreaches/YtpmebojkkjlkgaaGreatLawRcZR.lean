import Derived.Test.YtpmebojkkjlkgaaGreatDmSZR
import Derived.Test.YtpmebojkkjlkgaaGreatSoIZR
import Derived.ProofKit
import Derived.SizedLaws
import Derived.Deep.Strs
namespace Go.Proofs.YtpmebojkkjlkgaaGreat
open Go.RowKit
def RcRel (m : Nat) (w0 : World) (iv : Value) (wr : World) : Prop := ∃ k : Nat, k <= m ∧ iv = .int .i64 (k : Int) ∧ Below w0.heap.size w0 wr
theorem one_str {w W : World} {t : TypeId} (s : ByteArray) (hs : s.size <= maxLen) (hb : Below (w.alloc (.cells #[.string s] t)).heap.size (w.alloc (.cells #[.string s] t)) W) : SlS W (some ⟨w.heap.size, 0, none⟩) 1 1 (fun _ => s) :=
 SlS.below ⟨Nat.le_refl _, by decide, fun _ _ => hs, Or.inr ⟨w.heap.size, 0, rfl, by simp, fun i hi => by
  have : i = 0 := by omega
  subst this
  exact World.cell?_alloc_at _ _ _ _ rfl⟩⟩ hb
set_option maxRecDepth 100000 in
set_option maxHeartbeats 1000000 in
theorem lawReaches {a : Option Addr} {n cap : Nat} {bs : Nat -> Nat} (w : World) (hle : n <= cap) (hmax : cap <= maxLen) (h : BytesV w a n bs) (hb1 : ∀ i, i < n -> bs i < 256) :
  Calls Tryz.prog 4 #[.slice a n cap] w fun e w' => e = .returned (.bool true) ∧ Below w.heap.size w w' := by
 have HS : Hid (∀ W, Below w.heap.size w W -> Calls Tryz.prog 5 #[.slice a n cap] W (ArPost (arR bs n).n (arR bs n).E W)) := fun W hW => anyRoom W hle hmax (h.below hW) hb1
 have hnm : (n : Int) <= 9223372036854775807 := by unfold maxLen at hmax; omega
 clear hmax hle h hb1
 generalize (arR bs n).n = N at *
 generalize (arR bs n).E = E at *
 by_cases hbig : 1048576 < n
 ·go_enter Tryz.func4, Tryz.ntmps4
  go_wp2
  go_ret
  exact ⟨rfl, Below.refl _ _⟩
 go_enter Tryz.func4, Tryz.ntmps4
 go_wp2_with fail
 refine (HS.out w (Below.refl _ _)).mono ?_
 rintro e w1 ⟨rb, rc, rfl, hs1, hroom, hw1⟩
 have HM : Hid (∀ W a' cap' k, k <= N -> SlV W a' k cap' E -> Calls Tryz.prog 6 #[.agg #[.slice a' k cap']] W (CvPost E k N W)) := fun W a' cap' k hk hs => cover_pre W hroom hk hs
 have hN : N <= 300 := room_300 hroom
 have hNr := hs1.le
 have hmx := hs1.max
 unfold maxLen at hmx
 have hids : Hid (∀ i, i < N -> (E i).id.size <= maxLen) := fun i hi => by
  rcases hs1.cells with h0 | ⟨b, off, _, _, hc⟩
  ·omega
  ·obtain ⟨_, _, _, _, _, _, _, hok⟩ := hc i hi
   exact hok.hid
 have Hroom : Hid (roomTo E N = true) := hroom
 clear hroom
 obtain ⟨wa, hwa⟩ : ∃ wa, wa = w1.alloc (.cells #[.slice (some ⟨rb, 0, none⟩) N rc] 25) := ⟨_, rfl⟩
 have hba : Below w1.heap.size w1 wa := by rw [hwa]; exact (Below.refl _ _).alloc (Nat.le_refl _) _
 have hsa : w1.heap.size < wa.heap.size := by rw [hwa]; simp
 have c0 : wa.cell? ⟨w1.heap.size, 0, none⟩ = some (.slice (some ⟨rb, 0, none⟩) N rc) := by rw [hwa]; exact World.cell?_alloc_at _ _ _ _ rfl
 have hwwa := hw1.trans (hba.mono hw1.size)
 have HV1 : Hid (SlV wa (some ⟨rb, 0, none⟩) N rc E) := hs1.below hba
 obtain ⟨B, hB⟩ : ∃ B, B = w1.heap.size := ⟨_, rfl⟩
 rw [<- hB] at hsa c0
 go_wp2_with fail
 rw [<- hwa, <- hB]
 clear hwa hba hB hw1 hs1
 refine (HS.out _ hwwa).mono ?_
 rintro e w2 ⟨rb2, rc2, rfl, hs2, _, hb2⟩
 go_wp2_with fail
 refine (HM.out _ _ _ _ (Nat.le_refl _) hs2).mono ?_
 rintro e w3 ⟨sa, sc, ra, rr, rfl, hp3, hl3, hb3⟩
 have hb23 := hb2.trans (hb3.mono hb2.size)
 have c3 := (hb23.cell (by exact hsa)).trans c0
 have hs3 := Nat.lt_of_lt_of_le hsa hb23.size
 have hww3 := hwwa.trans (hb23.mono hwwa.size)
 obtain ⟨wb, hwb⟩ : ∃ wb, wb = w3.alloc (.cells #[.slice sa N sc, .slice ra N rr] 30) := ⟨_, rfl⟩
 have hbb : Below w3.heap.size w3 wb := by rw [hwb]; exact (Below.refl _ _).alloc (Nat.le_refl _) _
 have HV : Hid (SlV wb (some ⟨rb, 0, none⟩) N rc E) := (HV1.out.below hb23).below hbb
 clear hs2 hb2 hb3 hb23 c0 hsa hwwa HM HV1
 have hsb : w3.heap.size < wb.heap.size := by rw [hwb]; simp
 have k0 : wb.cell? ⟨w3.heap.size, 0, none⟩ = some (.slice sa N sc) := by rw [hwb]; exact World.cell?_alloc_at _ _ _ _ rfl
 have k1 : wb.cell? ⟨w3.heap.size, 1, none⟩ = some (.slice ra N rr) := by rw [hwb]; exact World.cell?_alloc_at _ _ _ _ rfl
 have c4 := (hbb.cell (by exact hs3)).trans c3
 have hs4 := Nat.lt_of_lt_of_le hs3 hbb.size
 have Hp4 : Hid (_) := hp3.below hbb
 have Hl4 : Hid (_) := hl3.below hbb
 have hww4 := hww3.trans (hbb.mono hww3.size)
 obtain ⟨C, hC⟩ : ∃ C, C = w3.heap.size := ⟨_, rfl⟩
 rw [<- hC] at hsb k0 k1
 go_upto_region 5 with fail
 rw [<- hwb, <- hC]
 clear hwb hC hbb hp3 hl3 c3 hs3 hww3
 go_wp2_with fail
 go_loopw [6] (fun iv wr => RcRel N wb iv wr) (fun iv _ => N - (intOf iv).toNat)
 case atStart => exact ⟨0, Nat.zero_le _, rfl, Below.refl _ _⟩
 case round =>
  obtain ⟨i, hi, rfl, hbr⟩ := hrel
  have cR := (hbr.cell (by exact hs4)).trans c4
  have hwr := hww4.trans (hbr.mono hww4.size)
  by_cases hlt : i < N
  ·obtain ⟨L, hL3, hLm, hA0, hB0⟩ := rc_both Hroom.out hids.out hlt
   have HLm : Hid (∀ s, s ∈ L ↔ Chn E N (fun _ => (E i).id) 1 s) := hLm
   have HVr : Hid (SlV wr (some ⟨rb, 0, none⟩) N rc E) := HV.out.below hbr
   have hrlt : rb < wr.heap.size ∧ ∀ j, j < N -> wr.cell? ⟨rb, j * 10, none⟩ = some (.string (E j).id) := by
    rcases HVr.out.ids with h0 | ⟨b, off, e, hlt', hc⟩
    ·omega
    ·injection e with e; injection e with e1 e2 _
     subst e1 e2
     exact ⟨hlt', fun j hj => by have := hc j hj; rw [Nat.zero_add] at this; exact this⟩
   have Hsz : Hid ((E i).id.size <= maxLen) := hids.out i hlt
   obtain ⟨hrb, hrc⟩ := hrlt
   have cI := hrc i hlt
   have Hrc : Hid (∀ j, j < N -> wr.cell? ⟨rb, j * 10, none⟩ = some (.string (E j).id)) := hrc
   have hsR := Nat.lt_of_lt_of_le hs4 hbr.size
   obtain ⟨s, hs⟩ : ∃ s, s = (E i).id := ⟨_, rfl⟩
   rw [<- hs] at cI Hsz
   have HA : Hid (∀ W ia, Below wr.heap.size wr W -> SlS W ia 1 1 (fun _ => s) -> Calls Tryz.prog 8 #[.agg #[.slice (some ⟨rb, 0, none⟩) N rc], .slice ia (1 : Nat) 1] W (RcPost L W)) := fun W ia hW hs1 => hA0 W _ _ _ _ (HVr.out.below hW) (by rw [<- hs]; exact hs1)
   have HB : Hid (∀ W a' cap' ia, SlV W a' N cap' E -> SlS W ia 1 1 (fun _ => s) -> Calls Tryz.prog 9 #[.agg #[.slice a' N cap'], .slice ia (1 : Nat) 1] W (RcPost L W)) := fun W a' cap' ia hW hs1 => hB0 W a' cap' ia 1 hW (by rw [<- hs]; exact hs1)
   have Hs : Hid (s = (E i).id) := hs
   have hrf : Below wr.heap.size wr wr := Below.refl _ _
   have HSf : Hid (∀ W, Below wr.heap.size wr W -> W.cell? ⟨B, 0, none⟩ = some (.slice (some ⟨rb, 0, none⟩) N rc) ∧ W.cell? ⟨rb, i * 10, none⟩ = some (.string s)) := fun W hW => ⟨(hW.cell (by exact hsR)).trans cR, (hW.cell (by exact hrb)).trans cI⟩
   have z1 : (0 : Int) <= (i : Int) := by omega
   have z2 : (i : Int) < (N : Int) := by omega
   clear hLm hA0 hB0 hs hrc
   go_wp2_with fail
   go_cut [7, 8] from 25 to 89 (fun v7 v8 wx => ∃ ma mc, v7 = .slice ma L.length mc ∧ v8 = .int .i64 0 ∧ Hid (SlS wx ma L.length mc (getL L)) ∧ Below wr.heap.size wr wx)
   case first =>
    refine wp_region_held_drew (S := fun W => W.cell? ⟨B, 0, none⟩ = some (.slice (some ⟨rb, 0, none⟩) N rc) ∧ W.cell? ⟨rb, i * 10, none⟩ = some (.string s)) (by kernel_rfl) ?_ (fun hHeld => ?_)
    ·(try dsimp only); exact HSf.out _ (by first | with_reducible exact hrf | with_reducible exact hrf.drew | with_reducible exact hrf.drew.drew | with_reducible exact hrf.drew.drew.drew)
    refine tk 0 ?vm1 rfl (Or.inl ⟨by rfl, ?hm1⟩) ?_
    case hm1 => (intro w h; (try dsimp only at h); go_simp; try (with_reducible rfl))
    simp only [Act.put, si]
    refine tk 1 ?vm2 rfl (Or.inl ⟨by rfl, ?hm2⟩) ?_
    case hm2 => (intro w h; (try dsimp only at h); go_simp; try (with_reducible rfl))
    simp only [Act.put, si]
    refine tk 2 ?vm3 rfl (Or.inl ⟨by rfl, ?hm3⟩) ?_
    case hm3 => (intro w h; (try dsimp only at h); go_simp; try (with_reducible rfl))
    simp only [Act.put, si]
    refine tk 3 ?vm4 rfl (Or.inl ⟨by rfl, ?hm4⟩) ?_
    case hm4 => (intro w h; (try dsimp only at h); go_simp; try (with_reducible rfl))
    simp only [Act.put, si]
    refine tk 4 ?vm5 rfl (Or.inl ⟨by rfl, ?hm5⟩) ?_
    case hm5 => (intro w h; (try dsimp only at h); go_simp; try (with_reducible rfl))
    simp only [Act.put, si]
    refine tk 5 ?vm6 rfl (Or.inl ⟨by rfl, ?hm6⟩) ?_
    case hm6 => (intro w h; (try dsimp only at h); go_simp; try (with_reducible rfl))
    simp only [Act.put, si]
    refine tk 6 ?vm7 rfl (Or.inl ⟨by rfl, ?hm7⟩) ?_
    case hm7 => (intro w h; (try dsimp only at h); go_simp; try (with_reducible rfl))
    simp only [Act.put, si]
    refine wpAnyH_ready (rs := [7]) (by kernel_rfl) (by simp) ?_
    refine AllReadyH.cons rfl (fun K hK => ?_) AllReadyH.nil
    go_simp
    refine hK.out _ _ ?_ (fun hHeld => ?_)
    ·(try dsimp only); exact HSf.out _ (by first | exact hrf.alloc hrf.size _ | exact (hrf.alloc hrf.size _).drew | exact hrf.drew.alloc hrf.size _ | exact (hrf.drew.alloc hrf.size _).drew)
    clear hK K
    try simp only [Act.put, si]
    refine wpAnyH_ready (rs := [8]) (by kernel_rfl) (by simp) ?_
    refine AllReadyH.cons rfl (fun K hK => ?_) AllReadyH.nil
    go_simp
    go_at_call 8
    refine (HA.out _ _ (by first | exact hrf.alloc hrf.size _ | exact (hrf.alloc hrf.size _).drew | exact hrf.drew.alloc hrf.size _ | exact (hrf.drew.alloc hrf.size _).drew) (one_str _ Hsz.out (by first | with_reducible exact Below.refl _ _ | with_reducible exact (Below.refl _ _).drew | with_reducible exact (Below.refl _ _).drew.drew))).mono ?_
    rintro e w5 ⟨ma, mc, rfl, hm5, hb5'⟩
    have hb5 : Below wr.heap.size wr w5 := Below.trans (by first | exact hrf.alloc hrf.size _ | exact (hrf.alloc hrf.size _).drew | exact hrf.drew.alloc hrf.size _ | exact (hrf.drew.alloc hrf.size _).drew) (hb5'.mono (by simp))
    clear hb5' HA
    try dsimp only
    refine hK.out _ _ ?_ (fun hHeld => ?_)
    ·(try dsimp only); exact HSf.out _ (by first | with_reducible exact hb5 | with_reducible exact hb5.drew | with_reducible exact hb5.drew.drew | with_reducible exact hb5.drew.drew.drew)
    clear hK K
    try simp only [Act.put, si]
    refine tk 9 ?vm8 rfl (Or.inl ⟨by rfl, ?hm8⟩) ?_
    case hm8 => (intro w h; (try dsimp only at h); go_simp; try (with_reducible rfl))
    simp only [Act.put, si]
    refine tk 10 ?vm9 rfl (Or.inl ⟨by rfl, ?hm9⟩) ?_
    case hm9 => (intro w h; (try dsimp only at h); go_simp; try (with_reducible rfl))
    simp only [Act.put, si]
    refine tk 11 ?vm10 rfl (Or.inl ⟨by rfl, ?hm10⟩) ?_
    case hm10 => (intro w h; (try dsimp only at h); go_simp; try (with_reducible rfl))
    simp only [Act.put, si]
    refine tk 12 ?vm11 rfl (Or.inl ⟨by rfl, ?hm11⟩) ?_
    case hm11 => (intro w h; (try dsimp only at h); go_simp; try (with_reducible rfl))
    simp only [Act.put, si]
    refine tk 13 ?vm12 rfl (Or.inl ⟨by rfl, ?hm12⟩) ?_
    case hm12 => (intro w h; (try dsimp only at h); go_simp; try (with_reducible rfl))
    simp only [Act.put, si]
    refine wpAnyH_done (by kernel_rfl) ?_ _
    go_wp2_with fail
    go_meet
    exact ⟨ma, mc, rfl, rfl, hm5.below (by first | with_reducible exact Below.refl _ _ | with_reducible exact (Below.refl _ _).drew), by first | with_reducible exact hb5 | with_reducible exact hb5.drew⟩
   case rest =>
    obtain ⟨ma, mc, rfl, rfl, Hm, hbc⟩ := hcut
    obtain ⟨wq, hwqe⟩ : ∃ wq : World, wq = wc := ⟨_, rfl⟩
    subst hwqe
    have hrg : Below wq.heap.size wq wq := Below.refl _ _
    have hwg := hwr.trans (hbc.mono hwr.size)
    have HSg : Hid (∀ W, Below wq.heap.size wq W -> W.cell? ⟨B, 0, none⟩ = some (.slice (some ⟨rb, 0, none⟩) N rc) ∧ W.cell? ⟨rb, i * 10, none⟩ = some (.string s)) := fun W hW => HSf.out W (hbc.trans (hW.mono hbc.size))
    have cRc := (HSg.out wq hrg).1
    have cIc := (HSg.out wq hrg).2
    clear HSf cR cI HA hrf
    go_wp2_with fail
    go_cut [9, 10] from 25 to 89 (fun v9 v10 wx => ∃ ca cc, v9 = .slice ca L.length cc ∧ v10 = .int .i64 0 ∧ Hid (SlS wx ca L.length cc (getL L)) ∧ Below wq.heap.size wq wx)
    case first =>
     refine wp_region_held_drew (S := fun W => W.cell? ⟨B, 0, none⟩ = some (.slice (some ⟨rb, 0, none⟩) N rc) ∧ W.cell? ⟨rb, i * 10, none⟩ = some (.string s)) (by kernel_rfl) ?_ (fun hHeld => ?_)
     ·(try dsimp only); exact HSg.out _ (by first | with_reducible exact hrg | with_reducible exact hrg.drew | with_reducible exact hrg.drew.drew | with_reducible exact hrg.drew.drew.drew)
     refine tk 0 ?vm13 rfl (Or.inl ⟨by rfl, ?hm13⟩) ?_
     case hm13 => (intro w h; (try dsimp only at h); go_simp; try (with_reducible rfl))
     simp only [Act.put, si]
     refine tk 2 ?vm14 rfl (Or.inl ⟨by rfl, ?hm14⟩) ?_
     case hm14 => (intro w h; (try dsimp only at h); go_simp; try (with_reducible rfl))
     simp only [Act.put, si]
     refine tk 3 ?vm15 rfl (Or.inl ⟨by rfl, ?hm15⟩) ?_
     case hm15 => (intro w h; (try dsimp only at h); go_simp; try (with_reducible rfl))
     simp only [Act.put, si]
     refine tk 4 ?vm16 rfl (Or.inl ⟨by rfl, ?hm16⟩) ?_
     case hm16 => (intro w h; (try dsimp only at h); go_simp; try (with_reducible rfl))
     simp only [Act.put, si]
     refine tk 5 ?vm17 rfl (Or.inl ⟨by rfl, ?hm17⟩) ?_
     case hm17 => (intro w h; (try dsimp only at h); go_simp; try (with_reducible rfl))
     simp only [Act.put, si]
     refine tk 6 ?vm18 rfl (Or.inl ⟨by rfl, ?hm18⟩) ?_
     case hm18 => (intro w h; (try dsimp only at h); go_simp; try (with_reducible rfl))
     simp only [Act.put, si]
     refine tk 7 ?vm19 rfl (Or.inl ⟨by rfl, ?hm19⟩) ?_
     case hm19 => (intro w h; (try dsimp only at h); go_simp; try (with_reducible rfl))
     simp only [Act.put, si]
     refine wpAnyH_ready (rs := [1, 8]) (by kernel_rfl) (by simp) ?_
     refine AllReadyH.cons rfl (fun K hK => ?_) (AllReadyH.cons rfl (fun K hK => ?_) AllReadyH.nil)
     ·go_simp
      go_at_call 5
      refine (HS.out _ (by first | with_reducible exact hwg | with_reducible exact hwg.drew | with_reducible exact hwg.drew.drew | with_reducible exact hwg.drew.drew.drew)).mono ?_
      rintro e w7 ⟨rb7, rc7, rfl, hs7, _, hb7'⟩
      have hb7 : Below wq.heap.size wq w7 := Below.trans (by first | with_reducible exact hrg | with_reducible exact hrg.drew | with_reducible exact hrg.drew.drew | with_reducible exact hrg.drew.drew.drew) hb7'
      clear hb7'
      try dsimp only
      refine hK.out _ _ ?_ (fun hHeld => ?_)
      ·(try dsimp only); exact HSg.out _ (by first | with_reducible exact hb7 | with_reducible exact hb7.drew | with_reducible exact hb7.drew.drew | with_reducible exact hb7.drew.drew.drew)
      clear hK K
      try simp only [Act.put, si]
      refine wpAnyH_ready (rs := [8]) (by kernel_rfl) (by simp) ?_
      refine AllReadyH.cons rfl (fun K hK => ?_) AllReadyH.nil
      go_simp
      refine hK.out _ _ ?_ (fun hHeld => ?_)
      ·(try dsimp only); exact HSg.out _ (by first | exact hb7.alloc hb7.size _ | exact (hb7.alloc hb7.size _).drew | exact hb7.drew.alloc hb7.size _ | exact (hb7.drew.alloc hb7.size _).drew)
      clear hK K
      try simp only [Act.put, si]
      refine wpAnyH_ready (rs := [9]) (by kernel_rfl) (by simp) ?_
      refine AllReadyH.cons rfl (fun K hK => ?_) AllReadyH.nil
      go_simp
      go_at_call 9
      refine (HB.out _ _ _ _ (hs7.below (by first | exact (Below.refl w7.heap.size w7).alloc (Below.refl w7.heap.size w7).size _ | exact ((Below.refl w7.heap.size w7).alloc (Below.refl w7.heap.size w7).size _).drew | exact (Below.refl w7.heap.size w7).drew.alloc (Below.refl w7.heap.size w7).size _ | exact ((Below.refl w7.heap.size w7).drew.alloc (Below.refl w7.heap.size w7).size _).drew)) (one_str _ Hsz.out (by first | with_reducible exact Below.refl _ _ | with_reducible exact (Below.refl _ _).drew | with_reducible exact (Below.refl _ _).drew.drew))).mono ?_
      rintro e w9 ⟨ca, cc, rfl, hc9, hb9'⟩
      have hb9 : Below wq.heap.size wq w9 := Below.trans (by first | exact hb7.alloc hb7.size _ | exact (hb7.alloc hb7.size _).drew | exact hb7.drew.alloc hb7.size _ | exact (hb7.drew.alloc hb7.size _).drew) (hb9'.mono (Nat.le_trans hb7.size (by simp)))
      clear hb9'
      try dsimp only
      refine hK.out _ _ ?_ (fun hHeld => ?_)
      ·(try dsimp only); exact HSg.out _ (by first | with_reducible exact hb9 | with_reducible exact hb9.drew | with_reducible exact hb9.drew.drew | with_reducible exact hb9.drew.drew.drew)
      clear hK K
      try simp only [Act.put, si]
      refine tk 10 ?vm20 rfl (Or.inl ⟨by rfl, ?hm20⟩) ?_
      case hm20 => (intro w h; (try dsimp only at h); go_simp; try (with_reducible rfl))
      simp only [Act.put, si]
      refine tk 11 ?vm21 rfl (Or.inl ⟨by rfl, ?hm21⟩) ?_
      case hm21 => (intro w h; (try dsimp only at h); go_simp; try (with_reducible rfl))
      simp only [Act.put, si]
      refine tk 12 ?vm22 rfl (Or.inl ⟨by rfl, ?hm22⟩) ?_
      case hm22 => (intro w h; (try dsimp only at h); go_simp; try (with_reducible rfl))
      simp only [Act.put, si]
      refine tk 13 ?vm23 rfl (Or.inl ⟨by rfl, ?hm23⟩) ?_
      case hm23 => (intro w h; (try dsimp only at h); go_simp; try (with_reducible rfl))
      simp only [Act.put, si]
      refine tk 14 ?vm24 rfl (Or.inl ⟨by rfl, ?hm24⟩) ?_
      case hm24 => (intro w h; (try dsimp only at h); go_simp; try (with_reducible rfl))
      simp only [Act.put, si]
      refine wpAnyH_done (by kernel_rfl) ?_ _
      go_wp2_with fail
      go_meet
      exact ⟨ca, cc, rfl, rfl, hc9.below (by first | with_reducible exact Below.refl _ _ | with_reducible exact (Below.refl _ _).drew | with_reducible exact (Below.refl _ _).drew.drew), by first | with_reducible exact hb9 | with_reducible exact hb9.drew⟩
     ·go_simp
      refine hK.out _ _ ?_ (fun hHeld => ?_)
      ·(try dsimp only); exact HSg.out _ (by first | exact hrg.alloc hrg.size _ | exact (hrg.alloc hrg.size _).drew | exact hrg.drew.alloc hrg.size _ | exact (hrg.drew.alloc hrg.size _).drew)
      clear hK K
      try simp only [Act.put, si]
      refine wpAnyH_ready (rs := [1]) (by kernel_rfl) (by simp) ?_
      refine AllReadyH.cons rfl (fun K hK => ?_) AllReadyH.nil
      go_simp
      go_at_call 5
      refine (HS.out _ (by first | exact hwg.alloc hwg.size _ | exact (hwg.alloc hwg.size _).drew | exact hwg.drew.alloc hwg.size _ | exact (hwg.drew.alloc hwg.size _).drew)).mono ?_
      rintro e w7 ⟨rb7, rc7, rfl, hs7, _, hb7'⟩
      have hone : SlS w7 (some ⟨wq.heap.size, 0, none⟩) 1 1 (fun _ => s) := one_str _ Hsz.out (by first | exact hb7' | exact Below.trans (Below.refl _ _).drew hb7')
      have hb7 : Below wq.heap.size wq w7 := Below.trans (by first | exact hrg.alloc hrg.size _ | exact (hrg.alloc hrg.size _).drew | exact hrg.drew.alloc hrg.size _ | exact (hrg.drew.alloc hrg.size _).drew) (hb7'.mono (by simp))
      clear hb7'
      try dsimp only
      refine hK.out _ _ ?_ (fun hHeld => ?_)
      ·(try dsimp only); exact HSg.out _ (by first | with_reducible exact hb7 | with_reducible exact hb7.drew | with_reducible exact hb7.drew.drew | with_reducible exact hb7.drew.drew.drew)
      clear hK K
      try simp only [Act.put, si]
      refine wpAnyH_ready (rs := [9]) (by kernel_rfl) (by simp) ?_
      refine AllReadyH.cons rfl (fun K hK => ?_) AllReadyH.nil
      go_simp
      go_at_call 9
      refine (HB.out _ _ _ _ (hs7.below (by first | with_reducible exact Below.refl _ _ | with_reducible exact (Below.refl _ _).drew | with_reducible exact (Below.refl _ _).drew.drew)) (hone.below (by first | with_reducible exact Below.refl _ _ | with_reducible exact (Below.refl _ _).drew | with_reducible exact (Below.refl _ _).drew.drew))).mono ?_
      rintro e w9 ⟨ca, cc, rfl, hc9, hb9'⟩
      have hb9 : Below wq.heap.size wq w9 := Below.trans (by first | with_reducible exact hb7 | with_reducible exact hb7.drew | with_reducible exact hb7.drew.drew | with_reducible exact hb7.drew.drew.drew) (hb9'.mono hb7.size)
      clear hb9'
      try dsimp only
      refine hK.out _ _ ?_ (fun hHeld => ?_)
      ·(try dsimp only); exact HSg.out _ (by first | with_reducible exact hb9 | with_reducible exact hb9.drew | with_reducible exact hb9.drew.drew | with_reducible exact hb9.drew.drew.drew)
      clear hK K
      try simp only [Act.put, si]
      refine tk 10 ?vm25 rfl (Or.inl ⟨by rfl, ?hm25⟩) ?_
      case hm25 => (intro w h; (try dsimp only at h); go_simp; try (with_reducible rfl))
      simp only [Act.put, si]
      refine tk 11 ?vm26 rfl (Or.inl ⟨by rfl, ?hm26⟩) ?_
      case hm26 => (intro w h; (try dsimp only at h); go_simp; try (with_reducible rfl))
      simp only [Act.put, si]
      refine tk 12 ?vm27 rfl (Or.inl ⟨by rfl, ?hm27⟩) ?_
      case hm27 => (intro w h; (try dsimp only at h); go_simp; try (with_reducible rfl))
      simp only [Act.put, si]
      refine tk 13 ?vm28 rfl (Or.inl ⟨by rfl, ?hm28⟩) ?_
      case hm28 => (intro w h; (try dsimp only at h); go_simp; try (with_reducible rfl))
      simp only [Act.put, si]
      refine tk 14 ?vm29 rfl (Or.inl ⟨by rfl, ?hm29⟩) ?_
      case hm29 => (intro w h; (try dsimp only at h); go_simp; try (with_reducible rfl))
      simp only [Act.put, si]
      refine wpAnyH_done (by kernel_rfl) ?_ _
      go_wp2_with fail
      go_meet
      exact ⟨ca, cc, rfl, rfl, hc9.below (by first | with_reducible exact Below.refl _ _ | with_reducible exact (Below.refl _ _).drew | with_reducible exact (Below.refl _ _).drew.drew), by first | with_reducible exact hb9 | with_reducible exact hb9.drew⟩
    case rest =>
     obtain ⟨ca, cc, rfl, rfl, Hc, hbd⟩ := hcut
     obtain ⟨wd, hwde⟩ : ∃ wd : World, wd = wc := ⟨_, rfl⟩
     subst hwde
     have Hm2 : Hid (SlS wd ma L.length mc (getL L)) := Hm.out.below hbd
     have hbqd := hbc.trans (hbd.mono hbc.size)
     have hbwd := hbr.trans (hbqd.mono hbr.size)
     have hwwd := hwg.trans (hbd.mono hwg.size)
     have Hrc2 : Hid (∀ j, j < N -> wd.cell? ⟨rb, j * 10, none⟩ = some (.string (E j).id)) := fun j hj => (hbqd.cell (by exact hrb)).trans (Hrc.out j hj)
     have hrbd := Nat.lt_of_lt_of_le hrb hbqd.size
     have hsRd := Nat.lt_of_lt_of_le hsR hbqd.size
     have cRd := (hbd.cell (by exact Nat.lt_of_lt_of_le hsR hbc.size)).trans cRc
     have hsbd := Nat.lt_of_lt_of_le hsb hbwd.size
     have kd0 := (hbwd.cell (by exact hsb)).trans k0
     have kd1 := (hbwd.cell (by exact hsb)).trans k1
     have Hp5 : Hid (_) := Hp4.out.below hbwd
     have Hl5 : Hid (_) := Hl4.out.below hbwd
     clear Hm HB Hrc HSg cRc cIc hrg hwg hbc hbr hwr hsR hrb hbqd HVr Hsz
     obtain ⟨wo, hwo⟩ : ∃ wo : World, wo = wr := ⟨_, rfl⟩
     subst hwo
     go_wp2_with fail
     refine (lwE_sl _ Hc.out Hm2.out).mono ?_
     rintro e w11 ⟨rfl, hdr⟩
     have hb11 : Below wd.heap.size wd w11 := (Below.refl _ _).trans (hdr.below _)
     have Hm3 : Hid (SlS w11 ma L.length mc (getL L)) := Hm2.out.below hb11
     have Hrc3 : Hid (∀ j, j < N -> w11.cell? ⟨rb, j * 10, none⟩ = some (.string (E j).id)) := fun j hj => (hb11.cell (by exact hrbd)).trans (Hrc2.out j hj)
     have hrb3 := Nat.lt_of_lt_of_le hrbd hb11.size
     have hsR3 := Nat.lt_of_lt_of_le hsRd hb11.size
     have cR3 := (hb11.cell (by exact hsRd)).trans cRd
     have hsb3 := Nat.lt_of_lt_of_le hsbd hb11.size
     have kk0 := (hb11.cell (by exact hsbd)).trans kd0
     have kk1 := (hb11.cell (by exact hsbd)).trans kd1
     have Hp6 : Hid (_) := Hp5.out.below hb11
     have Hl6 : Hid (_) := Hl5.out.below hb11
     have hbw11 := hbwd.trans (hb11.mono hbwd.size)
     clear hdr Hm2 Hrc2 Hc cRd kd0 kd1 Hp5 Hl5 hsbd hrbd hsRd hb11 hbwd hwwd
     go_wp2_with fail
     go_loopw [11] (fun iv wr => RcRel N w11 iv wr) (fun iv _ => N - (intOf iv).toNat)
     case atStart => exact ⟨0, Nat.zero_le _, rfl, Below.refl _ _⟩
     case round =>
      obtain ⟨j, hj, rfl, hbj⟩ := hrel
      have dR := (hbj.cell (by exact hsR3)).trans cR3
      by_cases hltj : j < N
      ·have d0 := (hbj.cell (by exact hsb3)).trans kk0
       have d1 := (hbj.cell (by exact hsb3)).trans kk1
       have dI := (hbj.cell (by exact hrb3)).trans (Hrc3.out j hltj)
       have hrbj := Nat.lt_of_lt_of_le hrb3 hbj.size
       have hsRj := Nat.lt_of_lt_of_le hsR3 hbj.size
       have hv : reachB N (spC (mcF E N)) (spQ (mcF E N)) N (mcR E N) (mcX E N) (i : Int) (j : Int) = (decide (i = j) || hasB (getL L) L.length (E j).id) := by
        rw [Bool.eq_iff_iff, Bool.or_eq_true, decide_eq_true_eq, hasL, HLm.out]
        exact reach_room Hroom.out hlt hltj
       have HRc : Hid (Calls Tryz.prog 11 #[.agg #[.slice sa N sc, .slice ra N rr], .int .i64 (i : Int), .int .i64 (j : Int)] wr fun e w' => e = .returned (.bool (decide (i = j) || hasB (getL L) L.length (E j).id)) ∧ Below wr.heap.size wr w') := by
        unfold Hid
        rw [<- hv]
        exact rchI_any sa N sc ra N rr _ _ _ _ _ _ wr (Hp6.out.below hbj) (Hl6.out.below hbj)
       have HHs : Hid (∀ W, Below wr.heap.size wr W -> Calls Tryz.prog 12 #[.slice ma L.length mc, .string (E j).id] W fun e w' => e = .returned (.bool (hasB (getL L) L.length (E j).id)) ∧ w' = W) := fun W hW => lwH_sl _ W ((Hm3.out.below hbj).below hW)
       have z3 : (0 : Int) <= (j : Int) := by omega
       have z4 : (j : Int) < (N : Int) := by omega
       clear hv
       generalize hasB (getL L) L.length (E j).id = q at *
       generalize (E j).id = t at *
       by_cases hij : i = j
       ·have hq : (decide (i = j) || q) = true := by rw [decide_eq_true hij]; rfl
        rw [hq] at HRc
        subst hij
        clear hq
        go_wp2_with fail
        refine HRc.out.mono ?_
        rintro e w12 ⟨rfl, hb12⟩
        have hfin := hbj.trans (hb12.mono hbj.size)
        go_wp2_with fail
        go_roundw
        case rel => first | exact ⟨i + 1, by omega, by go_num, hfin⟩ | ((repeat apply Exists.intro); exact ⟨⟨i + 1, by omega, by go_num, hfin⟩, rfl⟩)
        case measure => simp [intOf]; omega
       ·have hq : (decide (i = j) || q) = q := by rw [decide_eq_false hij]; rfl
        have hiz2 : ¬ ((i : Int) = (j : Int)) := by omega
        rw [hq] at HRc
        clear hq
        go_wp2_with fail
        refine HRc.out.mono ?_
        rintro e w12 ⟨rfl, hb12⟩
        have hfin := hbj.trans (hb12.mono hbj.size)
        have dR2 := (hb12.cell (by exact hsRj)).trans dR
        have dI2 := (hb12.cell (by exact hrbj)).trans dI
        clear dR dI d0 d1
        go_wp2_with fail
        refine (HHs.out _ hb12).mono ?_
        rintro e w13 ⟨rfl, rfl⟩
        clear HHs HRc
        cases q
        all_goals
         go_wp2_with fail
         go_roundw
         case rel => first | exact ⟨j + 1, by omega, by go_num, hfin⟩ | ((repeat apply Exists.intro); exact ⟨⟨j + 1, by omega, by go_num, hfin⟩, rfl⟩)
         case measure => simp [intOf]; omega
      ·have hfin := hbw11.trans (hbj.mono hbw11.size)
       go_wp2_with fail
       go_roundw
       case rel => first | exact ⟨i + 1, by omega, by go_num, hfin⟩ | ((repeat apply Exists.intro); exact ⟨⟨i + 1, by omega, by go_num, hfin⟩, rfl⟩)
       case measure => simp [intOf]; omega
  ·go_wp2_with fail
   go_ret
   exact ⟨rfl, hwr⟩
def BytesIn (w : World) (a : Option Addr) (n : Nat) : Prop :=
 n = 0 ∨ ∃ b off, a = some ⟨b, off, none⟩ ∧ b < w.heap.size ∧ ∀ i, i < n -> ∃ x : Nat, x < 256 ∧ w.cell? ⟨b, off + i, none⟩ = some (.int .u8 (x : Int))
end Go.Proofs.YtpmebojkkjlkgaaGreat
namespace Go.Proofs.YtpmebojkkjlkgaaGreat
open Go.ChangeShapes Go.WideShapes Go.ChangeAt Go.RowKit Go.Deep
theorem Tryz.cellsU8 : Tryz.prog.cellsOf 5 = 1 := by kernel_rfl
theorem in_bytes {H : Type} {enc : TypeId × Value -> H} {W : World} {fuel : Nat} {cs : List Value} {x : DataW H × List MemPlace} (h : DataW.trod enc Tryz.prog W 0 (fun _ => true) true fuel 22 cs = some x)
  (hlt : ∀ q ∈ x.2, q.block < W.heap.size) : ∃ a n cap, cs = [.slice a n cap] ∧ n <= cap ∧ cap <= maxLen ∧ BytesIn W a n := by
 rcases open_slice1 Tryz.underlying22 Tryz.cellsU8 h with ⟨rfl, rfl⟩ | ⟨a, len, cap, m, n, V, D, Pl, rfl, _, hl, hm, hmm, rfl, hx⟩
 ·exact ⟨none, 0, 0, rfl, Nat.le_refl _, by decide, Or.inl rfl⟩
 ·simp only [if_true] at hmm
  subst hmm
  refine ⟨some a, len, m, rfl, hl, hm, ?_⟩
  by_cases h0 : len = 0
  ·exact Or.inl h0
  ·right
   obtain ⟨b, off, spot⟩ := a
   have hspot : spot = none := by simpa [Addr.add] using World.cell?_spot (hx 0 (by omega)).1
   subst hspot
   refine ⟨b, off, rfl, hlt (.cell b off) (List.mem_append_left _ (MemPlace.mem_row.2 ⟨0, by omega, by simp⟩)), fun i hi => ?_⟩
   obtain ⟨q1, q2⟩ := hx i (by omega)
   obtain ⟨z, e1, _, hwf⟩ := DataW.trod_int Tryz.underlying5 q2
   simp only [List.cons.injEq, and_true] at e1
   rw [e1] at q1
   simp only [Lit.wf, Bool.and_eq_true, decide_eq_true_eq] at hwf
   have hz0 : (0 : Int) <= z := hwf.1
   have hz1 : z <= 255 := hwf.2
   refine ⟨z.toNat, by omega, ?_⟩
   rw [Int.toNat_of_nonneg hz0, <- add_plain]
   exact q1
end Go.Proofs.YtpmebojkkjlkgaaGreat
namespace Go.Proofs.YtpmebojkkjlkgaaGreat
open Go.RowKit
theorem bytes_choose {W : World} {a : Option Addr} {n : Nat} (h : BytesIn W a n) : ∃ bs : Nat -> Nat, BytesV W a n bs ∧ ∀ i, i < n -> bs i < 256 := by
 rcases h with h0 | ⟨b, off, e, hb, hx⟩
 ·exact ⟨fun _ => 0, Or.inl h0, fun _ _ => by show (0 : Nat) < 256; decide⟩
 ·refine ⟨fun i => if hi : i < n then Classical.choose (hx i hi) else 0, Or.inr ⟨b, off, e, hb, fun i hi => ?_⟩, fun i hi => ?_⟩
  ·dsimp only
   rw [dif_pos hi]
   exact (Classical.choose_spec (hx i hi)).2
  ·dsimp only
   rw [dif_pos hi]
   exact (Classical.choose_spec (hx i hi)).1
end Go.Proofs.YtpmebojkkjlkgaaGreat
