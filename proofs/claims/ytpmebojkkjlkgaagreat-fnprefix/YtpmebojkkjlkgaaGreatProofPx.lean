import Derived.Test.YtpmebojkkjlkgaaGreatRows
import Derived.Test.YtpmebojkkjlkgaaGreatMcI
import Derived.Test.YtpmebojkkjlkgaaGreatDmSZ
import Derived.ProofKit
import Derived.SizedLaws
import Derived.Deep.Strs
namespace Go.Proofs.YtpmebojkkjlkgaaGreat
open Go.RowKit
theorem SlP.congr {w : World} {a : Option Addr} {n cap : Nat} {C Q C' Q' : Nat -> Int} (h : SlP w a n cap C Q) (h1 : ∀ i, i < n -> C i = C' i) (h2 : ∀ i, i < n -> Q i = Q' i) : SlP w a n cap C' Q' :=
 ⟨h.le, h.max, h.cells.imp id fun ⟨b, off, e, hlt, hc, hl⟩ => ⟨b, off, e, hlt, fun i hi => by rw [<- h1 i hi]; exact hc i hi, fun i hi => by rw [<- h2 i hi]; exact hl i hi⟩⟩
theorem SlL.congr {w : World} {a : Option Addr} {n cap : Nat} {rn rn' : Nat -> Nat} {X X' : Nat -> Nat -> Int} (h : SlL w a n cap rn X) (h1 : ∀ i, i < n -> rn i = rn' i) (h2 : ∀ i, i < n -> X i = X' i) : SlL w a n cap rn' X' :=
 ⟨h.le, h.max, h.cells.imp id fun ⟨b, off, e, hlt, hc⟩ => ⟨b, off, e, hlt, fun i hi => by rw [<- h1 i hi, <- h2 i hi]; exact hc i hi⟩⟩
def CvPost (E : Nat -> Ev) (n m : Nat) (w : World) (x : Ending) (w' : World) : Prop :=
 ∃ sa sc ra rc, x = .returned (.tuple #[.agg #[.slice sa n sc, .slice ra n rc], .bool true]) ∧ SlP w' sa n sc (spC (mcF E m)) (spQ (mcF E m)) ∧ SlL w' ra n rc (mcR E m) (mcX E m) ∧ Below w.heap.size w w'
theorem cover_pre {E : Nat -> Ev} {n m cap : Nat} {a : Option Addr} (w : World) (h : roomTo E m = true) (hn : n <= m) (hs : SlV w a n cap E) : Calls Tryz.prog 6 #[.agg #[.slice a n cap]] w (CvPost E n m w) := by
 obtain ⟨h1, h2, h3⟩ := mc_pre h hn
 refine (mcI_sl w hs).mono ?_
 rintro e w' ⟨sv, rv, T, rfl, hcov, hb⟩
 have hc := hcov.out
 rw [h2] at hc
 obtain ⟨sa, sc, e1, hp⟩ := hc.sls
 obtain ⟨ra, rc, e2, hl⟩ := hc.r.sl
 subst e1 e2
 refine ⟨sa, sc, ra, rc, by rw [h1], hp.congr (fun i hi => ?_) (fun i hi => ?_), hl.congr (fun i hi => (h3 i hi).2.1) (fun i hi => funext fun c => (h3 i hi).2.2 c), hb⟩
 ·show ((mcF E n i).c : Int) = ((mcF E m i).c : Int)
  rw [(h3 i hi).1]
 ·show ((mcF E n i).q : Int) = ((mcF E m i).q : Int)
  rw [(h3 i hi).1]
set_option maxRecDepth 100000 in
theorem lwRoom_any (a : Option Addr) (n cap : Nat) (w : World) : Calls Tryz.prog 7 #[.slice a n cap] w fun e w' => e = .returned (.agg #[.slice a n cap]) ∧ Below w.heap.size w w' := by
 have hb0 : ∀ o, Below w.heap.size w (w.alloc o) := fun o => (Below.refl _ _).alloc (Nat.le_refl _) _
 have hcf : (w.alloc (.cells #[.slice a n cap] 25)).cell? ⟨w.heap.size, 0, none⟩ = some (.slice a n cap) := World.cell?_alloc_at _ _ _ _ rfl
 go_enter Tryz.func7, Tryz.ntmps7
 go_wp2_with fail
 exact bodyPost_ret (v := .agg #[.slice a n cap]) (by simp [results, Tryz.results7, go_sem, hcf]) rfl ⟨rfl, hb0 _⟩
def PxRel (m : Nat) (w0 : World) (iv : Value) (wr : World) : Prop := ∃ k : Nat, k <= m ∧ iv = .int .i64 (k : Int) ∧ Below w0.heap.size w0 wr
set_option maxRecDepth 100000 in
theorem neSp (c q : Int) (w : World) : Sem.run Tryz.prog (Go.binOp BinOp.neq 35 (.agg #[.int .i64 c, .int .i64 q]) (.agg #[.int .i64 c, .int .i64 q])) w = .ok (Value.bool false) w := by
 have u9 := Tryz.underlying3
 have a9 := Tryz.isAgg3
 have z9 := Tryz.sizeOf3
 have hS : Tryz.prog.underlying 35 = some (.struct (Tryz.prog.fieldsOf 35)) := by kernel_rfl
 have hp : Tryz.prog.stoodInHeld 35 = false := by kernel_rfl
 rw [run_neq_struct, show (10000 : Nat) = 9999 + 1 from rfl, run_equalIn_agg w 9999 35 _ _ hS hp]
 simp only [Program.fieldsOf, Tryz.underlying35]
 go_simp
 try simp
set_option maxRecDepth 100000 in
set_option maxHeartbeats 4000000 in
theorem lawPrefix {a : Option Addr} {n cap : Nat} {bs : Nat -> Nat} (w : World) (hle : n <= cap) (hmax : cap <= maxLen) (h : BytesV w a n bs) (hb1 : ∀ i, i < n -> bs i < 256) :
  Calls Tryz.prog 3 #[.slice a n cap] w fun e w' => e = .returned (.bool true) ∧ Below w.heap.size w w' := by
 have HS : Hid (∀ W, Below w.heap.size w W -> Calls Tryz.prog 5 #[.slice a n cap] W (ArPost (arR bs n).n (arR bs n).E W)) := fun W hW => anyRoom W hle hmax (h.below hW) hb1
 have hnm : (n : Int) <= 9223372036854775807 := by unfold maxLen at hmax; omega
 clear hmax hle h hb1
 generalize (arR bs n).n = N at *
 generalize (arR bs n).E = E at *
 by_cases hbig : 1048576 < n
 ·go_enter Tryz.func3, Tryz.ntmps3
  go_wp2
  go_ret
  exact ⟨rfl, Below.refl _ _⟩
 go_enter Tryz.func3, Tryz.ntmps3
 go_wp2_with fail
 refine (HS.out w (Below.refl _ _)).mono ?_
 rintro e w1 ⟨rb, rc, rfl, hs1, hroom, hw1⟩
 have HM : Hid (∀ W a' cap' k, k <= N -> SlV W a' k cap' E -> Calls Tryz.prog 6 #[.agg #[.slice a' k cap']] W (CvPost E k N W)) := fun W a' cap' k hk hs => cover_pre W hroom hk hs
 have hN : N <= 300 := room_300 hroom
 have hNr := hs1.le
 have hmx := hs1.max
 unfold maxLen at hmx
 clear hs1 hroom
 obtain ⟨wa, hwa⟩ : ∃ wa, wa = w1.alloc (.cells #[.slice (some ⟨rb, 0, none⟩) N rc] 25) := ⟨_, rfl⟩
 have hba : Below w1.heap.size w1 wa := by rw [hwa]; exact (Below.refl _ _).alloc (Nat.le_refl _) _
 have hsa : w1.heap.size < wa.heap.size := by rw [hwa]; simp
 have c0 : wa.cell? ⟨w1.heap.size, 0, none⟩ = some (.slice (some ⟨rb, 0, none⟩) N rc) := by rw [hwa]; exact World.cell?_alloc_at _ _ _ _ rfl
 have hwwa := hw1.trans (hba.mono hw1.size)
 obtain ⟨B, hB⟩ : ∃ B, B = w1.heap.size := ⟨_, rfl⟩
 rw [<- hB] at hsa c0
 go_wp2_with fail
 rw [<- hwa, <- hB]
 clear hwa hba hB hw1
 refine (HS.out _ hwwa).mono ?_
 rintro e w2 ⟨rb2, rc2, rfl, hs2, _, hb2⟩
 go_wp2_with fail
 refine (HM.out _ _ _ _ (Nat.le_refl _) hs2).mono ?_
 rintro e w3 ⟨sa, sc, ra, rr, rfl, hp3, hl3, hb3⟩
 have hb23 := hb2.trans (hb3.mono hb2.size)
 have c3 := (hb23.cell (by exact hsa)).trans c0
 have hs3 := Nat.lt_of_lt_of_le hsa hb23.size
 have hww3 := hwwa.trans (hb23.mono hwwa.size)
 clear hs2 hb2 hb3 hb23 c0 hsa hwwa
 obtain ⟨wb, hwb⟩ : ∃ wb, wb = w3.alloc (.cells #[.slice sa N sc, .slice ra N rr] 30) := ⟨_, rfl⟩
 have hbb : Below w3.heap.size w3 wb := by rw [hwb]; exact (Below.refl _ _).alloc (Nat.le_refl _) _
 have hsb : w3.heap.size < wb.heap.size := by rw [hwb]; simp
 have k0 : wb.cell? ⟨w3.heap.size, 0, none⟩ = some (.slice sa N sc) := by rw [hwb]; exact World.cell?_alloc_at _ _ _ _ rfl
 have k1 : wb.cell? ⟨w3.heap.size, 1, none⟩ = some (.slice ra N rr) := by rw [hwb]; exact World.cell?_alloc_at _ _ _ _ rfl
 have c4 := (hbb.cell (by exact hs3)).trans c3
 have hs4 := Nat.lt_of_lt_of_le hs3 hbb.size
 have hp4 := hp3.below hbb
 have hl4 := hl3.below hbb
 have hww4 := hww3.trans (hbb.mono hww3.size)
 obtain ⟨C, hC⟩ : ∃ C, C = w3.heap.size := ⟨_, rfl⟩
 rw [<- hC] at hsb k0 k1
 go_upto_region 5 with fail
 rw [<- hwb, <- hC]
 clear hwb hC hbb hp3 hl3 c3 hs3 hww3
 go_wp2_with fail
 go_loopw [6] (fun iv wr => PxRel N wb iv wr) (fun iv _ => N - (intOf iv).toNat)
 case atStart => exact ⟨0, Nat.zero_le _, rfl, Below.refl _ _⟩
 case round =>
  obtain ⟨k, hk, rfl, hbr⟩ := hrel
  have cR := (hbr.cell (by exact hs4)).trans c4
  have hwr := hww4.trans (hbr.mono hww4.size)
  by_cases hlt : k < N
  ·have hfd : ∀ W v, (Instr.field 25 (.agg #[v]) 0).run Tryz.prog W = .ok v W := fun _ _ => by kernel_rfl
   go_wp2_with fail
   refine (HS.out _ hwr).mono ?_
   rintro e w5 ⟨rb5, rc5, rfl, hs5, _, hb5⟩
   have hsk := hs5.take (Nat.le_of_lt hlt)
   have hle5 := hs5.le
   have hmx5 := hs5.max
   unfold maxLen at hmx5
   clear hs5
   go_wp2_with fail
   refine (lwRoom_any _ _ _ _).mono ?_
   rintro e w6 ⟨rfl, hb6⟩
   have hsk6 := hsk.below hb6
   have hb56 := hb5.trans (hb6.mono hb5.size)
   clear hsk hb5 hb6
   go_wp2_with fail
   refine (HM.out _ _ _ _ (Nat.le_of_lt hlt) hsk6).mono ?_
   rintro e w7 ⟨sa7, sc7, ra7, rr7, rfl, hp7, hl7, hb7⟩
   have hb57 := hb56.trans (hb7.mono hb56.size)
   have hbr7 := hbr.trans (hb57.mono hbr.size)
   clear hsk6 hb56 hb7 hb57 cR hle5 hmx5
   obtain ⟨wd, hwd⟩ : ∃ wd, wd = w7.alloc (.cells #[.slice sa7 k sc7, .slice ra7 k rr7] 30) := ⟨_, rfl⟩
   have hbd : Below w7.heap.size w7 wd := by rw [hwd]; exact (Below.refl _ _).alloc (Nat.le_refl _) _
   have hsd : w7.heap.size < wd.heap.size := by rw [hwd]; simp
   have p0 : wd.cell? ⟨w7.heap.size, 0, none⟩ = some (.slice sa7 k sc7) := by rw [hwd]; exact World.cell?_alloc_at _ _ _ _ rfl
   have p1 : wd.cell? ⟨w7.heap.size, 1, none⟩ = some (.slice ra7 k rr7) := by rw [hwd]; exact World.cell?_alloc_at _ _ _ _ rfl
   have hp8 := hp7.below hbd
   have hl8 := hl7.below hbd
   have hbr8 := hbr7.trans (hbd.mono hbr7.size)
   have q0 := (hbr8.cell (by exact hsb)).trans k0
   have q1 := (hbr8.cell (by exact hsb)).trans k1
   have hsq := Nat.lt_of_lt_of_le hsb hbr8.size
   have hp9 := hp4.below hbr8
   have hl9 := hl4.below hbr8
   obtain ⟨D, hD⟩ : ∃ D, D = w7.heap.size := ⟨_, rfl⟩
   rw [<- hD] at hsd p0 p1
   obtain ⟨wo, hwo⟩ : ∃ wo : World, wo = wr := ⟨_, rfl⟩
   subst hwo
   go_upto_region 11 with fail
   rw [<- hwd, <- hD]
   clear hwd hD hbd hp7 hl7 hbr7 hbr hwr
   go_wp2_with fail
   go_loopw [9] (fun iv wr => PxRel k wd iv wr) (fun iv _ => k - (intOf iv).toNat)
   case atStart => exact ⟨0, Nat.zero_le _, rfl, Below.refl _ _⟩
   case round =>
    obtain ⟨i, hi, rfl, hbi⟩ := hrel
    by_cases hlti : i < k
    ·have hnS : ∀ c q W, Sem.run Tryz.prog (Go.binOp BinOp.neq 35 (.agg #[.int .i64 c, .int .i64 q]) (.agg #[.int .i64 c, .int .i64 q])) W = .ok (Value.bool false) W := fun c q W => neSp c q W
     have hltN : i < N := Nat.lt_trans hlti hlt
     have a0 := (hbi.cell (by exact hsd)).trans p0
     have a1 := (hbi.cell (by exact hsd)).trans p1
     have b0 := (hbi.cell (by exact hsq)).trans q0
     have b1 := (hbi.cell (by exact hsq)).trans q1
     rcases (hp8.below hbi).cells with h0 | ⟨x1, o1, rfl, hx1, xc1, xq1⟩
     ·omega
     rcases (hp9.below hbi).cells with h0 | ⟨x2, o2, rfl, hx2, xc2, xq2⟩
     ·omega
     rcases (hl8.below hbi).cells with h0 | ⟨x3, o3, rfl, hx3, xr3⟩
     ·omega
     rcases (hl9.below hbi).cells with h0 | ⟨x4, o4, rfl, hx4, xr4⟩
     ·omega
     have f1 := xc1 i hlti
     have f2 := xq1 i hlti
     have f3 := xc2 i hltN
     have f4 := xq2 i hltN
     obtain ⟨r3, s3, f5, hr3⟩ := xr3 i hlti
     obtain ⟨r4, s4, f6, hr4⟩ := xr4 i hltN
     have hrn3 := Nat.le_trans hr3.le hr3.max
     unfold maxLen at hrn3
     clear xc1 xq1 xc2 xq2 xr3 xr4
     generalize spC (mcF E N) i = sc1 at *
     generalize spQ (mcF E N) i = sq1 at *
     generalize mcR E N i = nr at *
     generalize mcX E N i = X at *
     have z1 : (0 : Int) <= (i : Int) := by omega
     have z2 : (i : Int) < (k : Int) := by omega
     have z3 : (i : Int) < (N : Int) := by omega
     go_wp2_with fail
     go_quiet (fail)
     obtain ⟨w9, hw9⟩ : ∃ w9 : World, w9 = wr.drewN nq := ⟨_, rfl⟩
     have hb9 : Below wr.heap.size wr w9 := by rw [hw9]; exact (Below.refl _ _).trans (Dr.below ⟨nq, rfl⟩ _)
     rw [<- hw9]
     clear hw9
     have hsD := Nat.lt_of_lt_of_le hsd hbi.size
     have hsC := Nat.lt_of_lt_of_le hsq hbi.size
     have g1 := (hb9.cell (by exact hsD)).trans a1
     have g2 := (hb9.cell (by exact hsC)).trans b1
     have g5 := (hb9.cell (by exact hx3)).trans f5
     have g6 := (hb9.cell (by exact hx4)).trans f6
     have hr3' := hr3.below hb9
     have hr4' := hr4.below hb9
     have hbi9 := hbi.trans (hb9.mono hbi.size)
     have hsD9 := Nat.lt_of_lt_of_le hsD hb9.size
     have hsC9 := Nat.lt_of_lt_of_le hsC hb9.size
     have hx39 := Nat.lt_of_lt_of_le hx3 hb9.size
     have hx49 := Nat.lt_of_lt_of_le hx4 hb9.size
     clear a0 a1 b0 b1 f1 f2 f3 f4 f5 f6 hr3 hr4 hbi hb9 hsD hsC hx3 hx4 hx1 hx2 hnS
     obtain ⟨wo2, hwo2⟩ : ∃ wo2 : World, wo2 = wr := ⟨_, rfl⟩
     subst hwo2
     go_wp2_with fail
     go_loopw [10] (fun iv wr => PxRel nr w9 iv wr) (fun iv _ => nr - (intOf iv).toNat)
     case atStart => exact ⟨0, Nat.zero_le _, rfl, Below.refl _ _⟩
     case round =>
      obtain ⟨j, hj, rfl, hbj⟩ := hrel
      have a1 := (hbj.cell (by exact hsD9)).trans g1
      have b1 := (hbj.cell (by exact hsC9)).trans g2
      have a5 := (hbj.cell (by exact hx39)).trans g5
      have b5 := (hbj.cell (by exact hx49)).trans g6
      by_cases hltj : j < nr
      ·rcases (hr3'.below hbj).cells with h0 | ⟨y3, e3, rfl, hy3, yc3⟩
       ·omega
       rcases (hr4'.below hbj).cells with h0 | ⟨y4, e4, rfl, hy4, yc4⟩
       ·omega
       have m3 := yc3 j hltj
       have m4 := yc4 j hltj
       have z4 : (0 : Int) <= (j : Int) := by omega
       have z5 : (j : Int) < (nr : Int) := by omega
       clear yc3 yc4
       generalize X j = xj at *
       go_wp2_with fail
       go_quiet (fail)
       have hwq : Below w9.heap.size w9 (wr.drewN nq) := hbj.trans (Dr.below ⟨nq, rfl⟩ _)
       go_wp2_with fail
       go_roundw
       case rel => first | exact ⟨j + 1, by omega, by go_num, hwq⟩ | ((repeat apply Exists.intro); exact ⟨⟨j + 1, by omega, by go_num, hwq⟩, rfl⟩)
       case measure => simp [intOf]; omega
      ·have hfin := hbi9.trans (hbj.mono hbi9.size)
       go_wp2_with fail
       go_roundw
       case rel => first | exact ⟨i + 1, by omega, by go_num, hfin⟩ | ((repeat apply Exists.intro); exact ⟨⟨i + 1, by omega, by go_num, hfin⟩, rfl⟩)
       case measure => simp [intOf]; omega
    ·have hfin := hbr8.trans (hbi.mono hbr8.size)
     go_wp2_with fail
     go_roundw
     case rel => first | exact ⟨k + 1, by omega, by go_num, hfin⟩ | ((repeat apply Exists.intro); exact ⟨⟨k + 1, by omega, by go_num, hfin⟩, rfl⟩)
     case measure => simp [intOf]; omega
  ·go_wp2_with fail
   go_ret
   exact ⟨rfl, hwr⟩
def BytesIn (w : World) (a : Option Addr) (n : Nat) : Prop :=
 n = 0 ∨ ∃ b off, a = some ⟨b, off, none⟩ ∧ b < w.heap.size ∧ ∀ i, i < n -> ∃ x : Nat, x < 256 ∧ w.cell? ⟨b, off + i, none⟩ = some (.int .u8 (x : Int))
end Go.Proofs.YtpmebojkkjlkgaaGreat
namespace Go.Proofs.YtpmebojkkjlkgaaGreat
open Go.ChangeShapes Go.WideShapes Go.ChangeAt Go.RowKit Go.Deep
theorem Tryz.cellsU8 : Tryz.prog.cellsOf 5 = 1 := by kernel_rfl
theorem in_bytes {H : Type} {enc : TypeId × Value -> H} {W : World} {fuel : Nat} {cs : List Value} {x : DataW H × List MemPlace} (h : DataW.trod enc Tryz.prog W 0 (fun _ => true) true fuel 22 cs = some x)
  (hlt : ∀ q ∈ x.2, q.block < W.heap.size) : ∃ a n cap, cs = [.slice a n cap] ∧ n <= cap ∧ cap <= maxLen ∧ BytesIn W a n := by
 rcases open_slice1 Tryz.underlying22 Tryz.cellsU8 h with ⟨rfl, rfl⟩ | ⟨a, len, cap, m, n, V, D, Pl, rfl, _, hl, hm, hmm, rfl, hx⟩
 ·exact ⟨none, 0, 0, rfl, Nat.le_refl _, by decide, Or.inl rfl⟩
 ·simp only [if_true] at hmm
  subst hmm
  refine ⟨some a, len, m, rfl, hl, hm, ?_⟩
  by_cases h0 : len = 0
  ·exact Or.inl h0
  ·right
   obtain ⟨b, off, spot⟩ := a
   have hspot : spot = none := by simpa [Addr.add] using World.cell?_spot (hx 0 (by omega)).1
   subst hspot
   refine ⟨b, off, rfl, hlt (.cell b off) (List.mem_append_left _ (MemPlace.mem_row.2 ⟨0, by omega, by simp⟩)), fun i hi => ?_⟩
   obtain ⟨q1, q2⟩ := hx i (by omega)
   obtain ⟨z, e1, _, hwf⟩ := DataW.trod_int Tryz.underlying5 q2
   simp only [List.cons.injEq, and_true] at e1
   rw [e1] at q1
   simp only [Lit.wf, Bool.and_eq_true, decide_eq_true_eq] at hwf
   have hz0 : (0 : Int) <= z := hwf.1
   have hz1 : z <= 255 := hwf.2
   refine ⟨z.toNat, by omega, ?_⟩
   rw [Int.toNat_of_nonneg hz0, <- add_plain]
   exact q1
end Go.Proofs.YtpmebojkkjlkgaaGreat
namespace Go.Proofs.YtpmebojkkjlkgaaGreat
open Go.RowKit
theorem bytes_choose {W : World} {a : Option Addr} {n : Nat} (h : BytesIn W a n) : ∃ bs : Nat -> Nat, BytesV W a n bs ∧ ∀ i, i < n -> bs i < 256 := by
 rcases h with h0 | ⟨b, off, e, hb, hx⟩
 ·exact ⟨fun _ => 0, Or.inl h0, fun _ _ => by show (0 : Nat) < 256; decide⟩
 ·refine ⟨fun i => if hi : i < n then Classical.choose (hx i hi) else 0, Or.inr ⟨b, off, e, hb, fun i hi => ?_⟩, fun i hi => ?_⟩
  ·dsimp only
   rw [dif_pos hi]
   exact (Classical.choose_spec (hx i hi)).2
  ·dsimp only
   rw [dif_pos hi]
   exact (Classical.choose_spec (hx i hi)).1
end Go.Proofs.YtpmebojkkjlkgaaGreat
namespace Go.Proofs.YtpmebojkkjlkgaaGreat
open Go.ChangeShapes Go.WideShapes Go.ChangeAt Go.RowKit
theorem Tryz.own : ownKnob Tryz.prog.godebug = none := by kernel_rfl
theorem Tryz.laidOut : laidOutB Tryz.prog = true := by kernel_rfl
set_option maxRecDepth 100000 in
theorem fnPrefix_lifted (os : Os) (started : os.Started) (H : Type) (enc : TypeId × Value -> H) :
  ReturnsInHanded {} Tryz.checked os 3 .any (Rows.fnPrefixSpec.pre6 enc Tryz.prog Tryz.f3 Rows.fnPrefixRow.domain false) (Rows.fnPrefixSpec.post enc Tryz.prog Tryz.f3 false true false false) := by
 refine returnsInHanded_of_change_sized (C := Tryz.checked) Tryz.own started (by kernel_rfl) Tryz.func3
  (ChangeSpec.witness6 (enc := enc) (C := Tryz.checked) false ⟨#[], #[.slice none 0 0], []⟩ 8 (by kernel_rfl) (by kernel_rfl) (by kernel_rfl) (by kernel_rfl)) ?_
 intro W base args ds gs before hval0 hW _ hsz0 _
 have hsz : (DataW.weightsEach Tryz.prog (Tryz.f3.params.toList ++ Rows.fnPrefixSpec.plain.varTypes Tryz.prog) (ds ++ gs)).all (· <= reachBytes) = true := hsz0
 clear hsz0
 have hval : ∀ (j : Nat) t v, Tryz.f3.params[j]? = some t -> args[j]? = some v -> Value.okWide Tryz.prog W .any base t v := hval0
 have hW' := hW
 obtain ⟨p, q, hA0, hV, rfl, _, _⟩ := hW
 have hA : DataW.TrodAll enc Tryz.prog W 0 (fun _ => true) true Tryz.f3.params.toList args.toList ds p := hA0
 rw [Tryz.params3] at hA hval hsz
 obtain ⟨v0, d0, rfl, rfl, h0⟩ := trodAll_one hA
 obtain ⟨rfl, rfl⟩ := trodVars_none hV
 obtain ⟨ya0, yn0, yc0, rfl⟩ := okWide_slice Tryz.underlying22 (hval 0 22 v0 rfl rfl)
 have h0k := h0
 obtain ⟨fuel0, hf0⟩ := h0
 clear hA0 hval0
 simp only [List.append_nil] at hW'
 have hlt0 : ∀ x ∈ p, x.block < W.heap.size := fun x hx => by simpa using hW'.lt x hx
 obtain ⟨a0, n0, c0, heq0, hle0, hm0, s0⟩ := in_bytes hf0 hlt0
 simp only [Value.cells, List.cons.injEq, and_true] at heq0
 injection heq0 with e1 e2 e3
 subst e1 e2 e3
 obtain ⟨bs, s1, s2⟩ := bytes_choose s0
 refine (lawPrefix W hle0 hm0 s1 s2).mono fun e W' ⟨he, hnx⟩ => ?_
 subst he
 refine ⟨_, rfl, _, _, _, [], p, [], hW', ?_, ?_, rfl, hnx.frame _, fun h => by cases h⟩
 ·exact trodAll_mk1 (shut_bool Tryz.underlying4 true)
 ·have := trodAll_mk1 (Below.trod Tryz.laidOut (by kernel_rfl) (of_decide_eq_true (by kernel_rfl)) h0k hnx hlt0)
  try simp only [List.append_nil] at this
  exact this
theorem fnPrefix_holds : Rows.FnPrefixSaid :=
 OpenClaim.holds_of_wide 3 Tryz.f3 rfl rfl rfl rfl rfl rfl rfl ⟨rfl, rfl, rfl, rfl, rfl⟩ rfl rfl rfl rfl rfl (by kernel_rfl) Tryz.func3 (by kernel_rfl)
  (of_decide_eq_true (by kernel_rfl)) (by unfold Func.isWrapper; first | (rw [if_pos (by decide +kernel)]; kernel_rfl) | (rw [if_neg (by decide +kernel)]; exact ⟨rfl, rfl⟩))
  (fun os started H enc _ => fnPrefix_lifted os started H enc)
#print axioms fnPrefix_holds
end Go.Proofs.YtpmebojkkjlkgaaGreat
