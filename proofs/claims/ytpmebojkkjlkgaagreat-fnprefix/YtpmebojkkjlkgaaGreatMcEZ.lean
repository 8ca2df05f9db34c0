import Derived.Test.YtpmebojkkjlkgaaGreatMcPZ
import Derived.Deep.RegionHeld3
import Derived.Test.YtpmebojkkjlkgaaGreatRmCZ
import Derived.Deep.RegionLaw
namespace Go.Proofs.YtpmebojkkjlkgaaGreat
open Go.RowKit
def naE (E : Nat -> Ev) (k : Nat) : Nat := (E k).na
def rsE (E : Nat -> Ev) (n k j : Nat) : Nat := (posV E n ((E k).Av j)).toNat
theorem rsE_at {E : Nat -> Ev} {n k j : Nat} (h : roomTo E n = true) (hk : k < n) (hj : j < naE E k) : posV E n ((E k).Av j) = (rsE E n k j : Int) ∧ rsE E n k j < k ∧ (E (rsE E n k j)).id = (E k).Av j := by
 obtain ⟨p, hp, e1, e2⟩ := auth_there h hk hj
 have : rsE E n k j = p := by unfold rsE; rw [e1]; rfl
 rw [this]
 exact ⟨e1, hp, e2⟩
theorem rsE_lt {E : Nat -> Ev} {n : Nat} (h : roomTo E n = true) : ∀ k, k < n -> ∀ j, j < naE E k -> rsE E n k j < k := fun _ hk _ hj => (rsE_at h hk hj).2.1
abbrev spC (f : Nat -> Sp) : Nat -> Int := fun i => ((f i).c : Int)
abbrev spQ (f : Nat -> Sp) : Nat -> Int := fun i => ((f i).q : Int)
def mkI (n : Nat) : Array Value := madeCells #[.int .i64 0] n
theorem Tryz.infoInt : (Tryz.prog.info? 3).map (fun i => (i.zero, i.size, i.bytes)) = some (some (.int .i64 0), 1, 8) := by kernel_rfl
theorem make_int (n : Nat) (h : n * 8 <= 140737488351232) (W : World) :
  (Instr.makeSlice 36 (.int .i64 (n : Int)) (.int .i64 (n : Int))).run Tryz.prog W = .ok (.slice (some ⟨W.heap.size, 0, none⟩) n n) (W.alloc (.cells (mkI n) 3)) := by
 obtain ⟨i0, hi, hz0, hz1, hz2⟩ := info_parts Tryz.infoInt
 have := run_make (P := Tryz.prog) W 36 3 i0 (.int .i64 0) Tryz.underlying36 hi hz0 .i64 .i64 (n : Int) (n : Int) (by omega) (by omega) (by rw [hz2]; omega) (by omega)
 rw [this, hz1]
 simp [mkI, Value.cells]
theorem Tryz.infoSpot : (Tryz.prog.info? 35).map (fun i => (i.zero, i.size, i.bytes)) = some (some (.agg #[.int .i64 0, .int .i64 0]), 2, 16) := by kernel_rfl
theorem Tryz.infoInts : (Tryz.prog.info? 36).map (fun i => (i.zero, i.size, i.bytes)) = some (some (.slice none 0 0), 1, 24) := by kernel_rfl
set_option maxRecDepth 100000 in
set_option maxHeartbeats 2000000 in
theorem nxI_any {sa : Option Addr} {k scap : Nat} {ea : Option Addr} {ch ecap : Nat} {f : Nat -> Sp} {en : Nat -> Nat} {r : Nat -> Nat} {qa : Option Addr} (m cap : Nat) (w : World) (hs : SlP w sa k scap (spC f) (spQ f)) (he : SlI w ea ch ecap (fun c => ((en c : Nat) : Int))) (hr : SlI w qa m cap (fun j => ((r j : Nat) : Int)))
  (hk : ∀ j, j < m -> r j < k) (hc : ∀ p, p < k -> (f p).c < ch ∧ (f p).q < 1000000) (hl : ∀ p, p < k -> (en (f p).c = (f p).q ↔ lastTo f p k = true)) :
  Calls Tryz.prog 16 #[.slice sa k scap, .slice ea ch ecap, .slice qa m cap] w fun x w' => x = .returned (.agg #[.int .i64 ((((nxtTo f k r m).getD ⟨ch, 1⟩).c : Nat) : Int), .int .i64 ((((nxtTo f k r m).getD ⟨ch, 1⟩).q : Nat) : Int)]) ∧ Below w.heap.size w w' := by
 have hm := Nat.le_trans hr.le hr.max
 unfold maxLen at hm
 obtain ⟨wa, hwa⟩ : ∃ wa, wa = w.alloc (.cells #[.int .i64 0, .int .i64 0] 35) := ⟨_, rfl⟩
 have hba : Below w.heap.size w wa := by rw [hwa]; exact (Below.refl _ _).alloc (Nat.le_refl _) _
 have hza : w.heap.size < wa.heap.size := by rw [hwa]; simp
 have hca : Hid (∀ W, Below wa.heap.size wa W -> W.cell? ⟨w.heap.size, 0, none⟩ = some (.int .i64 0) ∧ W.cell? ⟨w.heap.size, 1, none⟩ = some (.int .i64 0) ∧ W.frozen? ⟨w.heap.size, 0, none⟩ = false ∧ W.frozen? ⟨w.heap.size, 1, none⟩ = false) := fun W hW => by
  refine ⟨(hW.cell (by exact hza)).trans ?_, (hW.cell (by exact hza)).trans ?_, (hW.frozen (by exact hza)).trans ?_, (hW.frozen (by exact hza)).trans ?_⟩ <;> rw [hwa]
  ·exact World.cell?_alloc_at _ _ _ _ rfl
  ·exact World.cell?_alloc_at _ _ _ _ rfl
  ·exact World.frozen?_alloc_at _ _ _ _ rfl
  ·exact World.frozen?_alloc_at _ _ _ _ rfl
 have HP : Hid (∀ W j, j < m -> Below wa.heap.size wa W -> ∃ sb so, sa = some ⟨sb, so, none⟩ ∧ W.cell? ⟨sb, so + r j * 2, none⟩ = some (.int .i64 ((f (r j)).c : Int)) ∧ W.cell? ⟨sb, so + r j * 2 + 1, none⟩ = some (.int .i64 ((f (r j)).q : Int)) ∧ sb < w.heap.size) := fun W j hj hW => by
  have hW' := hba.trans (hW.mono hba.size)
  rcases hs.cells with h0 | ⟨sb, so, e, hsb, c1, c2⟩
  ·have := hk j hj; omega
  ·exact ⟨sb, so, e, (hW'.cell (by exact hsb)).trans (c1 _ (hk j hj)), (hW'.cell (by exact hsb)).trans (c2 _ (hk j hj)), hsb⟩
 have HE : Hid (∀ W j, j < m -> Below wa.heap.size wa W -> ∃ eb eo, ea = some ⟨eb, eo, none⟩ ∧ W.cell? ⟨eb, eo + (f (r j)).c, none⟩ = some (.int .i64 (en (f (r j)).c : Int)) ∧ eb < w.heap.size) := fun W j hj hW => by
  have hW' := hba.trans (hW.mono hba.size)
  have hcj := (hc _ (hk j hj)).1
  rcases he.cells with h0 | ⟨eb, eo, e, heb, c1⟩
  ·omega
  ·exact ⟨eb, eo, e, (hW'.cell (by exact heb)).trans (c1 _ hcj), heb⟩
 have HR : Hid (∀ W j, j < m -> Below wa.heap.size wa W -> ∃ b off, qa = some ⟨b, off, none⟩ ∧ W.cell? ⟨b, off + j, none⟩ = some (.int .i64 ((r j : Nat) : Int))) := fun W j hj hW => by
  rcases hr.cells with h0 | ⟨b, off, e, hb, hc⟩
  ·omega
  ·exact ⟨b, off, e, ((hba.trans (hW.mono hba.size)).cell (by exact hb)).trans (hc j hj)⟩
 have HK : Hid (∀ j, j < m -> r j < k ∧ (f (r j)).c < ch ∧ (f (r j)).q < 1000000 ∧ (en (f (r j)).c = (f (r j)).q ↔ lastTo f (r j) k = true)) := fun j hj => ⟨hk j hj, (hc _ (hk j hj)).1, (hc _ (hk j hj)).2, hl _ (hk j hj)⟩
 have hsn := Nat.le_trans hs.le hs.max
 have hen := Nat.le_trans he.le he.max
 unfold maxLen at hsn hen
 obtain ⟨V, hV⟩ : ∃ V, V = (nxtTo f k r m).getD ⟨ch, 1⟩ := ⟨_, rfl⟩
 have HV : Hid (V = (nxtTo f k r m).getD ⟨ch, 1⟩) := hV
 rw [<- hV]
 clear hV hs he hr hk hc hl
 go_enter Tryz.func16, Tryz.ntmps16
 go_wp2_with fail
 rw [<- hwa]
 clear hwa
 go_loopw [12] (fun iv wr => ∃ j : Nat, j <= m ∧ iv = .int .i64 (j : Int) ∧ Hid (nxtTo f k r j = none) ∧ Below wa.heap.size wa wr) (fun iv _ => m - (intOf iv).toNat)
 case atStart => exact ⟨0, Nat.zero_le _, rfl, rfl, Below.refl _ _⟩
 case round =>
  obtain ⟨j, hj, rfl, hno, hbel⟩ := hrel
  obtain ⟨y0, y1, y2, y3⟩ := hca.out _ hbel
  have hw := hba.trans (hbel.mono hba.size)
  have hzr : w.heap.size < wr.heap.size := Nat.lt_of_lt_of_le hza hbel.size
  by_cases hlt : j < m
  ·obtain ⟨b, off, rfl, a0⟩ := HR.out wr j hlt hbel
   obtain ⟨sb, so, rfl, a1, a2, hsb⟩ := HP.out wr j hlt hbel
   obtain ⟨k1, k2, k3, k4⟩ := HK.out j hlt
   have hbA : Below wr.heap.size wr (wr.alloc (.cells #[.int .i64 ((f (r j)).c : Int), .int .i64 ((f (r j)).q : Int)] 35)) := (Below.refl _ _).alloc (Nat.le_refl _) _
   have hbelA := hbel.trans (hbA.mono hbel.size)
   obtain ⟨eb, eo, rfl, a3, heb⟩ := HE.out _ j hlt hbelA
   obtain ⟨z0, z1, z2, z3⟩ := hca.out _ hbelA
   have Hyes : Hid (en (f (r j)).c = (f (r j)).q -> V = ⟨(f (r j)).c, (f (r j)).q + 1⟩) := fun e => by rw [HV.out, nxtTo_some (nxtTo_at hno.out (k4.1 e)) (show j + 1 <= m by omega)]; rfl
   have Hnn : Hid (¬ en (f (r j)).c = (f (r j)).q -> nxtTo f k r (j + 1) = none) := fun e => nxtTo_no hno.out (by
    cases q : lastTo f (r j) k with
    | false => rfl
    | true => exact absurd (k4.2 q) e)
   have hwA : Below w.heap.size w (wr.alloc (.cells #[.int .i64 ((f (r j)).c : Int), .int .i64 ((f (r j)).q : Int)] 35)) := hw.alloc hw.size _
   have i1 : (0 : Int) <= ((r j : Nat) : Int) := by omega
   have i2 : ((r j : Nat) : Int) < (k : Int) := by omega
   have i3 : (0 : Int) <= ((f (r j)).c : Int) := by omega
   have i4 : ((f (r j)).c : Int) < (ch : Int) := by omega
   have iw : IntKind.i64.wrap (((f (r j)).q : Int) + 1) = ((f (r j)).q : Int) + 1 := by rw [IntKind.wrap_i64]; omega
   clear k4 HK HR HP HE
   generalize en (f (r j)).c = ev at *
   generalize (f (r j)).c = fc at *
   generalize (f (r j)).q = fq at *
   generalize r j = rj at *
   by_cases e : ev = fq
   ·have hv : V = ⟨fc, fq + 1⟩ := Hyes.out e
    subst hv e
    clear Hyes Hnn
    obtain ⟨W0, hW0⟩ : ∃ W0, W0 = (wr.setCell ⟨w.heap.size, 0, none⟩ (.int .i64 (fc : Int))).setCell ⟨w.heap.size, 1, none⟩ (.int .i64 ((ev : Int) + 1)) := ⟨_, rfl⟩
    have g0 : W0.cell? ⟨w.heap.size, 0, none⟩ = some (.int .i64 (fc : Int)) := by rw [hW0, set_far (by omega)]; exact set_same ⟨_, y0⟩
    have g1 : W0.cell? ⟨w.heap.size, 1, none⟩ = some (.int .i64 ((ev : Int) + 1)) := by rw [hW0]; exact set_same ⟨_, by rw [set_far (by omega)]; exact y1⟩
    have hz0 : w.heap.size < W0.heap.size := by rw [hW0]; simpa [World.setCell] using hzr
    have hAl : Below W0.heap.size W0 (W0.alloc (.cells #[.int .i64 (fc : Int), .int .i64 (ev : Int)] 35)).drew := ((Below.refl _ _).alloc (Nat.le_refl _) _).drew
    have f0 := (hAl.cell (by exact hz0)).trans g0
    have f1 := (hAl.cell (by exact hz0)).trans g1
    have hfin : Hid (Below w.heap.size w (W0.alloc (.cells #[.int .i64 (fc : Int), .int .i64 (ev : Int)] 35)).drew) := by
     have : Below w.heap.size w W0 := by rw [hW0]; exact (hw.setCell (by exact Nat.le_refl _) _).setCell (by exact Nat.le_refl _) _
     exact this.trans (hAl.mono this.size)
    rw [hW0] at f0 f1 hfin
    clear g0 g1 hAl hW0
    go_wp2_with fail
    go_region
    all_goals
     go_wp2
     refine bodyPost_ret (v := .agg #[.int .i64 (fc : Int), .int .i64 ((ev : Int) + 1)]) (by simp [results, Tryz.results16, go_sem, f0, f1]) rfl ⟨by first | rfl | (congr 5), hfin.out⟩
   ·have hno2 : Hid (_) := Hnn.out e
    have e4 : ¬ ((ev : Int) = (fq : Int)) := by omega
    clear Hyes Hnn
    go_wp2_with fail
    go_region
    all_goals
     go_wp2
     exact ⟨⟨j + 1, by omega, by go_num, hno2, by first | exact hbelA | exact hbelA.drew | exact hbelA.drew.drew⟩, by simp [intOf]; omega⟩
  ·have hjm : j = m := by omega
   subst hjm
   have hv : V = ⟨ch, 1⟩ := by rw [HV.out, hno.out]; rfl
   subst hv
   clear HP HE HR HK
   go_wp2
   refine bodyPost_ret (v := .agg #[.int .i64 (ch : Int), .int .i64 1]) (by simp [results, Tryz.results16, go_sem, y0, y1]) rfl ⟨by first | rfl | (congr 5), ?_⟩
   repeat' (first | exact hw | (refine Below.setCell ?_ (by exact Nat.le_refl _) _))
def RowF (wb wr : World) (B n : Nat) (F : Nat -> Nat) : Prop := (∀ c, c < n -> wr.cell? ⟨B, c, none⟩ = some (.int .i64 ((F c : Nat) : Int))) ∧ (∀ c, wr.frozen? ⟨B, c, none⟩ = false) ∧ Mkd B (B + 1) wb wr
theorem RowF.put {wb wr : World} {B n c v : Nat} {F G : Nat -> Nat} (h : RowF wb wr B n F) (hc : c < n) (hG : ∀ i, i < n -> G i = if i = c then v else F i) : RowF wb (wr.setCell ⟨B, c, none⟩ (.int .i64 ((v : Nat) : Int))) B n G := by
 refine ⟨fun i hi => ?_, fun i => by rw [World.frozen?_setCell]; exact h.2.1 i, h.2.2.set (Nat.le_refl _) (Nat.lt_succ_self _) ⟨_, h.1 c hc⟩⟩
 rw [hG i hi]
 by_cases e : i = c
 ·subst e; rw [if_pos rfl]; exact set_same ⟨_, h.1 i hi⟩
 ·rw [if_neg e, set_far e]; exact h.1 i hi
theorem RowF.congr {wb wr : World} {B n : Nat} {F G : Nat -> Nat} (h : RowF wb wr B n F) (hG : ∀ i, i < n -> G i = F i) : RowF wb wr B n G := ⟨fun c hc => by rw [hG c hc]; exact h.1 c hc, h.2⟩
theorem RowF.qr {wb wr : World} {B n : Nat} {F : Nat -> Nat} (h : RowF wb wr B n F) (hn : n <= maxLen) (hB : B < wb.heap.size) : QR wr n (fun c => ((F c : Nat) : Int)) ⟨some ⟨B, 0, none⟩, n, B, B + 1⟩ := by
 have hs := h.2.2.size
 have hlt : B < wr.heap.size := by omega
 exact ⟨⟨Nat.le_refl _, hn, Or.inr ⟨B, 0, rfl, hlt, fun i hi => by rw [Nat.zero_add]; exact h.1 i hi⟩⟩, Or.inr ⟨B, 0, rfl, Nat.le_refl _, hlt, fun i hi => by rw [Nat.zero_add]; exact ⟨⟨_, h.1 i hi⟩, h.2.1 i⟩⟩, Or.inr ⟨B, 0, rfl, Nat.le_refl _, Nat.lt_succ_self _⟩, Nat.le_succ _, hlt⟩
def RfPost (w : World) (n : Nat) (F : Nat -> Nat) (x : Ending) (w' : World) : Prop := ∃ t : Lr, x = .returned (.slice t.a n t.c) ∧ Hid (QR w' n (fun c => ((F c : Nat) : Int)) t) ∧ w.heap.size <= t.lo ∧ Below w.heap.size w w'
set_option maxRecDepth 100000 in
set_option maxHeartbeats 4000000 in
theorem rfI_any {la : Option Addr} {k lcap : Nat} {rn : Nat -> Nat} {X : Nat -> Nat -> Nat} {r : Nat -> Nat} {s : Sp} {qa : Option Addr} (m cap ch : Nat) (w : World) (hch : ch <= 100000) (hl : SlL w la k lcap rn (fun p c => ((X p c : Nat) : Int))) (hr : SlI w qa m cap (fun j => ((r j : Nat) : Int)))
  (hk : ∀ j, j < m -> r j < k) (hn : ∀ p, p < k -> rn p <= ch) (hz : ∀ p c, p < k -> rn p <= c -> X p c = 0) (hs : s.c < ch) :
  Calls Tryz.prog 17 #[.slice la k lcap, .int .i64 (ch : Int), .agg #[.int .i64 (s.c : Int), .int .i64 (s.q : Int)], .slice qa m cap] w (RfPost w ch (fun c => if c = s.c then s.q else mxTo (fun j => X (r j) c) m)) := by
 have hm := Nat.le_trans hr.le hr.max
 unfold maxLen at hm
 have hmk := make_int ch (by omega)
 obtain ⟨wb, hwb⟩ : ∃ wb, wb = (w.alloc (.cells #[.int .i64 (s.c : Int), .int .i64 (s.q : Int)] 35)).alloc (.cells (mkI ch) 3) := ⟨_, rfl⟩
 have hbb : Below w.heap.size w wb := by rw [hwb]; exact ((Below.refl _ _).alloc (Nat.le_refl _) _).alloc (by simp) _
 have hzb : wb.heap.size = w.heap.size + 2 := by rw [hwb]; simp
 have hB : w.heap.size + 1 < wb.heap.size := by omega
 have H0 : Hid (RowF wb wb (w.heap.size + 1) ch (fun _ => 0)) := by
  refine ⟨fun c hc => ?_, fun c => ?_, Mkd.refl _ _ _⟩
  ·rw [hwb]
   have hx : ((w.alloc (.cells #[.int .i64 (s.c : Int), .int .i64 (s.q : Int)] 35)).alloc (.cells (mkI ch) 3)).cell? ⟨w.heap.size + 1, c, none⟩ = (mkI ch)[c]? := World.cell?_alloc_at _ _ _ _ (by simp)
   rw [hx]
   unfold mkI
   rw [<- Array.getElem?_toList, toList_madeCells_one, List.getElem?_replicate, if_pos hc]
   rfl
  ·rw [hwb]; exact World.frozen?_alloc_at _ _ _ _ (by simp)
 have Hsp : Hid (∀ W, Mkd (w.heap.size + 1) (w.heap.size + 1 + 1) wb W -> W.cell? ⟨w.heap.size, 0, none⟩ = some (.int .i64 (s.c : Int)) ∧ W.cell? ⟨w.heap.size, 1, none⟩ = some (.int .i64 (s.q : Int))) := fun W hW => by
  refine ⟨(hW.cell (by omega) (Or.inl (Nat.lt_succ_self _))).trans ?_, (hW.cell (by omega) (Or.inl (Nat.lt_succ_self _))).trans ?_⟩ <;> rw [hwb, World.cell?_alloc_past _ _ _ (by simp)] <;> exact World.cell?_alloc_at _ _ _ _ rfl
 have Hbel : Hid (∀ W, Mkd (w.heap.size + 1) (w.heap.size + 1 + 1) wb W -> Below w.heap.size w W) := fun W hW => hbb.trans ((hW.below (by omega)).mono (by omega))
 have HR : Hid (∀ W j, j < m -> Mkd (w.heap.size + 1) (w.heap.size + 1 + 1) wb W -> ∃ b off, qa = some ⟨b, off, none⟩ ∧ W.cell? ⟨b, off + j, none⟩ = some (.int .i64 ((r j : Nat) : Int))) := fun W j hj hW => by
  rcases hr.cells with h0 | ⟨b, off, e, hb, hc⟩
  ·omega
  ·exact ⟨b, off, e, ((Hbel.out W hW).cell (by exact hb)).trans (hc j hj)⟩
 have HL : Hid (∀ W p, p < k -> Mkd (w.heap.size + 1) (w.heap.size + 1 + 1) wb W -> ∃ lb lo ra rcp, la = some ⟨lb, lo, none⟩ ∧ W.cell? ⟨lb, lo + p, none⟩ = some (.slice ra (rn p) rcp) ∧ lb < w.heap.size ∧ (rn p = 0 ∨ ∃ xb xo, ra = some ⟨xb, xo, none⟩ ∧ xb < w.heap.size ∧ ∀ c, c < rn p -> w.cell? ⟨xb, xo + c, none⟩ = some (.int .i64 ((X p c : Nat) : Int)))) := fun W p hp hW => by
  rcases hl.cells with h0 | ⟨lb, lo, e, hlb, hc⟩
  ·omega
  ·obtain ⟨ra, rcp, c1, hsl⟩ := hc p hp
   exact ⟨lb, lo, ra, rcp, e, ((Hbel.out W hW).cell (by exact hlb)).trans c1, hlb, hsl.cells⟩
 have hln := Nat.le_trans hl.le hl.max
 unfold maxLen at hln
 have HK : Hid (∀ j, j < m -> r j < k ∧ rn (r j) <= ch ∧ ∀ c, rn (r j) <= c -> X (r j) c = 0) := fun j hj => ⟨hk j hj, hn _ (hk j hj), fun c hc => hz _ c (hk j hj) hc⟩
 clear hl hr hk hn hz
 go_enter Tryz.func17, Tryz.ntmps17
 go_wp2_with fail
 rw [<- hwb]
 clear hwb hmk hzb
 go_loopw [18] (fun iv wr => ∃ j : Nat, j <= m ∧ iv = .int .i64 (j : Int) ∧ Hid (RowF wb wr (w.heap.size + 1) ch (fun c => mxTo (fun j => X (r j) c) j))) (fun iv _ => m - (intOf iv).toNat)
 case atStart => exact ⟨0, Nat.zero_le _, rfl, H0⟩
 case round =>
  clear H0
  obtain ⟨j, hj, rfl, hF⟩ := hrel
  obtain ⟨wo, rfl⟩ : ∃ wo : World, wo = wr := ⟨_, rfl⟩
  have hMo := hF.out.2.2
  by_cases hlt : j < m
  ·obtain ⟨b, off, rfl, a0⟩ := HR.out wo j hlt hMo
   obtain ⟨k1, k2, k3⟩ := HK.out j hlt
   obtain ⟨lb, lo, ra, rcp, rfl, a1, hlb, hx⟩ := HL.out wo (r j) k1 hMo
   have Hx : Hid (_) := hx
   have Hk3 : Hid (∀ c, rn (r j) <= c -> X (r j) c = 0) := k3
   have hF0 : Hid (RowF wb wo (w.heap.size + 1) ch (fun c => if c < 0 then max (mxTo (fun j => X (r j) c) j) (X (r j) c) else mxTo (fun j => X (r j) c) j)) := hF.out.congr fun i _ => if_neg (Nat.not_lt_zero _)
   have i1 : (0 : Int) <= ((r j : Nat) : Int) := by omega
   have i2 : ((r j : Nat) : Int) < (k : Int) := by omega
   clear k3 hx hF
   go_wp2_with fail
   go_loopw [27] (fun iv wr => ∃ i : Nat, i <= rn (r j) ∧ iv = .int .i64 (i : Int) ∧ Hid (RowF wb wr (w.heap.size + 1) ch (fun c => if c < i then max (mxTo (fun j => X (r j) c) j) (X (r j) c) else mxTo (fun j => X (r j) c) j))) (fun iv _ => rn (r j) - (intOf iv).toNat)
   case atStart => exact ⟨0, Nat.zero_le _, rfl, hF0⟩
   case round =>
    clear hF0
    obtain ⟨i, hi, rfl, hF⟩ := hrel
    have hM := hF.out.2.2
    by_cases hli : i < rn (r j)
    ·have hic : i < ch := by omega
     obtain ⟨xb, xo, rfl, hxb, hxc⟩ : ∃ xb xo, ra = some ⟨xb, xo, none⟩ ∧ xb < w.heap.size ∧ ∀ c, c < rn (r j) -> w.cell? ⟨xb, xo + c, none⟩ = some (.int .i64 ((X (r j) c : Nat) : Int)) := by
      rcases Hx.out with h0 | h1
      ·omega
      ·exact h1
     have b1 : wr.cell? ⟨xb, xo + i, none⟩ = some (.int .i64 ((X (r j) i : Nat) : Int)) := ((Hbel.out wr hM).cell (by exact hxb)).trans (hxc i hli)
     have b2 : wr.cell? ⟨w.heap.size + 1, i, none⟩ = some (.int .i64 ((mxTo (fun j => X (r j) i) j : Nat) : Int)) := by
      have := hF.out.1 i hic
      dsimp only at this
      rw [if_neg (Nat.lt_irrefl _)] at this
      exact this
     have b3 := hF.out.2.1 i
     have hnew : Hid (∀ v, v = max (mxTo (fun j => X (r j) i) j) (X (r j) i) -> RowF wb (wr.setCell ⟨w.heap.size + 1, i, none⟩ (.int .i64 ((v : Nat) : Int))) (w.heap.size + 1) ch (fun c => if c < i + 1 then max (mxTo (fun j => X (r j) c) j) (X (r j) c) else mxTo (fun j => X (r j) c) j)) := fun v hv => hF.out.put hic fun c _ => by
      by_cases e : c = i
      ·subst e; rw [if_pos (Nat.lt_succ_self _), if_pos rfl, hv]
      ·rw [if_neg e]
       by_cases e2 : c < i
       ·rw [if_pos e2, if_pos (by omega)]
       ·rw [if_neg e2, if_neg (by omega)]
     have j1 : (0 : Int) <= (i : Int) := by omega
     have j2 : (i : Int) < (rn (r j) : Int) := by omega
     have j3 : (i : Int) < (ch : Int) := by omega
     clear hxc hF
     generalize hxv : X (r j) i = xv at *
     generalize hmv : mxTo (fun j => X (r j) i) j = mv at *
     clear hxv hmv
     by_cases hle : mv < xv
     ·have hle' : ((mv : Int) < (xv : Int)) := by omega
      have Hn : Hid (_) := hnew.out xv (by omega)
      clear hnew
      go_wp2
      first
       | exact ⟨⟨i + 1, by omega, by go_num, Hn⟩, by simp [intOf]; omega⟩
       | (rw [Int.max_eq_right (by omega)]; exact ⟨⟨i + 1, by omega, by go_num, Hn⟩, by simp [intOf]; omega⟩)
     ·have hle' : ¬ ((mv : Int) < (xv : Int)) := by omega
      have Hn : Hid (_) := hnew.out mv (by omega)
      clear hnew
      go_wp2
      first
       | exact ⟨⟨i + 1, by omega, by go_num, Hn⟩, by simp [intOf]; omega⟩
       | (rw [Int.max_eq_left (by omega)]; exact ⟨⟨i + 1, by omega, by go_num, Hn⟩, by simp [intOf]; omega⟩)
    ·have hie : i = rn (r j) := by omega
     have Hn : Hid (RowF wb wr (w.heap.size + 1) ch (fun c => mxTo (fun j => X (r j) c) (j + 1))) := hF.out.congr fun c _ => by
      show max (mxTo (fun j => X (r j) c) j) (X (r j) c) = _
      by_cases e : c < i
      ·rw [if_pos e]
      ·rw [if_neg e, Hk3.out c (by omega)]
       omega
     clear hF
     go_wp2
     exact ⟨⟨j + 1, by omega, by go_num, Hn⟩, by simp [intOf]; omega⟩
  ·have hjm : j = m := by omega
   subst hjm
   obtain ⟨s1, s2⟩ := Hsp.out wo hMo
   have d1 := hF.out.1 s.c hs
   have d2 := hF.out.2.1 s.c
   have Hn : Hid (RowF wb (wo.setCell ⟨w.heap.size + 1, s.c, none⟩ (.int .i64 ((s.q : Nat) : Int))) (w.heap.size + 1) ch (fun c => if c = s.c then s.q else mxTo (fun j => X (r j) c) j)) := hF.out.put hs fun _ _ => rfl
   have HP : Hid (RfPost w ch (fun c => if c = s.c then s.q else mxTo (fun j => X (r j) c) j) (.returned (.slice (some ⟨w.heap.size + 1, 0, none⟩) ch ch)) (wo.setCell ⟨w.heap.size + 1, s.c, none⟩ (.int .i64 ((s.q : Nat) : Int)))) := ⟨⟨some ⟨w.heap.size + 1, 0, none⟩, ch, w.heap.size + 1, w.heap.size + 1 + 1⟩, rfl, Hn.out.qr (by unfold maxLen; omega) hB, Nat.le_succ _, Hbel.out _ Hn.out.2.2⟩
   have j1 : (0 : Int) <= (s.c : Int) := by omega
   have j3 : (s.c : Int) < (ch : Int) := by omega
   clear hF Hn HL HK HR
   go_wp2
   go_ret
   exact HP.out
theorem typApart {w : World} {base base' e e' size size' n n' : Nat} {v u : Value} {xs ys : List Value} (h : w.ownsRow base e size v n xs) (h' : w.ownsRow base' e' size' u n' ys) (he : e ≠ e') (q : Nat) (hq : v.ownBlock = some q) : u.ownBlock ≠ some q := fun eq => by
 obtain ⟨_, h2⟩ := h
 obtain ⟨_, h3⟩ := h'
 rcases h2 with ⟨rfl, _⟩ | ⟨g, cap, cur, rfl, _, hh, _⟩
 ·cases hq
 ·rcases h3 with ⟨rfl, _⟩ | ⟨g', cap', cur', rfl, _, hh', _⟩
  ·cases eq
  ·have e1 : g = q := ownInj hq
   have e2 : g' = q := ownInj eq
   subst e1
   rw [e2, hh] at hh'
   injection hh' with hh'
   injection hh' with _ h5 _
   exact he h5
structure CovO (w : World) (base : Nat) (sv : Value) (i : Nat) (rv : Value) (j : Nat) (f : Nat -> Sp) (rn : Nat -> Nat) (X : Nat -> Nat -> Int) (T : Nat -> Lr) : Prop where
 s : OwnS w base sv i f
 r : RowR w base rv j rn X T
 ap : ∀ g, sv.ownBlock = some g -> ∀ p, p < j -> g < (T p).lo ∨ (T p).hi <= g
section
variable {w w' : World} {base i j : Nat} {sv rv : Value} {f : Nat -> Sp} {rn : Nat -> Nat} {X : Nat -> Nat -> Int} {T : Nat -> Lr}
theorem CovO.below (h : CovO w base sv i rv j f rn X T) (hb : Below w.heap.size w w') : CovO w' base sv i rv j f rn X T := ⟨ownsRow_blw h.s hb, h.r.below hb, h.ap⟩
theorem CovO.ne (h : CovO w base sv i rv j f rn X T) (q : Nat) (hq : sv.ownBlock = some q) : rv.ownBlock ≠ some q := typApart h.s h.r.own (by decide) q hq
theorem CovO.base_le {base' : Nat} (h : CovO w base sv i rv j f rn X T) (hb : base' <= base) : CovO w base' sv i rv j f rn X T := ⟨rowLow h.s hb, h.r.base_le hb, h.ap⟩
theorem CovO.setB {C o : Nat} {x : Value} (h : CovO w base sv i rv j f rn X T) (hC : C < base) : CovO (w.setCell ⟨C, o, none⟩ x) base sv i rv j f rn X T :=
 ⟨rowKept h.s (fun g hg => Below.heap_setCell _ _ _ _ (by show g ≠ C; have := rowGt h.s g hg; omega)), h.r.setB (fun g hg => by have := rowGt h.r.own g hg; omega) (fun p hp => Or.inl (by have := h.r.low p hp; omega)), h.ap⟩
theorem CovO.grownX {row : Option Nat} (h : CovO w base sv i rv j f rn X T) (hg : w.grownBy w' row) (h1 : ∀ g, sv.ownBlock = some g -> some g ≠ row) (h2 : ∀ g, rv.ownBlock = some g -> some g ≠ row) (h3 : ∀ p, p < j -> ∀ b, row = some b -> b < (T p).lo ∨ (T p).hi <= b) : CovO w' base sv i rv j f rn X T :=
 ⟨rowKept h.s (fun g q => hg.block g (rowGt h.s g q).2 (h1 g q)), h.r.grownX hg h2 h3, h.ap⟩
theorem CovO.pushS {gg cc : Nat} (h : CovO w base sv i rv j f rn X T) (hown : w'.ownsRow base 35 2 (.slice (some ⟨gg, 0, none⟩) (i + 1) cc) (i + 1) (encS f i ++ spV (f i))) (hgr : w.grownBy w' sv.ownBlock) (hgg : sv.ownBlock = some gg ∨ w.heap.size <= gg) : CovO w' base (.slice (some ⟨gg, 0, none⟩) (i + 1) cc) (i + 1) rv j f rn X T := by
 refine ⟨by unfold OwnS; rw [<- encS_snoc]; exact hown, h.r.grownX hgr (fun g hg e => h.ne g e.symm hg) (fun p hp b hb => h.ap b hb p hp), fun g hg p hp => ?_⟩
 have := ownInj hg
 subst this
 rcases hgg with q | q
 ·exact h.ap _ q p hp
 ·exact Or.inr (Nat.le_trans (h.r.q p hp).hh.2 q)
theorem CovO.pushR {w0 : World} {t : Lr} {gg cc : Nat} (h : CovO w0 base sv i rv j f rn X T) (hb : Below w0.heap.size w0 w) (hbs : base <= w0.heap.size) (ht : QR w (rn j) (X j) t) (hlo : w0.heap.size <= t.lo)
  (hown : w'.ownsRow base 36 1 (.slice (some ⟨gg, 0, none⟩) (j + 1) cc) (j + 1) (encR rn T j ++ [.slice t.a (rn j) t.c])) (hgr : w.grownBy w' rv.ownBlock) (hgg : rv.ownBlock = some gg ∨ w.heap.size <= gg) : CovO w' base sv i (.slice (some ⟨gg, 0, none⟩) (j + 1) cc) (j + 1) f rn X (extR T j t) := by
 have hw := h.below hb
 refine ⟨rowKept hw.s (fun g q => hgr.block g (rowGt hw.s g q).2 (fun e => h.ne g q e.symm)), hw.r.snoc ht (by omega) (fun p hp => Nat.le_trans (h.r.q p hp).hh.2 hlo) (fun g hg => Or.inl (by have := rowGt h.r.own g hg; omega)) hown hgr hgg, fun g hg p hp => ?_⟩
 unfold extR
 by_cases e : p = j
 ·rw [if_pos e]; exact Or.inl (by have := rowGt h.s g hg; omega)
 ·rw [if_neg e]; exact h.ap g hg p (by omega)
theorem CovO.sls (h : CovO w base sv i rv j f rn X T) : ∃ a cap, sv = .slice a i cap ∧ SlP w a i cap (spC f) (spQ f) := h.s.sl
end
def mcN (E : Nat -> Ev) (n : Nat) : Nat := if roomTo E n then n else 0
abbrev mcF (E : Nat -> Ev) (n : Nat) : Nat -> Sp := sp (naE E) (rsE E n)
abbrev mcR (E : Nat -> Ev) (n : Nat) : Nat -> Nat := fun p => chN (naE E) (rsE E n) (p + 1)
abbrev mcX (E : Nat -> Ev) (n : Nat) : Nat -> Nat -> Int := fun p c => ((rc (naE E) (rsE E n) p c : Nat) : Int)
def McPost (E : Nat -> Ev) (n : Nat) (w : World) (x : Ending) (w' : World) : Prop :=
 ∃ sv rv T, x = .returned (.tuple #[.agg #[sv, rv], .bool (roomTo E n)]) ∧ Hid (CovO w' w.heap.size sv (mcN E n) rv (mcN E n) (mcF E n) (mcR E n) (mcX E n) T) ∧ Below w.heap.size w w'
theorem McPost.none {E : Nat -> Ev} {n : Nat} {w w' : World} (h : roomTo E n = false) (hb : Below w.heap.size w w') : McPost E n w (.returned (.tuple #[.agg #[.slice .none 0 0, .slice .none 0 0], .bool false])) w' := by
 refine ⟨.slice .none 0 0, .slice .none 0 0, fun _ => ⟨.none, 0, 0, 0⟩, by rw [h], ?_, hb⟩
 have : mcN E n = 0 := by unfold mcN; rw [h]; rfl
 unfold Hid
 rw [this]
 exact ⟨OwnS.nil _ _ _, RowR.nil _ _ _ _ _, fun g hg => by cases hg⟩
theorem endF_new {na : Nat -> Nat} {rs : Nat -> Nat -> Nat} {n k c : Nat} (H : ∀ k, k < n -> ∀ j, j < na k -> rs k j < k) (hk : k <= n) (hc : chN na rs k <= c) : endF na rs k c = 0 := by
 rcases (endF_spec H k hk c).2 with h | ⟨i, hi, e, _⟩
 ·exact h
 ·have := ((sp_inv H k hk).1 i hi).1
  omega
theorem OwnI.putY {w : World} {base g cap n c : Nat} {X Y : Nat -> Int} {y : Int} (h : OwnI w base (.slice (some ⟨g, 0, none⟩) n cap) n X) (hY : ∀ i, i < n -> Y i = if i = c then y else X i) : OwnI (w.setCell ⟨g, c, none⟩ (.int .i64 y)) base (.slice (some ⟨g, 0, none⟩) n cap) n Y := by
 have := (World.ownsRow.stored h c (.int .i64 y)).1
 unfold OwnI
 have e : ints Y n = (ints X n).set c (.int .i64 y) := by
  refine List.ext_getElem? fun i => ?_
  by_cases hi : i < n
  ·rw [ints_get Y n i hi, List.getElem?_set, hY i hi]
   by_cases e : c = i
   ·subst e; rw [if_pos rfl, if_pos rfl, if_pos (by rw [ints_len]; exact hi)]
   ·rw [if_neg e, if_neg (fun q => e q.symm), ints_get X n i hi]
  ·rw [List.getElem?_eq_none (by rw [ints_len]; omega), List.getElem?_eq_none (by rw [List.length_set, ints_len]; omega)]
 rw [e]
 exact this
end Go.Proofs.YtpmebojkkjlkgaaGreat
