/-
  impl's nextSpot, reachFrom.
-/
import Derived.Test.YtlopjfhdhkonbaaProg
import Derived.Test.YtlopjfhdhkonbaaCoS
import Derived.Test.YtlopjfhdhkonbaaCovT
namespace Go.Proofs.Ytlopjfhdhkonbaa
open Go.RowKit

set_option maxRecDepth 100000 in
set_option maxHeartbeats 2000000 in
theorem nxI_any {sa : Option Addr} {k scap : Nat} {ea : Option Addr} {ch ecap : Nat} {f : Nat → Sp} {en : Nat → Nat} {r : Nat → Nat} {qa : Option Addr} (m cap : Nat) (w : World) (hs : SlP w sa k scap (spC f) (spQ f)) (he : SlI w ea ch ecap (fun c => ((en c : Nat) : Int))) (hr : SlI w qa m cap (fun j => ((r j : Nat) : Int)))
    (hk : ∀ j, j < m → r j < k) (hc : ∀ p, p < k → (f p).c < ch ∧ (f p).q < 1000000) (hl : ∀ p, p < k → (en (f p).c = (f p).q ↔ lastTo f p k = true)) :
    Calls Try.prog 21 #[.slice sa k scap, .slice ea ch ecap, .slice qa m cap] w fun x w' => x = .returned (.agg #[.int .i64 ((((nxtTo f k r m).getD ⟨ch, 1⟩).c : Nat) : Int), .int .i64 ((((nxtTo f k r m).getD ⟨ch, 1⟩).q : Nat) : Int)]) ∧ Below w.heap.size w w' := by
  have hm := Nat.le_trans hr.le hr.max
  unfold maxLen at hm
  obtain ⟨wa, hwa⟩ : ∃ wa, wa = w.alloc (.cells #[.int .i64 0, .int .i64 0] 44) := ⟨_, rfl⟩
  have hba : Below w.heap.size w wa := by rw [hwa]; exact (Below.refl _ _).alloc (Nat.le_refl _) _
  have hza : w.heap.size < wa.heap.size := by rw [hwa]; simp
  have hca : Hid (∀ W, Below wa.heap.size wa W → W.cell? ⟨w.heap.size, 0, none⟩ = some (.int .i64 0) ∧ W.cell? ⟨w.heap.size, 1, none⟩ = some (.int .i64 0) ∧ W.frozen? ⟨w.heap.size, 0, none⟩ = false ∧ W.frozen? ⟨w.heap.size, 1, none⟩ = false) := fun W hW => by
    refine ⟨(hW.cell (by exact hza)).trans ?_, (hW.cell (by exact hza)).trans ?_, (hW.frozen (by exact hza)).trans ?_, (hW.frozen (by exact hza)).trans ?_⟩ <;> rw [hwa]
    · exact World.cell?_alloc_at _ _ _ _ rfl
    · exact World.cell?_alloc_at _ _ _ _ rfl
    · exact World.frozen?_alloc_at _ _ _ _ rfl
    · exact World.frozen?_alloc_at _ _ _ _ rfl
  have HP : Hid (∀ W j, j < m → Below wa.heap.size wa W → ∃ sb so, sa = some ⟨sb, so, none⟩ ∧ W.cell? ⟨sb, so + r j * 2, none⟩ = some (.int .i64 ((f (r j)).c : Int)) ∧ W.cell? ⟨sb, so + r j * 2 + 1, none⟩ = some (.int .i64 ((f (r j)).q : Int)) ∧ sb < w.heap.size) := fun W j hj hW => by
    have hW' := hba.trans (hW.mono hba.size)
    rcases hs.cells with h0 | ⟨sb, so, e, hsb, c1, c2⟩
    · have := hk j hj; omega
    · exact ⟨sb, so, e, (hW'.cell (by exact hsb)).trans (c1 _ (hk j hj)), (hW'.cell (by exact hsb)).trans (c2 _ (hk j hj)), hsb⟩
  have HE : Hid (∀ W j, j < m → Below wa.heap.size wa W → ∃ eb eo, ea = some ⟨eb, eo, none⟩ ∧ W.cell? ⟨eb, eo + (f (r j)).c, none⟩ = some (.int .i64 (en (f (r j)).c : Int)) ∧ eb < w.heap.size) := fun W j hj hW => by
    have hW' := hba.trans (hW.mono hba.size)
    have hcj := (hc _ (hk j hj)).1
    rcases he.cells with h0 | ⟨eb, eo, e, heb, c1⟩
    · omega
    · exact ⟨eb, eo, e, (hW'.cell (by exact heb)).trans (c1 _ hcj), heb⟩
  have HR : Hid (∀ W j, j < m → Below wa.heap.size wa W → ∃ b off, qa = some ⟨b, off, none⟩ ∧ W.cell? ⟨b, off + j, none⟩ = some (.int .i64 ((r j : Nat) : Int))) := fun W j hj hW => by
    rcases hr.cells with h0 | ⟨b, off, e, hb, hc⟩
    · omega
    · exact ⟨b, off, e, ((hba.trans (hW.mono hba.size)).cell (by exact hb)).trans (hc j hj)⟩
  have HK : Hid (∀ j, j < m → r j < k ∧ (f (r j)).c < ch ∧ (f (r j)).q < 1000000 ∧ (en (f (r j)).c = (f (r j)).q ↔ lastTo f (r j) k = true)) := fun j hj => ⟨hk j hj, (hc _ (hk j hj)).1, (hc _ (hk j hj)).2, hl _ (hk j hj)⟩
  have hsn := Nat.le_trans hs.le hs.max
  have hen := Nat.le_trans he.le he.max
  unfold maxLen at hsn hen
  obtain ⟨V, hV⟩ : ∃ V, V = (nxtTo f k r m).getD ⟨ch, 1⟩ := ⟨_, rfl⟩
  have HV : Hid (V = (nxtTo f k r m).getD ⟨ch, 1⟩) := hV
  rw [← hV]
  clear hV hs he hr hk hc hl
  go_enter Try.func21, Try.ntmps21
  go_wp2_with fail
  rw [← hwa]
  clear hwa
  go_loopw [12] (fun iv wr => ∃ j : Nat, j ≤ m ∧ iv = .int .i64 (j : Int) ∧ Hid (nxtTo f k r j = none) ∧ Below wa.heap.size wa wr) (fun iv _ => m - (intOf iv).toNat)
  case atStart => exact ⟨0, Nat.zero_le _, rfl, rfl, Below.refl _ _⟩
  case round =>
    obtain ⟨j, hj, rfl, hno, hbel⟩ := hrel
    obtain ⟨y0, y1, y2, y3⟩ := hca.out _ hbel
    have hw := hba.trans (hbel.mono hba.size)
    have hzr : w.heap.size < wr.heap.size := Nat.lt_of_lt_of_le hza hbel.size
    by_cases hlt : j < m
    · obtain ⟨b, off, rfl, a0⟩ := HR.out wr j hlt hbel
      obtain ⟨sb, so, rfl, a1, a2, hsb⟩ := HP.out wr j hlt hbel
      obtain ⟨k1, k2, k3, k4⟩ := HK.out j hlt
      have hbA : Below wr.heap.size wr (wr.alloc (.cells #[.int .i64 ((f (r j)).c : Int), .int .i64 ((f (r j)).q : Int)] 44)) := (Below.refl _ _).alloc (Nat.le_refl _) _
      have hbelA := hbel.trans (hbA.mono hbel.size)
      obtain ⟨eb, eo, rfl, a3, heb⟩ := HE.out _ j hlt hbelA
      obtain ⟨z0, z1, z2, z3⟩ := hca.out _ hbelA
      have Hyes : Hid (en (f (r j)).c = (f (r j)).q → V = ⟨(f (r j)).c, (f (r j)).q + 1⟩) := fun e => by rw [HV.out, nxtTo_some (nxtTo_at hno.out (k4.1 e)) (show j + 1 ≤ m by omega)]; rfl
      have Hnn : Hid (¬ en (f (r j)).c = (f (r j)).q → nxtTo f k r (j + 1) = none) := fun e => nxtTo_no hno.out (by
        cases q : lastTo f (r j) k with
        | false => rfl
        | true => exact absurd (k4.2 q) e)
      have hwA : Below w.heap.size w (wr.alloc (.cells #[.int .i64 ((f (r j)).c : Int), .int .i64 ((f (r j)).q : Int)] 44)) := hw.alloc hw.size _
      have i1 : (0 : Int) ≤ ((r j : Nat) : Int) := by omega
      have i2 : ((r j : Nat) : Int) < (k : Int) := by omega
      have i3 : (0 : Int) ≤ ((f (r j)).c : Int) := by omega
      have i4 : ((f (r j)).c : Int) < (ch : Int) := by omega
      have iw : IntKind.i64.wrap (((f (r j)).q : Int) + 1) = ((f (r j)).q : Int) + 1 := by rw [IntKind.wrap_i64]; omega
      clear k4 HK HR HP HE
      generalize en (f (r j)).c = ev at *
      generalize (f (r j)).c = fc at *
      generalize (f (r j)).q = fq at *
      generalize r j = rj at *
      by_cases e : ev = fq
      · have hv : V = ⟨fc, fq + 1⟩ := Hyes.out e
        subst hv e
        clear Hyes Hnn
        obtain ⟨W0, hW0⟩ : ∃ W0, W0 = (wr.setCell ⟨w.heap.size, 0, none⟩ (.int .i64 (fc : Int))).setCell ⟨w.heap.size, 1, none⟩ (.int .i64 ((ev : Int) + 1)) := ⟨_, rfl⟩
        have g0 : W0.cell? ⟨w.heap.size, 0, none⟩ = some (.int .i64 (fc : Int)) := by rw [hW0, set_far (by omega)]; exact set_same ⟨_, y0⟩
        have g1 : W0.cell? ⟨w.heap.size, 1, none⟩ = some (.int .i64 ((ev : Int) + 1)) := by rw [hW0]; exact set_same ⟨_, by rw [set_far (by omega)]; exact y1⟩
        have hz0 : w.heap.size < W0.heap.size := by rw [hW0]; simpa [World.setCell] using hzr
        have hAl : Below W0.heap.size W0 (W0.alloc (.cells #[.int .i64 (fc : Int), .int .i64 (ev : Int)] 44)).drew := ((Below.refl _ _).alloc (Nat.le_refl _) _).drew
        have f0 := (hAl.cell (by exact hz0)).trans g0
        have f1 := (hAl.cell (by exact hz0)).trans g1
        have hfin : Hid (Below w.heap.size w (W0.alloc (.cells #[.int .i64 (fc : Int), .int .i64 (ev : Int)] 44)).drew) := by
          have : Below w.heap.size w W0 := by rw [hW0]; exact (hw.setCell (by exact Nat.le_refl _) _).setCell (by exact Nat.le_refl _) _
          exact this.trans (hAl.mono this.size)
        rw [hW0] at f0 f1 hfin
        clear g0 g1 hAl hW0
        go_wp2_with fail
        go_region
        all_goals
          go_wp2
          refine bodyPost_ret (v := .agg #[.int .i64 (fc : Int), .int .i64 ((ev : Int) + 1)]) (by simp [results, Try.results21, go_sem, f0, f1]) rfl ⟨by first | rfl | (congr 5), hfin.out⟩
      · have hno2 : Hid (_) := Hnn.out e
        have e4 : ¬ ((ev : Int) = (fq : Int)) := by omega
        clear Hyes Hnn
        go_wp2_with fail
        go_region
        all_goals
          go_wp2
          exact ⟨⟨j + 1, by omega, by go_num, hno2, by first | exact hbelA | exact hbelA.drew | exact hbelA.drew.drew⟩, by simp [intOf]; omega⟩
    · have hjm : j = m := by omega
      subst hjm
      have hv : V = ⟨ch, 1⟩ := by rw [HV.out, hno.out]; rfl
      subst hv
      clear HP HE HR HK
      go_wp2
      refine bodyPost_ret (v := .agg #[.int .i64 (ch : Int), .int .i64 1]) (by simp [results, Try.results21, go_sem, y0, y1]) rfl ⟨by first | rfl | (congr 5), ?_⟩
      repeat' (first | exact hw | (refine Below.setCell ?_ (by exact Nat.le_refl _) _))
end Go.Proofs.Ytlopjfhdhkonbaa
