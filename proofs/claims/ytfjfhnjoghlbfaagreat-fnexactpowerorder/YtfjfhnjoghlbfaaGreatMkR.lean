import Derived.Test.YtfjfhnjoghlbfaaGreatMkA
namespace Go.Proofs.YtfjfhnjoghlbfaaGreat
open Go.RowKit

theorem put10_wr0 {w : World} {B o : Nat} {e : Ev} {pa aa ga : Option Addr} {cp ca cg lo n : Nat} {a : Option Addr} (h : Wr0 w lo a n) : Wr0 (put10 w B o e pa cp aa ca ga cg) lo a n :=
  (((((((((h.set _).set _).set _).set _).set _).set _).set _).set _).set _).set _

/-- event e lies at (B, o), its lists in blocks above B; they may be written. -/
def EvNewW (w : World) (B o : Nat) (e : Ev) : Prop := ∃ bp ba bg, B < bp ∧ B < ba ∧ B < bg ∧ EvCells w B o e (some ⟨bp, 0, none⟩) e.np (some ⟨ba, 0, none⟩) e.na (some ⟨bg, 0, none⟩) e.ng ∧ EvOk w e (some ⟨bp, 0, none⟩) e.np (some ⟨ba, 0, none⟩) e.na (some ⟨bg, 0, none⟩) e.ng ∧
  Wr0 w (B + 1) (some ⟨bp, 0, none⟩) e.np ∧ Wr0 w (B + 1) (some ⟨ba, 0, none⟩) e.na ∧ Wr0 w (B + 1) (some ⟨bg, 0, none⟩) (e.ng * 2)
theorem EvNewW.plain {w : World} {B o : Nat} {e : Ev} (h : EvNewW w B o e) : EvNew w B o e := by
  obtain ⟨bp, ba, bg, h1, h2, h3, h4, h5, _⟩ := h
  exact ⟨bp, ba, bg, h1, h2, h3, h4, h5⟩
theorem EvNewW.below {w w' : World} {B o : Nat} {e : Ev} (h : EvNewW w B o e) (hb : Below w.heap.size w w') (hlt : B < w.heap.size) : EvNewW w' B o e := by
  obtain ⟨bp, ba, bg, h1, h2, h3, h4, h5, h6, h7, h8⟩ := h
  exact ⟨bp, ba, bg, h1, h2, h3, h4.below hb hlt, h5.below hb, h6.below hb, h7.below hb, h8.below hb⟩
theorem EvNewW.put {w : World} {B o o' : Nat} {e e' : Ev} {pa aa ga : Option Addr} {cp ca cg : Nat} (h : EvNewW w B o e) (ho : o + 10 ≤ o') : EvNewW (put10 w B o' e' pa cp aa ca ga cg) B o e := by
  obtain ⟨bp, ba, bg, h1, h2, h3, h4, h5, h6, h7, h8⟩ := h
  refine ⟨bp, ba, bg, h1, h2, h3, ?_, ⟨h5.hid, h5.hsd, h5.hty, h5.hkey, h5.hval, put10_slS _ _ _ _ _ _ _ _ _ _ h5.hp (by omega), put10_slS _ _ _ _ _ _ _ _ _ _ h5.ha (by omega), put10_slG _ _ _ _ _ _ _ _ _ _ h5.hg (by omega)⟩, put10_wr0 h6, put10_wr0 h7, put10_wr0 h8⟩
  exact ⟨(put10_far _ _ _ _ _ _ _ _ _ _ _ (by omega)).trans h4.c0, (put10_far _ _ _ _ _ _ _ _ _ _ _ (by omega)).trans h4.c1, (put10_far _ _ _ _ _ _ _ _ _ _ _ (by omega)).trans h4.c2, (put10_far _ _ _ _ _ _ _ _ _ _ _ (by omega)).trans h4.c3, (put10_far _ _ _ _ _ _ _ _ _ _ _ (by omega)).trans h4.c4, (put10_far _ _ _ _ _ _ _ _ _ _ _ (by omega)).trans h4.c5, (put10_far _ _ _ _ _ _ _ _ _ _ _ (by omega)).trans h4.c6, (put10_far _ _ _ _ _ _ _ _ _ _ _ (by omega)).trans h4.c7, (put10_far _ _ _ _ _ _ _ _ _ _ _ (by omega)).trans h4.c8, (put10_far _ _ _ _ _ _ _ _ _ _ _ (by omega)).trans h4.c9⟩
theorem EvNewW.set {w : World} {b o C j : Nat} {e : Ev} (h : EvNewW w b o e) (hC : C < b) (x : Value) : EvNewW (w.setCell ⟨C, j, none⟩ x) b o e := by
  obtain ⟨bp, ba, bg, h1, h2, h3, h4, h5, h6, h7, h8⟩ := h
  refine ⟨bp, ba, bg, h1, h2, h3, ⟨?_, ?_, ?_, ?_, ?_, ?_, ?_, ?_, ?_, ?_⟩, ⟨h5.hid, h5.hsd, h5.hty, h5.hkey, h5.hval, h5.hp.set (by omega) _, h5.ha.set (by omega) _, h5.hg.set (by omega) _⟩, h6.set _, h7.set _, h8.set _⟩
  · rw [far_block (by omega)]; exact h4.c0
  · rw [far_block (by omega)]; exact h4.c1
  · rw [far_block (by omega)]; exact h4.c2
  · rw [far_block (by omega)]; exact h4.c3
  · rw [far_block (by omega)]; exact h4.c4
  · rw [far_block (by omega)]; exact h4.c5
  · rw [far_block (by omega)]; exact h4.c6
  · rw [far_block (by omega)]; exact h4.c7
  · rw [far_block (by omega)]; exact h4.c8
  · rw [far_block (by omega)]; exact h4.c9

set_option maxHeartbeats 4000000 in
theorem toVw_any (b off n cap : Nat) (E : Nat → Ev) (w : World) (hr : n * 168 ≤ 140737488351232) (hR : ∀ i, i < n → EvReach (E i)) (hb : b < w.heap.size) (hc : ∀ i, i < n → EvAt w b (off + i * 10) (E i)) :
    Calls Tryz.prog 19 #[.slice (some ⟨b, off, none⟩) n cap] w fun e w' =>
      e = .returned (.slice (some ⟨w.heap.size, 0, none⟩) n n) ∧ (∀ i, i < n → EvNewW w' w.heap.size (i * 10) (E i)) ∧ Free w' w.heap.size (n * 10) ∧ w.heap.size < w'.heap.size ∧ Below w.heap.size w w' := by
  have hmk := make_ev n hr w
  go_enter Tryz.func19, Tryz.ntmps19
  go_wp2
  clear hmk
  go_loopw [4] (fun i wr => ∃ k : Nat, k ≤ n ∧ i = .int .i64 k ∧ Hid (∀ i, i < k → EvNewW wr w.heap.size (i * 10) (E i)) ∧ Free wr w.heap.size (n * 10) ∧ w.heap.size < wr.heap.size ∧ Below w.heap.size w wr) (fun i _ => n - (intOf i).toNat)
  case atStart => exact ⟨0, Nat.zero_le _, rfl, fun i hi => absurd hi (Nat.not_lt_zero _), fun i hi => ⟨cell_made _ _ _ _ (by rw [mkV_size]; exact hi), World.frozen?_alloc_at _ _ _ _ rfl⟩, by simp, (Below.refl _ _).alloc (Nat.le_refl _) _⟩
  case round =>
    obtain ⟨k, hk, rfl, hdone, hfree, hsz, hbel⟩ := hrel
    by_cases hlt : k < n
    · obtain ⟨pa, cp, aa, ca, ga, cg, hcs, hok⟩ := hc k hlt
      obtain ⟨c0, c1, c2, c3, c4, c5, c6, c7, c8, c9⟩ := hcs.below hbel hb
      have ho := hok.below hbel
      obtain ⟨r1, r2, r3⟩ := hR k hlt
      clear hcs hok hc hR
      go_wp2_with fail
      refine (toEvw_fresh _ _ _ _ _ _ _ pa _ cp aa _ ca ga _ cg (E k).Pv (E k).Av (E k).M (E k).L _ r1 r2 r3 ho.hp ho.ha ho.hg).mono ?_
      rintro e w1 ⟨bp, ba, bg, rfl, hp1, ha1, hg1, hb1, g1, g2, g3, v1, v2, v3⟩
      have hfree1 : Free w1 w.heap.size (n * 10) := fun i hi => by
        obtain ⟨⟨v, hv⟩, hf⟩ := hfree i hi
        exact ⟨⟨v, (hb1.cell (by exact hsz)).trans hv⟩, (hb1.frozen (by exact hsz)).trans hf⟩
      have hf10 : ∀ j, j < 10 → (∃ v, w1.cell? ⟨w.heap.size, k * 10 + j, none⟩ = some v) ∧ w1.frozen? ⟨w.heap.size, k * 10 + j, none⟩ = false := fun j hj => hfree1 _ (by omega)
      have hdone1 : Hid (∀ i, i < k → EvNewW w1 w.heap.size (i * 10) (E i)) := fun i hi => (hdone.out i hi).below hb1 hsz
      obtain ⟨⟨x0, y0⟩, z0⟩ := hf10 0 (by decide)
      obtain ⟨⟨x1, y1⟩, z1⟩ := hf10 1 (by decide)
      obtain ⟨⟨x2, y2⟩, z2⟩ := hf10 2 (by decide)
      obtain ⟨⟨x3, y3⟩, z3⟩ := hf10 3 (by decide)
      obtain ⟨⟨x4, y4⟩, z4⟩ := hf10 4 (by decide)
      obtain ⟨⟨x5, y5⟩, z5⟩ := hf10 5 (by decide)
      obtain ⟨⟨x6, y6⟩, z6⟩ := hf10 6 (by decide)
      obtain ⟨⟨x7, y7⟩, z7⟩ := hf10 7 (by decide)
      obtain ⟨⟨x8, y8⟩, z8⟩ := hf10 8 (by decide)
      obtain ⟨⟨x9, y9⟩, z9⟩ := hf10 9 (by decide)
      simp only [Nat.add_zero] at y0 z0
      have HF : Hid (_) := hf10
      have hsz1 : w.heap.size < w1.heap.size := Nat.lt_of_lt_of_le hsz hb1.size
      have hbel1 := hbel.trans (hb1.mono hbel.size)
      clear hf10 hfree hdone hbel hb1 c0 c1 c2 c3 c4 c5 c6 c7 c8 c9 r1 r2 r3
      go_wp2
      go_roundw
      case rel => exact ⟨k + 1, by omega, by go_num, fun i hi => by
        by_cases ek : i = k
        · subst ek
          exact ⟨bp, ba, bg, by omega, by omega, by omega, put10_cells _ _ _ _ _ _ _ _ _ _ HF.out, ⟨ho.hid, ho.hsd, ho.hty, ho.hkey, ho.hval, put10_slS _ _ _ _ _ _ _ _ _ _ hp1 (by omega), put10_slS _ _ _ _ _ _ _ _ _ _ ha1 (by omega), put10_slG _ _ _ _ _ _ _ _ _ _ hg1 (by omega)⟩, put10_wr0 (v1.low (by omega)), put10_wr0 (v2.low (by omega)), put10_wr0 (v3.low (by omega))⟩
        · exact (hdone1.out i (by omega)).put (by omega), put10_free _ _ _ _ _ _ _ _ _ _ hfree1, by rw [put10_size]; exact hsz1, put10_below _ _ _ _ _ _ _ _ _ _ hbel1 (Nat.le_refl _)⟩
      case measure => simp [intOf]; omega
    · go_wp2
      go_ret
      exact ⟨rfl, fun i hi => hdone.out i (by omega), hfree, hsz, hbel⟩

theorem toVw_new {a : Option Addr} {n cap : Nat} {E : Nat → Ev} (w : World) (hr : n * 168 ≤ 140737488351232) (hR : ∀ i, i < n → EvReach (E i)) (h : SlV w a n cap E) :
    Calls Tryz.prog 19 #[.slice a n cap] w fun e w' =>
      e = .returned (.slice (some ⟨w.heap.size, 0, none⟩) n n) ∧ (∀ i, i < n → EvNewW w' w.heap.size (i * 10) (E i)) ∧ Free w' w.heap.size (n * 10) ∧ w.heap.size < w'.heap.size ∧ Below w.heap.size w w' := by
  rcases h.cells with rfl | ⟨b, off, rfl, hb, hc⟩
  · refine (toV_zero a cap w).mono ?_
    rintro e w' ⟨rfl, hsz, hbel⟩
    exact ⟨rfl, fun i hi => absurd hi (Nat.not_lt_zero _), fun i hi => absurd hi (by omega), hsz, hbel⟩
  · exact toVw_any b off n cap E w hr hR hb hc

set_option maxHeartbeats 1000000 in
theorem toRw_sl {a : Option Addr} {n cap : Nat} {E : Nat → Ev} (w : World) (hr : n * 168 ≤ 140737488351232) (hR : ∀ i, i < n → EvReach (E i)) (h : SlV w a n cap E) :
    Calls Tryz.prog 7 #[.agg #[.slice a n cap]] w fun e w' =>
      ∃ b, e = .returned (.agg #[.slice (some ⟨b, 0, none⟩) n n]) ∧ (∀ i, i < n → EvNewW w' b (i * 10) (E i)) ∧ Free w' b (n * 10) ∧ Below w.heap.size w w' ∧ w.heap.size ≤ b ∧ b < w'.heap.size := by
  have hb0 : ∀ o o2 o3, Below w.heap.size w (((w.alloc o).alloc o2).alloc o3) := fun o o2 o3 => (((Below.refl _ _).alloc (Nat.le_refl _) _).alloc (by simp) _).alloc (by simp; omega) _
  go_enter Tryz.func7, Tryz.ntmps7
  go_wp2_with fail
  refine (toVw_new _ hr hR (h.below (hb0 _ _ _))).mono ?_
  rintro e w1 ⟨rfl, hev, hfr, hsz1, hb1⟩
  have q1 : w1.cell? ⟨w.heap.size + 1, 0, none⟩ = some (.slice none 0 0) := (hb1.cell (by simp)).trans (by rw [World.cell?_alloc_past _ _ _ (by simp)]; exact World.cell?_alloc_at _ _ _ _ (by simp))
  have q2 : w1.cell? ⟨w.heap.size + 1 + 1, 0, none⟩ = some (.slice none 0 0) := (hb1.cell (by simp)).trans (World.cell?_alloc_at _ _ _ _ (by simp))
  have f1 : w1.frozen? ⟨w.heap.size + 1, 0, none⟩ = false := (hb1.frozen (by simp)).trans (by rw [World.frozen?_alloc_past _ _ _ (by simp)]; exact World.frozen?_alloc_at _ _ _ _ (by simp))
  have f2 : w1.frozen? ⟨w.heap.size + 1 + 1, 0, none⟩ = false := (hb1.frozen (by simp)).trans (World.frozen?_alloc_at _ _ _ _ (by simp))
  have hbel := (hb0 _ _ _).trans (hb1.mono (by simp; omega))
  simp only [World.size_alloc] at hev hsz1 hfr
  have HE : Hid (_) := hev
  have HFr : Hid (_) := hfr
  clear hfr hev hb1 hb0 h hR
  go_wp2
  refine bodyPost_ret (v := .agg #[.slice (some ⟨w.heap.size + 1 + 1 + 1, 0, none⟩) n n]) (by simp [results, Tryz.results7, go_sem, q1]) rfl ⟨_, rfl, fun i hi => ((HE.out i hi).set (by omega) _).set (by omega) _, fun i hi => ?_, (hbel.setCell (Nat.le_add_right _ 2) _).setCell (Nat.le_add_right _ _) _, by omega, by simpa [World.setCell] using hsz1⟩
  obtain ⟨⟨v, hv⟩, hf⟩ := HFr.out i hi
  exact ⟨⟨v, by rw [far_block (by omega), far_block (by omega)]; exact hv⟩, by rw [World.frozen?_setCell, World.frozen?_setCell]; exact hf⟩

/-! ### markRoom -/

/-- how many marks the first n events take. -/
def esum (E : Nat → Ev) : Nat → Nat
  | 0 => 0
  | n + 1 => esum E n + (7 + (E n).np + (E n).na + (E n).ng * 2)

theorem lsum_congr {T T' : Nat → Lst} : ∀ n, (∀ i, i < n → (T i).num = (T' i).num) → lsum T n = lsum T' n
  | 0, _ => rfl
  | n + 1, h => by unfold lsum; rw [lsum_congr n (fun i hi => h i (by omega)), h n (by omega)]

/-- the lists of events that were copied, told by index. -/
theorem lists_of {w : World} {B n : Nat} {E : Nat → Ev} (h : ∀ i, i < n → EvNewW w B (i * 10) (E i)) :
    ∃ T : Nat → Lst, (∀ i, i < n → LstAt w B (0 + i * 10) (T i)) ∧ (∀ i, i < n → LstW w B w.heap.size (T i)) ∧ lsum T n = esum E n := by
  have each : ∀ i, i < n → ∃ l : Lst, LstAt w B (0 + i * 10) l ∧ LstW w B w.heap.size l ∧ l.num = 7 + (E i).np + (E i).na + (E i).ng * 2 := fun i hi => by
    obtain ⟨bp, ba, bg, _, _, _, h4, _, h6, h7, h8⟩ := h i hi
    refine ⟨⟨some ⟨bp, 0, none⟩, (E i).np, (E i).np, some ⟨ba, 0, none⟩, (E i).na, (E i).na, some ⟨bg, 0, none⟩, (E i).ng, (E i).ng⟩, ⟨?_, ?_, ?_⟩, ⟨h6.wr, h7.wr, h8.wr⟩, rfl⟩
    · rw [Nat.zero_add]; exact h4.c6
    · rw [Nat.zero_add]; exact h4.c7
    · rw [Nat.zero_add]; exact h4.c9
  obtain ⟨T, hT⟩ : ∃ T : Nat → Lst, ∀ i, i < n → LstAt w B (0 + i * 10) (T i) ∧ LstW w B w.heap.size (T i) ∧ (T i).num = 7 + (E i).np + (E i).na + (E i).ng * 2 :=
    ⟨fun i => if h : i < n then (each i h).choose else ⟨none, 0, 0, none, 0, 0, none, 0, 0⟩, fun i hi => by simp only [dif_pos hi]; exact (each i hi).choose_spec⟩
  refine ⟨T, fun i hi => (hT i hi).1, fun i hi => (hT i hi).2.1, ?_⟩
  have key : ∀ k, k ≤ n → lsum T k = esum E k := fun k => by
    induction k with
    | zero => intro _; rfl
    | succ k ih => intro hk; unfold lsum esum; rw [ih (by omega), (hT k (by omega)).2.2]
  exact key n (Nat.le_refl _)

set_option maxHeartbeats 800000 in
theorem markR_any {B n cap k0 : Nat} {E : Nat → Ev} {w0 : World} (w : World) (hn : n ≤ maxLen) (hs : k0 + esum E n ≤ 100000000) (hB : B < w0.heap.size) (hb : Below w0.heap.size w0 w) (hf : Free w0 B (n * 10)) (hE : ∀ i, i < n → EvNewW w0 B (i * 10) (E i)) :
    Calls Tryz.prog 12 #[.agg #[.slice (some ⟨B, 0, none⟩) n cap], .int .i64 (k0 : Int)] w fun e w' => e = .returned (.int .i64 ((k0 + esum E n : Nat) : Int)) ∧ Mkd B w0.heap.size w w' := by
  obtain ⟨T, hT, hW, hsum⟩ := lists_of hE
  rw [← hsum] at hs ⊢
  have hbA : ∀ o, Below w0.heap.size w0 (w.alloc o) := fun o => hb.alloc hb.size _
  have hmv : Hid (∀ W, Below w0.heap.size w0 W → Calls Tryz.prog 26 #[.slice (some ⟨B, 0, none⟩) n cap, .int .i64 (k0 : Int)] W fun e w' => e = .returned (.int .i64 ((k0 + lsum T n : Nat) : Int)) ∧ Mkd B w0.heap.size W w') := fun W hbW =>
    markV_any B 0 n cap k0 w0.heap.size T W hn hs hB (Nat.lt_of_lt_of_le hB hbW.size)
      (fun i hi => by rw [Nat.zero_add]; exact ⟨(hf i hi).1.imp fun _ hv => (hbW.cell (by exact hB)).trans hv, (hbW.frozen (by exact hB)).trans (hf i hi).2⟩)
      (LT.below hT hB hbW) (fun i hi => ⟨(hW i hi).1.below hbW, (hW i hi).2.1.below hbW, (hW i hi).2.2.below hbW⟩)
  clear hT hW hE hf hsum
  go_enter Tryz.func12, Tryz.ntmps12
  go_wp2_with fail
  refine (hmv.out _ (hbA _)).mono ?_
  rintro e w1 ⟨rfl, hm1⟩
  have hm : Mkd B w0.heap.size w w1 := ((Mkd.refl _ _ w).alloc _).trans hm1
  go_wp2
  go_ret
  exact ⟨by first | rfl | (congr 2), hm⟩
end Go.Proofs.YtfjfhnjoghlbfaaGreat
