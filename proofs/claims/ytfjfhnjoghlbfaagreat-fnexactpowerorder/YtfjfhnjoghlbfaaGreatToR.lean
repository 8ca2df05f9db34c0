import Derived.Test.YtfjfhnjoghlbfaaGreatLawR
namespace Go.Proofs.YtfjfhnjoghlbfaaGreat
open Go.RowKit

section
variable (w : World) (B o : Nat) (e : Ev) (pa : Option Addr) (cp : Nat) (aa : Option Addr) (ca : Nat) (ga : Option Addr) (cg : Nat)
/-- an event stored into ten cells. -/
abbrev put10 : World :=
  ((((((((((w.setCell ⟨B, o, none⟩ (.string e.id)).setCell ⟨B, o + 1, none⟩ (.string e.sd)).setCell ⟨B, o + 2, none⟩ (.string e.ty)).setCell ⟨B, o + 3, none⟩ (.bool e.st)).setCell ⟨B, o + 4, none⟩ (.string e.key)).setCell ⟨B, o + 5, none⟩ (.int .i64 e.tm)).setCell ⟨B, o + 6, none⟩ (.slice pa e.np cp)).setCell ⟨B, o + 7, none⟩ (.slice aa e.na ca)).setCell ⟨B, o + 8, none⟩ (.string e.val)).setCell ⟨B, o + 9, none⟩ (.slice ga e.ng cg))
theorem put10_far (i : Nat) (h : i < o ∨ o + 10 ≤ i) : (put10 w B o e pa cp aa ca ga cg).cell? ⟨B, i, none⟩ = w.cell? ⟨B, i, none⟩ := by
  rw [set_far (by omega), set_far (by omega), set_far (by omega), set_far (by omega), set_far (by omega), set_far (by omega), set_far (by omega), set_far (by omega), set_far (by omega), set_far (by omega)]
theorem put10_block (C i : Nat) (h : B ≠ C) : (put10 w B o e pa cp aa ca ga cg).cell? ⟨C, i, none⟩ = w.cell? ⟨C, i, none⟩ := by
  rw [far_block h, far_block h, far_block h, far_block h, far_block h, far_block h, far_block h, far_block h, far_block h, far_block h]
theorem put10_frozen (x : Addr) : (put10 w B o e pa cp aa ca ga cg).frozen? x = w.frozen? x := by
  rw [World.frozen?_setCell, World.frozen?_setCell, World.frozen?_setCell, World.frozen?_setCell, World.frozen?_setCell, World.frozen?_setCell, World.frozen?_setCell, World.frozen?_setCell, World.frozen?_setCell, World.frozen?_setCell]
theorem put10_size : (put10 w B o e pa cp aa ca ga cg).heap.size = w.heap.size := by simp [World.setCell]
theorem put10_cells (hf : ∀ j, j < 10 → (∃ v, w.cell? ⟨B, o + j, none⟩ = some v) ∧ w.frozen? ⟨B, o + j, none⟩ = false) : EvCells (put10 w B o e pa cp aa ca ga cg) B o e pa cp aa ca ga cg :=
  ⟨by rw [set_far (by omega), set_far (by omega), set_far (by omega), set_far (by omega), set_far (by omega), set_far (by omega), set_far (by omega), set_far (by omega), set_far (by omega)]; refine set_same ?_; exact (hf 0 (by decide)).1,
    by rw [set_far (by omega), set_far (by omega), set_far (by omega), set_far (by omega), set_far (by omega), set_far (by omega), set_far (by omega), set_far (by omega)]; refine set_same ?_; rw [set_far (by omega)]; exact (hf 1 (by decide)).1,
    by rw [set_far (by omega), set_far (by omega), set_far (by omega), set_far (by omega), set_far (by omega), set_far (by omega), set_far (by omega)]; refine set_same ?_; rw [set_far (by omega), set_far (by omega)]; exact (hf 2 (by decide)).1,
    by rw [set_far (by omega), set_far (by omega), set_far (by omega), set_far (by omega), set_far (by omega), set_far (by omega)]; refine set_same ?_; rw [set_far (by omega), set_far (by omega), set_far (by omega)]; exact (hf 3 (by decide)).1,
    by rw [set_far (by omega), set_far (by omega), set_far (by omega), set_far (by omega), set_far (by omega)]; refine set_same ?_; rw [set_far (by omega), set_far (by omega), set_far (by omega), set_far (by omega)]; exact (hf 4 (by decide)).1,
    by rw [set_far (by omega), set_far (by omega), set_far (by omega), set_far (by omega)]; refine set_same ?_; rw [set_far (by omega), set_far (by omega), set_far (by omega), set_far (by omega), set_far (by omega)]; exact (hf 5 (by decide)).1,
    by rw [set_far (by omega), set_far (by omega), set_far (by omega)]; refine set_same ?_; rw [set_far (by omega), set_far (by omega), set_far (by omega), set_far (by omega), set_far (by omega), set_far (by omega)]; exact (hf 6 (by decide)).1,
    by rw [set_far (by omega), set_far (by omega)]; refine set_same ?_; rw [set_far (by omega), set_far (by omega), set_far (by omega), set_far (by omega), set_far (by omega), set_far (by omega), set_far (by omega)]; exact (hf 7 (by decide)).1,
    by rw [set_far (by omega)]; refine set_same ?_; rw [set_far (by omega), set_far (by omega), set_far (by omega), set_far (by omega), set_far (by omega), set_far (by omega), set_far (by omega), set_far (by omega)]; exact (hf 8 (by decide)).1,
    by refine set_same ?_; rw [set_far (by omega), set_far (by omega), set_far (by omega), set_far (by omega), set_far (by omega), set_far (by omega), set_far (by omega), set_far (by omega), set_far (by omega)]; exact (hf 9 (by decide)).1⟩
theorem put10_below {A0 : World} {C : Nat} (h : Below C A0 w) (hB : C ≤ B) : Below C A0 (put10 w B o e pa cp aa ca ga cg) :=
  (((((((((h.setCell hB _).setCell hB _).setCell hB _).setCell hB _).setCell hB _).setCell hB _).setCell hB _).setCell hB _).setCell hB _).setCell hB _
theorem put10_free {n : Nat} (h : Free w B n) : Free (put10 w B o e pa cp aa ca ga cg) B n :=
  set_free (set_free (set_free (set_free (set_free (set_free (set_free (set_free (set_free (set_free h)))))))))
theorem put10_slS {b off n cap : Nat} {S : Nat → ByteArray} (h : SlS w (some ⟨b, off, none⟩) n cap S) (hB : B ≠ b) : SlS (put10 w B o e pa cp aa ca ga cg) (some ⟨b, off, none⟩) n cap S :=
  (((((((((h.set hB _).set hB _).set hB _).set hB _).set hB _).set hB _).set hB _).set hB _).set hB _).set hB _
theorem put10_slG {b off n cap : Nat} {M : Nat → ByteArray} {L : Nat → Int} (h : SlG w (some ⟨b, off, none⟩) n cap M L) (hB : B ≠ b) : SlG (put10 w B o e pa cp aa ca ga cg) (some ⟨b, off, none⟩) n cap M L :=
  (((((((((h.set hB _).set hB _).set hB _).set hB _).set hB _).set hB _).set hB _).set hB _).set hB _).set hB _
end

/-- event e lies at (B, o), its lists in blocks above B. -/
def EvNew (w : World) (B o : Nat) (e : Ev) : Prop := ∃ bp ba bg, B < bp ∧ B < ba ∧ B < bg ∧ EvCells w B o e (some ⟨bp, 0, none⟩) e.np (some ⟨ba, 0, none⟩) e.na (some ⟨bg, 0, none⟩) e.ng ∧ EvOk w e (some ⟨bp, 0, none⟩) e.np (some ⟨ba, 0, none⟩) e.na (some ⟨bg, 0, none⟩) e.ng

theorem EvNew.below {w w' : World} {B o : Nat} {e : Ev} (h : EvNew w B o e) (hb : Below w.heap.size w w') (hlt : B < w.heap.size) : EvNew w' B o e := by
  obtain ⟨bp, ba, bg, h1, h2, h3, h4, h5⟩ := h
  exact ⟨bp, ba, bg, h1, h2, h3, h4.below hb hlt, h5.below hb⟩
theorem EvNew.at {w : World} {B o : Nat} {e : Ev} (h : EvNew w B o e) : EvAt w B o e := by
  obtain ⟨bp, ba, bg, _, _, _, h4, h5⟩ := h
  exact ⟨_, _, _, _, _, _, h4, h5⟩
theorem EvNew.put {w : World} {B o o' : Nat} {e e' : Ev} {pa aa ga : Option Addr} {cp ca cg : Nat} (h : EvNew w B o e) (ho : o + 10 ≤ o') : EvNew (put10 w B o' e' pa cp aa ca ga cg) B o e := by
  obtain ⟨bp, ba, bg, h1, h2, h3, h4, h5⟩ := h
  refine ⟨bp, ba, bg, h1, h2, h3, ?_, ⟨h5.hid, h5.hsd, h5.hty, h5.hkey, h5.hval, put10_slS _ _ _ _ _ _ _ _ _ _ h5.hp (by omega), put10_slS _ _ _ _ _ _ _ _ _ _ h5.ha (by omega), put10_slG _ _ _ _ _ _ _ _ _ _ h5.hg (by omega)⟩⟩
  exact ⟨(put10_far _ _ _ _ _ _ _ _ _ _ _ (by omega)).trans h4.c0, (put10_far _ _ _ _ _ _ _ _ _ _ _ (by omega)).trans h4.c1, (put10_far _ _ _ _ _ _ _ _ _ _ _ (by omega)).trans h4.c2, (put10_far _ _ _ _ _ _ _ _ _ _ _ (by omega)).trans h4.c3, (put10_far _ _ _ _ _ _ _ _ _ _ _ (by omega)).trans h4.c4, (put10_far _ _ _ _ _ _ _ _ _ _ _ (by omega)).trans h4.c5, (put10_far _ _ _ _ _ _ _ _ _ _ _ (by omega)).trans h4.c6, (put10_far _ _ _ _ _ _ _ _ _ _ _ (by omega)).trans h4.c7, (put10_far _ _ _ _ _ _ _ _ _ _ _ (by omega)).trans h4.c8, (put10_far _ _ _ _ _ _ _ _ _ _ _ (by omega)).trans h4.c9⟩

/-- n events' cells, all zero. -/
def mkV (n : Nat) : Array Value := madeCells #[.string ByteArray.empty, .string ByteArray.empty, .string ByteArray.empty, .bool false, .string ByteArray.empty, .int .i64 0, .slice none 0 0, .slice none 0 0, .string ByteArray.empty, .slice none 0 0] (n * 10)
theorem mkV_size (n : Nat) : (mkV n).size = n * 10 := size_madeCells _ _
theorem Tryz.infoEvent : (Tryz.prog.info? 68).map (fun i => (i.zero, i.size, i.bytes)) = some (some (.agg #[.string ByteArray.empty, .string ByteArray.empty, .string ByteArray.empty, .bool false, .string ByteArray.empty, .int .i64 0, .slice none 0 0, .slice none 0 0, .string ByteArray.empty, .slice none 0 0]), 10, 168) := by kernel_rfl

theorem make_ev (n : Nat) (h : n * 168 ≤ 140737488351232) (W : World) :
    (Instr.makeSlice 30 (.int .i64 (n : Int)) (.int .i64 (n : Int))).run Tryz.prog W = .ok (.slice (some ⟨W.heap.size, 0, none⟩) n n) (W.alloc (.cells (mkV n) 68)) := by
  obtain ⟨i0, hi, hz0, hz1, hz2⟩ := info_parts Tryz.infoEvent
  have := run_make (P := Tryz.prog) W 30 68 i0 _ Tryz.underlying30 hi hz0 .i64 .i64 (n : Int) (n : Int) (by omega) (by omega) (by rw [hz2]; omega) (by omega)
  rw [this, hz1]
  simp [mkV, Value.cells]

/-- the lists of an event are within the reach. -/
def EvReach (e : Ev) : Prop := e.np * 16 ≤ 140737488351232 ∧ e.na * 16 ≤ 140737488351232 ∧ e.ng * 24 ≤ 140737488351232

set_option maxHeartbeats 4000000 in
theorem toV_any (b off n cap : Nat) (E : Nat → Ev) (w : World) (hr : n * 168 ≤ 140737488351232) (hR : ∀ i, i < n → EvReach (E i)) (hb : b < w.heap.size) (hc : ∀ i, i < n → EvAt w b (off + i * 10) (E i)) :
    Calls Tryz.prog 19 #[.slice (some ⟨b, off, none⟩) n cap] w fun e w' =>
      e = .returned (.slice (some ⟨w.heap.size, 0, none⟩) n n) ∧ (∀ i, i < n → EvNew w' w.heap.size (i * 10) (E i)) ∧ w.heap.size < w'.heap.size ∧ Below w.heap.size w w' := by
  have hmk := make_ev n hr w
  go_enter Tryz.func19, Tryz.ntmps19
  go_wp2
  clear hmk
  go_loopw [4] (fun i wr => ∃ k : Nat, k ≤ n ∧ i = .int .i64 k ∧ Hid (∀ i, i < k → EvNew wr w.heap.size (i * 10) (E i)) ∧ Free wr w.heap.size (n * 10) ∧ w.heap.size < wr.heap.size ∧ Below w.heap.size w wr) (fun i _ => n - (intOf i).toNat)
  case atStart => exact ⟨0, Nat.zero_le _, rfl, fun i hi => absurd hi (Nat.not_lt_zero _), fun i hi => ⟨cell_made _ _ _ _ (by rw [mkV_size]; exact hi), World.frozen?_alloc_at _ _ _ _ rfl⟩, by simp, (Below.refl _ _).alloc (Nat.le_refl _) _⟩
  case round =>
    obtain ⟨k, hk, rfl, hdone, hfree, hsz, hbel⟩ := hrel
    by_cases hlt : k < n
    · obtain ⟨pa, cp, aa, ca, ga, cg, hcs, hok⟩ := hc k hlt
      obtain ⟨c0, c1, c2, c3, c4, c5, c6, c7, c8, c9⟩ := hcs.below hbel hb
      have ho := hok.below hbel
      obtain ⟨r1, r2, r3⟩ := hR k hlt
      clear hcs hok hc hR
      go_wp2_with fail
      refine (toEv_fresh _ _ _ _ _ _ _ pa _ cp aa _ ca ga _ cg (E k).Pv (E k).Av (E k).M (E k).L _ r1 r2 r3 ho.hp ho.ha ho.hg).mono ?_
      rintro e w1 ⟨bp, ba, bg, rfl, hp1, ha1, hg1, hb1, g1, g2, g3⟩
      have hfree1 : Free w1 w.heap.size (n * 10) := fun i hi => by
        obtain ⟨⟨v, hv⟩, hf⟩ := hfree i hi
        exact ⟨⟨v, (hb1.cell (by exact hsz)).trans hv⟩, (hb1.frozen (by exact hsz)).trans hf⟩
      have hf10 : ∀ j, j < 10 → (∃ v, w1.cell? ⟨w.heap.size, k * 10 + j, none⟩ = some v) ∧ w1.frozen? ⟨w.heap.size, k * 10 + j, none⟩ = false := fun j hj => hfree1 _ (by omega)
      have hdone1 : Hid (∀ i, i < k → EvNew w1 w.heap.size (i * 10) (E i)) := fun i hi => (hdone.out i hi).below hb1 hsz
      obtain ⟨⟨x0, y0⟩, z0⟩ := hf10 0 (by decide)
      obtain ⟨⟨x1, y1⟩, z1⟩ := hf10 1 (by decide)
      obtain ⟨⟨x2, y2⟩, z2⟩ := hf10 2 (by decide)
      obtain ⟨⟨x3, y3⟩, z3⟩ := hf10 3 (by decide)
      obtain ⟨⟨x4, y4⟩, z4⟩ := hf10 4 (by decide)
      obtain ⟨⟨x5, y5⟩, z5⟩ := hf10 5 (by decide)
      obtain ⟨⟨x6, y6⟩, z6⟩ := hf10 6 (by decide)
      obtain ⟨⟨x7, y7⟩, z7⟩ := hf10 7 (by decide)
      obtain ⟨⟨x8, y8⟩, z8⟩ := hf10 8 (by decide)
      obtain ⟨⟨x9, y9⟩, z9⟩ := hf10 9 (by decide)
      simp only [Nat.add_zero] at y0 z0
      have HF : Hid (_) := hf10
      have hsz1 : w.heap.size < w1.heap.size := Nat.lt_of_lt_of_le hsz hb1.size
      have hbel1 := hbel.trans (hb1.mono hbel.size)
      clear hf10 hfree hdone hbel hb1 c0 c1 c2 c3 c4 c5 c6 c7 c8 c9 r1 r2 r3
      go_wp2
      go_roundw
      case rel => exact ⟨k + 1, by omega, by go_num, fun i hi => by
        by_cases ek : i = k
        · subst ek
          exact ⟨bp, ba, bg, by omega, by omega, by omega, put10_cells _ _ _ _ _ _ _ _ _ _ HF.out, ⟨ho.hid, ho.hsd, ho.hty, ho.hkey, ho.hval, put10_slS _ _ _ _ _ _ _ _ _ _ hp1 (by omega), put10_slS _ _ _ _ _ _ _ _ _ _ ha1 (by omega), put10_slG _ _ _ _ _ _ _ _ _ _ hg1 (by omega)⟩⟩
        · exact (hdone1.out i (by omega)).put (by omega), put10_free _ _ _ _ _ _ _ _ _ _ hfree1, by rw [put10_size]; exact hsz1, put10_below _ _ _ _ _ _ _ _ _ _ hbel1 (Nat.le_refl _)⟩
      case measure => simp [intOf]; omega
    · go_wp2
      go_ret
      exact ⟨rfl, fun i hi => hdone.out i (by omega), hsz, hbel⟩

theorem toV_zero (a : Option Addr) (cap : Nat) (w : World) :
    Calls Tryz.prog 19 #[.slice a 0 cap] w fun e w' =>
      e = .returned (.slice (some ⟨w.heap.size, 0, none⟩) 0 0) ∧ w.heap.size < w'.heap.size ∧ Below w.heap.size w w' := by
  have hmk := make_ev 0 (by decide) w
  simp only [Int.ofNat_zero] at hmk
  go_enter Tryz.func19, Tryz.ntmps19
  go_wp2
  clear hmk
  refine wp_loop_rounds 1 ?_
  rw [rounds_succ]
  go_wp2
  go_ret
  exact ⟨rfl, by simp, (Below.refl _ _).alloc (Nat.le_refl _) _⟩

theorem toV_sl {a : Option Addr} {n cap : Nat} {E : Nat → Ev} (w : World) (hr : n * 168 ≤ 140737488351232) (hR : ∀ i, i < n → EvReach (E i)) (h : SlV w a n cap E) :
    Calls Tryz.prog 19 #[.slice a n cap] w fun e w' =>
      e = .returned (.slice (some ⟨w.heap.size, 0, none⟩) n n) ∧ SlV w' (some ⟨w.heap.size, 0, none⟩) n n E ∧ Below w.heap.size w w' := by
  rcases h.cells with rfl | ⟨b, off, rfl, hb, hc⟩
  · refine (toV_zero a cap w).mono ?_
    rintro e w' ⟨rfl, hsz, hbel⟩
    exact ⟨rfl, ⟨Nat.le_refl _, by decide, Or.inl rfl⟩, hbel⟩
  · refine (toV_any b off n cap E w hr hR hb hc).mono ?_
    rintro e w' ⟨rfl, hcl, hsz, hbel⟩
    exact ⟨rfl, ⟨Nat.le_refl _, by unfold maxLen; omega, Or.inr ⟨_, 0, rfl, hsz, fun i hi => by rw [Nat.zero_add]; exact (hcl i hi).at⟩⟩, hbel⟩

theorem EvNew.set {w : World} {b o C j : Nat} {e : Ev} (h : EvNew w b o e) (hC : C < b) (x : Value) : EvNew (w.setCell ⟨C, j, none⟩ x) b o e := by
  obtain ⟨bp, ba, bg, h1, h2, h3, h4, h5⟩ := h
  refine ⟨bp, ba, bg, h1, h2, h3, ⟨?_, ?_, ?_, ?_, ?_, ?_, ?_, ?_, ?_, ?_⟩, ⟨h5.hid, h5.hsd, h5.hty, h5.hkey, h5.hval, h5.hp.set (by omega) _, h5.ha.set (by omega) _, h5.hg.set (by omega) _⟩⟩
  · rw [far_block (by omega)]; exact h4.c0
  · rw [far_block (by omega)]; exact h4.c1
  · rw [far_block (by omega)]; exact h4.c2
  · rw [far_block (by omega)]; exact h4.c3
  · rw [far_block (by omega)]; exact h4.c4
  · rw [far_block (by omega)]; exact h4.c5
  · rw [far_block (by omega)]; exact h4.c6
  · rw [far_block (by omega)]; exact h4.c7
  · rw [far_block (by omega)]; exact h4.c8
  · rw [far_block (by omega)]; exact h4.c9

theorem toV_new {a : Option Addr} {n cap : Nat} {E : Nat → Ev} (w : World) (hr : n * 168 ≤ 140737488351232) (hR : ∀ i, i < n → EvReach (E i)) (h : SlV w a n cap E) :
    Calls Tryz.prog 19 #[.slice a n cap] w fun e w' =>
      e = .returned (.slice (some ⟨w.heap.size, 0, none⟩) n n) ∧ (∀ i, i < n → EvNew w' w.heap.size (i * 10) (E i)) ∧ w.heap.size < w'.heap.size ∧ Below w.heap.size w w' := by
  rcases h.cells with rfl | ⟨b, off, rfl, hb, hc⟩
  · refine (toV_zero a cap w).mono ?_
    rintro e w' ⟨rfl, hsz, hbel⟩
    exact ⟨rfl, fun i hi => absurd hi (Nat.not_lt_zero _), hsz, hbel⟩
  · exact toV_any b off n cap E w hr hR hb hc

set_option maxHeartbeats 1000000 in
theorem toR_sl {a : Option Addr} {n cap : Nat} {E : Nat → Ev} (w : World) (hr : n * 168 ≤ 140737488351232) (hR : ∀ i, i < n → EvReach (E i)) (h : SlV w a n cap E) :
    Calls Tryz.prog 7 #[.agg #[.slice a n cap]] w fun e w' =>
      ∃ b, e = .returned (.agg #[.slice (some ⟨b, 0, none⟩) n n]) ∧ SlV w' (some ⟨b, 0, none⟩) n n E ∧ Below w.heap.size w w' := by
  have hb0 : ∀ o o2 o3, Below w.heap.size w (((w.alloc o).alloc o2).alloc o3) := fun o o2 o3 => (((Below.refl _ _).alloc (Nat.le_refl _) _).alloc (by simp) _).alloc (by simp; omega) _
  go_enter Tryz.func7, Tryz.ntmps7
  go_wp2_with fail
  refine (toV_new _ hr hR (h.below (hb0 _ _ _))).mono ?_
  rintro e w1 ⟨rfl, hev, hsz1, hb1⟩
  have q1 : w1.cell? ⟨w.heap.size + 1, 0, none⟩ = some (.slice none 0 0) := (hb1.cell (by simp)).trans (by rw [World.cell?_alloc_past _ _ _ (by simp)]; exact World.cell?_alloc_at _ _ _ _ (by simp))
  have q2 : w1.cell? ⟨w.heap.size + 1 + 1, 0, none⟩ = some (.slice none 0 0) := (hb1.cell (by simp)).trans (World.cell?_alloc_at _ _ _ _ (by simp))
  have f1 : w1.frozen? ⟨w.heap.size + 1, 0, none⟩ = false := (hb1.frozen (by simp)).trans (by rw [World.frozen?_alloc_past _ _ _ (by simp)]; exact World.frozen?_alloc_at _ _ _ _ (by simp))
  have f2 : w1.frozen? ⟨w.heap.size + 1 + 1, 0, none⟩ = false := (hb1.frozen (by simp)).trans (World.frozen?_alloc_at _ _ _ _ (by simp))
  have hbel := (hb0 _ _ _).trans (hb1.mono (by simp; omega))
  simp only [World.size_alloc] at hev hsz1
  have HE : Hid (_) := hev
  clear hev hb1 hb0 h hR
  go_wp2
  refine bodyPost_ret (v := .agg #[.slice (some ⟨w.heap.size + 1 + 1 + 1, 0, none⟩) n n]) (by simp [results, Tryz.results7, go_sem, q1]) rfl ⟨_, rfl, ⟨Nat.le_refl _, by unfold maxLen; omega, ?_⟩, ?_⟩
  · by_cases h0 : n = 0
    · exact Or.inl h0
    · exact Or.inr ⟨_, 0, rfl, by simpa [World.setCell] using hsz1, fun i hi => by rw [Nat.zero_add]; exact (((HE.out i hi).set (by omega) _).set (by omega) _).at⟩
  · exact (hbel.setCell (Nat.le_add_right _ 2) _).setCell (Nat.le_add_right _ _) _
end Go.Proofs.YtfjfhnjoghlbfaaGreat
