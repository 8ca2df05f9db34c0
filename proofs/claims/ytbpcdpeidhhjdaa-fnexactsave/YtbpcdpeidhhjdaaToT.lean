/-
  Copies of groups and stores.
-/
import Derived.Test.YtbpcdpeidhhjdaaSto
import Derived.Test.YtbpcdpeidhhjdaaMkE
namespace Go.Proofs.Ytbpcdpeidhhjdaa
open Go.RowKit

set_option maxHeartbeats 1000000 in
theorem toG1_any (par : Int) {sa : Option Addr} {sc : Nat} {l : List Ent} (w : World) (hr : l.length * 48 ≤ 140737488351232) (h : SlE w sa sc l) :
    Calls Try.prog 45 #[.agg #[.int .i64 par, .slice sa l.length sc]] w fun e w' =>
      ∃ b, e = .returned (.agg #[.int .i64 par, .slice (some ⟨b, 0, none⟩) l.length l.length]) ∧ SlE w' (some ⟨b, 0, none⟩) l.length l ∧ Wr0 w' b (some ⟨b, 0, none⟩) (l.length * 3) ∧ w.heap.size ≤ b ∧ Below w.heap.size w w' := by
  have hb0 : ∀ o o2 o3, Below w.heap.size w (((w.alloc o).alloc o2).alloc o3) := fun o o2 o3 => (((Below.refl _ _).alloc (Nat.le_refl _) _).alloc (by simp) _).alloc (by simp; omega) _
  go_enter Try.func45, Try.ntmps45
  go_wp2_with fail
  obtain ⟨W, hW⟩ : ∃ W, W = ((w.alloc (.cells #[.int .i64 par, .slice sa l.length sc] 69)).alloc (.cells #[.int .i64 0, .slice none 0 0] 48)).alloc (.cells #[.int .i64 par, .slice none 0 0] 48) := ⟨_, rfl⟩
  have hwW : Below w.heap.size w W := by rw [hW]; exact hb0 _ _ _
  have hsW : W.heap.size = w.heap.size + 1 + 1 + 1 := by rw [hW]; simp
  have p1 : ∀ o, W.cell? ⟨w.heap.size + 1, o, none⟩ = (#[.int .i64 0, .slice none 0 0] : Array Value)[o]? := fun o => by rw [hW, World.cell?_alloc_past _ _ _ (by simp)]; exact World.cell?_alloc_at _ _ _ _ (by simp)
  have p2 : ∀ o, W.cell? ⟨w.heap.size + 1 + 1, o, none⟩ = (#[.int .i64 par, .slice none 0 0] : Array Value)[o]? := fun o => by rw [hW]; exact World.cell?_alloc_at _ _ _ _ (by simp)
  have g1 : ∀ o, W.frozen? ⟨w.heap.size + 1, o, none⟩ = false := fun o => by rw [hW, World.frozen?_alloc_past _ _ _ (by simp)]; exact World.frozen?_alloc_at _ _ _ _ (by simp)
  have g2 : ∀ o, W.frozen? ⟨w.heap.size + 1 + 1, o, none⟩ = false := fun o => by rw [hW]; exact World.frozen?_alloc_at _ _ _ _ (by simp)
  rw [← hW]
  clear hW
  refine (toEw_sl _ hr (h.below hwW)).mono ?_
  rintro e w1 ⟨rfl, hx1, hwx1, hb1⟩
  have q10 : w1.cell? ⟨w.heap.size + 1, 0, none⟩ = some (.int .i64 0) := (hb1.cell (by show w.heap.size + 1 < _; omega)).trans (p1 0)
  have q11 : w1.cell? ⟨w.heap.size + 1, 1, none⟩ = some (.slice none 0 0) := (hb1.cell (by show w.heap.size + 1 < _; omega)).trans (p1 1)
  have q20 : w1.cell? ⟨w.heap.size + 1 + 1, 0, none⟩ = some (.int .i64 par) := (hb1.cell (by show w.heap.size + 1 + 1 < _; omega)).trans (p2 0)
  have q21 : w1.cell? ⟨w.heap.size + 1 + 1, 1, none⟩ = some (.slice none 0 0) := (hb1.cell (by show w.heap.size + 1 + 1 < _; omega)).trans (p2 1)
  have f10 : w1.frozen? ⟨w.heap.size + 1, 0, none⟩ = false := (hb1.frozen (by show w.heap.size + 1 < _; omega)).trans (g1 0)
  have f11 : w1.frozen? ⟨w.heap.size + 1, 1, none⟩ = false := (hb1.frozen (by show w.heap.size + 1 < _; omega)).trans (g1 1)
  have f20 : w1.frozen? ⟨w.heap.size + 1 + 1, 0, none⟩ = false := (hb1.frozen (by show w.heap.size + 1 + 1 < _; omega)).trans (g2 0)
  have f21 : w1.frozen? ⟨w.heap.size + 1 + 1, 1, none⟩ = false := (hb1.frozen (by show w.heap.size + 1 + 1 < _; omega)).trans (g2 1)
  rw [hsW] at hx1 hwx1
  have hbw := hwW.trans (hb1.mono hwW.size)
  have HX : Hid (SlE w1 (some ⟨w.heap.size + 1 + 1 + 1, 0, none⟩) l.length l) := hx1
  have HW : Hid (Wr0 w1 (w.heap.size + 1 + 1 + 1) (some ⟨w.heap.size + 1 + 1 + 1, 0, none⟩) (l.length * 3)) := hwx1
  clear p1 p2 g1 g2 hx1 hwx1 hb1 h hb0
  go_wp2
  refine bodyPost_ret (v := .agg #[.int .i64 par, .slice (some ⟨w.heap.size + 1 + 1 + 1, 0, none⟩) l.length l.length]) (by simp [results, Try.results45, go_sem, q10, q11]) rfl ⟨_, rfl, ?_, ?_, by omega, ?_⟩
  · repeat' (first | exact HX.out | (refine SlE.set ?_ (by omega) _))
  · repeat' (first | exact HW.out | (refine Wr0.set ?_ _))
  · repeat' (first | exact hbw | (refine Below.setCell ?_ (by show w.heap.size ≤ _; first | exact Nat.le_succ _ | (show _ ≤ w.heap.size + 1 + 1; omega)) _))

/-- n groups' cells, all zero. -/
def mkGr (n : Nat) : Array Value := madeCells #[.int .i64 0, .slice none 0 0] (n * 2)
theorem mkGr_size (n : Nat) : (mkGr n).size = n * 2 := size_madeCells _ _
theorem Try.infoGroup : (Try.prog.info? 48).map (fun i => (i.zero, i.size, i.bytes)) = some (some (.agg #[.int .i64 0, .slice none 0 0]), 2, 32) := by kernel_rfl
theorem make_grp (n : Nat) (h : n * 32 ≤ 140737488351232) (W : World) :
    (Instr.makeSlice 28 (.int .i64 (n : Int)) (.int .i64 (n : Int))).run Try.prog W = .ok (.slice (some ⟨W.heap.size, 0, none⟩) n n) (W.alloc (.cells (mkGr n) 48)) := by
  obtain ⟨i0, hi, hz0, hz1, hz2⟩ := info_parts Try.infoGroup
  have := run_make (P := Try.prog) W 28 48 i0 (.agg #[.int .i64 0, .slice none 0 0]) Try.underlying28 hi hz0 .i64 .i64 (n : Int) (n : Int) (by omega) (by omega) (by rw [hz2]; omega) (by omega)
  rw [this, hz1]
  simp [mkGr, Value.cells]

/-- group g lies at (B, o), its entries in a block above B; they may be written. -/
def GrpNew (w : World) (B o : Nat) (g : Grp) : Prop := ∃ bp, B < bp ∧ w.cell? ⟨B, o, none⟩ = some (.int .i64 g.par) ∧ w.cell? ⟨B, o + 1, none⟩ = some (.slice (some ⟨bp, 0, none⟩) g.sets.length g.sets.length) ∧
  SlE w (some ⟨bp, 0, none⟩) g.sets.length g.sets ∧ Wr0 w (B + 1) (some ⟨bp, 0, none⟩) (g.sets.length * 3)
theorem GrpNew.below {w w' : World} {B o : Nat} {g : Grp} (h : GrpNew w B o g) (hb : Below w.heap.size w w') (hlt : B < w.heap.size) : GrpNew w' B o g := by
  obtain ⟨bp, h1, h2, h3, h4, h5⟩ := h
  exact ⟨bp, h1, (hb.cell (by exact hlt)).trans h2, (hb.cell (by exact hlt)).trans h3, h4.below hb, h5.below hb⟩
theorem GrpNew.at {w : World} {B o : Nat} {g : Grp} (h : GrpNew w B o g) : GrpAt w B o g := by
  obtain ⟨bp, _, h2, h3, h4, _⟩ := h
  exact ⟨_, _, h2, h3, h4⟩
theorem GrpNew.put {w : World} {B o o' : Nat} {g : Grp} {x y : Value} (h : GrpNew w B o g) (ho : o + 2 ≤ o') : GrpNew ((w.setCell ⟨B, o', none⟩ x).setCell ⟨B, o' + 1, none⟩ y) B o g := by
  obtain ⟨bp, h1, h2, h3, h4, h5⟩ := h
  exact ⟨bp, h1, by rw [set_far (by omega), set_far (by omega)]; exact h2, by rw [set_far (by omega), set_far (by omega)]; exact h3, (h4.set (by omega) _).set (by omega) _, (h5.set _).set _⟩

set_option maxHeartbeats 2000000 in
theorem toTs_any (b off n cap : Nat) (G : Nat → Grp) (w : World) (hr : n * 32 ≤ 140737488351232) (hR : ∀ i, i < n → (G i).sets.length * 48 ≤ 140737488351232) (hb : b < w.heap.size) (hc : ∀ i, i < n → GrpAt w b (off + i * 2) (G i)) :
    Calls Try.prog 24 #[.slice (some ⟨b, off, none⟩) n cap] w fun e w' =>
      e = .returned (.slice (some ⟨w.heap.size, 0, none⟩) n n) ∧ (∀ i, i < n → GrpNew w' w.heap.size (i * 2) (G i)) ∧ Free w' w.heap.size (n * 2) ∧ w.heap.size < w'.heap.size ∧ Below w.heap.size w w' := by
  have hmk := make_grp n hr w
  go_enter Try.func24, Try.ntmps24
  go_wp2
  clear hmk
  go_loopw [4] (fun i wr => ∃ k : Nat, k ≤ n ∧ i = .int .i64 k ∧ Hid (∀ i, i < k → GrpNew wr w.heap.size (i * 2) (G i)) ∧ Free wr w.heap.size (n * 2) ∧ w.heap.size < wr.heap.size ∧ Below w.heap.size w wr) (fun i _ => n - (intOf i).toNat)
  case atStart => exact ⟨0, Nat.zero_le _, rfl, fun i hi => absurd hi (Nat.not_lt_zero _), fun i hi => ⟨cell_made _ _ _ _ (by rw [mkGr_size]; exact hi), World.frozen?_alloc_at _ _ _ _ rfl⟩, by simp, (Below.refl _ _).alloc (Nat.le_refl _) _⟩
  case round =>
    obtain ⟨k, hk, rfl, hdone, hfree, hsz, hbel⟩ := hrel
    by_cases hlt : k < n
    · obtain ⟨sa, sc, c1, c2, hsl⟩ := (hc k hlt).below hbel hb
      have hrk := hR k hlt
      clear hc hR
      go_wp2_with fail
      refine (toG1_any (G k).par _ hrk hsl).mono ?_
      rintro e w1 ⟨bp, rfl, hx1, hwx1, hbp, hb1⟩
      have hfree1 : Free w1 w.heap.size (n * 2) := fun i hi => by
        obtain ⟨⟨v, hv⟩, hf⟩ := hfree i hi
        exact ⟨⟨v, (hb1.cell (by exact hsz)).trans hv⟩, (hb1.frozen (by exact hsz)).trans hf⟩
      obtain ⟨⟨x0, y0⟩, z0⟩ := hfree1 (k * 2) (by omega)
      obtain ⟨⟨x1, y1⟩, z1⟩ := hfree1 (k * 2 + 1) (by omega)
      have hdone1 : Hid (∀ i, i < k → GrpNew w1 w.heap.size (i * 2) (G i)) := fun i hi => (hdone.out i hi).below hb1 hsz
      have hsz1 : w.heap.size < w1.heap.size := Nat.lt_of_lt_of_le hsz hb1.size
      have hbel1 := hbel.trans (hb1.mono hbel.size)
      have HX : Hid (SlE w1 (some ⟨bp, 0, none⟩) (G k).sets.length (G k).sets) := hx1
      have HW : Hid (Wr0 w1 bp (some ⟨bp, 0, none⟩) ((G k).sets.length * 3)) := hwx1
      clear hdone hfree hbel hb1 c1 c2 hsl hx1 hwx1
      go_wp2
      go_roundw
      case rel =>
        refine ⟨k + 1, by omega, by go_num, fun i hi => ?_, set_free (set_free hfree1), by simpa [World.setCell] using hsz1, (hbel1.setCell (Nat.le_refl _) _).setCell (Nat.le_refl _) _⟩
        by_cases ek : i = k
        · subst ek
          exact ⟨bp, by omega, by rw [set_far (by omega)]; exact set_same ⟨_, y0⟩, set_same ⟨_, by rw [set_far (by omega)]; exact y1⟩, (HX.out.set (by omega) _).set (by omega) _, ((Wr0.low HW.out (by omega)).set _).set _⟩
        · exact (hdone1.out i (by omega)).put (by omega)
      case measure => simp [intOf]; omega
    · go_wp2
      go_ret
      exact ⟨rfl, fun i hi => hdone.out i (by omega), hfree, hsz, hbel⟩
end Go.Proofs.Ytbpcdpeidhhjdaa
