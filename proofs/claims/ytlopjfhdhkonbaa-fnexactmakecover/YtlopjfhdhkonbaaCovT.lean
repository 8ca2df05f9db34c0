import Derived.Test.YtlopjfhdhkonbaaCovA
import Derived.Test.YtlopjfhdhkonbaaProg
namespace Go.Proofs.Ytlopjfhdhkonbaa
open Go.RowKit

/-- n cells with 0. -/
def mkI (n : Nat) : Array Value := madeCells #[.int .i64 0] n
theorem mkI_size (n : Nat) : (mkI n).size = n := size_madeCells _ _
theorem Try.infoInt : (Try.prog.info? 3).map (fun i => (i.zero, i.size, i.bytes)) = some (some (.int .i64 0), 1, 8) := by kernel_rfl

theorem make_int (n : Nat) (h : n * 8 ≤ 140737488351232) (W : World) :
    (Instr.makeSlice 52 (.int .i64 (n : Int)) (.int .i64 (n : Int))).run Try.prog W = .ok (.slice (some ⟨W.heap.size, 0, none⟩) n n) (W.alloc (.cells (mkI n) 3)) := by
  obtain ⟨i0, hi, hz0, hz1, hz2⟩ := info_parts Try.infoInt
  have := run_make (P := Try.prog) W 52 3 i0 (.int .i64 0) Try.underlying52 hi hz0 .i64 .i64 (n : Int) (n : Int) (by omega) (by omega) (by rw [hz2]; omega) (by omega)
  rw [this, hz1]
  simp [mkI, Value.cells]

/-! ### []Spot -/

def mkP (n : Nat) : Array Value := madeCells #[.int .i64 0, .int .i64 0] (n * 2)
theorem mkP_size (n : Nat) : (mkP n).size = n * 2 := size_madeCells _ _
theorem Try.infoSpot : (Try.prog.info? 44).map (fun i => (i.zero, i.size, i.bytes)) = some (some (.agg #[.int .i64 0, .int .i64 0]), 2, 16) := by kernel_rfl

theorem make_sp (n : Nat) (h : n * 16 ≤ 140737488351232) (W : World) :
    (Instr.makeSlice 26 (.int .i64 (n : Int)) (.int .i64 (n : Int))).run Try.prog W = .ok (.slice (some ⟨W.heap.size, 0, none⟩) n n) (W.alloc (.cells (mkP n) 44)) := by
  obtain ⟨i0, hi, hz0, hz1, hz2⟩ := info_parts Try.infoSpot
  have := run_make (P := Try.prog) W 26 44 i0 (.agg #[.int .i64 0, .int .i64 0]) Try.underlying26 hi hz0 .i64 .i64 (n : Int) (n : Int) (by omega) (by omega) (by rw [hz2]; omega) (by omega)
  rw [this, hz1]
  simp [mkP, Value.cells]

theorem setP_done {wr : World} {B k n : Nat} {f g : Nat → Value} (h : ∀ i, i < k → wr.cell? ⟨B, i * 2, none⟩ = some (f i) ∧ wr.cell? ⟨B, i * 2 + 1, none⟩ = some (g i))
    (hf : ∀ i, i < n * 2 → (∃ v, wr.cell? ⟨B, i, none⟩ = some v) ∧ wr.frozen? ⟨B, i, none⟩ = false) (hk : k < n) (i : Nat) (hi : i < k + 1) :
    ((wr.setCell ⟨B, k * 2, none⟩ (f k)).setCell ⟨B, k * 2 + 1, none⟩ (g k)).cell? ⟨B, i * 2, none⟩ = some (f i) ∧ ((wr.setCell ⟨B, k * 2, none⟩ (f k)).setCell ⟨B, k * 2 + 1, none⟩ (g k)).cell? ⟨B, i * 2 + 1, none⟩ = some (g i) := by
  by_cases e : i = k
  · subst e
    refine ⟨?_, set_same ?_⟩
    · rw [set_far (by omega)]; exact set_same (hf _ (by omega)).1
    · rw [set_far (by omega)]; exact (hf _ (by omega)).1
  · rw [set_far (by omega), set_far (by omega), set_far (by omega), set_far (by omega)]; exact h i (by omega)

/-! ### [][]int -/

def mkL (n : Nat) : Array Value := madeCells #[.slice none 0 0] n
theorem mkL_size (n : Nat) : (mkL n).size = n := size_madeCells _ _
theorem Try.infoInts : (Try.prog.info? 52).map (fun i => (i.zero, i.size, i.bytes)) = some (some (.slice none 0 0), 1, 24) := by kernel_rfl

theorem make_ints (n : Nat) (h : n * 24 ≤ 140737488351232) (W : World) :
    (Instr.makeSlice 27 (.int .i64 (n : Int)) (.int .i64 (n : Int))).run Try.prog W = .ok (.slice (some ⟨W.heap.size, 0, none⟩) n n) (W.alloc (.cells (mkL n) 52)) := by
  obtain ⟨i0, hi, hz0, hz1, hz2⟩ := info_parts Try.infoInts
  have := run_make (P := Try.prog) W 27 52 i0 (.slice none 0 0) Try.underlying27 hi hz0 .i64 .i64 (n : Int) (n : Int) (by omega) (by omega) (by rw [hz2]; omega) (by omega)
  rw [this, hz1]
  simp [mkL, Value.cells]

theorem slL_of_new {w : World} {B n : Nat} {rn : Nat → Nat} {X : Nat → Nat → Int} (hn : n ≤ maxLen) (hB : B < w.heap.size) (h : ∀ i, i < n → RowNew w B i (rn i) (X i)) : SlL w (some ⟨B, 0, none⟩) n n rn X :=
  ⟨Nat.le_refl _, hn, Or.inr ⟨B, 0, rfl, hB, fun i hi => by rw [Nat.zero_add]; exact (h i hi).at⟩⟩

/-! ### Cover -/

/-- block B holds c0, block B + 1 has m cells, block B + 1 + 1 holds c2. -/
structure TB (m : Nat) (w : World) (B : Nat) (c0 c2 : Array Value) (wx : World) : Prop where
  a0 : ∀ o, wx.cell? ⟨B, o, none⟩ = c0[o]?
  a1 : ∀ o, o < m → ∃ v, wx.cell? ⟨B + 1, o, none⟩ = some v
  a2 : ∀ o, wx.cell? ⟨B + 1 + 1, o, none⟩ = c2[o]?
  f1 : ∀ o, wx.frozen? ⟨B + 1, o, none⟩ = false
  f2 : ∀ o, wx.frozen? ⟨B + 1 + 1, o, none⟩ = false
  size : B + 1 + 1 < wx.heap.size
  hB : B = w.heap.size
  below : Below w.heap.size w wx

theorem TB.mono {m : Nat} {w wx wy : World} {B : Nat} {c0 c2 : Array Value} (h : TB m w B c0 c2 wx) (hb : Below wx.heap.size wx wy) : TB m w B c0 c2 wy :=
  have hs := h.size
  ⟨fun o => (hb.cell (by show B < _; omega)).trans (h.a0 o), fun o ho => (h.a1 o ho).imp fun _ hv => (hb.cell (by show B + 1 < _; omega)).trans hv, fun o => (hb.cell (by exact hs)).trans (h.a2 o),
    fun o => (hb.frozen (by show B + 1 < _; omega)).trans (h.f1 o), fun o => (hb.frozen (by exact hs)).trans (h.f2 o), Nat.lt_of_lt_of_le hs hb.size, h.hB, h.below.trans (hb.mono h.below.size)⟩

theorem TB.set {m : Nat} {w wx : World} {B : Nat} {c0 c2 : Array Value} (h : TB m w B c0 c2 wx) (j : Nat) (hj : j < c2.size) (x : Value) : TB m w B c0 (c2.setIfInBounds j x) (wx.setCell ⟨B + 1 + 1, j, none⟩ x) := by
  refine ⟨fun o => by rw [far_block (by omega)]; exact h.a0 o, fun o ho => by rw [far_block (by omega)]; exact h.a1 o ho, fun o => ?_, fun o => by rw [World.frozen?_setCell]; exact h.f1 o, fun o => by rw [World.frozen?_setCell]; exact h.f2 o, by simpa [World.setCell] using h.size, h.hB, h.below.setCell (by have := h.hB; show _ ≤ B + 1 + 1; omega) _⟩
  by_cases e : o = j
  · subst e
    rw [set_same ⟨c2[o], by rw [h.a2]; exact Array.getElem?_eq_getElem hj⟩]
    simp [hj]
  · rw [set_far e, h.a2, Array.getElem?_setIfInBounds_ne (by omega)]

theorem TB.start {m : Nat} {w : World} {c0 c1 c2 : Array Value} {t0 t1 t2 : TypeId} (h : c1.size = m) : TB m w w.heap.size c0 c2 (((w.alloc (.cells c0 t0)).alloc (.cells c1 t1)).alloc (.cells c2 t2)) := by
  refine ⟨fun o => ?_, fun o ho => ⟨c1[o], ?_⟩, fun o => World.cell?_alloc_at _ _ _ _ (by simp), fun o => ?_, fun o => World.frozen?_alloc_at _ _ _ _ (by simp), by simp, rfl, (((Below.refl _ _).alloc (Nat.le_refl _) _).alloc (by simp) _).alloc (by simp; omega) _⟩
  · rw [World.cell?_alloc_past _ _ _ (by simp; omega), World.cell?_alloc_past _ _ _ (by simp), World.cell?_alloc_at _ _ _ _ rfl]
  · rw [World.cell?_alloc_past _ _ _ (by simp), World.cell?_alloc_at _ _ _ _ (by simp)]
    exact Array.getElem?_eq_getElem (by omega)
  · rw [World.frozen?_alloc_past _ _ _ (by simp)]
    exact World.frozen?_alloc_at _ _ _ _ (by simp)

end Go.Proofs.Ytlopjfhdhkonbaa
