/-
  Small facts on endings, worlds and blocks: no function of the program is named here.
-/
import Derived.WalkKit
import Derived.WalkSpells
import Derived.WalkLawsBesides
import Derived.Deep.Draws
import Derived.Deep.LoopGhost
import Derived.Deep.QuietTactic
import Derived.BigQuiet
import Derived.Deep.RegionWith
namespace Go.Proofs.YtfjfhnjoghlbfaaGreat
open Go.RowKit

theorem ret_bool {a b : Bool} (h : a = b) : Ending.returned (.bool a) = .returned (.bool b) := by rw [h]
theorem ret_int {k : IntKind} {a b : Int} (h : a = b) : Ending.returned (.int k a) = .returned (.int k b) := by rw [h]
theorem ret_str {a b : ByteArray} (h : a = b) : Ending.returned (.string a) = .returned (.string b) := by rw [h]

/-- The world stands, but for draws. -/
def Dr (w w' : World) : Prop := ∃ q, w' = w.drewN q
theorem Dr.refl (w : World) : Dr w w := ⟨0, rfl⟩
theorem Dr.drewN {w w' : World} (h : Dr w w') (n : Nat) : Dr w (w'.drewN n) := by
  obtain ⟨q, rfl⟩ := h; exact ⟨q + n, by rw [World.drewN_drewN]⟩
theorem Dr.cell {w w' : World} (h : Dr w w') (a : Addr) : w'.cell? a = w.cell? a := by obtain ⟨q, rfl⟩ := h; rfl
theorem Dr.below {w w' : World} (h : Dr w w') (B : Nat) : Below B w w' := by obtain ⟨q, rfl⟩ := h; exact ⟨rfl, rfl, rfl, Nat.le_refl _, fun _ _ => rfl⟩

theorem beq_swap (a b : List UInt8) : (a == b) = (b == a) := by
  rw [Bool.eq_iff_iff, beq_iff_eq, beq_iff_eq]; exact eq_comm

theorem size_of_nil (s : ByteArray) (h : s.toList = []) : s.size = 0 := by
  rw [ByteArray.toList_eq] at h
  show s.data.size = 0
  rw [← Array.length_toList, h]; rfl
theorem size_yes_pos (s : ByteArray) (h1 : s.toList.isEmpty = false) : s.size ≠ 0 := fun h0 => by
  have : s.toList = [] := by rw [ByteArray.toList_eq]; exact List.eq_nil_of_length_eq_zero (by rw [Array.length_toList]; exact h0)
  rw [this] at h1; simp at h1

theorem box_cells {w w1 : World} {cs : Array Value} {t : TypeId} (hb : Below (w.heap.size + 1) (w.alloc (.cells cs t)) w1) (o : Nat) : w1.cell? ⟨w.heap.size, o, none⟩ = cs[o]? :=
  (hb.cell (by exact Nat.lt_succ_self _)).trans (World.cell?_alloc_at _ _ _ _ rfl)

theorem below_box {w w1 : World} {o o2 : Obj} (hb : Below ((w.alloc o).alloc o2).heap.size ((w.alloc o).alloc o2) w1) : Below (w.heap.size + 1) (w.alloc o) w1 :=
  ((Below.refl _ _).alloc (by simp) _).trans (hb.mono (by simp))

theorem cell_made (w : World) (cs : Array Value) (t : TypeId) (i : Nat) (h : i < cs.size) : ∃ v, (w.alloc (.cells cs t)).cell? ⟨w.heap.size, i, none⟩ = some v :=
  ⟨cs[i], by rw [World.cell?_alloc_at _ _ _ _ rfl]; exact Array.getElem?_eq_getElem h⟩

theorem set_same {wr : World} {B k : Nat} {x : Value} (hv : ∃ v, wr.cell? ⟨B, k, none⟩ = some v) : (wr.setCell ⟨B, k, none⟩ x).cell? ⟨B, k, none⟩ = some x := by
  obtain ⟨v, hv⟩ := hv; exact World.cell?_setCell_same _ _ _ hv
theorem set_far {wr : World} {B k i : Nat} {x : Value} (h : i ≠ k) : (wr.setCell ⟨B, k, none⟩ x).cell? ⟨B, i, none⟩ = wr.cell? ⟨B, i, none⟩ :=
  World.cell?_setCell_other _ _ _ _ (fun e => h (by injection e with _ e2; exact e2.symm))
theorem far_block {wr : World} {B k C i : Nat} {x : Value} (h : B ≠ C) : (wr.setCell ⟨B, k, none⟩ x).cell? ⟨C, i, none⟩ = wr.cell? ⟨C, i, none⟩ :=
  World.cell?_setCell_other _ _ _ _ (fun e => h (by injection e))
theorem set_done {wr : World} {B k : Nat} {f : Nat → Value} (h : ∀ i, i < k → wr.cell? ⟨B, i, none⟩ = some (f i)) (hv : ∃ v, wr.cell? ⟨B, k, none⟩ = some v) (i : Nat) (hi : i < k + 1) :
    (wr.setCell ⟨B, k, none⟩ (f k)).cell? ⟨B, i, none⟩ = some (f i) := by
  by_cases e : i = k
  · subst e; exact set_same hv
  · rw [set_far e]; exact h i (by omega)
/-- n cells of block B are there and may be written. -/
def Free (wr : World) (B n : Nat) : Prop := ∀ i, i < n → (∃ v, wr.cell? ⟨B, i, none⟩ = some v) ∧ wr.frozen? ⟨B, i, none⟩ = false
theorem set_free {wr : World} {B k n : Nat} {x : Value} (h : ∀ i, i < n → (∃ v, wr.cell? ⟨B, i, none⟩ = some v) ∧ wr.frozen? ⟨B, i, none⟩ = false) (i : Nat) (hi : i < n) :
    (∃ v, (wr.setCell ⟨B, k, none⟩ x).cell? ⟨B, i, none⟩ = some v) ∧ (wr.setCell ⟨B, k, none⟩ x).frozen? ⟨B, i, none⟩ = false := by
  refine ⟨?_, by rw [World.frozen?_setCell]; exact (h i hi).2⟩
  by_cases e : i = k
  · subst e; exact ⟨x, set_same (h i hi).1⟩
  · rw [set_far e]; exact (h i hi).1
end Go.Proofs.YtfjfhnjoghlbfaaGreat
