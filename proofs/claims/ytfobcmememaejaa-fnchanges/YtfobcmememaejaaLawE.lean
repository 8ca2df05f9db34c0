import Derived.Test.YtfobcmememaejaaProg
import Derived.Test.YtfobcmememaejaaEnt
namespace Go.Proofs.Ytfobcmememaejaa
open Go.RowKit

/-! ### sizes -/
/-! ### copies -/

/-- n entries' cells, all zero. -/
def mkE (n : Nat) : Array Value := madeCells #[.string ByteArray.empty, .string ByteArray.empty, .string ByteArray.empty] (n * 3)
theorem mkE_size (n : Nat) : (mkE n).size = n * 3 := size_madeCells _ _
theorem Try.infoEntry : (Try.prog.info? 32).map (fun i => (i.zero, i.size, i.bytes)) = some (some (.agg #[.string ByteArray.empty, .string ByteArray.empty, .string ByteArray.empty]), 3, 48) := by kernel_rfl

theorem make_ent (n : Nat) (h : n * 48 ≤ 140737488351232) (W : World) :
    (Instr.makeSlice 23 (.int .i64 (n : Int)) (.int .i64 (n : Int))).run Try.prog W = .ok (.slice (some ⟨W.heap.size, 0, none⟩) n n) (W.alloc (.cells (mkE n) 32)) := by
  obtain ⟨i0, hi, hz0, hz1, hz2⟩ := info_parts Try.infoEntry
  have := run_make (P := Try.prog) W 23 32 i0 (.agg #[.string ByteArray.empty, .string ByteArray.empty, .string ByteArray.empty]) Try.underlying23 hi hz0 .i64 .i64 (n : Int) (n : Int) (by omega) (by omega) (by rw [hz2]; omega) (by omega)
  rw [this, hz1]
  simp [mkE, Value.cells]

/-- the first k entries of l lie in block B. -/
def EntTo (wr : World) (B : Nat) (l : List Ent) (k : Nat) : Prop :=
  ∀ i, i < k → wr.cell? ⟨B, i * 3, none⟩ = some (.string (eAt l i).ty) ∧ wr.cell? ⟨B, i * 3 + 1, none⟩ = some (.string (eAt l i).key) ∧ wr.cell? ⟨B, i * 3 + 2, none⟩ = some (.string (eAt l i).id)

theorem EntTo.step {wr : World} {B k n : Nat} {l : List Ent} (h : EntTo wr B l k) (hf : Free wr B (n * 3)) (hk : k < n) :
    EntTo (((wr.setCell ⟨B, k * 3, none⟩ (.string (eAt l k).ty)).setCell ⟨B, k * 3 + 1, none⟩ (.string (eAt l k).key)).setCell ⟨B, k * 3 + 2, none⟩ (.string (eAt l k).id)) B l (k + 1) := by
  intro i hi
  by_cases e : i = k
  · subst e
    refine ⟨?_, ?_, set_same ?_⟩
    · rw [set_far (by omega), set_far (by omega)]; exact set_same (hf _ (by omega)).1
    · rw [set_far (by omega)]; refine set_same ?_; rw [set_far (by omega)]; exact (hf _ (by omega)).1
    · rw [set_far (by omega), set_far (by omega)]; exact (hf _ (by omega)).1
  · rw [set_far (by omega), set_far (by omega), set_far (by omega), set_far (by omega), set_far (by omega), set_far (by omega), set_far (by omega), set_far (by omega), set_far (by omega)]; exact h i (by omega)

/-! ### the same twice -/
end Go.Proofs.Ytfobcmememaejaa
