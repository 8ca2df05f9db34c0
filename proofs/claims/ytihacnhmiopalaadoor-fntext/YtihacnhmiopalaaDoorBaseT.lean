import Derived.WalkKit
import Derived.WalkSpells
import Derived.WalkLawsBesides
import Derived.Deep.Draws
import Derived.Deep.LoopGhost
import Derived.Deep.QuietTactic
import Derived.BigQuiet
import Derived.Deep.RegionWith
import Derived.OrdersHeld
namespace Go.Proofs.YtihacnhmiopalaaDoor
open Go.RowKit
theorem si : (∀ (α : Type) (xs : List α) (i : Nat) (h : i < xs.toArray.size), xs.toArray[i] = xs[i]'(by simpa using h)) ∧ (∀ (α : Type) (a : α) (l : List α) (h : 0 < (a :: l).length), (a :: l)[0] = a) ∧ (∀ (α : Type) (a : α) (l : List α) (i : Nat) (h : i + 1 < (a :: l).length), (a :: l)[i + 1] = l[i]'(Nat.lt_of_succ_lt_succ h)) ∧ (∀ (α : Type) (l : List α) (i : Nat) (a : α), l.toArray.setIfInBounds i a = (l.set i a).toArray) ∧ (∀ (α : Type) (x : α) (xs : List α) (a : α), (x :: xs).set 0 a = a :: xs) ∧ (∀ (α : Type) (x : α) (xs : List α) (i : Nat) (a : α), (x :: xs).set (i + 1) a = x :: xs.set i a) :=
 ⟨fun _ _ _ h => List.getElem_toArray h, fun _ a l h => List.getElem_cons_zero a l h, fun _ a l i h => List.getElem_cons_succ a l i h, fun _ l i a => List.setIfInBounds_toArray l i a, fun _ _ _ _ => List.set_cons_zero, fun _ _ _ _ _ => List.set_cons_succ⟩
theorem tk {P : Program} {ops : Array Oper} {Q : Exit -> Act -> World -> Prop} {md : Region.Mode} {S : World -> Prop} {oi : Oper} {fuel : Nat} {listed : Array Bool} {a : Act} {w : World} (i : Nat) (v : Value) (hi : ops[i]? = some oi) (hy : YieldsIf P ops S oi v a) (h : wpAnyH P md ops Q S fuel (listed.setIfInBounds i true) (a.put oi.dst v) w)
  (hs : Region.noSelect ops = true := by kernel_rfl) (hf : Region.free md ops listed i = true := by kernel_rfl) (hr : (Region.ready md ops listed).contains i = true := by kernel_rfl) (hQ : ∀ (c : List PanicEntry) (a : Act) (w : World), Q (Exit.panic c) (a.put oi.dst v) w -> Q (Exit.panic c) a w := by exact fun _ _ _ h => h) (hS : S w := by assumption) : wpAnyH P md ops Q S (fuel + 1) listed a w :=
 wpAnyH_take hi hs hf hr hQ hy hS h
theorem ret_bool {a b : Bool} (h : a = b) : Ending.returned (.bool a) = .returned (.bool b) := by rw [h]
theorem ret_int {k : IntKind} {a b : Int} (h : a = b) : Ending.returned (.int k a) = .returned (.int k b) := by rw [h]
theorem ret_str {a b : ByteArray} (h : a = b) : Ending.returned (.string a) = .returned (.string b) := by rw [h]
def Dr (w w' : World) : Prop := ∃ q, w' = w.drewN q
theorem Dr.refl (w : World) : Dr w w := ⟨0, rfl⟩
theorem Dr.drewN {w w' : World} (h : Dr w w') (n : Nat) : Dr w (w'.drewN n) := by
 obtain ⟨q, rfl⟩ := h; exact ⟨q + n, by rw [World.drewN_drewN]⟩
theorem Dr.cell {w w' : World} (h : Dr w w') (a : Addr) : w'.cell? a = w.cell? a := by obtain ⟨q, rfl⟩ := h; rfl
theorem Dr.below {w w' : World} (h : Dr w w') (B : Nat) : Below B w w' := by obtain ⟨q, rfl⟩ := h; exact ⟨rfl, rfl, rfl, Nat.le_refl _, fun _ _ => rfl⟩
theorem beq_swap (a b : List UInt8) : (a == b) = (b == a) := by
 rw [Bool.eq_iff_iff, beq_iff_eq, beq_iff_eq]; exact eq_comm
theorem size_of_nil (s : ByteArray) (h : s.toList = []) : s.size = 0 := by
 rw [ByteArray.toList_eq] at h
 show s.data.size = 0
 rw [<- Array.length_toList, h]; rfl
theorem size_yes_pos (s : ByteArray) (h1 : s.toList.isEmpty = false) : s.size ≠ 0 := fun h0 => by
 have : s.toList = [] := by rw [ByteArray.toList_eq]; exact List.eq_nil_of_length_eq_zero (by rw [Array.length_toList]; exact h0)
 rw [this] at h1; simp at h1
theorem box_cells {w w1 : World} {cs : Array Value} {t : TypeId} (hb : Below (w.heap.size + 1) (w.alloc (.cells cs t)) w1) (o : Nat) : w1.cell? ⟨w.heap.size, o, none⟩ = cs[o]? :=
 (hb.cell (by exact Nat.lt_succ_self _)).trans (World.cell?_alloc_at _ _ _ _ rfl)
theorem below_box {w w1 : World} {o o2 : Obj} (hb : Below ((w.alloc o).alloc o2).heap.size ((w.alloc o).alloc o2) w1) : Below (w.heap.size + 1) (w.alloc o) w1 :=
 ((Below.refl _ _).alloc (by simp) _).trans (hb.mono (by simp))
theorem cell_made (w : World) (cs : Array Value) (t : TypeId) (i : Nat) (h : i < cs.size) : ∃ v, (w.alloc (.cells cs t)).cell? ⟨w.heap.size, i, none⟩ = some v :=
 ⟨cs[i], by rw [World.cell?_alloc_at _ _ _ _ rfl]; exact Array.getElem?_eq_getElem h⟩
theorem set_same {wr : World} {B k : Nat} {x : Value} (hv : ∃ v, wr.cell? ⟨B, k, none⟩ = some v) : (wr.setCell ⟨B, k, none⟩ x).cell? ⟨B, k, none⟩ = some x := by
 obtain ⟨v, hv⟩ := hv; exact World.cell?_setCell_same _ _ _ hv
theorem set_far {wr : World} {B k i : Nat} {x : Value} (h : i ≠ k) : (wr.setCell ⟨B, k, none⟩ x).cell? ⟨B, i, none⟩ = wr.cell? ⟨B, i, none⟩ :=
 World.cell?_setCell_other _ _ _ _ (fun e => h (by injection e with _ e2; exact e2.symm))
theorem far_block {wr : World} {B k C i : Nat} {x : Value} (h : B ≠ C) : (wr.setCell ⟨B, k, none⟩ x).cell? ⟨C, i, none⟩ = wr.cell? ⟨C, i, none⟩ :=
 World.cell?_setCell_other _ _ _ _ (fun e => h (by injection e))
end Go.Proofs.YtihacnhmiopalaaDoor
