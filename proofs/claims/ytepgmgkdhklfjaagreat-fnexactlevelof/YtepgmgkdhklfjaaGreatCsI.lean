/-
  impl.compareSlots, (impl.Entry).slot and what they call.
-/
import Derived.Test.YtepgmgkdhklfjaaGreatProg
import Derived.Test.YtepgmgkdhklfjaaGreatCmpP
import Derived.Test.YtepgmgkdhklfjaaGreatGrw
import Derived.Deep.RegionHeld3
import Derived.Lib.Walk
namespace Go.Proofs.YtepgmgkdhklfjaaGreat
open Go.RowKit

/-- a slot as a value. -/
abbrev slotV (e : Ent) : Value := .agg #[.string e.ty, .string e.key]

set_option maxRecDepth 100000 in
theorem bcmp_any (a b : ByteArray) (w : World) :
    Calls Tryz.prog 90 #[.string a, .string b] w fun e w' => e = .returned (.int .i64 (cB a b)) ∧ w' = w := by
  go_enter Tryz.func90, Tryz.ntmps90
  go_wp2
  rw [run_callFunc_extern Tryz.func94 (by kernel_rfl) (by kernel_rfl) (by kernel_rfl) (e := Extern.BytealgCompare.compare) (by kernel_rfl), Lib.run_compareString]
  simp only [Result.andThen]
  rw [Oper.upon_value]
  go_wp2
  go_ret
  exact ⟨rfl, rfl⟩

theorem scmp_any (a b : ByteArray) (w : World) :
    Calls Tryz.prog 80 #[.string a, .string b] w fun e w' => e = .returned (.int .i64 (cB a b)) ∧ w' = w := by
  go_enter Tryz.func80, Tryz.ntmps80
  go_wp2_with (go_at_call 90; refine (bcmp_any a b _).mono ?_; rintro e w' ⟨rfl, rfl⟩)
  go_ret
  exact ⟨rfl, rfl⟩

def orV (x y : Int) : Int := if x = 0 then y else x
set_option maxHeartbeats 400000 in
theorem or_any (b cap : Nat) (x y : Int) (w : World) (h0 : w.cell? ⟨b, 0, none⟩ = some (.int .i64 x)) (h1 : w.cell? ⟨b, 1, none⟩ = some (.int .i64 y)) :
    Calls Tryz.prog 79 #[.slice (some ⟨b, 0, none⟩) 2 cap] w fun e w' => e = .returned (.int .i64 (orV x y)) ∧ w' = w := by
  by_cases hx : x = 0
  · subst hx
    by_cases hy : y = 0
    · subst hy
      go_enter Tryz.func79, Tryz.ntmps79
      go_wp2
      refine wp_loop_rounds 3 ?_
      rw [rounds_succ]
      go_wp2
      rw [rounds_succ]
      go_wp2
      rw [rounds_succ]
      go_wp2
      go_ret
      exact ⟨rfl, rfl⟩
    · go_enter Tryz.func79, Tryz.ntmps79
      go_wp2
      refine wp_loop_rounds 3 ?_
      rw [rounds_succ]
      go_wp2
      rw [rounds_succ]
      go_wp2
      go_ret
      exact ⟨rfl, rfl⟩
  · go_enter Tryz.func79, Tryz.ntmps79
    go_wp2
    refine wp_loop_rounds 3 ?_
    rw [rounds_succ]
    go_wp2
    go_ret
    exact ⟨ret_int (by unfold orV; rw [if_neg hx]), rfl⟩

theorem cell_box3 {w : World} {o1 o2 : Obj} (cs : Array Value) (t : TypeId) (o : Nat) : (((w.alloc o1).alloc o2).alloc (.cells cs t)).drew.cell? ⟨w.heap.size + 1 + 1, o, none⟩ = cs[o]? := by
  show (((w.alloc o1).alloc o2).alloc (.cells cs t)).cell? _ = _
  exact World.cell?_alloc_at _ _ _ _ (by simp)

set_option maxRecDepth 100000 in
set_option maxHeartbeats 1000000 in
theorem cmpS_any (x y : Ent) (w : World) :
    Calls Tryz.prog 63 #[slotV x, slotV y] w fun e w' => e = .returned (.int .i64 (cmpE x y)) ∧ Grw w w' := by
  have hv : Hid (orV (cB x.ty y.ty) (cB x.key y.key) = cmpE x y) := by unfold Hid; rw [cmpE, orV]
  go_enter Tryz.func63, Tryz.ntmps63
  go_wp2_with fail
  go_region_held3 (fun W => W.cell? ⟨w.heap.size, 0, none⟩ = some (.string x.ty) ∧ W.cell? ⟨w.heap.size, 1, none⟩ = some (.string x.key) ∧ W.cell? ⟨w.heap.size + 1, 0, none⟩ = some (.string y.ty) ∧ W.cell? ⟨w.heap.size + 1, 1, none⟩ = some (.string y.key))
    (go_keep)
    (first
      | (go_at_call 80; refine (scmp_any _ _ _).mono ?_; rintro e w' ⟨rfl, rfl⟩)
      | (go_at_call 79; refine (or_any _ _ _ _ _ (cell_box3 _ _ 0) (cell_box3 _ _ 1)).mono ?_; rintro e w' ⟨rfl, rfl⟩))
  all_goals
    go_wp2
    go_ret
    exact ⟨ret_int hv.out, ((((Grw.refl w).alloc _).alloc _).alloc _).drew⟩

set_option maxHeartbeats 400000 in
theorem slot_any (x : Ent) (w : World) :
    Calls Tryz.prog 58 #[entV x] w fun e w' => e = .returned (slotV x) ∧ Grw w w' := by
  go_enter Tryz.func58, Tryz.ntmps58
  go_wp2
  exact bodyPost_ret (v := slotV x) (by simp [results, Tryz.results58, go_sem]) rfl ⟨rfl, by repeat' (first | exact Grw.refl _ | (refine Grw.alloc ?_ _) | (refine Grw.setCell ?_ (by simp) _))⟩
end Go.Proofs.YtepgmgkdhklfjaaGreat
