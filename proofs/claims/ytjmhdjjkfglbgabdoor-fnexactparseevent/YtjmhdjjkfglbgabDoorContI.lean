import Derived.Test.YtjmhdjjkfglbgabDoorFits
namespace Go.Proofs.YtjmhdjjkfglbgabDoor
open Go.RowKit

section
variable (id sd ty key val : ByteArray) (st : Bool) (tm : Int) (pa : Option Addr) (np cp : Nat) (aa : Option Addr) (na ca : Nat) (ga : Option Addr) (ng cg : Nat) (w : World)

set_option maxHeartbeats 1000000 in
theorem contOf_create (h1 : (ty.toList == [99, 114, 101, 97, 116, 101]) = true) (hnp : np ≤ 10) (hna : na ≤ 10) :
    Calls Tryd.prog 34 #[evV id sd ty key val st tm pa np cp aa na ca ga ng cg] w fun e w' =>
      e = .returned (.iface 95 (.agg #[.bool st, .string key, .string val, .slice ga ng cg, .int .i64 ((np : Int) + na)])) ∧ Below w.heap.size w w' := by
  go_enter Tryd.func34, Tryd.ntmps34
  go_wp2
  go_ret
  exact ⟨rfl, by repeat' (first | exact Below.refl _ _ | exact Nat.le_refl _ | (refine Below.alloc ?_ ?_ _) | (refine Below.setCell ?_ ?_ _) | (simp; done) | (simp; omega))⟩

set_option maxHeartbeats 1000000 in
theorem contOf_member (h1 : (ty.toList == [99, 114, 101, 97, 116, 101]) = false) (h2 : (ty.toList == [109, 101, 109, 98, 101, 114]) = true) :
    Calls Tryd.prog 34 #[evV id sd ty key val st tm pa np cp aa na ca ga ng cg] w fun e w' =>
      e = .returned (.iface 97 (.agg #[.bool st, .string key, .string val, .slice ga ng cg])) ∧ Below w.heap.size w w' := by
  go_enter Tryd.func34, Tryd.ntmps34
  go_wp2
  go_ret
  exact ⟨rfl, by repeat' (first | exact Below.refl _ _ | exact Nat.le_refl _ | (refine Below.alloc ?_ ?_ _) | (refine Below.setCell ?_ ?_ _) | (simp; done) | (simp; omega))⟩

set_option maxHeartbeats 1000000 in
theorem contOf_rules (h1 : (ty.toList == [99, 114, 101, 97, 116, 101]) = false) (h2 : (ty.toList == [109, 101, 109, 98, 101, 114]) = false) (h3 : (ty.toList == [106, 111, 105, 110, 95, 114, 117, 108, 101, 115]) = true) :
    Calls Tryd.prog 34 #[evV id sd ty key val st tm pa np cp aa na ca ga ng cg] w fun e w' =>
      e = .returned (.iface 98 (.agg #[.bool st, .string key, .string val, .slice ga ng cg])) ∧ Below w.heap.size w w' := by
  go_enter Tryd.func34, Tryd.ntmps34
  go_wp2
  go_ret
  exact ⟨rfl, by repeat' (first | exact Below.refl _ _ | exact Nat.le_refl _ | (refine Below.alloc ?_ ?_ _) | (refine Below.setCell ?_ ?_ _) | (simp; done) | (simp; omega))⟩

set_option maxHeartbeats 1000000 in
theorem contOf_power (h1 : (ty.toList == [99, 114, 101, 97, 116, 101]) = false) (h2 : (ty.toList == [109, 101, 109, 98, 101, 114]) = false) (h3 : (ty.toList == [106, 111, 105, 110, 95, 114, 117, 108, 101, 115]) = false) (h4 : (ty.toList == [112, 111, 119, 101, 114]) = true) :
    Calls Tryd.prog 34 #[evV id sd ty key val st tm pa np cp aa na ca ga ng cg] w fun e w' =>
      e = .returned (.iface 99 (.agg #[.bool st, .string key, .string val, .slice ga ng cg])) ∧ Below w.heap.size w w' := by
  go_enter Tryd.func34, Tryd.ntmps34
  go_wp2
  go_ret
  exact ⟨rfl, by repeat' (first | exact Below.refl _ _ | exact Nat.le_refl _ | (refine Below.alloc ?_ ?_ _) | (refine Below.setCell ?_ ?_ _) | (simp; done) | (simp; omega))⟩

set_option maxHeartbeats 1000000 in
theorem contOf_other (h1 : (ty.toList == [99, 114, 101, 97, 116, 101]) = false) (h2 : (ty.toList == [109, 101, 109, 98, 101, 114]) = false) (h3 : (ty.toList == [106, 111, 105, 110, 95, 114, 117, 108, 101, 115]) = false) (h4 : (ty.toList == [112, 111, 119, 101, 114]) = false) :
    Calls Tryd.prog 34 #[evV id sd ty key val st tm pa np cp aa na ca ga ng cg] w fun e w' =>
      e = .returned (.iface 100 (.agg #[.bool st, .string key, .string val, .slice ga ng cg])) ∧ Below w.heap.size w w' := by
  go_enter Tryd.func34, Tryd.ntmps34
  go_wp2
  go_ret
  exact ⟨rfl, by repeat' (first | exact Below.refl _ _ | exact Nat.le_refl _ | (refine Below.alloc ?_ ?_ _) | (refine Below.setCell ?_ ?_ _) | (simp; done) | (simp; omega))⟩
end
end Go.Proofs.YtjmhdjjkfglbgabDoor
