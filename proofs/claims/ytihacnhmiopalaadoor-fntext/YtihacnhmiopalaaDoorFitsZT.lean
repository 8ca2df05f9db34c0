import Derived.Test.YtihacnhmiopalaaDoorGrantsIZT
namespace Go.Proofs.YtihacnhmiopalaaDoor
open Go.RowKit
section
variable (key val : ByteArray) (st : Bool) (ga : Option Addr) (ng cg : Nat) (M : Nat -> ByteArray) (L : Nat -> Int) (w : World)
set_option maxHeartbeats 1000000 in
theorem fits_create (rf : Int) :
  Calls Tryd.prog 106 #[.agg #[.bool st, .string key, .string val, .slice ga ng cg, .int .i64 rf]] w fun e w' =>
   e = .returned (.bool (st && key.toList.isEmpty && ng == 0 && rf == 0 && val.toList.isEmpty)) ∧ Below w.heap.size w w' := by
 go_enter Tryd.func106, Tryd.ntmps106
 go_wp2
 all_goals (go_ret; exact ⟨ret_bool (by rw [Bool.eq_iff_iff]; simp [*]), by repeat' (first | exact Below.refl _ _ | exact Nat.le_refl _ | (refine Below.alloc ?_ ?_ _) | (simp; done) | (simp; omega))⟩)
set_option maxHeartbeats 1000000 in
theorem fits_member :
  Calls Tryd.prog 108 #[.agg #[.bool st, .string key, .string val, .slice ga ng cg]] w fun e w' =>
   e = .returned (.bool (st && !key.toList.isEmpty && ng == 0 && memB val)) ∧ Below w.heap.size w w' := by
 go_enter Tryd.func108, Tryd.ntmps108
 go_wp2
 all_goals (go_ret; exact ⟨ret_bool (by rw [Bool.eq_iff_iff]; first | (simp [memB, *]; done) | (exfalso; simp_all; done)), by repeat' (first | exact Below.refl _ _ | exact Nat.le_refl _ | (refine Below.alloc ?_ ?_ _) | (simp; done) | (simp; omega))⟩)
set_option maxHeartbeats 1000000 in
theorem fits_rules :
  Calls Tryd.prog 109 #[.agg #[.bool st, .string key, .string val, .slice ga ng cg]] w fun e w' =>
   e = .returned (.bool (st && key.toList.isEmpty && ng == 0 && rulB val)) ∧ Below w.heap.size w w' := by
 go_enter Tryd.func109, Tryd.ntmps109
 go_wp2
 all_goals (go_ret; exact ⟨ret_bool (by rw [Bool.eq_iff_iff]; first | (simp [rulB, *]; done) | (exfalso; simp_all; done)), by repeat' (first | exact Below.refl _ _ | exact Nat.le_refl _ | (refine Below.alloc ?_ ?_ _) | (simp; done) | (simp; omega))⟩)
set_option maxHeartbeats 1000000 in
theorem fits_power (hg : SlG w ga ng cg M L) :
  Calls Tryd.prog 110 #[.agg #[.bool st, .string key, .string val, .slice ga ng cg]] w fun e w' =>
   e = .returned (.bool (st && key.toList.isEmpty && val.toList.isEmpty && grB M L ng)) ∧ Below w.heap.size w w' := by
 go_enter Tryd.func110, Tryd.ntmps110
 go_wp2_with (first | (go_at_call 111; refine (grI_sl _ (hg.below (by repeat' (first | exact Below.refl _ _ | exact Nat.le_refl _ | (refine Below.alloc ?_ ?_ _) | (simp; done))))).mono ?_; rintro e w' ⟨rfl, hb2⟩) | go_in)
 all_goals (go_ret; exact ⟨ret_bool (by rw [Bool.eq_iff_iff]; simp [*]), by first | exact Below.trans (by repeat' (first | exact Below.refl _ _ | exact Nat.le_refl _ | (refine Below.alloc ?_ ?_ _) | (simp; done) | (simp; omega))) (hb2.mono (by simp; omega)) | (repeat' (first | exact Below.refl _ _ | exact Nat.le_refl _ | (refine Below.alloc ?_ ?_ _) | (simp; done) | (simp; omega)))⟩)
set_option maxHeartbeats 1000000 in
theorem fits_other (hv : val.size <= maxLen) :
  Calls Tryd.prog 113 #[.agg #[.bool st, .string key, .string val, .slice ga ng cg]] w fun e w' =>
   e = .returned (.bool (ng == 0 && (val.toList.isEmpty || isW val))) ∧ Below w.heap.size w w' := by
 go_enter Tryd.func113, Tryd.ntmps113
 go_wp2_with (first | (go_at_call 22; refine (allWords_one _ val _ hv (by simp)).mono ?_; rintro e w' ⟨rfl, rfl⟩) | go_in)
 all_goals (go_ret; exact ⟨ret_bool (by rw [Bool.eq_iff_iff]; simp [*]), by repeat' (first | exact Below.refl _ _ | exact Nat.le_refl _ | (refine Below.alloc ?_ ?_ _) | (simp; done) | (simp; omega))⟩)
end
section
variable (id sd ty key val : ByteArray) (st : Bool) (tm : Int) (pa : Option Addr) (np cp : Nat) (aa : Option Addr) (na ca : Nat) (ga : Option Addr) (ng cg : Nat) (w : World)
set_option maxHeartbeats 1000000 in
theorem contOf_create (h1 : (ty.toList == [99, 114, 101, 97, 116, 101]) = true) (hnp : np <= 10) (hna : na <= 10) :
  Calls Tryd.prog 25 #[evV id sd ty key val st tm pa np cp aa na ca ga ng cg] w fun e w' =>
   e = .returned (.iface 75 (.agg #[.bool st, .string key, .string val, .slice ga ng cg, .int .i64 ((np : Int) + na)])) ∧ Below w.heap.size w w' := by
 go_enter Tryd.func25, Tryd.ntmps25
 go_wp2
 go_ret
 exact ⟨rfl, by repeat' (first | exact Below.refl _ _ | exact Nat.le_refl _ | (refine Below.alloc ?_ ?_ _) | (refine Below.setCell ?_ ?_ _) | (simp; done) | (simp; omega))⟩
set_option maxHeartbeats 1000000 in
theorem contOf_member (h1 : (ty.toList == [99, 114, 101, 97, 116, 101]) = false) (h2 : (ty.toList == [109, 101, 109, 98, 101, 114]) = true) :
  Calls Tryd.prog 25 #[evV id sd ty key val st tm pa np cp aa na ca ga ng cg] w fun e w' =>
   e = .returned (.iface 77 (.agg #[.bool st, .string key, .string val, .slice ga ng cg])) ∧ Below w.heap.size w w' := by
 go_enter Tryd.func25, Tryd.ntmps25
 go_wp2
 go_ret
 exact ⟨rfl, by repeat' (first | exact Below.refl _ _ | exact Nat.le_refl _ | (refine Below.alloc ?_ ?_ _) | (refine Below.setCell ?_ ?_ _) | (simp; done) | (simp; omega))⟩
set_option maxHeartbeats 1000000 in
theorem contOf_rules (h1 : (ty.toList == [99, 114, 101, 97, 116, 101]) = false) (h2 : (ty.toList == [109, 101, 109, 98, 101, 114]) = false) (h3 : (ty.toList == [106, 111, 105, 110, 95, 114, 117, 108, 101, 115]) = true) :
  Calls Tryd.prog 25 #[evV id sd ty key val st tm pa np cp aa na ca ga ng cg] w fun e w' =>
   e = .returned (.iface 78 (.agg #[.bool st, .string key, .string val, .slice ga ng cg])) ∧ Below w.heap.size w w' := by
 go_enter Tryd.func25, Tryd.ntmps25
 go_wp2
 go_ret
 exact ⟨rfl, by repeat' (first | exact Below.refl _ _ | exact Nat.le_refl _ | (refine Below.alloc ?_ ?_ _) | (refine Below.setCell ?_ ?_ _) | (simp; done) | (simp; omega))⟩
set_option maxHeartbeats 1000000 in
theorem contOf_power (h1 : (ty.toList == [99, 114, 101, 97, 116, 101]) = false) (h2 : (ty.toList == [109, 101, 109, 98, 101, 114]) = false) (h3 : (ty.toList == [106, 111, 105, 110, 95, 114, 117, 108, 101, 115]) = false) (h4 : (ty.toList == [112, 111, 119, 101, 114]) = true) :
  Calls Tryd.prog 25 #[evV id sd ty key val st tm pa np cp aa na ca ga ng cg] w fun e w' =>
   e = .returned (.iface 79 (.agg #[.bool st, .string key, .string val, .slice ga ng cg])) ∧ Below w.heap.size w w' := by
 go_enter Tryd.func25, Tryd.ntmps25
 go_wp2
 go_ret
 exact ⟨rfl, by repeat' (first | exact Below.refl _ _ | exact Nat.le_refl _ | (refine Below.alloc ?_ ?_ _) | (refine Below.setCell ?_ ?_ _) | (simp; done) | (simp; omega))⟩
set_option maxHeartbeats 1000000 in
theorem contOf_other (h1 : (ty.toList == [99, 114, 101, 97, 116, 101]) = false) (h2 : (ty.toList == [109, 101, 109, 98, 101, 114]) = false) (h3 : (ty.toList == [106, 111, 105, 110, 95, 114, 117, 108, 101, 115]) = false) (h4 : (ty.toList == [112, 111, 119, 101, 114]) = false) :
  Calls Tryd.prog 25 #[evV id sd ty key val st tm pa np cp aa na ca ga ng cg] w fun e w' =>
   e = .returned (.iface 80 (.agg #[.bool st, .string key, .string val, .slice ga ng cg])) ∧ Below w.heap.size w w' := by
 go_enter Tryd.func25, Tryd.ntmps25
 go_wp2
 go_ret
 exact ⟨rfl, by repeat' (first | exact Below.refl _ _ | exact Nat.le_refl _ | (refine Below.alloc ?_ ?_ _) | (refine Below.setCell ?_ ?_ _) | (simp; done) | (simp; omega))⟩
end
end Go.Proofs.YtihacnhmiopalaaDoor
