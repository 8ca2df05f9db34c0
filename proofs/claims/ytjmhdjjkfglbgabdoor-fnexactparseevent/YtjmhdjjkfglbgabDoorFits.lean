import Derived.Test.YtjmhdjjkfglbgabDoorContS
import Derived.Test.YtjmhdjjkfglbgabDoorZeroI
namespace Go.Proofs.YtjmhdjjkfglbgabDoor
open Go.RowKit

section
variable (key val : ByteArray) (st : Bool) (ga : Option Addr) (ng cg : Nat) (M : Nat → ByteArray) (L : Nat → Int) (w : World)

set_option maxHeartbeats 1000000 in
theorem fits_create (rf : Int) :
    Calls Tryd.prog 134 #[.agg #[.bool st, .string key, .string val, .slice ga ng cg, .int .i64 rf]] w fun e w' =>
      e = .returned (.bool (st && key.toList.isEmpty && ng == 0 && rf == 0 && val.toList.isEmpty)) ∧ Below w.heap.size w w' := by
  go_enter Tryd.func134, Tryd.ntmps134
  go_wp2
  all_goals (go_ret; exact ⟨ret_bool (by rw [Bool.eq_iff_iff]; simp [*]), by repeat' (first | exact Below.refl _ _ | exact Nat.le_refl _ | (refine Below.alloc ?_ ?_ _) | (simp; done) | (simp; omega))⟩)

set_option maxHeartbeats 1000000 in
theorem fits_member :
    Calls Tryd.prog 136 #[.agg #[.bool st, .string key, .string val, .slice ga ng cg]] w fun e w' =>
      e = .returned (.bool (st && !key.toList.isEmpty && ng == 0 && memB val)) ∧ Below w.heap.size w w' := by
  go_enter Tryd.func136, Tryd.ntmps136
  go_wp2
  all_goals (go_ret; exact ⟨ret_bool (by rw [Bool.eq_iff_iff]; first | (simp [memB, *]; done) | (exfalso; simp_all; done)), by repeat' (first | exact Below.refl _ _ | exact Nat.le_refl _ | (refine Below.alloc ?_ ?_ _) | (simp; done) | (simp; omega))⟩)

set_option maxHeartbeats 1000000 in
theorem fits_rules :
    Calls Tryd.prog 137 #[.agg #[.bool st, .string key, .string val, .slice ga ng cg]] w fun e w' =>
      e = .returned (.bool (st && key.toList.isEmpty && ng == 0 && rulB val)) ∧ Below w.heap.size w w' := by
  go_enter Tryd.func137, Tryd.ntmps137
  go_wp2
  all_goals (go_ret; exact ⟨ret_bool (by rw [Bool.eq_iff_iff]; first | (simp [rulB, *]; done) | (exfalso; simp_all; done)), by repeat' (first | exact Below.refl _ _ | exact Nat.le_refl _ | (refine Below.alloc ?_ ?_ _) | (simp; done) | (simp; omega))⟩)

set_option maxHeartbeats 1000000 in
theorem fits_power (hg : SlG w ga ng cg M L) :
    Calls Tryd.prog 138 #[.agg #[.bool st, .string key, .string val, .slice ga ng cg]] w fun e w' =>
      e = .returned (.bool (st && key.toList.isEmpty && val.toList.isEmpty && grB M L ng)) ∧ Below w.heap.size w w' := by
  go_enter Tryd.func138, Tryd.ntmps138
  go_wp2_with (first | (go_at_call 139; refine (grI_sl _ (hg.below (by repeat' (first | exact Below.refl _ _ | exact Nat.le_refl _ | (refine Below.alloc ?_ ?_ _) | (simp; done))))).mono ?_; rintro e w' ⟨rfl, hb2⟩) | go_in)
  all_goals (go_ret; exact ⟨ret_bool (by rw [Bool.eq_iff_iff]; simp [*]), by first | exact Below.trans (by repeat' (first | exact Below.refl _ _ | exact Nat.le_refl _ | (refine Below.alloc ?_ ?_ _) | (simp; done) | (simp; omega))) (hb2.mono (by simp; omega)) | (repeat' (first | exact Below.refl _ _ | exact Nat.le_refl _ | (refine Below.alloc ?_ ?_ _) | (simp; done) | (simp; omega)))⟩)

set_option maxHeartbeats 1000000 in
theorem fits_other (hv : val.size ≤ maxLen) :
    Calls Tryd.prog 141 #[.agg #[.bool st, .string key, .string val, .slice ga ng cg]] w fun e w' =>
      e = .returned (.bool (ng == 0 && (val.toList.isEmpty || isW val))) ∧ Below w.heap.size w w' := by
  go_enter Tryd.func141, Tryd.ntmps141
  go_wp2_with (first | (go_at_call 31; refine (allWords_one _ val _ hv (by simp)).mono ?_; rintro e w' ⟨rfl, rfl⟩) | go_in)
  all_goals (go_ret; exact ⟨ret_bool (by rw [Bool.eq_iff_iff]; simp [*]), by repeat' (first | exact Below.refl _ _ | exact Nat.le_refl _ | (refine Below.alloc ?_ ?_ _) | (simp; done) | (simp; omega))⟩)
end
end Go.Proofs.YtjmhdjjkfglbgabDoor
