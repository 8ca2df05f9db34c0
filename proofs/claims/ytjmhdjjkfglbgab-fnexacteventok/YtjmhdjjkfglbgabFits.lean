import Derived.Test.YtjmhdjjkfglbgabContS
import Derived.Test.YtjmhdjjkfglbgabZeroI
namespace Go.Proofs.Ytjmhdjjkfglbgab
open Go.RowKit

section
variable (key val : ByteArray) (st : Bool) (ga : Option Addr) (ng cg : Nat) (M : Nat → ByteArray) (L : Nat → Int) (w : World)

set_option maxHeartbeats 1000000 in
theorem fits_create (rf : Int) :
    Calls Try.prog 76 #[.agg #[.bool st, .string key, .string val, .slice ga ng cg, .int .i64 rf]] w fun e w' =>
      e = .returned (.bool (st && key.toList.isEmpty && ng == 0 && rf == 0 && val.toList.isEmpty)) ∧ Below w.heap.size w w' := by
  go_enter Try.func76, Try.ntmps76
  go_wp2
  all_goals (go_ret; exact ⟨ret_bool (by rw [Bool.eq_iff_iff]; simp [*]), by repeat' (first | exact Below.refl _ _ | exact Nat.le_refl _ | (refine Below.alloc ?_ ?_ _) | (simp; done) | (simp; omega))⟩)

set_option maxHeartbeats 1000000 in
theorem fits_member :
    Calls Try.prog 78 #[.agg #[.bool st, .string key, .string val, .slice ga ng cg]] w fun e w' =>
      e = .returned (.bool (st && !key.toList.isEmpty && ng == 0 && memB val)) ∧ Below w.heap.size w w' := by
  go_enter Try.func78, Try.ntmps78
  go_wp2
  all_goals (go_ret; exact ⟨ret_bool (by rw [Bool.eq_iff_iff]; first | (simp [memB, *]; done) | (exfalso; simp_all; done)), by repeat' (first | exact Below.refl _ _ | exact Nat.le_refl _ | (refine Below.alloc ?_ ?_ _) | (simp; done) | (simp; omega))⟩)

set_option maxHeartbeats 1000000 in
theorem fits_rules :
    Calls Try.prog 79 #[.agg #[.bool st, .string key, .string val, .slice ga ng cg]] w fun e w' =>
      e = .returned (.bool (st && key.toList.isEmpty && ng == 0 && rulB val)) ∧ Below w.heap.size w w' := by
  go_enter Try.func79, Try.ntmps79
  go_wp2
  all_goals (go_ret; exact ⟨ret_bool (by rw [Bool.eq_iff_iff]; first | (simp [rulB, *]; done) | (exfalso; simp_all; done)), by repeat' (first | exact Below.refl _ _ | exact Nat.le_refl _ | (refine Below.alloc ?_ ?_ _) | (simp; done) | (simp; omega))⟩)

set_option maxHeartbeats 1000000 in
theorem fits_power (hg : SlG w ga ng cg M L) :
    Calls Try.prog 80 #[.agg #[.bool st, .string key, .string val, .slice ga ng cg]] w fun e w' =>
      e = .returned (.bool (st && key.toList.isEmpty && val.toList.isEmpty && grB M L ng)) ∧ Below w.heap.size w w' := by
  go_enter Try.func80, Try.ntmps80
  go_wp2_with (first | (go_at_call 81; refine (grI_sl _ (hg.below (by repeat' (first | exact Below.refl _ _ | exact Nat.le_refl _ | (refine Below.alloc ?_ ?_ _) | (simp; done))))).mono ?_; rintro e w' ⟨rfl, hb2⟩) | go_in)
  all_goals (go_ret; exact ⟨ret_bool (by rw [Bool.eq_iff_iff]; simp [*]), by first | exact Below.trans (by repeat' (first | exact Below.refl _ _ | exact Nat.le_refl _ | (refine Below.alloc ?_ ?_ _) | (simp; done) | (simp; omega))) (hb2.mono (by simp; omega)) | (repeat' (first | exact Below.refl _ _ | exact Nat.le_refl _ | (refine Below.alloc ?_ ?_ _) | (simp; done) | (simp; omega)))⟩)

set_option maxHeartbeats 1000000 in
theorem fits_other (hv : val.size ≤ maxLen) :
    Calls Try.prog 83 #[.agg #[.bool st, .string key, .string val, .slice ga ng cg]] w fun e w' =>
      e = .returned (.bool (ng == 0 && (val.toList.isEmpty || isW val))) ∧ Below w.heap.size w w' := by
  go_enter Try.func83, Try.ntmps83
  go_wp2_with (first | (go_at_call 30; refine (allWords_one _ val _ hv (by simp)).mono ?_; rintro e w' ⟨rfl, rfl⟩) | go_in)
  all_goals (go_ret; exact ⟨ret_bool (by rw [Bool.eq_iff_iff]; simp [*]), by repeat' (first | exact Below.refl _ _ | exact Nat.le_refl _ | (refine Below.alloc ?_ ?_ _) | (simp; done) | (simp; omega))⟩)
end
end Go.Proofs.Ytjmhdjjkfglbgab
