import Derived.Test.YtjmhdjjkfglbgacContS
import Derived.Test.YtjmhdjjkfglbgacZeroI
namespace Go.Proofs.Ytjmhdjjkfglbgac
open Go.RowKit

section
variable (key val : ByteArray) (st : Bool) (ga : Option Addr) (ng cg : Nat) (M : Nat → ByteArray) (L : Nat → Int) (w : World)

set_option maxHeartbeats 1000000 in
theorem fits_create (rf : Int) :
    Calls Try.prog 105 #[.agg #[.bool st, .string key, .string val, .slice ga ng cg, .int .i64 rf]] w fun e w' =>
      e = .returned (.bool (st && key.toList.isEmpty && ng == 0 && rf == 0 && val.toList.isEmpty)) ∧ Below w.heap.size w w' := by
  go_enter Try.func105, Try.ntmps105
  go_wp2
  all_goals (go_ret; exact ⟨ret_bool (by rw [Bool.eq_iff_iff]; simp [*]), by repeat' (first | exact Below.refl _ _ | exact Nat.le_refl _ | (refine Below.alloc ?_ ?_ _) | (simp; done) | (simp; omega))⟩)

set_option maxHeartbeats 1000000 in
theorem fits_member :
    Calls Try.prog 107 #[.agg #[.bool st, .string key, .string val, .slice ga ng cg]] w fun e w' =>
      e = .returned (.bool (st && !key.toList.isEmpty && ng == 0 && memB val)) ∧ Below w.heap.size w w' := by
  go_enter Try.func107, Try.ntmps107
  go_wp2
  all_goals (go_ret; exact ⟨ret_bool (by rw [Bool.eq_iff_iff]; first | (simp [memB, *]; done) | (exfalso; simp_all; done)), by repeat' (first | exact Below.refl _ _ | exact Nat.le_refl _ | (refine Below.alloc ?_ ?_ _) | (simp; done) | (simp; omega))⟩)

set_option maxHeartbeats 1000000 in
theorem fits_rules :
    Calls Try.prog 108 #[.agg #[.bool st, .string key, .string val, .slice ga ng cg]] w fun e w' =>
      e = .returned (.bool (st && key.toList.isEmpty && ng == 0 && rulB val)) ∧ Below w.heap.size w w' := by
  go_enter Try.func108, Try.ntmps108
  go_wp2
  all_goals (go_ret; exact ⟨ret_bool (by rw [Bool.eq_iff_iff]; first | (simp [rulB, *]; done) | (exfalso; simp_all; done)), by repeat' (first | exact Below.refl _ _ | exact Nat.le_refl _ | (refine Below.alloc ?_ ?_ _) | (simp; done) | (simp; omega))⟩)

set_option maxHeartbeats 1000000 in
theorem fits_power (hg : SlG w ga ng cg M L) :
    Calls Try.prog 109 #[.agg #[.bool st, .string key, .string val, .slice ga ng cg]] w fun e w' =>
      e = .returned (.bool (st && key.toList.isEmpty && val.toList.isEmpty && grB M L ng)) ∧ Below w.heap.size w w' := by
  go_enter Try.func109, Try.ntmps109
  go_wp2_with (first | (go_at_call 110; refine (grI_sl _ (hg.below (by repeat' (first | exact Below.refl _ _ | exact Nat.le_refl _ | (refine Below.alloc ?_ ?_ _) | (simp; done))))).mono ?_; rintro e w' ⟨rfl, hb2⟩) | go_in)
  all_goals (go_ret; exact ⟨ret_bool (by rw [Bool.eq_iff_iff]; simp [*]), by first | exact Below.trans (by repeat' (first | exact Below.refl _ _ | exact Nat.le_refl _ | (refine Below.alloc ?_ ?_ _) | (simp; done) | (simp; omega))) (hb2.mono (by simp; omega)) | (repeat' (first | exact Below.refl _ _ | exact Nat.le_refl _ | (refine Below.alloc ?_ ?_ _) | (simp; done) | (simp; omega)))⟩)

set_option maxHeartbeats 1000000 in
theorem fits_other (hv : val.size ≤ maxLen) :
    Calls Try.prog 112 #[.agg #[.bool st, .string key, .string val, .slice ga ng cg]] w fun e w' =>
      e = .returned (.bool (ng == 0 && (val.toList.isEmpty || isW val))) ∧ Below w.heap.size w w' := by
  go_enter Try.func112, Try.ntmps112
  go_wp2_with (first | (go_at_call 77; refine (allWords_one _ val _ hv (by simp)).mono ?_; rintro e w' ⟨rfl, rfl⟩) | go_in)
  all_goals (go_ret; exact ⟨ret_bool (by rw [Bool.eq_iff_iff]; simp [*]), by repeat' (first | exact Below.refl _ _ | exact Nat.le_refl _ | (refine Below.alloc ?_ ?_ _) | (simp; done) | (simp; omega))⟩)
end
end Go.Proofs.Ytjmhdjjkfglbgac
