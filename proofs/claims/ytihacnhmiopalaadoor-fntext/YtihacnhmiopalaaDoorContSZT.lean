import Derived.Test.YtihacnhmiopalaaDoorGrantsZT
namespace Go.Proofs.YtihacnhmiopalaaDoor
open Go.RowKit
def litJoin : ByteArray := ⟨#[106, 111, 105, 110]⟩
def litInvite : ByteArray := ⟨#[105, 110, 118, 105, 116, 101]⟩
def litLeave : ByteArray := ⟨#[108, 101, 97, 118, 101]⟩
def litBan : ByteArray := ⟨#[98, 97, 110]⟩
def litPublic : ByteArray := ⟨#[112, 117, 98, 108, 105, 99]⟩
theorem memB_has (v : ByteArray) : hasB (fun i => [litJoin, litInvite, litLeave, litBan].getD i ByteArray.empty) 4 v = memB v := by
 simp only [hasB, memB, List.getD, litJoin, litInvite, litLeave, litBan]
 rw [beq_swap v.toList [106, 111, 105, 110], beq_swap v.toList [105, 110, 118, 105, 116, 101], beq_swap v.toList [108, 101, 97, 118, 101], beq_swap v.toList [98, 97, 110]]
 simp [ByteArray.toList_eq, Bool.or_assoc]
theorem rulB_has (v : ByteArray) : hasB (fun i => [litPublic, litInvite].getD i ByteArray.empty) 2 v = rulB v := by
 simp only [hasB, rulB, List.getD, litPublic, litInvite]
 rw [beq_swap v.toList [112, 117, 98, 108, 105, 99], beq_swap v.toList [105, 110, 118, 105, 116, 101]]
 simp [ByteArray.toList_eq]
theorem has_mem (W : World) (v : ByteArray) (blk : Nat) (hblk : blk = W.heap.size) :
  Calls Tryd.prog 32 #[.slice (some ⟨blk, 0, none⟩) 4 4, .string v] (W.alloc (.cells #[.string ⟨#[106, 111, 105, 110]⟩, .string ⟨#[105, 110, 118, 105, 116, 101]⟩, .string ⟨#[108, 101, 97, 118, 101]⟩, .string ⟨#[98, 97, 110]⟩] 9)) fun e w' =>
   e = .returned (.bool (memB v)) ∧ w' = W.alloc (.cells #[.string ⟨#[106, 111, 105, 110]⟩, .string ⟨#[105, 110, 118, 105, 116, 101]⟩, .string ⟨#[108, 101, 97, 118, 101]⟩, .string ⟨#[98, 97, 110]⟩] 9) := by
 rw [<- memB_has]
 refine has_any blk 0 4 4 _ v _ (by decide) (fun i hi => ?_)
 rw [Nat.zero_add, World.cell?_alloc_at _ _ _ _ hblk]
 match i, hi with
 | 0, _ => rfl
 | 1, _ => rfl
 | 2, _ => rfl
 | 3, _ => rfl
theorem has_rul (W : World) (v : ByteArray) (blk : Nat) (hblk : blk = W.heap.size) :
  Calls Tryd.prog 32 #[.slice (some ⟨blk, 0, none⟩) 2 2, .string v] (W.alloc (.cells #[.string ⟨#[112, 117, 98, 108, 105, 99]⟩, .string ⟨#[105, 110, 118, 105, 116, 101]⟩] 9)) fun e w' =>
   e = .returned (.bool (rulB v)) ∧ w' = W.alloc (.cells #[.string ⟨#[112, 117, 98, 108, 105, 99]⟩, .string ⟨#[105, 110, 118, 105, 116, 101]⟩] 9) := by
 rw [<- rulB_has]
 refine has_any blk 0 2 2 _ v _ (by decide) (fun i hi => ?_)
 rw [Nat.zero_add, World.cell?_alloc_at _ _ _ _ hblk]
 match i, hi with
 | 0, _ => rfl
 | 1, _ => rfl
section
variable (id sd ty key val : ByteArray) (st : Bool) (tm : Int) (pa : Option Addr) (np cp : Nat) (aa : Option Addr) (na ca : Nat) (ga : Option Addr) (ng cg : Nat) (M : Nat -> ByteArray) (L : Nat -> Int) (w : World)
set_option maxHeartbeats 1000000 in
theorem contS_create (h1 : (ty.toList == [99, 114, 101, 97, 116, 101]) = true) :
  Calls Tryd.prog 16 #[evV id sd ty key val st tm pa np cp aa na ca ga ng cg] w fun e w' =>
   e = .returned (.bool (ctB ty key val st np na ng M L)) ∧ Below w.heap.size w w' := by
 go_enter Tryd.func16, Tryd.ntmps16
 go_wp2
 all_goals (go_ret; exact ⟨ret_bool (by simp [ctB, *]), (Below.refl _ _).alloc (Nat.le_refl _) _⟩)
set_option maxHeartbeats 1000000 in
theorem contS_member (h1 : (ty.toList == [99, 114, 101, 97, 116, 101]) = false) (h2 : (ty.toList == [109, 101, 109, 98, 101, 114]) = true) :
  Calls Tryd.prog 16 #[evV id sd ty key val st tm pa np cp aa na ca ga ng cg] w fun e w' =>
   e = .returned (.bool (ctB ty key val st np na ng M L)) ∧ Below w.heap.size w w' := by
 go_enter Tryd.func16, Tryd.ntmps16
 go_wp2_with (go_at_call 32; refine (has_mem _ val _ (by simp)).mono ?_; rintro e w' ⟨rfl, rfl⟩)
 all_goals (go_ret; exact ⟨ret_bool (by simp [ctB, *]), by first | exact (Below.refl _ _).alloc (Nat.le_refl _) _ | exact ((Below.refl _ _).alloc (Nat.le_refl _) _).alloc (by simp) _⟩)
set_option maxHeartbeats 1000000 in
theorem contS_rules (h1 : (ty.toList == [99, 114, 101, 97, 116, 101]) = false) (h2 : (ty.toList == [109, 101, 109, 98, 101, 114]) = false) (h3 : (ty.toList == [106, 111, 105, 110, 95, 114, 117, 108, 101, 115]) = true) :
  Calls Tryd.prog 16 #[evV id sd ty key val st tm pa np cp aa na ca ga ng cg] w fun e w' =>
   e = .returned (.bool (ctB ty key val st np na ng M L)) ∧ Below w.heap.size w w' := by
 go_enter Tryd.func16, Tryd.ntmps16
 go_wp2_with (go_at_call 32; refine (has_rul _ val _ (by simp)).mono ?_; rintro e w' ⟨rfl, rfl⟩)
 all_goals (go_ret; exact ⟨ret_bool (by simp [ctB, *]), by first | exact (Below.refl _ _).alloc (Nat.le_refl _) _ | exact ((Below.refl _ _).alloc (Nat.le_refl _) _).alloc (by simp) _⟩)
set_option maxHeartbeats 1000000 in
theorem contS_power (h1 : (ty.toList == [99, 114, 101, 97, 116, 101]) = false) (h2 : (ty.toList == [109, 101, 109, 98, 101, 114]) = false) (h3 : (ty.toList == [106, 111, 105, 110, 95, 114, 117, 108, 101, 115]) = false)
  (h4 : (ty.toList == [112, 111, 119, 101, 114]) = true) (hg : SlG w ga ng cg M L) :
  Calls Tryd.prog 16 #[evV id sd ty key val st tm pa np cp aa na ca ga ng cg] w fun e w' =>
   e = .returned (.bool (ctB ty key val st np na ng M L)) ∧ Below w.heap.size w w' := by
 go_enter Tryd.func16, Tryd.ntmps16
 go_wp2_with (go_at_call 33; refine (grS_sl _ (hg.below ((Below.refl _ _).alloc (Nat.le_refl _) _))).mono ?_; rintro e w' ⟨rfl, hdr⟩)
 all_goals (go_ret; exact ⟨ret_bool (by simp [ctB, *]), by first | exact (Below.refl _ _).alloc (Nat.le_refl _) _ | exact ((Below.refl _ _).alloc (Nat.le_refl _) _).trans (hdr.below _)⟩)
set_option maxHeartbeats 1000000 in
theorem contS_other (h1 : (ty.toList == [99, 114, 101, 97, 116, 101]) = false) (h2 : (ty.toList == [109, 101, 109, 98, 101, 114]) = false) (h3 : (ty.toList == [106, 111, 105, 110, 95, 114, 117, 108, 101, 115]) = false)
  (h4 : (ty.toList == [112, 111, 119, 101, 114]) = false) (hv : val.size <= maxLen) :
  Calls Tryd.prog 16 #[evV id sd ty key val st tm pa np cp aa na ca ga ng cg] w fun e w' =>
   e = .returned (.bool (ctB ty key val st np na ng M L)) ∧ Below w.heap.size w w' := by
 go_enter Tryd.func16, Tryd.ntmps16
 go_wp2_with (go_at_call 14; refine (word_any _ _ hv).mono ?_; rintro e w' ⟨rfl, rfl⟩)
 all_goals (go_ret; exact ⟨ret_bool (by simp [ctB, *]), (Below.refl _ _).alloc (Nat.le_refl _) _⟩)
theorem contS_any (hv : val.size <= maxLen) (hg : SlG w ga ng cg M L) :
  Calls Tryd.prog 16 #[evV id sd ty key val st tm pa np cp aa na ca ga ng cg] w fun e w' =>
   e = .returned (.bool (ctB ty key val st np na ng M L)) ∧ Below w.heap.size w w' := by
 cases h1 : (ty.toList == [99, 114, 101, 97, 116, 101])
 ·cases h2 : (ty.toList == [109, 101, 109, 98, 101, 114])
  ·cases h3 : (ty.toList == [106, 111, 105, 110, 95, 114, 117, 108, 101, 115])
   ·cases h4 : (ty.toList == [112, 111, 119, 101, 114])
    ·exact contS_other id sd ty key val st tm pa np cp aa na ca ga ng cg M L w h1 h2 h3 h4 hv
    ·exact contS_power id sd ty key val st tm pa np cp aa na ca ga ng cg M L w h1 h2 h3 h4 hg
   ·exact contS_rules id sd ty key val st tm pa np cp aa na ca ga ng cg M L w h1 h2 h3
  ·exact contS_member id sd ty key val st tm pa np cp aa na ca ga ng cg M L w h1 h2
 ·exact contS_create id sd ty key val st tm pa np cp aa na ca ga ng cg M L w h1
end
set_option maxHeartbeats 400000 in
theorem index_any (b off n cap : Nat) (S : Nat -> ByteArray) (s : ByteArray) (w : World) (hn : n <= maxLen)
  (hc : ∀ i, i < n -> w.cell? ⟨b, off + i, none⟩ = some (.string (S i))) :
  Calls Tryd.prog 51 #[.slice (some ⟨b, off, none⟩) n cap, .string s] w fun e w' =>
   ∃ r : Int, e = .returned (.int .i64 r) ∧ Hid (decide (0 <= r) = hasB S n s) ∧ w' = w := by
 unfold maxLen at hn
 go_enter Tryd.func51, Tryd.ntmps51
 go_wp2
 go_loop [8] (fun i => ∃ k : Nat, k <= n ∧ i = .int .i64 k ∧ Hid (hasB S k s = false)) (fun i => n - (intOf i).toNat)
 case atStart => exact ⟨0, Nat.zero_le _, rfl, rfl⟩
 case round =>
  obtain ⟨k, hk, rfl, hall⟩ := hrel
  by_cases hlt : k < n
  ·have hck := hc k hlt
   go_wp2
   ·go_ret
    have hE : (s.toList == (S k).toList) = true := by assumption
    exact ⟨_, rfl, by unfold Hid; rw [hasB_of S s n k hlt (by rw [beq_swap]; exact hE)]; simp; try omega, rfl⟩
   ·go_round
    have hE : (s.toList == (S k).toList) = false := by assumption
    case rel => exact ⟨k + 1, by omega, by go_num, by unfold Hid hasB; rw [hall.out, beq_swap]; simpa using hE⟩
    case measure => simp [intOf]; omega
  ·go_wp2
   go_ret
   refine ⟨_, rfl, ?_, rfl⟩
   unfold Hid
   rw [show n = k by omega, hall.out]; rfl
set_option maxHeartbeats 400000 in
theorem contains_any (b off n cap : Nat) (S : Nat -> ByteArray) (s : ByteArray) (w : World) (hn : n <= maxLen)
  (hc : ∀ i, i < n -> w.cell? ⟨b, off + i, none⟩ = some (.string (S i))) :
  Calls Tryd.prog 39 #[.slice (some ⟨b, off, none⟩) n cap, .string s] w fun e w' => e = .returned (.bool (hasB S n s)) ∧ w' = w := by
 go_enter Tryd.func39, Tryd.ntmps39
 go_wp2_with (go_at_call 51; refine (index_any b off n cap S s _ hn hc).mono ?_; rintro e w' ⟨r, rfl, hr, rfl⟩)
 go_ret
 exact ⟨ret_bool hr.out, rfl⟩
set_option maxHeartbeats 400000 in
theorem inWord_any (c : Int) (w : World) :
  Calls Tryd.prog 50 #[.int .u8 c] w fun e w' => e = .returned (.bool (wbB c)) ∧ w' = w := by
 go_enter Tryd.func50, Tryd.ntmps50
 go_wp2
 all_goals (go_ret; refine ⟨ret_bool ?_, rfl⟩; (try simp only [beq_eq_false_iff_ne, ne_eq, beq_iff_eq] at *); rw [Bool.eq_iff_iff]; simp [wbB] <;> omega)
end Go.Proofs.YtihacnhmiopalaaDoor
