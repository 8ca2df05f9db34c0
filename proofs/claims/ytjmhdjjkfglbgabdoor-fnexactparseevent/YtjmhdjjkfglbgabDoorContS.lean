import Derived.Test.YtjmhdjjkfglbgabDoorZeroS
import Derived.Test.YtjmhdjjkfglbgabDoorPureA
namespace Go.Proofs.YtjmhdjjkfglbgabDoor
open Go.RowKit

def litJoin : ByteArray := ⟨#[106, 111, 105, 110]⟩
def litInvite : ByteArray := ⟨#[105, 110, 118, 105, 116, 101]⟩
def litLeave : ByteArray := ⟨#[108, 101, 97, 118, 101]⟩
def litBan : ByteArray := ⟨#[98, 97, 110]⟩
def litPublic : ByteArray := ⟨#[112, 117, 98, 108, 105, 99]⟩

theorem memB_has (v : ByteArray) : hasB (fun i => [litJoin, litInvite, litLeave, litBan].getD i ByteArray.empty) 4 v = memB v := by
  simp only [hasB, memB, List.getD, litJoin, litInvite, litLeave, litBan]
  rw [beq_swap v.toList [106, 111, 105, 110], beq_swap v.toList [105, 110, 118, 105, 116, 101], beq_swap v.toList [108, 101, 97, 118, 101], beq_swap v.toList [98, 97, 110]]
  simp [ByteArray.toList_eq, Bool.or_assoc]

theorem rulB_has (v : ByteArray) : hasB (fun i => [litPublic, litInvite].getD i ByteArray.empty) 2 v = rulB v := by
  simp only [hasB, rulB, List.getD, litPublic, litInvite]
  rw [beq_swap v.toList [112, 117, 98, 108, 105, 99], beq_swap v.toList [105, 110, 118, 105, 116, 101]]
  simp [ByteArray.toList_eq]

theorem has_mem (W : World) (v : ByteArray) (blk : Nat) (hblk : blk = W.heap.size) :
    Calls Tryd.prog 46 #[.slice (some ⟨blk, 0, none⟩) 4 4, .string v] (W.alloc (.cells #[.string ⟨#[106, 111, 105, 110]⟩, .string ⟨#[105, 110, 118, 105, 116, 101]⟩, .string ⟨#[108, 101, 97, 118, 101]⟩, .string ⟨#[98, 97, 110]⟩] 9)) fun e w' =>
      e = .returned (.bool (memB v)) ∧ w' = W.alloc (.cells #[.string ⟨#[106, 111, 105, 110]⟩, .string ⟨#[105, 110, 118, 105, 116, 101]⟩, .string ⟨#[108, 101, 97, 118, 101]⟩, .string ⟨#[98, 97, 110]⟩] 9) := by
  rw [← memB_has]
  refine has_any blk 0 4 4 _ v _ (by decide) (fun i hi => ?_)
  rw [Nat.zero_add, World.cell?_alloc_at _ _ _ _ hblk]
  match i, hi with
  | 0, _ => rfl
  | 1, _ => rfl
  | 2, _ => rfl
  | 3, _ => rfl

theorem has_rul (W : World) (v : ByteArray) (blk : Nat) (hblk : blk = W.heap.size) :
    Calls Tryd.prog 46 #[.slice (some ⟨blk, 0, none⟩) 2 2, .string v] (W.alloc (.cells #[.string ⟨#[112, 117, 98, 108, 105, 99]⟩, .string ⟨#[105, 110, 118, 105, 116, 101]⟩] 9)) fun e w' =>
      e = .returned (.bool (rulB v)) ∧ w' = W.alloc (.cells #[.string ⟨#[112, 117, 98, 108, 105, 99]⟩, .string ⟨#[105, 110, 118, 105, 116, 101]⟩] 9) := by
  rw [← rulB_has]
  refine has_any blk 0 2 2 _ v _ (by decide) (fun i hi => ?_)
  rw [Nat.zero_add, World.cell?_alloc_at _ _ _ _ hblk]
  match i, hi with
  | 0, _ => rfl
  | 1, _ => rfl

section
variable (id sd ty key val : ByteArray) (st : Bool) (tm : Int) (pa : Option Addr) (np cp : Nat) (aa : Option Addr) (na ca : Nat) (ga : Option Addr) (ng cg : Nat) (M : Nat → ByteArray) (L : Nat → Int) (w : World)

set_option maxHeartbeats 1000000 in
theorem contS_create (h1 : (ty.toList == [99, 114, 101, 97, 116, 101]) = true) :
    Calls Tryd.prog 25 #[evV id sd ty key val st tm pa np cp aa na ca ga ng cg] w fun e w' =>
      e = .returned (.bool (ctB ty key val st np na ng M L)) ∧ Below w.heap.size w w' := by
  go_enter Tryd.func25, Tryd.ntmps25
  go_wp2
  all_goals (go_ret; exact ⟨ret_bool (by simp [ctB, *]), (Below.refl _ _).alloc (Nat.le_refl _) _⟩)

set_option maxHeartbeats 1000000 in
theorem contS_member (h1 : (ty.toList == [99, 114, 101, 97, 116, 101]) = false) (h2 : (ty.toList == [109, 101, 109, 98, 101, 114]) = true) :
    Calls Tryd.prog 25 #[evV id sd ty key val st tm pa np cp aa na ca ga ng cg] w fun e w' =>
      e = .returned (.bool (ctB ty key val st np na ng M L)) ∧ Below w.heap.size w w' := by
  go_enter Tryd.func25, Tryd.ntmps25
  go_wp2_with (go_at_call 46; refine (has_mem _ val _ (by simp)).mono ?_; rintro e w' ⟨rfl, rfl⟩)
  all_goals (go_ret; exact ⟨ret_bool (by simp [ctB, *]), by first | exact (Below.refl _ _).alloc (Nat.le_refl _) _ | exact ((Below.refl _ _).alloc (Nat.le_refl _) _).alloc (by simp) _⟩)

set_option maxHeartbeats 1000000 in
theorem contS_rules (h1 : (ty.toList == [99, 114, 101, 97, 116, 101]) = false) (h2 : (ty.toList == [109, 101, 109, 98, 101, 114]) = false) (h3 : (ty.toList == [106, 111, 105, 110, 95, 114, 117, 108, 101, 115]) = true) :
    Calls Tryd.prog 25 #[evV id sd ty key val st tm pa np cp aa na ca ga ng cg] w fun e w' =>
      e = .returned (.bool (ctB ty key val st np na ng M L)) ∧ Below w.heap.size w w' := by
  go_enter Tryd.func25, Tryd.ntmps25
  go_wp2_with (go_at_call 46; refine (has_rul _ val _ (by simp)).mono ?_; rintro e w' ⟨rfl, rfl⟩)
  all_goals (go_ret; exact ⟨ret_bool (by simp [ctB, *]), by first | exact (Below.refl _ _).alloc (Nat.le_refl _) _ | exact ((Below.refl _ _).alloc (Nat.le_refl _) _).alloc (by simp) _⟩)

set_option maxHeartbeats 1000000 in
theorem contS_power (h1 : (ty.toList == [99, 114, 101, 97, 116, 101]) = false) (h2 : (ty.toList == [109, 101, 109, 98, 101, 114]) = false) (h3 : (ty.toList == [106, 111, 105, 110, 95, 114, 117, 108, 101, 115]) = false)
    (h4 : (ty.toList == [112, 111, 119, 101, 114]) = true) (hg : SlG w ga ng cg M L) :
    Calls Tryd.prog 25 #[evV id sd ty key val st tm pa np cp aa na ca ga ng cg] w fun e w' =>
      e = .returned (.bool (ctB ty key val st np na ng M L)) ∧ Below w.heap.size w w' := by
  go_enter Tryd.func25, Tryd.ntmps25
  go_wp2_with (go_at_call 57; refine (grS_sl _ (hg.below ((Below.refl _ _).alloc (Nat.le_refl _) _))).mono ?_; rintro e w' ⟨rfl, hdr⟩)
  all_goals (go_ret; exact ⟨ret_bool (by simp [ctB, *]), by first | exact (Below.refl _ _).alloc (Nat.le_refl _) _ | exact ((Below.refl _ _).alloc (Nat.le_refl _) _).trans (hdr.below _)⟩)

set_option maxHeartbeats 1000000 in
theorem contS_other (h1 : (ty.toList == [99, 114, 101, 97, 116, 101]) = false) (h2 : (ty.toList == [109, 101, 109, 98, 101, 114]) = false) (h3 : (ty.toList == [106, 111, 105, 110, 95, 114, 117, 108, 101, 115]) = false)
    (h4 : (ty.toList == [112, 111, 119, 101, 114]) = false) (hv : val.size ≤ maxLen) :
    Calls Tryd.prog 25 #[evV id sd ty key val st tm pa np cp aa na ca ga ng cg] w fun e w' =>
      e = .returned (.bool (ctB ty key val st np na ng M L)) ∧ Below w.heap.size w w' := by
  go_enter Tryd.func25, Tryd.ntmps25
  go_wp2_with (go_at_call 23; refine (word_any _ _ hv).mono ?_; rintro e w' ⟨rfl, rfl⟩)
  all_goals (go_ret; exact ⟨ret_bool (by simp [ctB, *]), (Below.refl _ _).alloc (Nat.le_refl _) _⟩)

theorem contS_any (hv : val.size ≤ maxLen) (hg : SlG w ga ng cg M L) :
    Calls Tryd.prog 25 #[evV id sd ty key val st tm pa np cp aa na ca ga ng cg] w fun e w' =>
      e = .returned (.bool (ctB ty key val st np na ng M L)) ∧ Below w.heap.size w w' := by
  cases h1 : (ty.toList == [99, 114, 101, 97, 116, 101])
  · cases h2 : (ty.toList == [109, 101, 109, 98, 101, 114])
    · cases h3 : (ty.toList == [106, 111, 105, 110, 95, 114, 117, 108, 101, 115])
      · cases h4 : (ty.toList == [112, 111, 119, 101, 114])
        · exact contS_other id sd ty key val st tm pa np cp aa na ca ga ng cg M L w h1 h2 h3 h4 hv
        · exact contS_power id sd ty key val st tm pa np cp aa na ca ga ng cg M L w h1 h2 h3 h4 hg
      · exact contS_rules id sd ty key val st tm pa np cp aa na ca ga ng cg M L w h1 h2 h3
    · exact contS_member id sd ty key val st tm pa np cp aa na ca ga ng cg M L w h1 h2
  · exact contS_create id sd ty key val st tm pa np cp aa na ca ga ng cg M L w h1
end
end Go.Proofs.YtjmhdjjkfglbgabDoor
