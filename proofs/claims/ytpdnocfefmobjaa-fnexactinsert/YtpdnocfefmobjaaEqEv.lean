import Derived.Test.YtpdnocfefmobjaaEqS
import Derived.Test.YtpdnocfefmobjaaToEv
namespace Go.Proofs.Ytpdnocfefmobjaa
open Go.RowKit

section
variable (id sd ty key val : ByteArray) (st : Bool) (tm : Int) (pa : Option Addr) (np cp : Nat) (aa : Option Addr) (na ca : Nat) (ga : Option Addr) (ng cg : Nat)
  (pa' : Option Addr) (cp' : Nat) (aa' : Option Addr) (ca' : Nat) (ga' : Option Addr) (cg' : Nat) (Pv Av M : Nat → ByteArray) (L : Nat → Int) (w : World)

set_option maxHeartbeats 2000000 in
theorem eqEv_any (hp : SlS w pa np cp Pv) (ha : SlS w aa na ca Av) (hg : SlG w ga ng cg M L) (hp' : SlS w pa' np cp' Pv) (ha' : SlS w aa' na ca' Av) (hg' : SlG w ga' ng cg' M L) :
    Calls Try.prog 11 #[evV id sd ty key val st tm pa np cp aa na ca ga ng cg, evV id sd ty key val st tm pa' np cp' aa' na ca' ga' ng cg'] w fun e w' =>
      e = .returned (.bool true) ∧ Below w.heap.size w w' := by
  have hb0 : ∀ o o2, Below w.heap.size w ((w.alloc o).alloc o2) := fun o o2 => ((Below.refl _ _).alloc (Nat.le_refl _) _).alloc (by simp) _
  go_enter Try.func11, Try.ntmps11
  go_wp2_with fail
  refine (eqS_sl _ (hp.below (hb0 _ _)) (hp'.below (hb0 _ _))).mono ?_
  rintro e w' ⟨rfl, q1, rfl⟩
  go_wp2_with fail
  refine (eqS_sl _ (ha.below ((hb0 _ _).trans (Dr.below ⟨_, rfl⟩ _))) (ha'.below ((hb0 _ _).trans (Dr.below ⟨_, rfl⟩ _)))).mono ?_
  rintro e w' ⟨rfl, q2, rfl⟩
  go_wp2_with fail
  refine (eqG_sl _ (hg.below ((hb0 _ _).trans (Dr.below ⟨_, rfl⟩ _))) (hg'.below ((hb0 _ _).trans (Dr.below ⟨_, rfl⟩ _)))).mono ?_
  rintro e w3 ⟨rfl, hb3⟩
  go_wp2
  go_ret
  exact ⟨rfl, ((hb0 _ _).trans (Dr.below ⟨_, rfl⟩ _)).trans (hb3.mono (by simp; omega))⟩
end
end Go.Proofs.Ytpdnocfefmobjaa
