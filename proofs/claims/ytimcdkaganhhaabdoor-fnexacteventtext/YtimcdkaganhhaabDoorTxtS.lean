import Derived.Test.YtimcdkaganhhaabDoorEvS
import Derived.Test.YtimcdkaganhhaabDoorTxtG
namespace Go.Proofs.YtimcdkaganhhaabDoor
open Go.RowKit

section
variable (id sd ty key val : ByteArray) (st : Bool) (tm : Int) (pa : Option Addr) (np cp : Nat) (aa : Option Addr) (na ca : Nat) (ga : Option Addr) (ng cg : Nat) (Pv Av M : Nat → ByteArray) (L : Nat → Int) (w : World)

theorem txtS_bad (hid : id.size ≤ maxLen) (hsd : sd.size ≤ maxLen) (hty : ty.size ≤ maxLen) (hkey : key.size ≤ maxLen) (hval : val.size ≤ maxLen)
    (hp : SlS w pa np cp Pv) (ha : SlS w aa na ca Av) (hg : SlG w ga ng cg M L) (hne : evCode id sd ty key val st tm np na ng Pv Av M L ≠ 0) :
    Calls Tryd.prog 13 #[evV id sd ty key val st tm pa np cp aa na ca ga ng cg] w fun e w' =>
      e = .returned (.tuple #[.string ByteArray.empty, .bool false]) ∧ Below w.heap.size w w' := by
  have hb0 : ∀ o, Below w.heap.size w (w.alloc o) := fun o => (Below.refl _ _).alloc (Nat.le_refl _) _
  have hev : Hid (∀ W, Below w.heap.size w W → Calls Tryd.prog 7 #[evV id sd ty key val st tm pa np cp aa na ca ga ng cg] W fun e w' =>
      e = .returned (.int .i64 (evCode id sd ty key val st tm np na ng Pv Av M L)) ∧ Below W.heap.size W w') := fun W hW =>
    evS_any id sd ty key val st tm pa np cp aa na ca ga ng cg Pv Av M L W hid hsd hty hkey hval (hp.below hW) (ha.below hW) (hg.below hW)
  generalize evCode id sd ty key val st tm np na ng Pv Av M L = c at hne hev
  go_enter Tryd.func13, Tryd.ntmps13
  go_wp2_with fail
  refine (hev.out _ (hb0 _)).mono ?_
  rintro e w1 ⟨rfl, hb1⟩
  go_wp2
  go_ret2
  exact ⟨rfl, (hb0 _).trans (hb1.mono (by simp))⟩

/-- EventText's two answers. -/
def txT : ByteArray := if evCode id sd ty key val st tm np na ng Pv Av M L = 0 then evText id sd ty key val st tm np na ng Pv Av M L else ByteArray.empty
def txB : Bool := if evCode id sd ty key val st tm np na ng Pv Av M L = 0 then true else false

theorem txtS_any (hid : id.size ≤ maxLen) (hsd : sd.size ≤ maxLen) (hty : ty.size ≤ maxLen) (hkey : key.size ≤ maxLen) (hval : val.size ≤ maxLen)
    (hp : SlS w pa np cp Pv) (ha : SlS w aa na ca Av) (hg : SlG w ga ng cg M L) :
    Calls Tryd.prog 13 #[evV id sd ty key val st tm pa np cp aa na ca ga ng cg] w fun e w' =>
      e = .returned (.tuple #[.string (txT id sd ty key val st tm np na ng Pv Av M L), .bool (txB id sd ty key val st tm np na ng Pv Av M L)]) ∧ Below w.heap.size w w' := by
  by_cases h0 : evCode id sd ty key val st tm np na ng Pv Av M L = 0
  · rw [txT, txB, if_pos h0, if_pos h0]
    refine txtS_good id sd ty key val st tm pa np cp aa na ca ga ng cg Pv Av M L w hp ha hg (evCode_bds h0) (fun W hW => ?_)
    have hb : Below w.heap.size w W := by subst hW; exact (Below.refl _ _).alloc (Nat.le_refl _) _
    have := evS_any id sd ty key val st tm pa np cp aa na ca ga ng cg Pv Av M L W hid hsd hty hkey hval (hp.below hb) (ha.below hb) (hg.below hb)
    rw [h0] at this
    exact this
  · rw [txT, txB, if_neg h0, if_neg h0]
    exact txtS_bad id sd ty key val st tm pa np cp aa na ca ga ng cg Pv Av M L w hid hsd hty hkey hval hp ha hg h0
end
end Go.Proofs.YtimcdkaganhhaabDoor
