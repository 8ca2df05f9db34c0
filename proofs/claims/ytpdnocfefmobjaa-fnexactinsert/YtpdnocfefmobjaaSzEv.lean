import Derived.Test.YtpdnocfefmobjaaLawS
namespace Go.Proofs.Ytpdnocfefmobjaa
open Go.RowKit

section
variable (id sd ty key val : ByteArray) (st : Bool) (tm : Int) (pa : Option Addr) (np cp : Nat) (aa : Option Addr) (na ca : Nat) (ga : Option Addr) (ng cg : Nat) (Pv Av M : Nat → ByteArray) (L : Nat → Int) (w : World)

set_option maxHeartbeats 2000000 in
theorem szEv_any (hid : id.size ≤ maxLen) (hsd : sd.size ≤ maxLen) (hty : ty.size ≤ maxLen) (hkey : key.size ≤ maxLen) (hval : val.size ≤ maxLen)
    (hp : SlS w pa np cp Pv) (ha : SlS w aa na ca Av) (hg : SlG w ga ng cg M L) (l : Int) (h0 : 0 ≤ l) (h1 : l ≤ 1048576) :
    Calls Try.prog 5 #[evV id sd ty key val st tm pa np cp aa na ca ga ng cg, .int .i64 l] w fun e w' =>
      ∃ r : Int, e = .returned (.int .i64 r) ∧ -1 ≤ r ∧ r ≤ l ∧ Below w.heap.size w w' := by
  have hb0 : ∀ o, Below w.heap.size w (w.alloc o) := fun o => (Below.refl _ _).alloc (Nat.le_refl _) _
  unfold maxLen at hid hsd hty hkey hval
  go_enter Try.func5, Try.ntmps5
  go_wp2_with fail
  iterate 4 (· go_ret; exact ⟨-1, rfl, by omega, by omega, hb0 _⟩)
  refine (szS_sl _ _ (by omega) (by omega) (hp.below (hb0 _))).mono ?_
  rintro e w' ⟨r1, rfl, hr1, hr1', rfl⟩
  go_wp2_with fail
  · go_ret
    exact ⟨-1, rfl, by omega, by omega, hb0 _⟩
  refine (szS_sl _ _ (by omega) (by omega) (ha.below (hb0 _))).mono ?_
  rintro e w' ⟨r2, rfl, hr2, hr2', rfl⟩
  go_wp2_with fail
  · go_ret
    exact ⟨-1, rfl, by omega, by omega, hb0 _⟩
  · go_ret
    exact ⟨-1, rfl, by omega, by omega, hb0 _⟩
  refine (szG_sl _ _ (by omega) (by omega) (hg.below (hb0 _))).mono ?_
  rintro e w3 ⟨r3, rfl, hr3, hr3', hb3⟩
  go_wp2
  · go_ret
    exact ⟨-1, rfl, by omega, by omega, (hb0 _).trans (hb3.mono (by simp))⟩
  · go_ret
    exact ⟨r3, rfl, by omega, by omega, (hb0 _).trans (hb3.mono (by simp))⟩
end
end Go.Proofs.Ytpdnocfefmobjaa
