import Derived.Test.YtjmhdjjkfglbgabEqEv
import Derived.Test.YtjmhdjjkfglbgabEvS
import Derived.Test.YtjmhdjjkfglbgabEvI
import Derived.Deep.RegionHeld3
namespace Go.Proofs.Ytjmhdjjkfglbgab
open Go.RowKit

section
variable (id sd ty key val : ByteArray) (st : Bool) (tm : Int) (pa : Option Addr) (np cp : Nat) (aa : Option Addr) (na ca : Nat) (ga : Option Addr) (ng cg : Nat) (Pv Av M : Nat → ByteArray) (L : Nat → Int) (w : World)

set_option maxHeartbeats 4000000 in
theorem lawEvOk_any (hid : id.size ≤ maxLen) (hsd : sd.size ≤ maxLen) (hty : ty.size ≤ maxLen) (hkey : key.size ≤ maxLen) (hval : val.size ≤ maxLen)
    (hrp : np * 16 ≤ 140737488351232) (hra : na * 16 ≤ 140737488351232) (hrg : ng * 24 ≤ 140737488351232)
    (hp : SlS w pa np cp Pv) (ha : SlS w aa na ca Av) (hg : SlG w ga ng cg M L) :
    Calls Try.prog 3 #[evV id sd ty key val st tm pa np cp aa na ca ga ng cg] w fun e w' =>
      e = .returned (.bool true) ∧ Below w.heap.size w w' := by
  have hb0 : ∀ o, Below w.heap.size w (w.alloc o) := fun o => (Below.refl _ _).alloc (Nat.le_refl _) _
  go_enter Try.func3, Try.ntmps3
  go_wp2_with fail
  refine (szEv_any id sd ty key val st tm pa np cp aa na ca ga ng cg Pv Av M L _ hid hsd hty hkey hval (hp.below (hb0 _)) (ha.below (hb0 _)) (hg.below (hb0 _)) _ (by decide) (by decide)).mono ?_
  rintro e w1 ⟨r, rfl, hr, hr', hb1⟩
  have hB1 := hb1.mono (B' := w.heap.size + 1) (by simp)
  have hw1 := (hb0 _).trans (hb1.mono (by simp))
  have hcl := box_cells hB1
  clear hb1
  by_cases hneg : r < 0
  · go_wp2
    go_ret
    exact ⟨rfl, hw1⟩
  go_wp2_with fail
  refine (toEv_any id sd ty key val st tm pa np cp aa na ca ga ng cg Pv Av M L _ hrp hra hrg (hp.below hw1) (ha.below hw1) (hg.below hw1)).mono ?_
  rintro e w2 ⟨bp, ba, bg, rfl, hp2, ha2, hg2, hb2⟩
  go_wp2_with fail
  refine (evS_any id sd ty key val st tm _ np np _ na na _ ng ng Pv Av M L _ hid hsd hty hkey hval hp2 ha2 hg2).mono ?_
  rintro e w3 ⟨rfl, hb3⟩
  have hb23 := hb2.trans (hb3.mono hb2.size)
  have hB3 := hB1.trans (hb23.mono (by have := hB1.size; simpa using this))
  have hw3 := hw1.trans (hb23.mono hw1.size)
  clear hcl hp2 ha2 hg2 hb2 hb3 hb23
  have hcl := box_cells hB3
  go_wp2_with fail
  refine (toEv_any id sd ty key val st tm pa np cp aa na ca ga ng cg Pv Av M L _ hrp hra hrg (hp.below hw3) (ha.below hw3) (hg.below hw3)).mono ?_
  rintro e w4 ⟨bp4, ba4, bg4, rfl, hp4, ha4, hg4, hb4⟩
  have hB4 := hB3.trans (hb4.mono (by have := hB3.size; simpa using this))
  have hw4 := hw3.trans (hb4.mono hw3.size)
  clear hcl
  have hcl := box_cells hB4
  go_wp2_with fail
  have hb45 : ∀ o, Below w4.heap.size w4 (w4.alloc o) := fun o => (Below.refl _ _).alloc (Nat.le_refl _) _
  refine (evI_any id sd ty key val st tm _ np np _ na na _ ng ng Pv Av M L _ hid hsd hty hkey hval (hp4.below (hb45 _)) (ha4.below (hb45 _)) (hg4.below (hb45 _))).mono ?_
  rintro e w5 ⟨rfl, hb5⟩
  have hX5 := hb5.mono (B' := w4.heap.size + 1) (by simp)
  have hb5' := (hb45 _).trans (hb5.mono (by simp))
  have hB5 := hB4.trans (hb5'.mono (by have := hB4.size; simpa using this))
  have hw5 := hw4.trans (hb5'.mono hw4.size)
  have hp5 := hp4.below hb5'
  have ha5 := ha4.below hb5'
  have hg5 := hg4.below hb5'
  clear hcl hb5 hp4 ha4 hg4 hB4 hw4 hb4 hB3 hw3 hB1 hw1
  have hcl := box_cells hB5
  have hcx := box_cells hX5
  go_wp2_with fail
  go_region_with (first
    | (go_at_call 7; refine (toEv_any id sd ty key val st tm pa np cp aa na ca ga ng cg Pv Av M L _ hrp hra hrg (hp.below (by first | exact hw5 | exact hw5.drew | exact hw5.drew.drew | exact hw5.drew.drew.drew | exact hw5.drew.drew.drew.drew)) (ha.below (by first | exact hw5 | exact hw5.drew | exact hw5.drew.drew | exact hw5.drew.drew.drew | exact hw5.drew.drew.drew.drew)) (hg.below (by first | exact hw5 | exact hw5.drew | exact hw5.drew.drew | exact hw5.drew.drew.drew | exact hw5.drew.drew.drew.drew))).mono ?_; rintro e w6 ⟨bp6, ba6, bg6, rfl, hp6, ha6, hg6, hb6⟩; have h56 : Below w5.heap.size w5 w6 := Below.trans (by first | exact (Below.refl w5.heap.size w5) | exact (Below.refl w5.heap.size w5).drew | exact (Below.refl w5.heap.size w5).drew.drew | exact (Below.refl w5.heap.size w5).drew.drew.drew | exact (Below.refl w5.heap.size w5).drew.drew.drew.drew) hb6; have hcx6 := box_cells (hX5.trans (h56.mono (by have := hX5.size; simpa using this))))
    | (go_at_call 9; refine (eqEv_any id sd ty key val st tm _ np _ _ na _ _ ng _ _ _ _ _ _ _ Pv Av M L _ (hp5.below (by first | exact h56 | exact h56.drew | exact h56.drew.drew | exact h56.drew.drew.drew | exact h56.drew.drew.drew.drew)) (ha5.below (by first | exact h56 | exact h56.drew | exact h56.drew.drew | exact h56.drew.drew.drew | exact h56.drew.drew.drew.drew)) (hg5.below (by first | exact h56 | exact h56.drew | exact h56.drew.drew | exact h56.drew.drew.drew | exact h56.drew.drew.drew.drew)) (hp6.below (by first | exact (Below.refl w6.heap.size w6) | exact (Below.refl w6.heap.size w6).drew | exact (Below.refl w6.heap.size w6).drew.drew | exact (Below.refl w6.heap.size w6).drew.drew.drew | exact (Below.refl w6.heap.size w6).drew.drew.drew.drew)) (ha6.below (by first | exact (Below.refl w6.heap.size w6) | exact (Below.refl w6.heap.size w6).drew | exact (Below.refl w6.heap.size w6).drew.drew | exact (Below.refl w6.heap.size w6).drew.drew.drew | exact (Below.refl w6.heap.size w6).drew.drew.drew.drew)) (hg6.below (by first | exact (Below.refl w6.heap.size w6) | exact (Below.refl w6.heap.size w6).drew | exact (Below.refl w6.heap.size w6).drew.drew | exact (Below.refl w6.heap.size w6).drew.drew.drew | exact (Below.refl w6.heap.size w6).drew.drew.drew.drew))).mono ?_; rintro e w7 ⟨rfl, hb7⟩; have h67 : Below w6.heap.size w6 w7 := Below.trans (by first | exact (Below.refl w6.heap.size w6) | exact (Below.refl w6.heap.size w6).drew | exact (Below.refl w6.heap.size w6).drew.drew | exact (Below.refl w6.heap.size w6).drew.drew.drew | exact (Below.refl w6.heap.size w6).drew.drew.drew.drew) hb7))
  all_goals
    go_wp2
    go_ret
    exact ⟨rfl, (hw5.trans (h56.mono hw5.size)).trans (h67.mono (Nat.le_trans hw5.size h56.size))⟩
end
end Go.Proofs.Ytjmhdjjkfglbgab
