import Derived.Test.YtjmhdjjkfglbgacRmC
import Derived.Test.YtjmhdjjkfglbgacToR
import Derived.Test.YtjmhdjjkfglbgacGrO
namespace Go.Proofs.Ytjmhdjjkfglbgac
open Go.RowKit

set_option maxHeartbeats 4000000 in
theorem lawRoom_any {a : Option Addr} {n cap : Nat} {E : Nat → Ev} (w : World) (hr : n * 168 ≤ 140737488351232) (hR : ∀ i, i < n → EvReach (E i)) (h : SlV w a n cap E) :
    Calls Try.prog 4 #[.agg #[.slice a n cap]] w fun e w' => e = .returned (.bool true) ∧ Below w.heap.size w w' := by
  have hb0 : ∀ o, Below w.heap.size w (w.alloc o) := fun o => (Below.refl _ _).alloc (Nat.le_refl _) _
  go_enter Try.func4, Try.ntmps4
  go_wp2_with fail
  refine (szR_sl _ _ (by decide) (by decide) (h.below (hb0 _))).mono ?_
  rintro e w1 ⟨r, rfl, hr0, hr0', hb1⟩
  have hB1 := hb1.mono (B' := w.heap.size + 1) (by simp)
  have hw1 := (hb0 _).trans (hb1.mono (by simp))
  have hcl := box_cells hB1
  clear hb1
  by_cases hneg : r < 0
  · go_wp2
    go_ret
    exact ⟨rfl, hw1⟩
  go_wp2_with fail
  refine (toR_sl _ hr hR (h.below hw1)).mono ?_
  rintro e w2 ⟨b2, rfl, h2, hb2⟩
  go_wp2_with fail
  refine (roomS_sl _ h2).mono ?_
  rintro e w3 ⟨rfl, hb3⟩
  have hb23 := hb2.trans (hb3.mono hb2.size)
  have hB3 := hB1.trans (hb23.mono (by have := hB1.size; simpa using this))
  have hw3 := hw1.trans (hb23.mono hw1.size)
  clear hcl h2 hb2 hb3 hb23
  have hcl := box_cells hB3
  go_wp2_with fail
  refine (toR_sl _ hr hR (h.below hw3)).mono ?_
  rintro e w4 ⟨b4, rfl, h4, hb4⟩
  have hB4 := hB3.trans (hb4.mono (by have := hB3.size; simpa using this))
  have hw4 := hw3.trans (hb4.mono hw3.size)
  clear hcl
  have hcl := box_cells hB4
  go_wp2_with fail
  have hb45 : ∀ o, Below w4.heap.size w4 (w4.alloc o) := fun o => (Below.refl _ _).alloc (Nat.le_refl _) _
  refine (roomI_sl _ (h4.below (hb45 _))).mono ?_
  rintro e w5 ⟨rfl, hb5⟩
  have hX5 := hb5.mono (B' := w4.heap.size + 1) (by simp)
  have hb5' := (hb45 _).trans (hb5.mono (by simp))
  have hB5 := hB4.trans (hb5'.mono (by have := hB4.size; simpa using this))
  have hw5 := hw4.trans (hb5'.mono hw4.size)
  have h5 := h4.below hb5'
  clear hcl hb5 h4 hB4 hw4 hb4 hB3 hw3 hB1 hw1
  have hcl := box_cells hB5
  have hcx := box_cells hX5
  go_wp2_with fail
  go_region_with (first
    | (go_at_call 13; refine (toR_sl _ hr hR (h.below (by first | exact hw5 | exact hw5.drew | exact hw5.drew.drew | exact hw5.drew.drew.drew | exact hw5.drew.drew.drew.drew))).mono ?_; rintro e w6 ⟨b6, rfl, h6, hb6⟩; have h56 : Below w5.heap.size w5 w6 := Below.trans (by first | exact (Below.refl w5.heap.size w5) | exact (Below.refl w5.heap.size w5).drew | exact (Below.refl w5.heap.size w5).drew.drew | exact (Below.refl w5.heap.size w5).drew.drew.drew | exact (Below.refl w5.heap.size w5).drew.drew.drew.drew) hb6; have hcx6 := box_cells (hX5.trans (h56.mono (by have := hX5.size; simpa using this))))
    | (go_at_call 15; refine (eqR_sl _ (h5.below (by first | exact h56 | exact h56.drew | exact h56.drew.drew | exact h56.drew.drew.drew | exact h56.drew.drew.drew.drew)) (h6.below (by first | exact (Below.refl w6.heap.size w6) | exact (Below.refl w6.heap.size w6).drew | exact (Below.refl w6.heap.size w6).drew.drew | exact (Below.refl w6.heap.size w6).drew.drew.drew | exact (Below.refl w6.heap.size w6).drew.drew.drew.drew))).mono ?_; rintro e w7 ⟨rfl, hb7⟩; have h67 : Below w6.heap.size w6 w7 := Below.trans (by first | exact (Below.refl w6.heap.size w6) | exact (Below.refl w6.heap.size w6).drew | exact (Below.refl w6.heap.size w6).drew.drew | exact (Below.refl w6.heap.size w6).drew.drew.drew | exact (Below.refl w6.heap.size w6).drew.drew.drew.drew) hb7))
  all_goals
    go_wp2
    go_ret
    exact ⟨rfl, (hw5.trans (h56.mono hw5.size)).trans (h67.mono (Nat.le_trans hw5.size h56.size))⟩
end Go.Proofs.Ytjmhdjjkfglbgac
