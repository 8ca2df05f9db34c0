import Derived.Test.YtjmhdjjkfglbgaaCovZ
import Derived.Test.YtjmhdjjkfglbgaaCovT
import Derived.Test.YtjmhdjjkfglbgaaCovE
import Derived.Test.YtjmhdjjkfglbgaaRch
import Derived.Deep.RegionWith
namespace Go.Proofs.Ytjmhdjjkfglbgaa
open Go.RowKit

/-- toCover, as a cover that may be read. -/
theorem toC_any {sa : Option Addr} {ns cs : Nat} {ra : Option Addr} {nr cr : Nat} {C Q : Nat → Int} {rn : Nat → Nat} {X : Nat → Nat → Int} (w : World)
    (hrs : ns * 16 ≤ 140737488351232) (hrr : nr * 24 ≤ 140737488351232) (hR : ∀ i, i < nr → rn i * 8 ≤ 140737488351232) (hp : SlP w sa ns cs C Q) (hl : SlL w ra nr cr rn X) :
    Calls Try.prog 6 #[.agg #[.slice sa ns cs, .slice ra nr cr]] w fun e w' =>
      ∃ bs br : Nat, e = .returned (.agg #[.slice (some ⟨bs, 0, none⟩) ns ns, .slice (some ⟨br, 0, none⟩) nr nr]) ∧
        SlP w' (some ⟨bs, 0, none⟩) ns ns C Q ∧ SlL w' (some ⟨br, 0, none⟩) nr nr rn X ∧ Below w.heap.size w w' := by
  refine (toC_sl w hrs hrr hR hp hl).mono ?_
  rintro e w' ⟨bs, br, rfl, h1, h2, h3, _, _, h4⟩
  exact ⟨bs, br, rfl, h1, slL_of_new (by unfold maxLen; omega) h4 h2, h3⟩

set_option maxHeartbeats 4000000 in
theorem lawRch_any {sa : Option Addr} {ns cs : Nat} {ra : Option Addr} {nr cr : Nat} {C Q : Nat → Int} {rn : Nat → Nat} {X : Nat → Nat → Int} (a b : Int) (w : World)
    (hrs : ns * 16 ≤ 140737488351232) (hrr : nr * 24 ≤ 140737488351232) (hR : ∀ i, i < nr → rn i * 8 ≤ 140737488351232) (hp : SlP w sa ns cs C Q) (hl : SlL w ra nr cr rn X) :
    Calls Try.prog 3 #[.agg #[.slice sa ns cs, .slice ra nr cr], .int .i64 a, .int .i64 b] w fun e w' =>
      e = .returned (.bool true) ∧ Below w.heap.size w w' := by
  have hb0 : ∀ o, Below w.heap.size w (w.alloc o) := fun o => (Below.refl _ _).alloc (Nat.le_refl _) _
  go_enter Try.func3, Try.ntmps3
  go_wp2_with fail
  refine (szC_any _ _ (by decide) (by decide) (hp.below (hb0 _)) (hl.below (hb0 _))).mono ?_
  rintro e w1 ⟨r, rfl, hr, hr', hb1⟩
  have hB1 := hb1.mono (B' := w.heap.size + 1) (by simp)
  have hw1 := (hb0 _).trans (hb1.mono (by simp))
  have hcl := box_cells hB1
  clear hb1
  by_cases hneg : r < 0
  · go_wp2
    go_ret
    exact ⟨rfl, hw1⟩
  go_wp2_with fail
  refine (toC_any _ hrs hrr hR (hp.below hw1) (hl.below hw1)).mono ?_
  rintro e w2 ⟨bs2, br2, rfl, hp2, hl2, hb2⟩
  go_wp2_with fail
  refine (rchS_any _ _ _ _ _ _ C Q rn X a b _ hp2 hl2).mono ?_
  rintro e w3 ⟨rfl, hb3⟩
  have hb23 := hb2.trans (hb3.mono hb2.size)
  have hB3 := hB1.trans (hb23.mono (by have := hB1.size; simpa using this))
  have hw3 := hw1.trans (hb23.mono hw1.size)
  clear hcl hp2 hl2 hb2 hb3 hb23
  have hcl := box_cells hB3
  go_wp2_with fail
  refine (toC_any _ hrs hrr hR (hp.below hw3) (hl.below hw3)).mono ?_
  rintro e w4 ⟨bs4, br4, rfl, hp4, hl4, hb4⟩
  have hB4 := hB3.trans (hb4.mono (by have := hB3.size; simpa using this))
  have hw4 := hw3.trans (hb4.mono hw3.size)
  clear hcl
  have hcl := box_cells hB4
  go_wp2_with fail
  have hb45 : ∀ o, Below w4.heap.size w4 (w4.alloc o) := fun o => (Below.refl _ _).alloc (Nat.le_refl _) _
  refine (rchI_any _ _ _ _ _ _ C Q rn X a b _ (hp4.below (hb45 _)) (hl4.below (hb45 _))).mono ?_
  rintro e w5 ⟨rfl, hb5⟩
  have hX5 := hb5.mono (B' := w4.heap.size + 1) (by simp)
  have hb5' := (hb45 _).trans (hb5.mono (by simp))
  have hB5 := hB4.trans (hb5'.mono (by have := hB4.size; simpa using this))
  have hw5 := hw4.trans (hb5'.mono hw4.size)
  have hp5 := hp4.below hb5'
  have hl5 := hl4.below hb5'
  clear hcl hb5 hp4 hl4 hB4 hw4 hb4 hB3 hw3 hB1 hw1
  have hcl := box_cells hB5
  have hcx := box_cells hX5
  go_wp2_with fail
  go_region_with (first
    | (go_at_call 6; refine (toC_any _ hrs hrr hR (hp.below (by first | exact hw5 | exact hw5.drew | exact hw5.drew.drew | exact hw5.drew.drew.drew | exact hw5.drew.drew.drew.drew)) (hl.below (by first | exact hw5 | exact hw5.drew | exact hw5.drew.drew | exact hw5.drew.drew.drew | exact hw5.drew.drew.drew.drew))).mono ?_; rintro e w6 ⟨bs6, br6, rfl, hp6, hl6, hb6⟩; have h56 : Below w5.heap.size w5 w6 := Below.trans (by first | exact (Below.refl w5.heap.size w5) | exact (Below.refl w5.heap.size w5).drew | exact (Below.refl w5.heap.size w5).drew.drew | exact (Below.refl w5.heap.size w5).drew.drew.drew | exact (Below.refl w5.heap.size w5).drew.drew.drew.drew) hb6; have hcx6 := box_cells (hX5.trans (h56.mono (by have := hX5.size; simpa using this))))
    | (go_at_call 8; refine (eqC_any _ (hp5.below (by first | exact h56 | exact h56.drew | exact h56.drew.drew | exact h56.drew.drew.drew | exact h56.drew.drew.drew.drew)) (hl5.below (by first | exact h56 | exact h56.drew | exact h56.drew.drew | exact h56.drew.drew.drew | exact h56.drew.drew.drew.drew)) (hp6.below (by first | exact (Below.refl w6.heap.size w6) | exact (Below.refl w6.heap.size w6).drew | exact (Below.refl w6.heap.size w6).drew.drew | exact (Below.refl w6.heap.size w6).drew.drew.drew | exact (Below.refl w6.heap.size w6).drew.drew.drew.drew)) (hl6.below (by first | exact (Below.refl w6.heap.size w6) | exact (Below.refl w6.heap.size w6).drew | exact (Below.refl w6.heap.size w6).drew.drew | exact (Below.refl w6.heap.size w6).drew.drew.drew | exact (Below.refl w6.heap.size w6).drew.drew.drew.drew))).mono ?_; rintro e w7 ⟨rfl, hb7⟩; have h67 : Below w6.heap.size w6 w7 := Below.trans (by first | exact (Below.refl w6.heap.size w6) | exact (Below.refl w6.heap.size w6).drew | exact (Below.refl w6.heap.size w6).drew.drew | exact (Below.refl w6.heap.size w6).drew.drew.drew | exact (Below.refl w6.heap.size w6).drew.drew.drew.drew) hb7))
  all_goals
    go_wp2
    go_ret
    exact ⟨rfl, (hw5.trans (h56.mono hw5.size)).trans (h67.mono (Nat.le_trans hw5.size h56.size))⟩
end Go.Proofs.Ytjmhdjjkfglbgaa
