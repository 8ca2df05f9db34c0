/-
  FnExactLevelOf.
-/
import Derived.Test.YtepgmgkdhklfjaaGreatLvJ
import Derived.Test.YtepgmgkdhklfjaaGreatLvU
import Derived.Test.YtepgmgkdhklfjaaGreatLawE
import Derived.Test.YtepgmgkdhklfjaaGreatToR
import Derived.Test.YtepgmgkdhklfjaaGreatLawR
namespace Go.Proofs.YtepgmgkdhklfjaaGreat
open Go.RowKit

set_option maxRecDepth 100000 in
set_option maxHeartbeats 4000000 in
theorem lawLv_any {a : Option Addr} {n cap : Nat} {E : Nat → Ev} {sa : Option Addr} {sc : Nat} {l : List Ent} (s : ByteArray) (w : World) (hr : n * 168 ≤ 140737488351232) (hR : ∀ i, i < n → EvReach (E i)) (hrl : l.length * 48 ≤ 140737488351232) (h : SlV w a n cap E) (hs : SlE w sa sc l) :
    Calls Tryz.prog 3 #[.agg #[.slice a n cap], .slice sa l.length sc, .string s] w fun e w' => e = .returned (.bool true) ∧ Below w.heap.size w w' := by
  have hb0 : ∀ o, Below w.heap.size w (w.alloc o) := fun o => (Below.refl _ _).alloc (Nat.le_refl _) _
  by_cases hbig : 1048576 < s.size
  · go_enter Tryz.func3, Tryz.ntmps3
    go_wp2
    go_ret
    exact ⟨rfl, hb0 _⟩
  go_enter Tryz.func3, Tryz.ntmps3
  go_wp2_with fail
  refine (szR_sl _ _ (by decide) (by decide) (h.below (hb0 _))).mono ?_
  rintro e w1 ⟨r, rfl, hr0, hr0', hb1⟩
  have hB1 := hb1.mono (B' := w.heap.size + 1) (by simp)
  have hw1 := (hb0 _).trans (hb1.mono (by simp))
  have hcl := box_cells hB1
  clear hb1
  by_cases hneg : r < 0
  · go_wp2
    go_ret
    exact ⟨rfl, hw1⟩
  go_wp2_with fail
  refine (szE_sl _ _ (by omega) (by omega) (hs.below hw1)).mono ?_
  rintro e w2 ⟨r2, rfl, hr2, hr2', -, hb2⟩
  have hB2 := hB1.trans (hb2.mono (by have := hB1.size; simpa using this))
  have hw2 := hw1.trans (hb2.mono hw1.size)
  clear hcl hb2
  have hcl := box_cells hB2
  by_cases hneg2 : r2 < 0
  · go_wp2
    go_ret
    exact ⟨rfl, hw2⟩
  have HTo : Hid (∀ W, Below w.heap.size w W → Calls Tryz.prog 7 #[.agg #[.slice a n cap]] W fun e w' => ∃ b, e = .returned (.agg #[.slice (some ⟨b, 0, none⟩) n n]) ∧ SlV w' (some ⟨b, 0, none⟩) n n E ∧ Below W.heap.size W w') := fun W hW => toR_sl W hr hR (h.below hW)
  have HTe : Hid (∀ W, Below w.heap.size w W → Calls Tryz.prog 8 #[.slice sa l.length sc] W fun e w' => ∃ b, e = .returned (.slice (some ⟨b, 0, none⟩) l.length l.length) ∧ SlE w' (some ⟨b, 0, none⟩) l.length l ∧ Below W.heap.size W w') := fun W hW => (toE_sl W hrl (hs.below hW)).mono fun e w' ⟨h1, h2, h3⟩ => ⟨_, h1, h2, h3⟩
  clear h hs
  go_wp2_with fail
  refine (HTo.out _ hw2).mono ?_
  rintro e w3 ⟨b3, rfl, h3, hb3⟩
  have hw3 := hw2.trans (hb3.mono hw2.size)
  go_wp2_with fail
  refine (HTe.out _ hw3).mono ?_
  rintro e w4 ⟨b4, rfl, h4, hb4⟩
  have hw4 := hw3.trans (hb4.mono hw3.size)
  go_wp2_with fail
  refine (lvS_sl s _ (h3.below hb4) h4).mono ?_
  rintro e w5 ⟨rfl, hb5⟩
  have h25 := (hb3.trans (hb4.mono hb3.size)).trans (hb5.mono (hb3.trans (hb4.mono hb3.size)).size)
  have hB5 := hB2.trans (h25.mono (by have := hB2.size; simpa using this))
  have hw5 := hw2.trans (h25.mono hw2.size)
  clear hcl h3 h4 hb3 hb4 hb5 h25 hw3 hw4 hB1 hB2 hw1 hw2
  have hcl := box_cells hB5
  go_wp2_with fail
  refine (HTo.out _ hw5).mono ?_
  rintro e w6 ⟨b6, rfl, h6, hb6⟩
  have hB6 := hB5.trans (hb6.mono (by have := hB5.size; simpa using this))
  have hw6 := hw5.trans (hb6.mono hw5.size)
  have hA : ∀ o, Below w6.heap.size w6 (w6.alloc o) := fun o => (Below.refl _ _).alloc (Nat.le_refl _) _
  clear hcl
  go_wp2_with fail
  refine (HTe.out _ (hw6.trans ((hA _).mono hw6.size))).mono ?_
  rintro e w7 ⟨b7, rfl, h7, hb7⟩
  have hX7 := hb7.mono (B' := w6.heap.size + 1) (by simp)
  have h67 := (hA _).trans (hb7.mono (by simp))
  have hcx := box_cells hX7
  go_wp2_with fail
  refine (lvI_sl s _ (h6.below h67) h7).mono ?_
  rintro e w8 ⟨rfl, hb8⟩
  have hX8 := hX7.trans (hb8.mono (by have := hX7.size; simpa using this))
  have h68 := h67.trans (hb8.mono h67.size)
  have hB8 := hB6.trans (h68.mono (by have := hB6.size; simpa using this))
  have hw8 := hw6.trans (h68.mono hw6.size)
  have h6' := h6.below h68
  have h7' := h7.below hb8
  have hz1 : w.heap.size < w8.heap.size := by have := hB8.size; simp at this; omega
  have hz2 : w6.heap.size < w8.heap.size := by have := hX8.size; simp at this; omega
  have y0 : w8.cell? ⟨w.heap.size, 0, none⟩ = some (.slice a n cap) := box_cells hB8 0
  have y1 : w8.cell? ⟨w6.heap.size, 0, none⟩ = some (.slice (some ⟨b6, 0, none⟩) n n) := box_cells hX8 0
  clear hcx h6 h7
  have HEq : Hid (∀ W0 W b, Below w8.heap.size w8 W0 → Hid (SlV W0 (some ⟨b, 0, none⟩) n n E) → Below W0.heap.size W0 W → Calls Tryz.prog 10 #[.agg #[.slice (some ⟨b6, 0, none⟩) n n], .agg #[.slice (some ⟨b, 0, none⟩) n n]] W fun e w' => e = .returned (.bool true) ∧ Below w8.heap.size w8 w') := fun W0 W b hW0 hS hWW =>
    (eqR_sl W (h6'.below (hW0.trans (hWW.mono hW0.size))) (hS.out.below hWW)).mono fun e w' ⟨h1, h2⟩ => ⟨h1, (hW0.trans (hWW.mono hW0.size)).trans (h2.mono (hW0.trans (hWW.mono hW0.size)).size)⟩
  have HT8 : Hid (∀ W, Below w8.heap.size w8 W → Calls Tryz.prog 7 #[.agg #[.slice a n cap]] W fun e w' => ∃ b, e = .returned (.agg #[.slice (some ⟨b, 0, none⟩) n n]) ∧ Hid (SlV w' (some ⟨b, 0, none⟩) n n E) ∧ Below w8.heap.size w8 w') := fun W hW => (HTo.out W (hw8.trans (hW.mono hw8.size))).mono fun e w' ⟨b, h1, h2, h3⟩ => ⟨b, h1, h2, hW.trans (h3.mono hW.size)⟩
  have hrf : Below w8.heap.size w8 w8 := Below.refl _ _
  go_wp2_with fail
  go_region_held3 (fun W => W.cell? ⟨w.heap.size, 0, none⟩ = some (.slice a n cap) ∧ W.cell? ⟨w6.heap.size, 0, none⟩ = some (.slice (some ⟨b6, 0, none⟩) n n))
    (first | (with_reducible exact ⟨y0, y1⟩) | go_keep)
    (first
      | (go_at_call 10; refine (HEq.out _ _ _ hb9 hv9 (by first | with_reducible exact Below.refl w9.heap.size w9 | with_reducible exact (Below.refl w9.heap.size w9).drew | with_reducible exact (Below.refl w9.heap.size w9).drew.drew | with_reducible exact (Below.refl w9.heap.size w9).drew.drew.drew)).mono ?_; rintro e w10 ⟨rfl, hb10⟩; have q0 := (hb10.cell (by exact hz1)).trans y0; have q1 := (hb10.cell (by exact hz2)).trans y1)
      | (go_at_call 7; refine (HT8.out _ (by first | with_reducible exact hrf | with_reducible exact hrf.drew | with_reducible exact hrf.drew.drew | with_reducible exact hrf.drew.drew.drew)).mono ?_; rintro e w9 ⟨b9, rfl, hv9, hb9⟩; have q0 := (hb9.cell (by exact hz1)).trans y0; have q1 := (hb9.cell (by exact hz2)).trans y1))
  all_goals
    clear q0 q1 y0 y1 HEq HT8 hv9 hb9
    go_wp2_with fail
    refine (HTe.out _ (hw8.trans (Below.mono (by first | exact hb10 | exact hb10.drew | exact hb10.drew.drew) hw8.size))).mono ?_
    rintro e w11 ⟨b11, rfl, h11, hb11⟩
    have h811 : Below w8.heap.size w8 w11 := Below.trans (by first | exact hb10 | exact hb10.drew | exact hb10.drew.drew) (hb11.mono (by have := hb10.size; simpa using this))
    go_wp2_with fail
    refine (eqE_sl _ (h7'.below h811) h11).mono ?_
    rintro e w12 ⟨rfl, hb12⟩
    have hw12 := (hw8.trans (h811.mono hw8.size)).trans (hb12.mono (hw8.trans (h811.mono hw8.size)).size)
    go_wp2
    go_ret
    exact ⟨rfl, hw12⟩
end Go.Proofs.YtepgmgkdhklfjaaGreat
