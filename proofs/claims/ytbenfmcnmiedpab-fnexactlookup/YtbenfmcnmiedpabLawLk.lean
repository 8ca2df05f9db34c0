/-
  FnExactLookup, where impl.Lookup answers as it should.
-/
import Derived.Test.YtbenfmcnmiedpabEqT
import Derived.Test.YtbenfmcnmiedpabLkT
namespace Go.Proofs.Ytbenfmcnmiedpab
open Go.RowKit

/-- Lookup's answers, told as one. -/
def lkV (G : Nat → Grp) (n : Nat) (g : Int) (kind key : ByteArray) : ByteArray := if exOk G n g then (lkF G kind key (g.toNat + 1) g.toNat).1 else ⟨#[]⟩
def lkN (G : Nat → Grp) (n : Nat) (g : Int) (kind key : ByteArray) : Int := if exOk G n g then ((lkF G kind key (g.toNat + 1) g.toNat).2 : Nat) else 0
def lkB (G : Nat → Grp) (n : Nat) (g : Int) (kind key : ByteArray) : Bool := exOk G n g && !((lkF G kind key (g.toNat + 1) g.toNat).1.toList == [])
theorem LkPost.one {w w' : World} {G : Nat → Grp} {n : Nat} {g : Int} {kind key : ByteArray} {e : Ending} (h : LkPost w G n g kind key e w') : e = .returned (.tuple #[.string (lkV G n g kind key), .int .i64 (lkN G n g kind key), .bool (lkB G n g kind key)]) ∧ Below w.heap.size w w' := by
  obtain ⟨hb, h⟩ := h
  refine ⟨?_, hb⟩
  rcases h with ⟨ht, q, rfl, rfl⟩ | ⟨hf, rfl⟩
  · unfold lkV lkN lkB
    rw [ht, Int.toNat_natCast, if_pos rfl, if_pos rfl, Bool.true_and]
  · unfold lkV lkN lkB
    rw [hf, Bool.false_and]
    rfl

set_option maxRecDepth 100000 in
set_option maxHeartbeats 4000000 in
theorem lawLook_of {a : Option Addr} {n cap : Nat} {G : Nat → Grp} (g : Int) (kind key : ByteArray) (w : World) (hk : kind.size ≤ maxLen) (hk2 : key.size ≤ maxLen) (hr : n * 32 ≤ 140737488351232) (hR : ∀ i, i < n → (G i).sets.length * 48 ≤ 140737488351232) (h : SlT w a n cap G)
    (him0 : ∀ W a' cap', SlT W a' n cap' G → Calls Try.prog 9 #[.agg #[.slice a' n cap'], .int .i64 g, .string kind, .string key] W (LkPost W G n g kind key)) :
    Calls Try.prog 3 #[.agg #[.slice a n cap], .int .i64 g, .string kind, .string key] w fun e w' => e = .returned (.bool true) ∧ Below w.heap.size w w' := by
  have hb0 : ∀ o, Below w.heap.size w (w.alloc o) := fun o => (Below.refl _ _).alloc (Nat.le_refl _) _
  have hnm : n ≤ maxLen := Nat.le_trans h.le h.max
  have him : Hid (∀ W a' cap', SlT W a' n cap' G → Calls Try.prog 9 #[.agg #[.slice a' n cap'], .int .i64 g, .string kind, .string key] W fun e w' => e = .returned (.tuple #[.string (lkV G n g kind key), .int .i64 (lkN G n g kind key), .bool (lkB G n g kind key)]) ∧ Below W.heap.size W w') := fun W a' cap' hW => (him0 W a' cap' hW).mono fun _ _ h => h.one
  have hsp : Hid (∀ W a' cap', SlT W a' n cap' G → Calls Try.prog 7 #[.agg #[.slice a' n cap'], .int .i64 g, .string kind, .string key] W fun e w' => e = .returned (.tuple #[.string (lkV G n g kind key), .int .i64 (lkN G n g kind key), .bool (lkB G n g kind key)]) ∧ Below W.heap.size W w') := fun W a' cap' hW => (lookS_sl g kind key W hW).mono fun _ _ h => h.one
  clear him0
  generalize lkV G n g kind key = V at *
  generalize lkN G n g kind key = vn at *
  generalize lkB G n g kind key = qq at *
  unfold maxLen at hk hk2
  by_cases h1 : 1048576 < kind.size
  · go_enter Try.func3, Try.ntmps3
    go_wp2
    go_ret
    exact ⟨rfl, hb0 _⟩
  by_cases h2 : 1048576 < key.size
  · go_enter Try.func3, Try.ntmps3
    go_wp2
    go_ret
    exact ⟨rfl, hb0 _⟩
  go_enter Try.func3, Try.ntmps3
  go_wp2_with fail
  refine (szT_sl _ _ (by decide) (by decide) (h.below (hb0 _))).mono ?_
  rintro e w1 ⟨r, rfl, hr0, hr0', _, hb1⟩
  have hB1 := hb1.mono (B' := w.heap.size + 1) (by simp)
  have hw1 := (hb0 _).trans (hb1.mono (by simp))
  have hcl := box_cells hB1
  clear hb1
  by_cases hneg : r < 0
  · go_wp2
    go_ret
    exact ⟨rfl, hw1⟩
  go_wp2_with fail
  refine (toT_sl _ hr hR (h.below hw1)).mono ?_
  rintro e w2 ⟨b2, rfl, h2, _, hb2, hq1, hq2⟩
  have hs2 := slT_new hnm hq2 h2
  go_wp2_with fail
  refine (hsp.out _ _ _ hs2).mono ?_
  rintro e w3 ⟨rfl, hb3⟩
  have hb23 := hb2.trans (hb3.mono hb2.size)
  have hB3 := hB1.trans (hb23.mono (by have := hB1.size; simpa using this))
  have hw3 := hw1.trans (hb23.mono hw1.size)
  clear hcl h2 hs2 hb2 hb3 hb23
  have hcl := box_cells hB3
  go_wp2_with fail
  refine (toT_sl _ hr hR (h.below hw3)).mono ?_
  rintro e w4 ⟨b4, rfl, h4, _, hb4, hq3, hq4⟩
  have hs4 := slT_new hnm hq4 h4
  have hB4 := hB3.trans (hb4.mono (by have := hB3.size; simpa using this))
  have hw4 := hw3.trans (hb4.mono hw3.size)
  clear hcl h4
  have hcl := box_cells hB4
  go_wp2_with fail
  have hb45 : ∀ o, Below w4.heap.size w4 (w4.alloc o) := fun o => (Below.refl _ _).alloc (Nat.le_refl _) _
  refine (him.out _ _ _ (hs4.below (hb45 _))).mono ?_
  rintro e w5 ⟨rfl, hb5⟩
  have hX5 := hb5.mono (B' := w4.heap.size + 1) (by simp)
  have hb5' := (hb45 _).trans (hb5.mono (by simp))
  have hB5 := hB4.trans (hb5'.mono (by have := hB4.size; simpa using this))
  have hw5 := hw4.trans (hb5'.mono hw4.size)
  have h5 := hs4.below hb5'
  clear hcl hb5 hs4 hB4 hw4 hb4 hB3 hw3 hB1 hw1
  have hcl := box_cells hB5
  have hcx := box_cells hX5
  go_wp2_with fail
  go_region_with (first
    | (go_at_call 8; refine (toT_sl _ hr hR (h.below (by first | exact hw5 | exact (hw5).drew | exact (hw5).drew.drew | exact (hw5).drew.drew.drew | exact (hw5).drew.drew.drew.drew))).mono ?_; rintro e w6 ⟨b6, rfl, h6, _, hb6, hq5, hq6⟩; have hs6 := slT_new hnm hq6 h6; have h56 : Below w5.heap.size w5 w6 := Below.trans (by first | exact Below.refl w5.heap.size w5 | exact (Below.refl w5.heap.size w5).drew | exact (Below.refl w5.heap.size w5).drew.drew | exact (Below.refl w5.heap.size w5).drew.drew.drew | exact (Below.refl w5.heap.size w5).drew.drew.drew.drew) hb6; have hcx6 := box_cells (hX5.trans (h56.mono (by have := hX5.size; simpa using this))))
    | (go_at_call 10; refine (eqT_sl _ (h5.below (by first | exact h56 | exact (h56).drew | exact (h56).drew.drew | exact (h56).drew.drew.drew | exact (h56).drew.drew.drew.drew)) (hs6.below (by first | exact Below.refl w6.heap.size w6 | exact (Below.refl w6.heap.size w6).drew | exact (Below.refl w6.heap.size w6).drew.drew | exact (Below.refl w6.heap.size w6).drew.drew.drew | exact (Below.refl w6.heap.size w6).drew.drew.drew.drew))).mono ?_; rintro e w7 ⟨rfl, hb7⟩; have h67 : Below w6.heap.size w6 w7 := Below.trans (by first | exact Below.refl w6.heap.size w6 | exact (Below.refl w6.heap.size w6).drew | exact (Below.refl w6.heap.size w6).drew.drew | exact (Below.refl w6.heap.size w6).drew.drew.drew | exact (Below.refl w6.heap.size w6).drew.drew.drew.drew) hb7))
  all_goals
    go_wp2
    go_ret
    exact ⟨rfl, (hw5.trans (h56.mono hw5.size)).trans (h67.mono (Nat.le_trans hw5.size h56.size))⟩
end Go.Proofs.Ytbenfmcnmiedpab
