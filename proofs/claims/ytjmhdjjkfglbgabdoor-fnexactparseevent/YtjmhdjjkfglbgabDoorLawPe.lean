import Derived.Test.YtjmhdjjkfglbgabDoorPeI
import Derived.Test.YtjmhdjjkfglbgabDoorHeldEv
import Derived.Test.YtjmhdjjkfglbgabDoorEqEv
import Derived.Deep.RegionHeld3
import Derived.Deep.DeepFit
namespace Go.Proofs.YtjmhdjjkfglbgabDoor
open Go.RowKit

/-- what the law's two sides answer: the same fields, the same code. -/
structure Fld where
  id : ByteArray
  sd : ByteArray
  ty : ByteArray
  key : ByteArray
  val : ByteArray
  st : Bool
  tm : Int
  np : Nat
  na : Nat
  ng : Nat
  Pv : Nat → ByteArray
  Av : Nat → ByteArray
  M : Nat → ByteArray
  L : Nat → Int
noncomputable def fldOf (l : ByteArray) : Fld :=
  if peCode l = 0 then ⟨cS 32 l 0, cS 32 l 1, cS 32 l 2, peKey l, peVal l, peSt l, peTime l, rN (cS 32 l 5), rN (cS 32 l 6), peN l, cS 44 (cS 32 l 5), cS 44 (cS 32 l 6), gM (cS 32 l 7), gL (cS 32 l 7)⟩
  else ⟨ByteArray.empty, ByteArray.empty, ByteArray.empty, ByteArray.empty, ByteArray.empty, false, 0, 0, 0, 0, fun _ => ByteArray.empty, fun _ => ByteArray.empty, fun _ => ByteArray.empty, fun _ => 0⟩
abbrev fV (F : Fld) (pa : Option Addr) (cp : Nat) (aa : Option Addr) (ca : Nat) (ga : Option Addr) (cg : Nat) : Value :=
  evV F.id F.sd F.ty F.key F.val F.st F.tm pa F.np cp aa F.na ca ga F.ng cg

def SPost (F : Fld) (c : Int) (w : World) (e : Ending) (w' : World) : Prop := ∃ pa cp aa ca ga cg, e = .returned (.tuple #[fV F pa cp aa ca ga cg, .int .i64 c]) ∧
  SlS w' pa F.np cp F.Pv ∧ SlS w' aa F.na ca F.Av ∧ SlG w' ga F.ng cg F.M F.L ∧ Below w.heap.size w w'
def IPost (F : Fld) (c : Int) (w : World) (e : Ending) (w' : World) : Prop := ∃ pa cp aa ca ga cg h1 h2, e = .returned (.tuple #[fV F pa cp aa ca ga cg, .int .i64 c]) ∧
  EvW w' pa F.np cp aa F.na ca ga F.ng cg F.Pv F.Av F.M F.L w.heap.size h1 h2 w'.heap.size ∧ Below w.heap.size w w'

theorem sPost_of {l : ByteArray} {w : World} {e : Ending} {w' : World} (h : PePost l w e w') : SPost (fldOf l) (peCode l) w e w' := by
  rcases h with ⟨c, hne, rfl, rfl, hb⟩ | ⟨h0, pa, cp, aa, ca, ga, cg, rfl, h1, h2, h3, hb⟩
  · unfold fldOf; rw [if_neg hne]
    exact ⟨none, 0, none, 0, none, 0, rfl, ⟨Nat.le_refl _, by decide, fun i hi => absurd hi (Nat.not_lt_zero _), Or.inl rfl⟩, ⟨Nat.le_refl _, by decide, fun i hi => absurd hi (Nat.not_lt_zero _), Or.inl rfl⟩, ⟨Nat.le_refl _, by decide, fun i hi => absurd hi (Nat.not_lt_zero _), Or.inl rfl⟩, hb⟩
  · unfold fldOf; rw [if_pos h0, h0]
    exact ⟨pa, cp, aa, ca, ga, cg, rfl, h1, h2, h3, hb⟩
theorem iPost_of {l : ByteArray} {w : World} {e : Ending} {w' : World} (h : PeIPost l w e w') : IPost (fldOf l) (peCode l) w e w' := by
  obtain ⟨hb, ⟨hne, rfl⟩ | ⟨h0, pa, cp, aa, ca, ga, cg, h1, h2, rfl, E⟩⟩ := h
  · unfold fldOf; rw [if_neg hne]
    exact ⟨none, 0, none, 0, none, 0, w.heap.size, w.heap.size, rfl, ⟨⟨Nat.le_refl _, by decide, fun i hi => absurd hi (Nat.not_lt_zero _), Or.inl rfl⟩, ⟨Nat.le_refl _, by decide, fun i hi => absurd hi (Nat.not_lt_zero _), Or.inl rfl⟩, ⟨Nat.le_refl _, by decide, fun i hi => absurd hi (Nat.not_lt_zero _), Or.inl rfl⟩, Or.inl rfl, Or.inl rfl, Or.inl rfl, Or.inl rfl, Or.inl rfl, Or.inl rfl, ⟨Nat.le_refl _, Nat.le_refl _, hb.size, Nat.le_refl _⟩⟩, hb⟩
  · unfold fldOf; rw [if_pos h0, h0]
    exact ⟨pa, cp, aa, ca, ga, cg, h1, h2, rfl, ⟨E.hp, E.ha, E.hg, E.wp, E.wa, E.wg, E.bg, E.bp, E.ba, ⟨E.hh.1, E.hh.2.1, E.hh.2.2, Nat.le_refl _⟩⟩, hb⟩

set_option maxRecDepth 100000 in
set_option maxHeartbeats 1600000 in
theorem lawPe_core (l : ByteArray) (F : Fld) (c : Int) (w : World) (hs : l.size ≤ 1048576) (hnp : F.np ≤ 100000000) (hna : F.na ≤ 100000000) (hng : F.ng ≤ 100000000)
    (hS : Hid (∀ W, Calls Tryd.prog 16 #[.string l] W (SPost F c W))) (hI : Hid (∀ W, MaxL W → Calls Tryd.prog 10 #[.string l] W (IPost F c W))) (hm : MaxL w) :
    Calls Tryd.prog 5 #[.string l] w fun e w' => e = .returned (.bool true) ∧ Below w.heap.size w w' := by
  obtain ⟨id, sd, ty, key, val, st, tm, np, na, ng, Pv, Av, M, L⟩ := F
  simp only at hnp hna hng
  go_enter Tryd.func5, Tryd.ntmps5
  go_wp2_with fail
  refine (hS.out _).mono ?_
  rintro e w1 ⟨pa0, cp0, aa0, ca0, ga0, cg0, rfl, p0, a0, g0, b1⟩
  simp only at p0 a0 g0
  have bA : Below w1.heap.size w1 (w1.alloc (.cells (evC id sd ty key val st tm pa0 np cp0 aa0 na ca0 ga0 ng cg0) 26)) := (Below.refl _ _).alloc (Nat.le_refl _) _
  have b1A := b1.trans (bA.mono b1.size)
  go_wp2_with fail
  refine (hI.out _ (hm.below b1A)).mono ?_
  rintro e w2 ⟨pa, cp, aa, ca, ga, cg, h1, h2, rfl, E, b2⟩
  simp only at E
  have hbx0 := box_cells (b2.mono (B' := w1.heap.size + 1) (by simp))
  have b12 := bA.trans (b2.mono bA.size)
  have bw2 := b1.trans (b12.mono b1.size)
  have bC : Below w2.heap.size w2 (w2.alloc (.cells (evC id sd ty key val st tm pa np cp aa na ca ga ng cg) 26)) := (Below.refl _ _).alloc (Nat.le_refl _) _
  have hsz12 : w1.heap.size < w2.heap.size := by have := b2.size; simp at this; omega
  have b1C := b12.trans (bC.mono b12.size)
  have k0 : ∀ o, (w2.alloc (.cells (evC id sd ty key val st tm pa np cp aa na ca ga ng cg) 26)).cell? ⟨w1.heap.size, o, none⟩ = (evC id sd ty key val st tm pa0 np cp0 aa0 na ca0 ga0 ng cg0)[o]? := fun o => (World.cell?_alloc_past _ _ _ hsz12).trans (hbx0 o)
  have k1 : ∀ o, (w2.alloc (.cells (evC id sd ty key val st tm pa np cp aa na ca ga ng cg) 26)).cell? ⟨w2.heap.size, o, none⟩ = (evC id sd ty key val st tm pa np cp aa na ca ga ng cg)[o]? := fun o => World.cell?_alloc_at _ _ _ _ rfl
  go_wp2_with fail
  refine (eqEv_any id sd ty key val st tm _ np _ _ na _ _ ng _ _ _ _ _ _ _ Pv Av M L _ (E.hp.below bC) (E.ha.below bC) (E.hg.below bC) (p0.below b1C) (a0.below b1C) (g0.below b1C)).mono ?_
  rintro e w3 ⟨rfl, b3⟩
  have b23 : Below w2.heap.size w2 w3 := bC.trans (b3.mono (by simp))
  have kk1 := box_cells (b3.mono (B' := w2.heap.size + 1) (by simp))
  have hsz23 : w2.heap.size < w3.heap.size := by have := b3.size; simp at this; omega
  have kk0 : ∀ o, w3.cell? ⟨w1.heap.size, o, none⟩ = (evC id sd ty key val st tm pa0 np cp0 aa0 na ca0 ga0 ng cg0)[o]? := fun o => (b23.cell (by exact hsz12)).trans (hbx0 o)
  clear k0 k1 b3
  go_wp2_with fail
  refine (markEv_any id sd ty key val st tm pa np cp aa na ca ga ng cg Pv Av M L _ h1 h2 _ _ 1 (E.below b23) hnp hna hng (by decide)).mono ?_
  rintro e w4 ⟨rfl, m1, m2, m3, b34, hfar⟩
  have kg : ∀ o, w4.cell? ⟨w2.heap.size, o, none⟩ = (evC id sd ty key val st tm pa np cp aa na ca ga ng cg)[o]? := fun o => (hfar _ o (Nat.le_refl _) hsz23).trans (kk1 o)
  have ks : ∀ o, w4.cell? ⟨w1.heap.size, o, none⟩ = (evC id sd ty key val st tm pa0 np cp0 aa0 na ca0 ga0 ng cg0)[o]? := fun o => (b34.cell (by show w1.heap.size < _; simp)).trans (kk0 o)
  have b14 : Below w1.heap.size w1 w4 := (b12.trans (b23.mono b12.size)).trans (b34.mono (by simp))
  have bw4 := b1.trans (b14.mono b1.size)
  have hsz4 : w2.heap.size < w4.heap.size := Nat.lt_of_lt_of_le hsz23 b34.size
  clear kk0 kk1 hbx0 hfar
  go_wp2_with fail
  refine (heldEv_any id sd ty key val st tm pa np cp aa na ca ga ng cg _ 1 m1 m2 m3 hnp hna hng (by decide)).mono ?_
  rintro e w5 ⟨rfl, b45⟩
  have kg5 : ∀ o, w5.cell? ⟨w2.heap.size, o, none⟩ = (evC id sd ty key val st tm pa np cp aa na ca ga ng cg)[o]? := fun o => (b45.cell (by exact hsz4)).trans (kg o)
  have ks5 : ∀ o, w5.cell? ⟨w1.heap.size, o, none⟩ = (evC id sd ty key val st tm pa0 np cp0 aa0 na ca0 ga0 ng cg0)[o]? := fun o => (b45.cell (by show w1.heap.size < _; omega)).trans (ks o)
  have b15 := b14.trans (b45.mono b14.size)
  have bw5 := b1.trans (b15.mono b1.size)
  have n1 : ¬ ((1 : Int) + (np : Int) + (na : Int) + (ng : Int) * 2 < 0) := by omega
  clear kg ks
  go_wp2_with fail
  refine (hI.out _ (hm.below bw5)).mono ?_
  rintro e w6 ⟨pa6, cp6, aa6, ca6, ga6, cg6, q1, q2, rfl, E6, b56⟩
  simp only at E6
  have hs5 : w2.heap.size < w5.heap.size := Nat.lt_of_lt_of_le hsz4 b45.size
  have kg6 : ∀ o, w6.cell? ⟨w2.heap.size, o, none⟩ = (evC id sd ty key val st tm pa np cp aa na ca ga ng cg)[o]? := fun o => (b56.cell (by exact hs5)).trans (kg5 o)
  have ks6 : ∀ o, w6.cell? ⟨w1.heap.size, o, none⟩ = (evC id sd ty key val st tm pa0 np cp0 aa0 na ca0 ga0 ng cg0)[o]? := fun o => (b56.cell (by show w1.heap.size < _; omega)).trans (ks5 o)
  have b16 := b15.trans (b56.mono b15.size)
  have bw6 := b1.trans (b16.mono b1.size)
  have hs6 : w2.heap.size < w6.heap.size := Nat.lt_of_lt_of_le hs5 b56.size
  clear kg5 ks5
  have bD : Below w6.heap.size w6 (w6.alloc (.cells (evC id sd ty key val st tm pa6 np cp6 aa6 na ca6 ga6 ng cg6) 26)) := (Below.refl _ _).alloc (Nat.le_refl _) _
  have b1D := b16.trans (bD.mono b16.size)
  have r0 : ∀ o, (w6.alloc (.cells (evC id sd ty key val st tm pa6 np cp6 aa6 na ca6 ga6 ng cg6) 26)).cell? ⟨w1.heap.size, o, none⟩ = (evC id sd ty key val st tm pa0 np cp0 aa0 na ca0 ga0 ng cg0)[o]? := fun o => (World.cell?_alloc_past _ _ _ (by show w1.heap.size < _; omega)).trans (ks6 o)
  have r1 : ∀ o, (w6.alloc (.cells (evC id sd ty key val st tm pa6 np cp6 aa6 na ca6 ga6 ng cg6) 26)).cell? ⟨w6.heap.size, o, none⟩ = (evC id sd ty key val st tm pa6 np cp6 aa6 na ca6 ga6 ng cg6)[o]? := fun o => World.cell?_alloc_at _ _ _ _ rfl
  go_wp2_with fail
  refine (eqEv_any id sd ty key val st tm _ np _ _ na _ _ ng _ _ _ _ _ _ _ Pv Av M L _ (E6.hp.below bD) (E6.ha.below bD) (E6.hg.below bD) (p0.below b1D) (a0.below b1D) (g0.below b1D)).mono ?_
  rintro e w7 ⟨rfl, b67⟩
  have b67' : Below w6.heap.size w6 w7 := bD.trans (b67.mono (by simp))
  have b47 : Below w4.heap.size w4 w7 := (b45.trans (b56.mono b45.size)).trans (b67'.mono (Nat.le_trans b45.size b56.size))
  have kg7 : ∀ o, w7.cell? ⟨w2.heap.size, o, none⟩ = (evC id sd ty key val st tm pa np cp aa na ca ga ng cg)[o]? := fun o => (b67'.cell (by exact hs6)).trans (kg6 o)
  have bw7 := bw6.trans (b67'.mono bw6.size)
  clear r0 r1 kg6 ks6 b67
  go_wp2_with fail
  refine (heldEv_any id sd ty key val st tm pa np cp aa na ca ga ng cg _ 1 (m1.below b47) (m2.below b47) (m3.below b47) hnp hna hng (by decide)).mono ?_
  rintro e w8 ⟨rfl, b78⟩
  have bw8 := bw7.trans (b78.mono bw7.size)
  clear kg7
  go_wp2
  go_ret
  exact ⟨rfl, bw8⟩

theorem fld_le (l : ByteArray) (hs : l.size ≤ 1048576) : (fldOf l).np ≤ 100000000 ∧ (fldOf l).na ≤ 100000000 ∧ (fldOf l).ng ≤ 100000000 := by
  unfold fldOf
  split
  · rename_i h0
    have hf : peForm l = true := by
      cases hf : peForm l with
      | true => rfl
      | false => rw [pe_bad hf] at h0; cases h0
    have h8 := form_head_true hf
    have q : ∀ i, i < 8 → (cS 32 l i).size ≤ 1048576 := fun i hi => Nat.le_trans (cS_size 32 l i (by omega)) hs
    refine ⟨?_, ?_, ?_⟩
    · show rN (cS 32 l 5) ≤ _
      have := rN_le (cS 32 l 5)
      have := q 5 (by decide)
      omega
    · show rN (cS 32 l 6) ≤ _
      have := rN_le (cS 32 l 6)
      have := q 6 (by decide)
      omega
    · show peN l ≤ _
      unfold peN
      have := cN_le 44 (cS 32 l 7)
      have := q 7 (by decide)
      split <;> omega
  · exact ⟨by decide, by decide, by decide⟩

/-- the law, where spec.ParseEvent keeps to its contract. -/
theorem lawPe_of (l : ByteArray) (w : World) (hl : l.size ≤ maxLen) (hS : l.size ≤ 1048576 → ∀ W, Calls Tryd.prog 16 #[.string l] W (PePost l W)) (hm : MaxL w) :
    Calls Tryd.prog 5 #[.string l] w fun e w' => e = .returned (.bool true) ∧ Below w.heap.size w w' := by
  by_cases hs : l.size ≤ 1048576
  · have hf := fld_le l hs
    exact lawPe_core l (fldOf l) (peCode l) w hs hf.1 hf.2.1 hf.2.2 (fun W => (hS hs W).mono fun e w' h => sPost_of h) (fun W hW => (peI_any l W hs hW).mono fun e w' h => iPost_of h) hm
  · have hlt : 1048576 < l.size := by omega
    unfold maxLen at hl
    clear hS
    go_enter Tryd.func5, Tryd.ntmps5
    go_wp2
    go_ret
    exact ⟨rfl, Below.refl _ _⟩
end Go.Proofs.YtjmhdjjkfglbgabDoor
