import Derived.Test.YtjmhdjjkfglbgabDoorHeldS
import Derived.Test.YtjmhdjjkfglbgabDoorHeldG
import Derived.Test.YtjmhdjjkfglbgabDoorFormI
import Derived.Test.YtjmhdjjkfglbgabDoorTxtG
namespace Go.Proofs.YtjmhdjjkfglbgabDoor
open Go.RowKit

theorem SlS.grown {w w' : World} {a : Option Addr} {n cap : Nat} {S : Nat → ByteArray} {row : Option Nat} (h : SlS w a n cap S) (hg : w.grownBy w' row) (hr : n = 0 ∨ ∀ b off, a = some ⟨b, off, none⟩ → some b ≠ row) : SlS w' a n cap S := by
  refine ⟨h.le, h.max, h.size, ?_⟩
  rcases hr with h0 | hr
  · exact Or.inl h0
  · exact h.cells.imp id fun ⟨b, off, e, hlt, hc⟩ => ⟨b, off, e, Nat.lt_of_lt_of_le hlt hg.size, fun i hi => (hg.cell_far _ hlt (hr b off e)).trans (hc i hi)⟩
theorem SlG.grown {w w' : World} {a : Option Addr} {n cap : Nat} {M : Nat → ByteArray} {L : Nat → Int} {row : Option Nat} (h : SlG w a n cap M L) (hg : w.grownBy w' row) (hr : n = 0 ∨ ∀ b off, a = some ⟨b, off, none⟩ → some b ≠ row) : SlG w' a n cap M L := by
  refine ⟨h.le, h.max, h.size, ?_⟩
  rcases hr with h0 | hr
  · exact Or.inl h0
  · exact h.cells.imp id fun ⟨b, off, e, hlt, hc, hv⟩ => ⟨b, off, e, Nat.lt_of_lt_of_le hlt hg.size, fun i hi => (hg.cell_far _ hlt (hr b off e)).trans (hc i hi), fun i hi => (hg.cell_far _ hlt (hr b off e)).trans (hv i hi)⟩
theorem SlW.grown {w w' : World} {base n sz : Nat} {a : Option Addr} {row : Option Nat} (h : SlW w base a n sz) (hg : w.grownBy w' row) (hr : n = 0 ∨ ∀ b off, a = some ⟨b, off, none⟩ → some b ≠ row) : SlW w' base a n sz := by
  rcases hr with h0 | hr
  · exact Or.inl h0
  · exact h.imp id fun ⟨b, off, e, h1, h2, hc⟩ => ⟨b, off, e, h1, Nat.lt_of_lt_of_le h2 hg.size, fun i hi => by
      rw [hg.cell_far _ (by exact h2) (hr b off e), hg.frozen_far _ (by exact h2) (hr b off e)]; exact hc i hi⟩
theorem SlB.other {a a' : Option Addr} {n n' lo hi lo' hi' : Nat} (h : SlB a n lo hi) (h' : SlB a' n' lo' hi') (hd : hi ≤ lo' ∨ hi' ≤ lo) : n = 0 ∨ ∀ b off, a = some ⟨b, off, none⟩ → some b ≠ rowOf a' n' := by
  rcases h with h0 | ⟨b, off, rfl, h1, h2⟩
  · exact Or.inl h0
  · right
    rintro b2 off2 e
    have e1 : b = b2 := by injection e with e; injection e
    subst e1
    unfold rowOf
    split
    · intro h; cases h
    · rcases h' with h0' | ⟨b', off', rfl, h1', h2'⟩
      · contradiction
      · intro he
        have : b = b' := by simpa [blk] using he
        omega
theorem SlB.box {a : Option Addr} {n lo hi B : Nat} (h : SlB a n lo hi) (hd : hi ≤ B ∨ B < lo) : some B ≠ rowOf a n := by
  unfold rowOf
  split
  · intro h; cases h
  · rcases h with h0 | ⟨b, off, rfl, h1, h2⟩
    · contradiction
    · intro he
      have : B = b := by simpa [blk] using he
      omega

/-- an event whose three lists may be written, in blocks of their own. -/
structure EvW (w : World) (pa : Option Addr) (np cp : Nat) (aa : Option Addr) (na ca : Nat) (ga : Option Addr) (ng cg : Nat) (Pv Av M : Nat → ByteArray) (L : Nat → Int) (base h1 h2 h3 : Nat) : Prop where
  hp : SlS w pa np cp Pv
  ha : SlS w aa na ca Av
  hg : SlG w ga ng cg M L
  wp : SlW w base pa np 1
  wa : SlW w base aa na 1
  wg : SlW w base ga ng 2
  bg : SlB ga ng base h1
  bp : SlB pa np h1 h2
  ba : SlB aa na h2 h3
  hh : base ≤ h1 ∧ h1 ≤ h2 ∧ h2 ≤ h3 ∧ h3 ≤ w.heap.size

theorem EvW.below {w w' : World} {pa : Option Addr} {np cp : Nat} {aa : Option Addr} {na ca : Nat} {ga : Option Addr} {ng cg : Nat} {Pv Av M : Nat → ByteArray} {L : Nat → Int} {base h1 h2 h3 : Nat} (E : EvW w pa np cp aa na ca ga ng cg Pv Av M L base h1 h2 h3) (hb : Below w.heap.size w w') : EvW w' pa np cp aa na ca ga ng cg Pv Av M L base h1 h2 h3 :=
  ⟨E.hp.below hb, E.ha.below hb, E.hg.below hb, E.wp.below hb, E.wa.below hb, E.wg.below hb, E.bg, E.bp, E.ba, E.hh.1, E.hh.2.1, E.hh.2.2.1, Nat.le_trans E.hh.2.2.2 hb.size⟩

theorem grown_below {w w' : World} {row : Option Nat} {base : Nat} (hg : w.grownBy w' row) (hr : ∀ b, row = some b → base ≤ b) (hb : base ≤ w.heap.size) : Below base w w' :=
  ⟨hg.os, hg.tape, hg.output, hg.size, fun k hk => hg.block k (Nat.lt_of_lt_of_le hk hb) (fun e => by have := hr k e.symm; omega)⟩
theorem SlB.row_ge {a : Option Addr} {n lo hi : Nat} (h : SlB a n lo hi) : ∀ b, rowOf a n = some b → lo ≤ b := by
  intro b hb
  unfold rowOf at hb
  split at hb
  · cases hb
  · rcases h with h0 | ⟨b', off, rfl, h1, h2⟩
    · contradiction
    · have : b' = b := by simpa [blk] using hb
      omega

section
variable (id sd ty key val : ByteArray) (st : Bool) (tm : Int) (pa : Option Addr) (np cp : Nat) (aa : Option Addr) (na ca : Nat) (ga : Option Addr) (ng cg : Nat) (Pv Av M : Nat → ByteArray) (L : Nat → Int) (base h1 h2 h3 : Nat) (w : World)

def MkPost (k0 : Nat) (e : Ending) (w' : World) : Prop := e = .returned (.int .i64 ((k0 + np + na + ng * 2 : Nat) : Int)) ∧ SlS w' pa np cp (fun i => mkT (k0 + i)) ∧ SlS w' aa na ca (fun i => mkT (k0 + np + i)) ∧ SlG w' ga ng cg (mgM (k0 + np + na)) (mgL (k0 + np + na)) ∧ Below base w w' ∧ ∀ B o, h3 ≤ B → B < w.heap.size → w'.cell? ⟨B, o, none⟩ = w.cell? ⟨B, o, none⟩

set_option maxRecDepth 100000 in
set_option maxHeartbeats 400000 in
theorem markEv_any (k0 : Nat) (E : EvW w pa np cp aa na ca ga ng cg Pv Av M L base h1 h2 h3) (hnp : np ≤ 100000000) (hna : na ≤ 100000000) (hng : ng ≤ 100000000) (hk : k0 ≤ 100000000) :
    Calls Tryd.prog 17 #[evV id sd ty key val st tm pa np cp aa na ca ga ng cg, .int .i64 (k0 : Int)] w (MkPost pa np cp aa na ca ga ng cg base h3 w k0) := by
  have hb0 : Below w.heap.size w (w.alloc (.cells (evC id sd ty key val st tm pa np cp aa na ca ga ng cg) 26)) := (Below.refl _ _).alloc (Nat.le_refl _) _
  have hh := E.hh
  go_enter Tryd.func17, Tryd.ntmps17
  go_wp2_with fail
  refine (markS_sl (k0 := k0) _ (show np ≤ 1000000000 by omega) (show k0 ≤ 1000000000 by omega) (E.hp.below hb0) (E.wp.below hb0)).mono ?_
  rintro e w1 ⟨rfl, s1, g1⟩
  have hbx : ∀ o, w1.cell? ⟨w.heap.size, o, none⟩ = (evC id sd ty key val st tm pa np cp aa na ca ga ng cg)[o]? := fun o => (g1.cell_far _ (by simp) (E.bp.box (Or.inl (Nat.le_trans hh.2.2.1 hh.2.2.2)))).trans (World.cell?_alloc_at _ _ _ _ rfl)
  have e7 : w1.cell? ⟨w.heap.size, 7, none⟩ = some (.slice aa na ca) := hbx 7
  go_wp2_with fail
  refine (markS_sl (k0 := k0 + np) _ (show na ≤ 1000000000 by omega) (show k0 + np ≤ 1000000000 by omega) ((E.ha.below hb0).grown g1 (E.ba.other E.bp (Or.inr (Nat.le_refl _)))) ((E.wa.below hb0).grown g1 (E.ba.other E.bp (Or.inr (Nat.le_refl _))))).mono ?_
  rintro e w2 ⟨rfl, s2, g2⟩
  have hsz1 : w.heap.size < w1.heap.size := by have := g1.size; simp at this; omega
  have e9 : w2.cell? ⟨w.heap.size, 9, none⟩ = some (.slice ga ng cg) := (g2.cell_far _ (by exact hsz1) (E.ba.box (Or.inl hh.2.2.2))).trans (hbx 9)
  clear e7 hbx
  go_wp2_with fail
  refine (markG_sl (k0 := k0 + np + na) _ (show ng ≤ 1000000000 by omega) (show k0 + np + na ≤ 1000000000 by omega) (((E.hg.below hb0).grown g1 (E.bg.other E.bp (Or.inl (Nat.le_refl _)))).grown g2 (E.bg.other E.ba (Or.inl hh.2.1))) (((E.wg.below hb0).grown g1 (E.bg.other E.bp (Or.inl (Nat.le_refl _)))).grown g2 (E.bg.other E.ba (Or.inl hh.2.1)))).mono ?_
  rintro e w3 ⟨rfl, s3, g3⟩
  have hB : Below base w w3 := by
    have q0 : Below base w (w.alloc (.cells (evC id sd ty key val st tm pa np cp aa na ca ga ng cg) 26)) := (Below.refl _ _).alloc (by omega) _
    have q1 := q0.trans (grown_below g1 (fun b hb => Nat.le_trans hh.1 (E.bp.row_ge b hb)) (by simp; omega))
    have q2 := q1.trans (grown_below g2 (fun b hb => Nat.le_trans (Nat.le_trans hh.1 hh.2.1) (E.ba.row_ge b hb)) (by omega))
    exact q2.trans (grown_below g3 E.bg.row_ge (by have := g2.size; omega))
  have hfar : ∀ B o, h3 ≤ B → B < w.heap.size → w3.cell? ⟨B, o, none⟩ = w.cell? ⟨B, o, none⟩ := fun B o q1 q2 => by
    rw [g3.cell_far ⟨B, o, none⟩ (Nat.lt_of_lt_of_le (Nat.lt_trans q2 hsz1) g2.size) (E.bg.box (Or.inl (Nat.le_trans hh.2.1 (Nat.le_trans hh.2.2.1 q1)))), g2.cell_far ⟨B, o, none⟩ (Nat.lt_trans q2 hsz1) (E.ba.box (Or.inl q1)), g1.cell_far ⟨B, o, none⟩ (Nat.lt_of_lt_of_le q2 hb0.size) (E.bp.box (Or.inl (Nat.le_trans hh.2.2.1 q1)))]
    exact World.cell?_alloc_past _ _ _ q2
  have t1 := (s1.grown g2 (E.bp.other E.ba (Or.inl (Nat.le_refl _)))).grown g3 (E.bp.other E.bg (Or.inr (Nat.le_refl _)))
  have t2 := s2.grown g3 (E.ba.other E.bg (Or.inr hh.2.1))
  clear s1 s2 g1 g2 g3 E hb0 e9
  go_wp2
  go_ret
  exact ⟨rfl, t1, t2, s3, hB, hfar⟩
end
end Go.Proofs.YtjmhdjjkfglbgabDoor
