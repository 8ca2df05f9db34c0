import Derived.Test.YtfjfhnjoghlbfaaGreatTG
import Derived.Test.YtfjfhnjoghlbfaaGreatLawA
namespace Go.Proofs.YtfjfhnjoghlbfaaGreat
open Go.RowKit

section
variable (id sd ty key val : ByteArray) (st : Bool) (tm : Int) (pa : Option Addr) (np cp : Nat) (aa : Option Addr) (na ca : Nat) (ga : Option Addr) (ng cg : Nat) (Pv Av M : Nat → ByteArray) (L : Nat → Int) (w : World)

set_option maxHeartbeats 2000000 in
theorem szEv_any (hid : id.size ≤ maxLen) (hsd : sd.size ≤ maxLen) (hty : ty.size ≤ maxLen) (hkey : key.size ≤ maxLen) (hval : val.size ≤ maxLen)
    (hp : SlS w pa np cp Pv) (ha : SlS w aa na ca Av) (hg : SlG w ga ng cg M L) (l : Int) (h0 : 0 ≤ l) (h1 : l ≤ 1048576) :
    Calls Tryz.prog 28 #[evV id sd ty key val st tm pa np cp aa na ca ga ng cg, .int .i64 l] w fun e w' =>
      ∃ r : Int, e = .returned (.int .i64 r) ∧ -1 ≤ r ∧ r ≤ l ∧ Below w.heap.size w w' := by
  have hb0 : ∀ o, Below w.heap.size w (w.alloc o) := fun o => (Below.refl _ _).alloc (Nat.le_refl _) _
  unfold maxLen at hid hsd hty hkey hval
  go_enter Tryz.func28, Tryz.ntmps28
  go_wp2_with fail
  iterate 4 (· go_ret; exact ⟨-1, rfl, by omega, by omega, hb0 _⟩)
  refine (szS_sl _ _ (by omega) (by omega) (hp.below (hb0 _))).mono ?_
  rintro e w' ⟨r1, rfl, hr1, hr1', rfl⟩
  go_wp2_with fail
  · go_ret
    exact ⟨-1, rfl, by omega, by omega, hb0 _⟩
  refine (szS_sl _ _ (by omega) (by omega) (ha.below (hb0 _))).mono ?_
  rintro e w' ⟨r2, rfl, hr2, hr2', rfl⟩
  go_wp2_with fail
  · go_ret
    exact ⟨-1, rfl, by omega, by omega, hb0 _⟩
  · go_ret
    exact ⟨-1, rfl, by omega, by omega, hb0 _⟩
  refine (szG_sl _ _ (by omega) (by omega) (hg.below (hb0 _))).mono ?_
  rintro e w3 ⟨r3, rfl, hr3, hr3', hb3⟩
  go_wp2
  · go_ret
    exact ⟨-1, rfl, by omega, by omega, (hb0 _).trans (hb3.mono (by simp))⟩
  · go_ret
    exact ⟨r3, rfl, by omega, by omega, (hb0 _).trans (hb3.mono (by simp))⟩
end
end Go.Proofs.YtfjfhnjoghlbfaaGreat
namespace Go.Proofs.YtfjfhnjoghlbfaaGreat
open Go.RowKit

/-- In toEvent: block B (the argument's box) holds c0, block B + 1 (the result) ten cells, block B + 1 + 1 (the local) holds c2. -/
structure TE (w : World) (B : Nat) (c0 c2 : Array Value) (wx : World) : Prop where
  a0 : ∀ o, wx.cell? ⟨B, o, none⟩ = c0[o]?
  a1 : ∀ o, o < 10 → ∃ v, wx.cell? ⟨B + 1, o, none⟩ = some v
  a2 : ∀ o, wx.cell? ⟨B + 1 + 1, o, none⟩ = c2[o]?
  f1 : ∀ o, wx.frozen? ⟨B + 1, o, none⟩ = false
  f2 : ∀ o, wx.frozen? ⟨B + 1 + 1, o, none⟩ = false
  size : B + 1 + 1 < wx.heap.size
  hB : B = w.heap.size
  below : Below w.heap.size w wx

theorem TE.mono {w wx wy : World} {B : Nat} {c0 c2 : Array Value} (h : TE w B c0 c2 wx) (hb : Below wx.heap.size wx wy) : TE w B c0 c2 wy :=
  have hs := h.size
  ⟨fun o => (hb.cell (by show B < _; omega)).trans (h.a0 o), fun o ho => (h.a1 o ho).imp fun _ hv => (hb.cell (by show B + 1 < _; omega)).trans hv, fun o => (hb.cell (by exact hs)).trans (h.a2 o),
    fun o => (hb.frozen (by show B + 1 < _; omega)).trans (h.f1 o), fun o => (hb.frozen (by exact hs)).trans (h.f2 o), Nat.lt_of_lt_of_le hs hb.size, h.hB, h.below.trans (hb.mono h.below.size)⟩

theorem TE.set {w wx : World} {B : Nat} {c0 c2 : Array Value} (h : TE w B c0 c2 wx) (j : Nat) (hj : j < c2.size) (x : Value) : TE w B c0 (c2.setIfInBounds j x) (wx.setCell ⟨B + 1 + 1, j, none⟩ x) := by
  refine ⟨fun o => by rw [far_block (by omega)]; exact h.a0 o, fun o ho => by rw [far_block (by omega)]; exact h.a1 o ho, fun o => ?_, fun o => by rw [World.frozen?_setCell]; exact h.f1 o, fun o => by rw [World.frozen?_setCell]; exact h.f2 o, by simpa [World.setCell] using h.size, h.hB, h.below.setCell (by have := h.hB; show _ ≤ B + 1 + 1; omega) _⟩
  by_cases e : o = j
  · subst e
    rw [set_same ⟨c2[o], by rw [h.a2]; exact Array.getElem?_eq_getElem hj⟩]
    simp [hj]
  · rw [set_far e, h.a2, Array.getElem?_setIfInBounds_ne (by omega)]

theorem TE.start {w : World} {c0 c1 c2 : Array Value} {t0 t1 t2 : TypeId} (h : c1.size = 10) : TE w w.heap.size c0 c2 (((w.alloc (.cells c0 t0)).alloc (.cells c1 t1)).alloc (.cells c2 t2)) := by
  refine ⟨fun o => ?_, fun o ho => ⟨c1[o], ?_⟩, fun o => World.cell?_alloc_at _ _ _ _ (by simp), fun o => ?_, fun o => World.frozen?_alloc_at _ _ _ _ (by simp), by simp, rfl, (((Below.refl _ _).alloc (Nat.le_refl _) _).alloc (by simp) _).alloc (by simp; omega) _⟩
  · rw [World.cell?_alloc_past _ _ _ (by simp; omega), World.cell?_alloc_past _ _ _ (by simp), World.cell?_alloc_at _ _ _ _ rfl]
  · rw [World.cell?_alloc_past _ _ _ (by simp), World.cell?_alloc_at _ _ _ _ (by simp)]
    exact Array.getElem?_eq_getElem (by omega)
  · rw [World.frozen?_alloc_past _ _ _ (by simp)]
    exact World.frozen?_alloc_at _ _ _ _ (by simp)

theorem SlS.set {w : World} {b off n cap C j : Nat} {S : Nat → ByteArray} (h : SlS w (some ⟨b, off, none⟩) n cap S) (hC : C ≠ b) (x : Value) : SlS (w.setCell ⟨C, j, none⟩ x) (some ⟨b, off, none⟩) n cap S :=
  ⟨h.le, h.max, h.size, h.cells.imp id fun ⟨b', off', e, hlt, hc⟩ => ⟨b', off', e, by simpa [World.setCell] using hlt, fun i hi => by
    have e2 : b = b' := by injection e with e; injection e
    rw [far_block (by omega)]; exact hc i hi⟩⟩
theorem SlG.set {w : World} {b off n cap C j : Nat} {M : Nat → ByteArray} {L : Nat → Int} (h : SlG w (some ⟨b, off, none⟩) n cap M L) (hC : C ≠ b) (x : Value) : SlG (w.setCell ⟨C, j, none⟩ x) (some ⟨b, off, none⟩) n cap M L :=
  ⟨h.le, h.max, h.size, h.cells.imp id fun ⟨b', off', e, hlt, hc, hl⟩ => ⟨b', off', e, by simpa [World.setCell] using hlt, fun i hi => by
      have e2 : b = b' := by injection e with e; injection e
      rw [far_block (by omega)]; exact hc i hi, fun i hi => by
      have e2 : b = b' := by injection e with e; injection e
      rw [far_block (by omega)]; exact hl i hi⟩⟩

section
variable (id sd ty key val : ByteArray) (st : Bool) (tm : Int) (pa : Option Addr) (np cp : Nat) (aa : Option Addr) (na ca : Nat) (ga : Option Addr) (ng cg : Nat) (Pv Av M : Nat → ByteArray) (L : Nat → Int) (w : World)

set_option maxHeartbeats 2000000 in
theorem toEv_fresh (hrp : np * 16 ≤ 140737488351232) (hra : na * 16 ≤ 140737488351232) (hrg : ng * 24 ≤ 140737488351232)
    (hp : SlS w pa np cp Pv) (ha : SlS w aa na ca Av) (hg : SlG w ga ng cg M L) :
    Calls Tryz.prog 36 #[evV id sd ty key val st tm pa np cp aa na ca ga ng cg] w fun e w' =>
      ∃ bp ba bg : Nat, e = .returned (evV id sd ty key val st tm (some ⟨bp, 0, none⟩) np np (some ⟨ba, 0, none⟩) na na (some ⟨bg, 0, none⟩) ng ng) ∧
        SlS w' (some ⟨bp, 0, none⟩) np np Pv ∧ SlS w' (some ⟨ba, 0, none⟩) na na Av ∧ SlG w' (some ⟨bg, 0, none⟩) ng ng M L ∧ Below w.heap.size w w' ∧ w.heap.size ≤ bp ∧ w.heap.size ≤ ba ∧ w.heap.size ≤ bg := by
  go_enter Tryz.func36, Tryz.ntmps36
  go_wp2_with fail
  refine (toS_sl _ hrp (hp.below (TE.start rfl).below)).mono ?_
  rintro e w1 ⟨rfl, hp1, hb1⟩
  have h1 := (TE.start rfl).mono hb1
  have a0 := h1.a0
  have a2 := h1.a2
  have f2 := h1.f2
  go_wp2_with fail
  have h1s := h1.set 6 (by simp) (.slice (some ⟨w.heap.size + 1 + 1 + 1, 0, none⟩) np np)
  refine (toS_sl _ hra (ha.below h1s.below)).mono ?_
  rintro e w2 ⟨rfl, ha2, hb2⟩
  have h2 := h1s.mono hb2
  clear a0 a2 f2
  have a0 := h2.a0
  have a2 := h2.a2
  have f2 := h2.f2
  go_wp2_with fail
  have h2s := (h2.set 7 (by simp) (.slice (some ⟨w1.heap.size, 0, none⟩) na na)).set 8 (by simp) (.string val)
  refine (toG_sl _ hrg (hg.below h2s.below)).mono ?_
  rintro e w3 ⟨rfl, hg3, hb3⟩
  have h3 := h2s.mono hb3
  clear a0 a2 f2
  have a2 := h3.a2
  have f2 := h3.f2
  have f1 := h3.f1
  have b1 := h3.a1
  obtain ⟨x0, y0⟩ := b1 0 (by decide)
  obtain ⟨x1, y1⟩ := b1 1 (by decide)
  obtain ⟨x2, y2⟩ := b1 2 (by decide)
  obtain ⟨x3, y3⟩ := b1 3 (by decide)
  obtain ⟨x4, y4⟩ := b1 4 (by decide)
  obtain ⟨x5, y5⟩ := b1 5 (by decide)
  obtain ⟨x6, y6⟩ := b1 6 (by decide)
  obtain ⟨x7, y7⟩ := b1 7 (by decide)
  obtain ⟨x8, y8⟩ := b1 8 (by decide)
  obtain ⟨x9, y9⟩ := b1 9 (by decide)
  clear b1
  have hz1 := h1.size
  have hz2 := h2.size
  have hp1' : SlS w1 (some ⟨w.heap.size + 1 + 1 + 1, 0, none⟩) np np Pv := by simpa using hp1
  have ha2' : SlS w2 (some ⟨w1.heap.size, 0, none⟩) na na Av := by simpa [World.setCell] using ha2
  have hg3' : SlG w3 (some ⟨w2.heap.size, 0, none⟩) ng ng M L := by simpa [World.setCell] using hg3
  have hp3 := (((hp1'.set (by omega) _).below hb2).set (C := w.heap.size + 1 + 1) (j := 7) (by omega) (.slice (some ⟨w1.heap.size, 0, none⟩) na na)).set (C := w.heap.size + 1 + 1) (j := 8) (by omega) (.string val) |>.below hb3
  have ha3 := ((ha2'.set (C := w.heap.size + 1 + 1) (j := 7) (by omega) (.slice (some ⟨w1.heap.size, 0, none⟩) na na)).set (C := w.heap.size + 1 + 1) (j := 8) (by omega) (.string val)).below hb3
  clear hp1 ha2 hg3 hp ha hg hp1' ha2' h1s h2s hb1 hb2 hb3
  go_wp2
  refine bodyPost_ret (v := evV id sd ty key val st tm (some ⟨w.heap.size + 1 + 1 + 1, 0, none⟩) np np (some ⟨w1.heap.size, 0, none⟩) na na (some ⟨w2.heap.size, 0, none⟩) ng ng)
    (by simp [results, Tryz.results36, go_sem, y0, y1, y2, y3, y4, y5, y6, y7, y8, y9]) rfl ⟨_, _, _, rfl, ?_, ?_, ?_, ?_, by omega, by omega, by omega⟩
  · iterate 11 (refine SlS.set ?_ (by omega) _)
    exact hp3
  · iterate 11 (refine SlS.set ?_ (by omega) _)
    exact ha3
  · iterate 11 (refine SlG.set ?_ (by omega) _)
    exact hg3'
  · iterate 10 (refine Below.setCell ?_ (Nat.le_add_right _ _) _)
    refine Below.setCell ?_ (Nat.le_add_right _ 2) _
    exact h3.below

theorem toEv_any (hrp : np * 16 ≤ 140737488351232) (hra : na * 16 ≤ 140737488351232) (hrg : ng * 24 ≤ 140737488351232)
    (hp : SlS w pa np cp Pv) (ha : SlS w aa na ca Av) (hg : SlG w ga ng cg M L) :
    Calls Tryz.prog 36 #[evV id sd ty key val st tm pa np cp aa na ca ga ng cg] w fun e w' =>
      ∃ bp ba bg : Nat, e = .returned (evV id sd ty key val st tm (some ⟨bp, 0, none⟩) np np (some ⟨ba, 0, none⟩) na na (some ⟨bg, 0, none⟩) ng ng) ∧
        SlS w' (some ⟨bp, 0, none⟩) np np Pv ∧ SlS w' (some ⟨ba, 0, none⟩) na na Av ∧ SlG w' (some ⟨bg, 0, none⟩) ng ng M L ∧ Below w.heap.size w w' := by
  refine (toEv_fresh id sd ty key val st tm pa np cp aa na ca ga ng cg Pv Av M L w hrp hra hrg hp ha hg).mono ?_
  rintro e w' ⟨bp, ba, bg, h1, h2, h3, h4, h5, _⟩
  exact ⟨bp, ba, bg, h1, h2, h3, h4, h5⟩
end
end Go.Proofs.YtfjfhnjoghlbfaaGreat
namespace Go.Proofs.YtfjfhnjoghlbfaaGreat
open Go.RowKit

section
variable (id sd ty key val : ByteArray) (st : Bool) (tm : Int) (pa : Option Addr) (np cp : Nat) (aa : Option Addr) (na ca : Nat) (ga : Option Addr) (ng cg : Nat)
  (pa' : Option Addr) (cp' : Nat) (aa' : Option Addr) (ca' : Nat) (ga' : Option Addr) (cg' : Nat) (Pv Av M : Nat → ByteArray) (L : Nat → Int) (w : World)

set_option maxHeartbeats 2000000 in
theorem eqEv_any (hp : SlS w pa np cp Pv) (ha : SlS w aa na ca Av) (hg : SlG w ga ng cg M L) (hp' : SlS w pa' np cp' Pv) (ha' : SlS w aa' na ca' Av) (hg' : SlG w ga' ng cg' M L) :
    Calls Tryz.prog 47 #[evV id sd ty key val st tm pa np cp aa na ca ga ng cg, evV id sd ty key val st tm pa' np cp' aa' na ca' ga' ng cg'] w fun e w' =>
      e = .returned (.bool true) ∧ Below w.heap.size w w' := by
  have hb0 : ∀ o o2, Below w.heap.size w ((w.alloc o).alloc o2) := fun o o2 => ((Below.refl _ _).alloc (Nat.le_refl _) _).alloc (by simp) _
  go_enter Tryz.func47, Tryz.ntmps47
  go_wp2_with fail
  refine (eqS_sl _ (hp.below (hb0 _ _)) (hp'.below (hb0 _ _))).mono ?_
  rintro e w' ⟨rfl, q1, rfl⟩
  go_wp2_with fail
  refine (eqS_sl _ (ha.below ((hb0 _ _).trans (Dr.below ⟨_, rfl⟩ _))) (ha'.below ((hb0 _ _).trans (Dr.below ⟨_, rfl⟩ _)))).mono ?_
  rintro e w' ⟨rfl, q2, rfl⟩
  go_wp2_with fail
  refine (eqG_sl _ (hg.below ((hb0 _ _).trans (Dr.below ⟨_, rfl⟩ _))) (hg'.below ((hb0 _ _).trans (Dr.below ⟨_, rfl⟩ _)))).mono ?_
  rintro e w3 ⟨rfl, hb3⟩
  go_wp2
  go_ret
  exact ⟨rfl, ((hb0 _ _).trans (Dr.below ⟨_, rfl⟩ _)).trans (hb3.mono (by simp; omega))⟩
end
end Go.Proofs.YtfjfhnjoghlbfaaGreat
