/-
  impl's cloneEvent.
-/
import Derived.Test.YtpdnocfefmobjaaClI
import Derived.Test.YtpdnocfefmobjaaToR
namespace Go.Proofs.Ytpdnocfefmobjaa
open Go.RowKit

/-- the slice's block is one of lo .. hi. -/
def Iv (a : Option Addr) (n lo hi : Nat) : Prop := n = 0 ∨ ∃ b off, a = some ⟨b, off, none⟩ ∧ lo ≤ b ∧ b < hi
theorem SlW.iv {w : World} {base n sz : Nat} {a : Option Addr} (h : SlW w base a n sz) : Iv a n base w.heap.size :=
  h.imp id fun ⟨b, off, e, h1, h2, _⟩ => ⟨b, off, e, h1, h2⟩
theorem Iv.wide {a : Option Addr} {n lo hi lo' hi' : Nat} (h : Iv a n lo hi) (h1 : lo' ≤ lo) (h2 : hi ≤ hi') : Iv a n lo' hi' :=
  h.imp id fun ⟨b, off, e, q1, q2⟩ => ⟨b, off, e, by omega, by omega⟩
theorem SlS.setF {w : World} {a : Option Addr} {n cap C j lo hi : Nat} {S : Nat → ByteArray} (h : SlS w a n cap S) (hv : Iv a n lo hi) (hC : C < lo ∨ hi ≤ C) (x : Value) : SlS (w.setCell ⟨C, j, none⟩ x) a n cap S := by
  refine ⟨h.le, h.max, h.size, ?_⟩
  rcases hv with h0 | ⟨b, off, rfl, h1, h2⟩
  · exact Or.inl h0
  · refine h.cells.imp id fun ⟨b', off', e, hlt, hc⟩ => ⟨b', off', e, by simpa [World.setCell] using hlt, fun i hi => ?_⟩
    have e2 : b = b' := by injection e with e; injection e
    rw [far_block (by omega)]
    exact hc i hi
theorem SlG.setF {w : World} {a : Option Addr} {n cap C j lo hi : Nat} {M : Nat → ByteArray} {L : Nat → Int} (h : SlG w a n cap M L) (hv : Iv a n lo hi) (hC : C < lo ∨ hi ≤ C) (x : Value) : SlG (w.setCell ⟨C, j, none⟩ x) a n cap M L := by
  refine ⟨h.le, h.max, h.size, ?_⟩
  rcases hv with h0 | ⟨b, off, rfl, h1, h2⟩
  · exact Or.inl h0
  · refine h.cells.imp id fun ⟨b', off', e, hlt, hc, hl⟩ => ⟨b', off', e, by simpa [World.setCell] using hlt, fun i hi => ?_, fun i hi => ?_⟩
    all_goals
      have e2 : b = b' := by injection e with e; injection e
      rw [far_block (by omega)]
    · exact hc i hi
    · exact hl i hi
theorem SlW.setF {w : World} {a : Option Addr} {n sz base C j lo hi : Nat} (h : SlW w base a n sz) (hv : Iv a n lo hi) (hC : C < lo ∨ hi ≤ C) (x : Value) : SlW (w.setCell ⟨C, j, none⟩ x) base a n sz := by
  rcases hv with h0 | ⟨b, off, rfl, h1, h2⟩
  · exact Or.inl h0
  · refine h.imp id fun ⟨b', off', e, q1, q2, hc⟩ => ⟨b', off', e, q1, by simpa [World.setCell] using q2, fun i hi => ?_⟩
    have e2 : b = b' := by injection e with e; injection e
    rw [far_block (by omega), World.frozen?_setCell]
    exact hc i hi

/-- the event's lists lie in blocks of their own, lo .. hi. -/
structure EvIv (w : World) (e : Ev) (pa : Option Addr) (cp : Nat) (aa : Option Addr) (ca : Nat) (ga : Option Addr) (cg lo m1 m2 hi : Nat) : Prop where
  ok : EvOk w e pa cp aa ca ga cg
  wp : SlW w lo pa e.np 1
  wa : SlW w m1 aa e.na 1
  wg : SlW w m2 ga e.ng 2
  ip : Iv pa e.np lo m1
  ia : Iv aa e.na m1 m2
  ig : Iv ga e.ng m2 hi
  hh : lo ≤ m1 ∧ m1 ≤ m2 ∧ m2 ≤ hi ∧ hi ≤ w.heap.size
theorem EvIv.below {w w' : World} {e : Ev} {pa : Option Addr} {cp : Nat} {aa : Option Addr} {ca : Nat} {ga : Option Addr} {cg lo m1 m2 hi : Nat} (h : EvIv w e pa cp aa ca ga cg lo m1 m2 hi) (hb : Below w.heap.size w w') : EvIv w' e pa cp aa ca ga cg lo m1 m2 hi :=
  ⟨h.ok.below hb, h.wp.below hb, h.wa.below hb, h.wg.below hb, h.ip, h.ia, h.ig, h.hh.1, h.hh.2.1, h.hh.2.2.1, Nat.le_trans h.hh.2.2.2 hb.size⟩
theorem EvIv.set {w : World} {e : Ev} {pa : Option Addr} {cp : Nat} {aa : Option Addr} {ca : Nat} {ga : Option Addr} {cg lo m1 m2 hi C j : Nat} (h : EvIv w e pa cp aa ca ga cg lo m1 m2 hi) (hC : C < lo ∨ hi ≤ C) (x : Value) : EvIv (w.setCell ⟨C, j, none⟩ x) e pa cp aa ca ga cg lo m1 m2 hi := by
  have hh := h.hh
  exact ⟨⟨h.ok.hid, h.ok.hsd, h.ok.hty, h.ok.hkey, h.ok.hval, h.ok.hp.setF h.ip (by omega) x, h.ok.ha.setF h.ia (by omega) x, h.ok.hg.setF h.ig (by omega) x⟩, h.wp.setF h.ip (by omega) x, h.wa.setF h.ia (by omega) x, h.wg.setF h.ig (by omega) x, h.ip, h.ia, h.ig, hh.1, hh.2.1, hh.2.2.1, by simpa [World.setCell] using hh.2.2.2⟩

/-- block B (the argument's box) holds c0, block B + 1 (the result) ten cells. -/
structure CE (w : World) (B : Nat) (c0 : Array Value) (wx : World) : Prop where
  a0 : ∀ o, wx.cell? ⟨B, o, none⟩ = c0[o]?
  a1 : ∀ o, o < 10 → ∃ v, wx.cell? ⟨B + 1, o, none⟩ = some v
  f0 : ∀ o, wx.frozen? ⟨B, o, none⟩ = false
  f1 : ∀ o, wx.frozen? ⟨B + 1, o, none⟩ = false
  size : B + 1 < wx.heap.size
  hB : B = w.heap.size
  below : Below w.heap.size w wx
theorem CE.mono {w wx wy : World} {B : Nat} {c0 : Array Value} (h : CE w B c0 wx) (hb : Below wx.heap.size wx wy) : CE w B c0 wy :=
  have hs := h.size
  ⟨fun o => (hb.cell (by show B < _; omega)).trans (h.a0 o), fun o ho => (h.a1 o ho).imp fun _ hv => (hb.cell (by exact hs)).trans hv,
    fun o => (hb.frozen (by show B < _; omega)).trans (h.f0 o), fun o => (hb.frozen (by exact hs)).trans (h.f1 o), Nat.lt_of_lt_of_le hs hb.size, h.hB, h.below.trans (hb.mono h.below.size)⟩
theorem CE.set {w wx : World} {B : Nat} {c0 : Array Value} (h : CE w B c0 wx) (j : Nat) (hj : j < c0.size) (x : Value) : CE w B (c0.setIfInBounds j x) (wx.setCell ⟨B, j, none⟩ x) := by
  refine ⟨fun o => ?_, fun o ho => by rw [far_block (by omega)]; exact h.a1 o ho, fun o => by rw [World.frozen?_setCell]; exact h.f0 o, fun o => by rw [World.frozen?_setCell]; exact h.f1 o, by simpa [World.setCell] using h.size, h.hB, h.below.setCell (by have := h.hB; show _ ≤ B; omega) _⟩
  by_cases e : o = j
  · subst e
    rw [set_same ⟨c0[o], by rw [h.a0]; exact Array.getElem?_eq_getElem hj⟩]
    simp [hj]
  · rw [set_far e, h.a0, Array.getElem?_setIfInBounds_ne (by omega)]
theorem CE.start {w : World} {c0 c1 : Array Value} {t0 t1 : TypeId} (h : c1.size = 10) : CE w w.heap.size c0 ((w.alloc (.cells c0 t0)).alloc (.cells c1 t1)) := by
  refine ⟨fun o => ?_, fun o ho => ⟨c1[o], ?_⟩, fun o => ?_, fun o => World.frozen?_alloc_at _ _ _ _ (by simp), by simp, rfl, ((Below.refl _ _).alloc (Nat.le_refl _) _).alloc (by simp) _⟩
  · rw [World.cell?_alloc_past _ _ _ (by simp), World.cell?_alloc_at _ _ _ _ rfl]
  · rw [World.cell?_alloc_at _ _ _ _ (by simp)]
    exact Array.getElem?_eq_getElem (by omega)
  · rw [World.frozen?_alloc_past _ _ _ (by simp)]
    exact World.frozen?_alloc_at _ _ _ _ rfl

/-- what a copy of an event is. -/
def CpPo (w : World) (e : Ev) (x : Ending) (w' : World) : Prop := ∃ pa cp aa ca ga cg m1 m2 lo, x = .returned (.agg #[.string e.id, .string e.sd, .string e.ty, .bool e.st, .string e.key, .int .i64 e.tm, .slice pa e.np cp, .slice aa e.na ca, .string e.val, .slice ga e.ng cg]) ∧ EvIv w' e pa cp aa ca ga cg lo m1 m2 w'.heap.size ∧ w.heap.size ≤ lo ∧ Below w.heap.size w w'

set_option maxRecDepth 100000 in
set_option maxHeartbeats 2000000 in
theorem ceI_any (e : Ev) {pa aa ga : Option Addr} {cp ca cg : Nat} (w : World) (hr : EvReach e) (he : EvOk w e pa cp aa ca ga cg) :
    Calls Try.prog 25 #[.agg #[.string e.id, .string e.sd, .string e.ty, .bool e.st, .string e.key, .int .i64 e.tm, .slice pa e.np cp, .slice aa e.na ca, .string e.val, .slice ga e.ng cg]] w (CpPo w e) := by
  obtain ⟨hr1, hr2, hr3⟩ := hr
  have hbA : Below w.heap.size w ((w.alloc (.cells #[.string e.id, .string e.sd, .string e.ty, .bool e.st, .string e.key, .int .i64 e.tm, .slice pa e.np cp, .slice aa e.na ca, .string e.val, .slice ga e.ng cg] 39)).alloc (.cells #[.string ⟨#[]⟩, .string ⟨#[]⟩, .string ⟨#[]⟩, .bool false, .string ⟨#[]⟩, .int .i64 0, .slice none 0 0, .slice none 0 0, .string ⟨#[]⟩, .slice none 0 0] 39)) := ((Below.refl _ _).alloc (Nat.le_refl _) _).alloc (by simp) _
  go_enter Try.func25, Try.ntmps25
  go_wp2_with fail
  refine (clS_sl _ (by omega) (he.hp.below (CE.start rfl).below)).mono ?_
  rintro x w1 ⟨p1, d1, rfl, hp1, wp1, hb1⟩
  have h1 := (CE.start rfl).mono hb1
  have a0 := h1.a0
  have f0 := h1.f0
  have hz1 := h1.size
  go_wp2_with fail
  have h1s := h1.set 6 (by simp) (.slice p1 e.np d1)
  refine (clS_sl _ (by omega) (he.ha.below h1s.below)).mono ?_
  rintro x w2 ⟨p2, d2, rfl, ha2, wa2, hb2⟩
  have h2 := h1s.mono hb2
  clear a0 f0
  have a0 := h2.a0
  have f0 := h2.f0
  have hz2 := h2.size
  go_wp2_with fail
  have h2s := h2.set 7 (by simp) (.slice p2 e.na d2)
  refine (clG_sl _ (by omega) (he.hg.below h2s.below)).mono ?_
  rintro x w3 ⟨p3, d3, rfl, hg3, wg3, hb3⟩
  have h3 := h2s.mono hb3
  clear a0 f0
  have a0 := h3.a0
  have f0 := h3.f0
  have f1 := h3.f1
  have b1 := h3.a1
  have hz3 := h3.size
  obtain ⟨x0, y0⟩ := b1 0 (by decide)
  obtain ⟨x1, y1⟩ := b1 1 (by decide)
  obtain ⟨x2, y2⟩ := b1 2 (by decide)
  obtain ⟨x3, y3⟩ := b1 3 (by decide)
  obtain ⟨x4, y4⟩ := b1 4 (by decide)
  obtain ⟨x5, y5⟩ := b1 5 (by decide)
  obtain ⟨x6, y6⟩ := b1 6 (by decide)
  obtain ⟨x7, y7⟩ := b1 7 (by decide)
  obtain ⟨x8, y8⟩ := b1 8 (by decide)
  obtain ⟨x9, y9⟩ := b1 9 (by decide)
  have HI : Hid (EvIv w3 e p1 d1 p2 d2 p3 d3 (w.heap.size + 2) w1.heap.size w2.heap.size w3.heap.size) := by
    have s1 : (w1.setCell ⟨w.heap.size, 6, none⟩ (.slice p1 e.np d1)).heap.size = w1.heap.size := by simp [World.setCell]
    have s2 : (w2.setCell ⟨w.heap.size, 7, none⟩ (.slice p2 e.na d2)).heap.size = w2.heap.size := by simp [World.setCell]
    have q1 := wp1.iv
    have q2 := wa2.iv
    have q3 := wg3.iv
    simp only [World.size_alloc] at q1 wp1
    rw [s1] at q2 wa2
    rw [s2] at q3 wg3
    have L1 : w.heap.size + 2 ≤ w1.heap.size := by omega
    have L2 : w1.heap.size ≤ w2.heap.size := by have := hb2.size; rw [s1] at this; exact this
    have L3 : w2.heap.size ≤ w3.heap.size := by have := hb3.size; rw [s2] at this; exact this
    have ok3 := he.below h3.below
    refine ⟨⟨ok3.hid, ok3.hsd, ok3.hty, ok3.hkey, ok3.hval, ?_, ?_, hg3⟩, ?_, ?_, wg3, q1, q2, q3, L1, L2, L3, Nat.le_refl _⟩
    · exact (((hp1.setF q1 (Or.inl (by omega)) _).below hb2).setF q1 (Or.inl (by omega)) _).below hb3
    · exact (ha2.setF q2 (Or.inl (by omega)) _).below hb3
    · exact (((wp1.setF q1 (Or.inl (by omega)) _).below hb2).setF q1 (Or.inl (by omega)) _).below hb3
    · exact (wa2.setF q2 (Or.inl (by omega)) _).below hb3
  clear b1 hp1 wp1 ha2 wa2 hg3 wg3 h1s h2s hb1 hb2 hb3 he
  go_wp2
  refine bodyPost_ret (v := .agg #[.string e.id, .string e.sd, .string e.ty, .bool e.st, .string e.key, .int .i64 e.tm, .slice p1 e.np d1, .slice p2 e.na d2, .string e.val, .slice p3 e.ng d3])
    (by simp [results, Try.results25, go_sem, y0, y1, y2, y3, y4, y5, y6, y7, y8, y9]) rfl ⟨p1, d1, p2, d2, p3, d3, w1.heap.size, w2.heap.size, w.heap.size + 2, rfl, ?_, by omega, ?_⟩
  · have : ∀ W : World, W.heap.size = w3.heap.size → EvIv W e p1 d1 p2 d2 p3 d3 (w.heap.size + 2) w1.heap.size w2.heap.size w3.heap.size → EvIv W e p1 d1 p2 d2 p3 d3 (w.heap.size + 2) w1.heap.size w2.heap.size W.heap.size := fun W hW hI => by rw [hW]; exact hI
    refine this _ (by simp [World.setCell]) ?_
    iterate 11 (refine EvIv.set ?_ (Or.inl (by omega)) _)
    exact HI.out
  · iterate 10 (refine Below.setCell ?_ (Nat.le_add_right _ _) _)
    refine Below.setCell ?_ (by show w.heap.size ≤ w.heap.size; exact Nat.le_refl _) _
    exact h3.below
end Go.Proofs.Ytpdnocfefmobjaa
