import Derived.Test.YtihacnhmiopalaaDoorRdGT
import Derived.Test.YtihacnhmiopalaaDoorContSZT
namespace Go.Proofs.YtihacnhmiopalaaDoor
open Go.RowKit
theorem tm_of (l : ByteArray) : peTm l = (numN (cS 32 l 4).data.toList).map Int.ofNat := by
 unfold peTm numV
 by_cases h45 : (cS 32 l 4).data.toList.head? = some 45
 ·have hn : numN (cS 32 l 4).data.toList = none := numN_none fun hp => by
   cases hl : (cS 32 l 4).data.toList with
   | nil => rw [hl] at h45; cases h45
   | cons a r =>
    rw [hl] at h45
    have : dig a = true := hp.1.2.1 a (by rw [hl]; simp)
    simp only [List.head?_cons, Option.some.injEq] at h45
    rw [h45] at this; exact absurd this (by decide)
  rw [if_pos h45, hn]
  cases hr : numN (cS 32 l 4).data.toList.tail with
  | none => rfl
  | some n =>
   simp only
   split
   ·rfl
   ·rename_i h0
    simp only [Option.bind_some, Option.map_none]
    rw [if_pos (by omega)]
 ·rw [if_neg h45]
  cases hr : numN (cS 32 l 4).data.toList with
  | none => rfl
  | some n =>
   simp only [Option.bind_some, Option.map_some]
   rw [if_neg (by omega)]; rfl
def SlB (a : Option Addr) (n lo hi : Nat) : Prop := n = 0 ∨ ∃ b off, a = some ⟨b, off, none⟩ ∧ lo <= b ∧ b < hi
theorem SlW.slb {w : World} {base n sz : Nat} {a : Option Addr} (h : SlW w base a n sz) : SlB a n base w.heap.size :=
 h.imp id fun ⟨b, off, e, h1, h2, _⟩ => ⟨b, off, e, h1, h2⟩
structure EvIn (l : ByteArray) (w w' : World) (pa : Option Addr) (cp : Nat) (aa : Option Addr) (ca : Nat) (ga : Option Addr) (cg h1 h2 : Nat) : Prop where
 hp : SlS w' pa (rN (cS 32 l 5)) cp (cS 44 (cS 32 l 5))
 ha : SlS w' aa (rN (cS 32 l 6)) ca (cS 44 (cS 32 l 6))
 hg : SlG w' ga (peN l) cg (gMp (cS 32 l 7)) (gLp (cS 32 l 7))
 wp : SlW w' w.heap.size pa (rN (cS 32 l 5)) 1
 wa : SlW w' w.heap.size aa (rN (cS 32 l 6)) 1
 wg : SlW w' w.heap.size ga (peN l) 2
 bg : SlB ga (peN l) w.heap.size h1
 bp : SlB pa (rN (cS 32 l 5)) h1 h2
 ba : SlB aa (rN (cS 32 l 6)) h2 w'.heap.size
 hh : w.heap.size <= h1 ∧ h1 <= h2 ∧ h2 <= w'.heap.size
def FormPost (l : ByteArray) (w : World) (e : Ending) (w' : World) : Prop :=
 Below w.heap.size w w' ∧ ((peForm l = false ∧ e = .returned (.tuple #[noV, .bool false])) ∨
  (peForm l = true ∧ ∃ pa cp aa ca ga cg h1 h2, e = .returned (.tuple #[peV l pa cp aa ca ga cg, .bool true]) ∧ EvIn l w w' pa cp aa ca ga cg h1 h2))
structure RS (w wx : World) : Prop where
 r : ∀ o, o < 10 -> ∃ v, wx.cell? ⟨w.heap.size, o, none⟩ = some v
 rf : ∀ o, wx.frozen? ⟨w.heap.size, o, none⟩ = false
 size : w.heap.size < wx.heap.size
 below : Below w.heap.size w wx
theorem RS.mono {w wx wy : World} (h : RS w wx) (hb : Below wx.heap.size wx wy) : RS w wy :=
 have hs := h.size
 ⟨fun o ho => (h.r o ho).imp fun _ hv => (hb.cell (by exact hs)).trans hv, fun o => (hb.frozen (by exact hs)).trans (h.rf o), Nat.lt_of_lt_of_le hs hb.size, h.below.trans (hb.mono h.below.size)⟩
theorem RS.start (w : World) (cs : Array Value) (hc : cs.size = 10) (t : TypeId) : RS w (w.alloc (.cells cs t)) :=
 ⟨fun o ho => cell_made w cs t o (by omega), fun o => World.frozen?_alloc_at _ _ _ _ rfl, by simp, (Below.refl _ _).alloc (Nat.le_refl _) _⟩
def Apart (a : Option Addr) (n B : Nat) : Prop := n = 0 ∨ ∃ b off, a = some ⟨b, off, none⟩ ∧ b ≠ B
theorem SlW.apart {w : World} {base n sz B : Nat} {a : Option Addr} (h : SlW w base a n sz) (hB : B < base ∨ w.heap.size <= B) : Apart a n B :=
 h.imp id fun ⟨b, off, e, h1, h2, _⟩ => ⟨b, off, e, by omega⟩
theorem SlS.setA {w : World} {a : Option Addr} {n cap B j : Nat} {S : Nat -> ByteArray} {x : Value} (hA : Apart a n B) (h : SlS w a n cap S) : SlS (w.setCell ⟨B, j, none⟩ x) a n cap S := by
 refine ⟨h.le, h.max, h.size, ?_⟩
 rcases hA with h0 | ⟨b, off, rfl, hne⟩
 ·exact Or.inl h0
 ·rcases h.cells with h0 | ⟨b', off', e, hlt, hc⟩
  ·exact Or.inl h0
  ·refine Or.inr ⟨b', off', e, by simpa [World.setCell] using hlt, fun i hi => ?_⟩
   have e2 : b = b' := by injection e with e; injection e
   rw [far_block (by omega)]; exact hc i hi
theorem SlG.setA {w : World} {a : Option Addr} {n cap B j : Nat} {M : Nat -> ByteArray} {L : Nat -> Int} {x : Value} (hA : Apart a n B) (h : SlG w a n cap M L) : SlG (w.setCell ⟨B, j, none⟩ x) a n cap M L := by
 refine ⟨h.le, h.max, h.size, ?_⟩
 rcases hA with h0 | ⟨b, off, rfl, hne⟩
 ·exact Or.inl h0
 ·rcases h.cells with h0 | ⟨b', off', e, hlt, hc, hv⟩
  ·exact Or.inl h0
  ·have e2 : b = b' := by injection e with e; injection e
   refine Or.inr ⟨b', off', e, by simpa [World.setCell] using hlt, fun i hi => ?_, fun i hi => ?_⟩
   ·rw [far_block (by omega)]; exact hc i hi
   ·rw [far_block (by omega)]; exact hv i hi
theorem SlW.setA {w : World} {base n sz B j : Nat} {a : Option Addr} {x : Value} (hA : Apart a n B) (h : SlW w base a n sz) : SlW (w.setCell ⟨B, j, none⟩ x) base a n sz := by
 rcases hA with h0 | ⟨b, off, rfl, hne⟩
 ·exact Or.inl h0
 ·rcases h with h0 | ⟨b', off', e, h1, h2, hc⟩
  ·exact Or.inl h0
  ·have e2 : b = b' := by injection e with e; injection e
   refine Or.inr ⟨b', off', e, h1, by simpa [World.setCell] using h2, fun i hi => ?_⟩
   rw [far_block (by omega), World.frozen?_setCell]; exact hc i hi
theorem form_v {l : ByteArray} (h : vOk (cS 32 l 7) = false) : peForm l = false := by
 have : (!peGr l || gAp (cS 32 l 7)) = false := h
 unfold peForm; rw [this]; simp
theorem split_cells (s : ByteArray) (c : UInt8) (w : World) (H : Nat) (hH : w.heap.size = H) (hs : s.size <= 1048576) (hm : MaxL w) :
  Calls Tryd.prog 40 #[.string s, .string ⟨#[c]⟩] w fun e w' => e = .returned (.slice (some ⟨H, 0, none⟩) (cN c s) (cN c s)) ∧ (∀ i, i < cN c s -> w'.cell? ⟨H, 0 + i, none⟩ = some (.string (cS c s i))) ∧ Below w.heap.size w w' ∧ H < w'.heap.size := by
 subst hH
 refine (split_any s c w hs hm).mono ?_
 rintro e w' ⟨rfl, rfl⟩
 refine ⟨rfl, fun i hi => ?_, (Below.refl _ _).alloc (Nat.le_refl _) _, by simp⟩
 rcases (split_sl c s w 9 hs).1.cells with h | ⟨b, off, e, _, hc⟩
 ·omega
 ·have e1 : w.heap.size = b := by injection e with e; injection e
  have e2 : (0 : Nat) = off := by injection e with e; injection e
  subst e1 e2
  exact hc i hi
set_option maxRecDepth 100000 in
set_option maxHeartbeats 3200000 in
theorem formI_any (l : ByteArray) (w : World) (hs : l.size <= 1048576) (hm : MaxL w) :
    Calls Tryd.prog 26 #[.string l] w (FormPost l w) := by
  have hN := cN_le 32 l
  have hrs0 := RS.start w #[.string ByteArray.empty, .string ByteArray.empty, .string ByteArray.empty, .bool false, .string ByteArray.empty, .int .i64 0, .slice none 0 0, .slice none 0 0, .string ByteArray.empty, .slice none 0 0] rfl 26
  have hkey : Hid (∀ W, Calls Tryd.prog 41 #[.string (cS 32 l 3)] W fun e w' => e = .returned (.tuple #[.bool (peSt l), .string (peKey l), .bool (peSt l || dashQ (cS 32 l 3))]) ∧ w' = W) := fun W => rdKey_any (cS 32 l 3) W
  go_enter Tryd.func26, Tryd.ntmps26
  go_wp2_with fail
  refine (split_cells l 32 _ (w.heap.size + 1) (by simp) hs (hm.below hrs0.below)).mono ?_
  rintro e w1 ⟨rfl, hgx, hb1, hsz1⟩
  have hrs := hrs0.mono hb1
  clear hb1 hrs0
  by_cases h8 : cN 32 l = 8
  · have hc : ∀ i, i < 8 -> w1.cell? ⟨w.heap.size + 1, 0 + i, none⟩ = some (.string (cS 32 l i)) := fun i hi => hgx i (by omega)
    have hsz : ∀ i, i < 8 -> (cS 32 l i).size <= 1048576 := fun i hi => Nat.le_trans (cS_size 32 l i (by omega)) hs
    have Hh : Hid (∀ W, (∀ i, i < 8 -> W.cell? ⟨w.heap.size + 1, 0 + i, none⟩ = some (.string (cS 32 l i))) -> Calls Tryd.prog 39 #[.slice (some ⟨w.heap.size + 1, 0, none⟩) 8 8, .string ByteArray.empty] W fun e w' => e = .returned (.bool (hasB (cS 32 l) 8 ByteArray.empty)) ∧ w' = W) := fun W hW => contains_any (w.heap.size + 1) 0 8 8 (cS 32 l) ByteArray.empty W (by decide) hW
    simp only [h8]
    cases hh : hasB (cS 32 l) 8 ByteArray.empty
    · have Hhead : Hid (peHead l = true) := by unfold Hid peHead; rw [h8, hh]; rfl
      clear h8 hN hgx
      go_wp2_with fail
      refine (Hh.out _ hc).mono ?_
      rintro e w1 ⟨rfl, rfl⟩
      rw [hh]
      clear Hh
      have p0 : w1.cell? ⟨w.heap.size + 1, 0, none⟩ = some (.string (cS 32 l 0)) := hc 0 (by decide)
      have p1 : w1.cell? ⟨w.heap.size + 1, 1, none⟩ = some (.string (cS 32 l 1)) := hc 1 (by decide)
      have p2 : w1.cell? ⟨w.heap.size + 1, 2, none⟩ = some (.string (cS 32 l 2)) := hc 2 (by decide)
      have p3 : w1.cell? ⟨w.heap.size + 1, 3, none⟩ = some (.string (cS 32 l 3)) := hc 3 (by decide)
      have p4 : w1.cell? ⟨w.heap.size + 1, 4, none⟩ = some (.string (cS 32 l 4)) := hc 4 (by decide)
      have p5 : w1.cell? ⟨w.heap.size + 1, 5, none⟩ = some (.string (cS 32 l 5)) := hc 5 (by decide)
      have p6 : w1.cell? ⟨w.heap.size + 1, 6, none⟩ = some (.string (cS 32 l 6)) := hc 6 (by decide)
      have p7 : w1.cell? ⟨w.heap.size + 1, 7, none⟩ = some (.string (cS 32 l 7)) := hc 7 (by decide)
      clear hc
      go_wp2_with fail
      refine (hkey.out _).mono ?_
      rintro e w1 ⟨rfl, rfl⟩
      go_wp2_with fail
      refine (digI_any (cS 32 l 4) _ (hsz 4 (by decide))).mono ?_
      rintro e w1 ⟨tv, tok, rfl, htr, ⟨tn, rfl, htn⟩, rfl⟩
      go_wp2_with fail
      refine (rdVal_any (cS 32 l 7) _ (hsz 7 (by decide)) (hm.below hrs.below)).mono ?_
      rintro e w2 ⟨hb2, hpost⟩
      have hrs2 := hrs.mono hb2
      have hl2 : w.heap.size + 1 < w2.heap.size := Nat.lt_of_lt_of_le hsz1 hb2.size
      rcases hpost with ⟨hvo, rfl⟩ | ⟨hvo, ga, cg, rfl, hsg, hsw⟩
      · have hbad : Hid (peForm l = false) := form_v hvo
        clear p0 p1 p2 p3 p4 p5 p6 p7 htr
        cases hk : (peSt l || dashQ (cS 32 l 3)) <;> cases tok
        all_goals
          have r' := hrs2.r
          obtain ⟨x0, y0⟩ := r' 0 (by decide)
          obtain ⟨x1, y1⟩ := r' 1 (by decide)
          obtain ⟨x2, y2⟩ := r' 2 (by decide)
          obtain ⟨x3, y3⟩ := r' 3 (by decide)
          obtain ⟨x4, y4⟩ := r' 4 (by decide)
          obtain ⟨x5, y5⟩ := r' 5 (by decide)
          obtain ⟨x6, y6⟩ := r' 6 (by decide)
          obtain ⟨x7, y7⟩ := r' 7 (by decide)
          obtain ⟨x8, y8⟩ := r' 8 (by decide)
          obtain ⟨x9, y9⟩ := r' 9 (by decide)
          have f1 := hrs2.rf
          have hbB := hrs2.below
          clear r'
          go_wp2
          refine bodyPost_ret (v := .tuple #[noV, .bool false]) (by simp [results, Tryd.results26, go_sem, y0, y1, y2, y3, y4, y5, y6, y7, y8, y9] <;> rfl) rfl ⟨?_, Or.inl ⟨hbad.out, rfl⟩⟩
          iterate 10 (refine Below.setCell ?_ (show _ <= w.heap.size from Nat.le_refl _) _)
          exact hbB
      cases hk : (peSt l || dashQ (cS 32 l 3))
      · have hbad : Hid (peForm l = false) := by
          rw [Bool.or_eq_false_iff] at hk
          exact form_key hk.1 hk.2
        clear p0 p1 p2 p3 p4 p5 p6 p7 htr
        have r' := hrs2.r
        obtain ⟨x0, y0⟩ := r' 0 (by decide)
        obtain ⟨x1, y1⟩ := r' 1 (by decide)
        obtain ⟨x2, y2⟩ := r' 2 (by decide)
        obtain ⟨x3, y3⟩ := r' 3 (by decide)
        obtain ⟨x4, y4⟩ := r' 4 (by decide)
        obtain ⟨x5, y5⟩ := r' 5 (by decide)
        obtain ⟨x6, y6⟩ := r' 6 (by decide)
        obtain ⟨x7, y7⟩ := r' 7 (by decide)
        obtain ⟨x8, y8⟩ := r' 8 (by decide)
        obtain ⟨x9, y9⟩ := r' 9 (by decide)
        have f1 := hrs2.rf
        have hbB := hrs2.below
        clear r'
        go_wp2
        refine bodyPost_ret (v := .tuple #[noV, .bool false]) (by simp [results, Tryd.results26, go_sem, y0, y1, y2, y3, y4, y5, y6, y7, y8, y9] <;> rfl) rfl ⟨?_, Or.inl ⟨hbad.out, rfl⟩⟩
        iterate 10 (refine Below.setCell ?_ (show _ <= w.heap.size from Nat.le_refl _) _)
        exact hbB
      cases tok
      · have hbad : Hid (peForm l = false) := form_tm (by
          rw [tm_of]
          cases hn : numN (cS 32 l 4).data.toList with
          | none => rfl
          | some n => have := (htr.1 n hn).2; cases this)
        clear p0 p1 p2 p3 p4 p5 p6 p7 htr
        have r' := hrs2.r
        obtain ⟨x0, y0⟩ := r' 0 (by decide)
        obtain ⟨x1, y1⟩ := r' 1 (by decide)
        obtain ⟨x2, y2⟩ := r' 2 (by decide)
        obtain ⟨x3, y3⟩ := r' 3 (by decide)
        obtain ⟨x4, y4⟩ := r' 4 (by decide)
        obtain ⟨x5, y5⟩ := r' 5 (by decide)
        obtain ⟨x6, y6⟩ := r' 6 (by decide)
        obtain ⟨x7, y7⟩ := r' 7 (by decide)
        obtain ⟨x8, y8⟩ := r' 8 (by decide)
        obtain ⟨x9, y9⟩ := r' 9 (by decide)
        have f1 := hrs2.rf
        have hbB := hrs2.below
        clear r'
        go_wp2
        refine bodyPost_ret (v := .tuple #[noV, .bool false]) (by simp [results, Tryd.results26, go_sem, y0, y1, y2, y3, y4, y5, y6, y7, y8, y9] <;> rfl) rfl ⟨?_, Or.inl ⟨hbad.out, rfl⟩⟩
        iterate 10 (refine Below.setCell ?_ (show _ <= w.heap.size from Nat.le_refl _) _)
        exact hbB
      have htm : peTm l = some (tn : Int) := by
        rw [tm_of]
        cases hn : numN (cS 32 l 4).data.toList with
        | none => have := htr.2 hn; cases this
        | some n => have h2 := (htr.1 n hn).1
                    show some (n : Int) = some (tn : Int)
                    rw [h2]
      have hform : Hid (peForm l = true) := by
        unfold Hid peForm
        have h7 : (!peGr l || gAp (cS 32 l 7)) = true := hvo
        rw [Hhead.out, hk, htm, h7]; rfl
      have htime : Hid ((tn : Int) = peTime l) := by unfold Hid peTime; rw [htm]; rfl
      have hq : ∀ o, w2.cell? ⟨w.heap.size + 1, o, none⟩ = w1.cell? ⟨w.heap.size + 1, o, none⟩ := fun o => hb2.cell (by exact hsz1)
      have q0 := (hq 0).trans p0
      have q1 := (hq 1).trans p1
      have q2 := (hq 2).trans p2
      have q5 := (hq 5).trans p5
      have q6 := (hq 6).trans p6
      have s5 := hsz 5 (by decide)
      have s6 := hsz 6 (by decide)
      clear p0 p1 p2 p3 p4 p5 p6 p7 htr htm hq
      go_wp2_with fail
      go_region_held3 (fun W => W.cell? ⟨w.heap.size + 1, 0, none⟩ = some (.string (cS 32 l 0)) ∧ W.cell? ⟨w.heap.size + 1, 1, none⟩ = some (.string (cS 32 l 1)) ∧ W.cell? ⟨w.heap.size + 1, 2, none⟩ = some (.string (cS 32 l 2)) ∧ W.cell? ⟨w.heap.size + 1, 5, none⟩ = some (.string (cS 32 l 5)) ∧ W.cell? ⟨w.heap.size + 1, 6, none⟩ = some (.string (cS 32 l 6)))
        (first
          | (go_split_ands
             refine ⟨?_, ?_, ?_, ?_, ?_⟩ <;> (rw [hb4.cell (by simp; omega)]; assumption))
          | (go_split_ands
             refine ⟨?_, ?_, ?_, ?_, ?_⟩ <;> (rw [hb3.cell (by simp; omega)]; assumption))
          | (go_split_ands
             refine ⟨?_, ?_, ?_, ?_, ?_⟩ <;> ((iterate 10 (rw [far_block (by omega)])); assumption))
          | go_keep)
        (first
          | (go_at_call 44; refine (rdRefs_any (cS 32 l 5) _ s5 (hm.below (by first | exact hrs2.below | exact hrs2.below.drew | exact hrs2.below.drew.drew))).mono ?_; rintro e w3 ⟨pa, cp, rfl, hsp, hswp, hb3⟩; have hB3 : Below w2.heap.size w2 w3 := Below.trans (by first | exact Below.refl _ _ | exact (Below.refl _ _).drew | exact (Below.refl _ _).drew.drew) hb3; have hrs3 := hrs2.mono hB3; have hl3 : w.heap.size + 1 < w3.heap.size := Nat.lt_of_lt_of_le hl2 hB3.size)
          | (go_at_call 44; refine (rdRefs_any (cS 32 l 6) _ s6 (hm.below (by first | exact hrs3.below | exact hrs3.below.drew | exact hrs3.below.drew.drew))).mono ?_; rintro e w4 ⟨aa, ca, rfl, hsa, hswa, hb4⟩; have hB4 : Below w3.heap.size w3 w4 := Below.trans (by first | exact Below.refl _ _ | exact (Below.refl _ _).drew | exact (Below.refl _ _).drew.drew) hb4; have hrs4 := hrs3.mono hB4; have r' := hrs4.r; obtain ⟨x0, y0⟩ := r' 0 (by decide); obtain ⟨x1, y1⟩ := r' 1 (by decide); obtain ⟨x2, y2⟩ := r' 2 (by decide); obtain ⟨x3, y3⟩ := r' 3 (by decide); obtain ⟨x4, y4⟩ := r' 4 (by decide); obtain ⟨x5, y5⟩ := r' 5 (by decide); obtain ⟨x6, y6⟩ := r' 6 (by decide); obtain ⟨x7, y7⟩ := r' 7 (by decide); obtain ⟨x8, y8⟩ := r' 8 (by decide); obtain ⟨x9, y9⟩ := r' 9 (by decide); have f1 := hrs4.rf; clear r'))
      have hw12 : w.heap.size < w1.heap.size := by omega
      have hw2 : w.heap.size < w2.heap.size := by omega
      have hw3 : w.heap.size < w3.heap.size := by omega
      have hAg : Apart ga (peN l) w.heap.size := hsw.apart (Or.inl hw12)
      have hAp : Apart pa (rN (cS 32 l 5)) w.heap.size := hswp.apart (Or.inl hw2)
      have hAa : Apart aa (rN (cS 32 l 6)) w.heap.size := hswa.apart (Or.inl hw3)
      have E : EvIn l w w4 pa cp aa ca ga cg w2.heap.size w3.heap.size :=
        ⟨hsp.below hB4, hsa, (hsg.below hB3).below hB4, (hswp.base_le (Nat.le_of_lt hw2)).below hB4, hswa.base_le (Nat.le_of_lt hw3), ((hsw.base_le (Nat.le_of_lt hw12)).below hB3).below hB4, (hsw.base_le (Nat.le_of_lt hw12)).slb, hswp.slb, hswa.slb, ⟨Nat.le_of_lt hw2, hB3.size, hB4.size⟩⟩
      have E1 := E.hp
      have E2 := E.ha
      have E3 := E.hg
      have E4 := E.wp
      have E5 := E.wa
      have E6 := E.wg
      have E7 := E.ba
      have E8 := E.hh
      have hb4' := hrs4.below
      clear hsp hsa hsg hswp hswa hsw hB3 hB4 hb3 hb4 hrs4 hrs3 hrs2 hrs q0 q1 q2 q5 q6
      go_wp2
      refine bodyPost_ret (v := .tuple #[evV (cS 32 l 0) (cS 32 l 1) (cS 32 l 2) (peKey l) (vV (cS 32 l 7)) (peSt l) (tn : Int) pa (rN (cS 32 l 5)) cp aa (rN (cS 32 l 6)) ca ga (vN (cS 32 l 7)) cg, .bool true]) (by simp [results, Tryd.results26, go_sem, y0, y1, y2, y3, y4, y5, y6, y7, y8, y9]) rfl ⟨?_, Or.inr ⟨hform.out, pa, cp, aa, ca, ga, cg, w2.heap.size, w3.heap.size, by rw [htime.out]; rfl, ?_, ?_, ?_, ?_, ?_, ?_, E.bg, E.bp, ?_, ?_⟩⟩
      · iterate 10 (refine Below.setCell ?_ (show _ <= w.heap.size from Nat.le_refl _) _)
        exact hb4'
      · iterate 10 (refine SlS.setA hAp ?_)
        exact E1
      · iterate 10 (refine SlS.setA hAa ?_)
        exact E2
      · iterate 10 (refine SlG.setA hAg ?_)
        exact E3
      · iterate 10 (refine SlW.setA hAp ?_)
        exact E4
      · iterate 10 (refine SlW.setA hAa ?_)
        exact E5
      · iterate 10 (refine SlW.setA hAg ?_)
        exact E6
      · simpa [World.setCell] using E7
      · simpa [World.setCell] using E8
    · have hbad : Hid (peForm l = false) := form_head (by unfold peHead; rw [hh]; simp)
      clear h8 hN hgx
      go_wp2_with fail
      refine (Hh.out _ hc).mono ?_
      rintro e w1 ⟨rfl, rfl⟩
      rw [hh]
      clear Hh
      have r' := hrs.r
      obtain ⟨x0, y0⟩ := r' 0 (by decide)
      obtain ⟨x1, y1⟩ := r' 1 (by decide)
      obtain ⟨x2, y2⟩ := r' 2 (by decide)
      obtain ⟨x3, y3⟩ := r' 3 (by decide)
      obtain ⟨x4, y4⟩ := r' 4 (by decide)
      obtain ⟨x5, y5⟩ := r' 5 (by decide)
      obtain ⟨x6, y6⟩ := r' 6 (by decide)
      obtain ⟨x7, y7⟩ := r' 7 (by decide)
      obtain ⟨x8, y8⟩ := r' 8 (by decide)
      obtain ⟨x9, y9⟩ := r' 9 (by decide)
      have f1 := hrs.rf
      have hbB := hrs.below
      clear r'
      go_wp2
      refine bodyPost_ret (v := .tuple #[noV, .bool false]) (by simp [results, Tryd.results26, go_sem, y0, y1, y2, y3, y4, y5, y6, y7, y8, y9] <;> rfl) rfl ⟨?_, Or.inl ⟨hbad.out, rfl⟩⟩
      iterate 10 (refine Below.setCell ?_ (show _ <= w.heap.size from Nat.le_refl _) _)
      exact hbB
  · have h8' : (((cN 32 l : Nat) : Int) != 8) = true := by rw [bne_iff_ne]; omega
    have hbad : Hid (peForm l = false) := form_head (by unfold peHead; simp [h8])
    clear h8
    have r' := hrs.r
    obtain ⟨x0, y0⟩ := r' 0 (by decide)
    obtain ⟨x1, y1⟩ := r' 1 (by decide)
    obtain ⟨x2, y2⟩ := r' 2 (by decide)
    obtain ⟨x3, y3⟩ := r' 3 (by decide)
    obtain ⟨x4, y4⟩ := r' 4 (by decide)
    obtain ⟨x5, y5⟩ := r' 5 (by decide)
    obtain ⟨x6, y6⟩ := r' 6 (by decide)
    obtain ⟨x7, y7⟩ := r' 7 (by decide)
    obtain ⟨x8, y8⟩ := r' 8 (by decide)
    obtain ⟨x9, y9⟩ := r' 9 (by decide)
    have f1 := hrs.rf
    have hbB := hrs.below
    clear r'
    go_wp2
    refine bodyPost_ret (v := .tuple #[noV, .bool false]) (by simp [results, Tryd.results26, go_sem, y0, y1, y2, y3, y4, y5, y6, y7, y8, y9] <;> rfl) rfl ⟨?_, Or.inl ⟨hbad.out, rfl⟩⟩
    iterate 10 (refine Below.setCell ?_ (show _ <= w.heap.size from Nat.le_refl _) _)
    exact hbB
end Go.Proofs.YtihacnhmiopalaaDoor
