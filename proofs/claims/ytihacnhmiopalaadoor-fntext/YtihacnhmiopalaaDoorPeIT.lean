import Derived.Test.YtihacnhmiopalaaDoorFormIT
import Derived.Test.YtihacnhmiopalaaDoorEvIT
namespace Go.Proofs.YtihacnhmiopalaaDoor
open Go.RowKit
def PeIPost (l : ByteArray) (w : World) (e : Ending) (w' : World) : Prop :=
 Below w.heap.size w w' ∧ ((peCode l ≠ 0 ∧ e = .returned (.tuple #[noV, .int .i64 (peCode l)])) ∨
  (peCode l = 0 ∧ ∃ pa cp aa ca ga cg h1 h2, e = .returned (.tuple #[peV l pa cp aa ca ga cg, .int .i64 0]) ∧ EvIn l w w' pa cp aa ca ga cg h1 h2))
theorem evCode_nonneg (id sd ty key val : ByteArray) (st : Bool) (tm : Int) (np na ng : Nat) (Pv Av M : Nat -> ByteArray) (L : Nat -> Int) : 0 <= evCode id sd ty key val st tm np na ng Pv Av M L ∧ evCode id sd ty key val st tm np na ng Pv Av M L <= 5 := by
 unfold evCode
 split; · decide
 split; · decide
 split; · decide
 split; · decide
 split <;> decide
theorem form_head_true {l : ByteArray} (h : peForm l = true) : cN 32 l = 8 := by
 unfold peForm peHead at h
 simp only [Bool.and_eq_true, decide_eq_true_eq] at h
 exact h.1.1
set_option maxRecDepth 100000 in
set_option maxHeartbeats 3200000 in
theorem peI_any (l : ByteArray) (w : World) (hs : l.size <= 1048576) (hm : MaxL w) :
  Calls Tryd.prog 8 #[.string l] w (PeIPost l w) := by
 have hrs0 := RS.start w #[.string ByteArray.empty, .string ByteArray.empty, .string ByteArray.empty, .bool false, .string ByteArray.empty, .int .i64 0, .slice none 0 0, .slice none 0 0, .string ByteArray.empty, .slice none 0 0] rfl 26
 go_enter Tryd.func8, Tryd.ntmps8
 go_wp2_with fail
 refine (formI_any l _ hs (hm.below hrs0.below)).mono ?_
 rintro e w1 ⟨hb1, hpost⟩
 have hrs := hrs0.mono hb1
 rcases hpost with ⟨hf, rfl⟩ | ⟨hf, pa, cp, aa, ca, ga, cg, h1, h2, rfl, E⟩
 ·have hc : peCode l = 1 := pe_bad hf
  have hbad : Hid (peCode l ≠ 0 ∧ Ending.returned (.tuple #[noV, .int .i64 1]) = .returned (.tuple #[noV, .int .i64 (peCode l)])) := by unfold Hid; rw [hc]; exact ⟨by decide, rfl⟩
  have hrsA : RS w (w1.alloc (.cells #[.string ByteArray.empty, .string ByteArray.empty, .string ByteArray.empty, .bool false, .string ByteArray.empty, .int .i64 0, .slice none 0 0, .slice none 0 0, .string ByteArray.empty, .slice none 0 0] 26)) := hrs.mono ((Below.refl _ _).alloc (Nat.le_refl _) _)
  clear hc hf
  have r' := hrsA.r
  obtain ⟨x0, y0⟩ := r' 0 (by decide)
  obtain ⟨x1, y1⟩ := r' 1 (by decide)
  obtain ⟨x2, y2⟩ := r' 2 (by decide)
  obtain ⟨x3, y3⟩ := r' 3 (by decide)
  obtain ⟨x4, y4⟩ := r' 4 (by decide)
  obtain ⟨x5, y5⟩ := r' 5 (by decide)
  obtain ⟨x6, y6⟩ := r' 6 (by decide)
  obtain ⟨x7, y7⟩ := r' 7 (by decide)
  obtain ⟨x8, y8⟩ := r' 8 (by decide)
  obtain ⟨x9, y9⟩ := r' 9 (by decide)
  have f1 := hrsA.rf
  have hbB := hrsA.below
  clear r'
  go_wp2
  refine bodyPost_ret (v := .tuple #[noV, .int .i64 (1)]) (by simp [results, Tryd.results8, go_sem, y0, y1, y2, y3, y4, y5, y6, y7, y8, y9] <;> rfl) rfl ⟨?_, Or.inl hbad.out⟩
  iterate 10 (refine Below.setCell ?_ (show _ <= w.heap.size from Nat.le_refl _) _)
  exact hbB
 ·have h8 := form_head_true hf
  have hsz : ∀ i, i < 8 -> (cS 32 l i).size <= maxLen := fun i hi => Nat.le_trans (Nat.le_trans (cS_size 32 l i (by omega)) hs) (by decide)
  have hkl : (peKey l).size <= maxLen := by
   unfold peKey; split
   ·rw [ByteArray.size_extract]; have := hsz 3 (by decide); omega
   ·decide
  have hvl : (peVal l).size <= maxLen := by
   unfold peVal; split
   ·decide
   ·exact hsz 7 (by decide)
  have hev : Hid (∀ W, Below w1.heap.size w1 W -> Calls Tryd.prog 7 #[peV l pa cp aa ca ga cg] W fun e w' => e = .returned (.int .i64 (peEv l)) ∧ Below W.heap.size W w') := fun W hW =>
   evI_any _ _ _ _ _ _ _ _ _ _ _ _ _ _ _ _ _ _ _ _ W (hsz 0 (by decide)) (hsz 1 (by decide)) (hsz 2 (by decide)) hkl hvl (E.hp.below hW) (E.ha.below hW) (E.hg.below hW)
  have hnn : 0 <= peEv l ∧ peEv l <= 5 := evCode_nonneg _ _ _ _ _ _ _ _ _ _ _ _ _ _
  have hcode : Hid (peCode l = if peEv l = 0 then 0 else peEv l + 1) := by unfold Hid peCode; rw [hf]; rfl
  generalize peEv l = c at hev hnn hcode
  clear h8 hsz hkl hvl hf
  have hbA : Below w1.heap.size w1 (w1.alloc (.cells #[.string (cS 32 l 0), .string (cS 32 l 1), .string (cS 32 l 2), .bool (peSt l), .string (peKey l), .int .i64 (peTime l), .slice pa (rN (cS 32 l 5)) cp, .slice aa (rN (cS 32 l 6)) ca, .string (peVal l), .slice ga (peN l) cg] 26)) := (Below.refl _ _).alloc (Nat.le_refl _) _
  go_wp2_with fail
  refine (hev.out _ hbA).mono ?_
  rintro e w2 ⟨rfl, hb2⟩
  have hbx := box_cells (hb2.mono (B' := w1.heap.size + 1) (by simp))
  have hB2 := hbA.trans (hb2.mono hbA.size)
  have hrs2 := hrs.mono hB2
  by_cases h0 : c = 0
  ·have hc0 : Hid (peCode l = 0) := by unfold Hid; rw [hcode.out, if_pos h0]
   have hAp : Apart pa (rN (cS 32 l 5)) w.heap.size := E.wp.apart (Or.inl (by simp))
   have hAa : Apart aa (rN (cS 32 l 6)) w.heap.size := E.wa.apart (Or.inl (by simp))
   have hAg : Apart ga (peN l) w.heap.size := E.wg.apart (Or.inl (by simp))
   have E1 := E.hp.below hB2
   have E2 := E.ha.below hB2
   have E3 := E.hg.below hB2
   have E4 := (E.wp.below hB2).base_le (base' := w.heap.size) (by simp)
   have E5 := (E.wa.below hB2).base_le (base' := w.heap.size) (by simp)
   have E6 := (E.wg.below hB2).base_le (base' := w.heap.size) (by simp)
   have E7 : SlB ga (peN l) w.heap.size h1 := E.bg.imp id fun ⟨b, off, e, q1, q2⟩ => ⟨b, off, e, by simp at q1; omega, q2⟩
   have E8 := E.bp
   have E10 : w.heap.size <= h1 ∧ h1 <= h2 ∧ h2 <= w2.heap.size := ⟨by have := E.hh.1; simp at this; omega, E.hh.2.1, Nat.le_trans E.hh.2.2 hB2.size⟩
   have E9 : SlB aa (rN (cS 32 l 6)) h2 w2.heap.size := E.ba.imp id fun ⟨b, off, e, q1, q2⟩ => ⟨b, off, e, q1, Nat.lt_of_lt_of_le q2 hB2.size⟩
   have r' := hrs2.r
   obtain ⟨x0, y0⟩ := r' 0 (by decide)
   obtain ⟨x1, y1⟩ := r' 1 (by decide)
   obtain ⟨x2, y2⟩ := r' 2 (by decide)
   obtain ⟨x3, y3⟩ := r' 3 (by decide)
   obtain ⟨x4, y4⟩ := r' 4 (by decide)
   obtain ⟨x5, y5⟩ := r' 5 (by decide)
   obtain ⟨x6, y6⟩ := r' 6 (by decide)
   obtain ⟨x7, y7⟩ := r' 7 (by decide)
   obtain ⟨x8, y8⟩ := r' 8 (by decide)
   obtain ⟨x9, y9⟩ := r' 9 (by decide)
   have f1 := hrs2.rf
   have hbB := hrs2.below
   clear r'
   subst h0
   clear E hrs hrs2 hrs0 hb1 hb2 hB2 hbA hev hcode hnn
   go_wp2
   refine bodyPost_ret (v := .tuple #[peV l pa cp aa ca ga cg, .int .i64 0]) (by simp [results, Tryd.results8, go_sem, y0, y1, y2, y3, y4, y5, y6, y7, y8, y9]) rfl ⟨?_, Or.inr ⟨hc0.out, pa, cp, aa, ca, ga, cg, h1, h2, rfl, ?_, ?_, ?_, ?_, ?_, ?_, E7, E8, ?_, ?_⟩⟩
   ·iterate 10 (refine Below.setCell ?_ (show _ <= w.heap.size from Nat.le_refl _) _)
    exact hbB
   ·iterate 10 (refine SlS.setA hAp ?_)
    exact E1
   ·iterate 10 (refine SlS.setA hAa ?_)
    exact E2
   ·iterate 10 (refine SlG.setA hAg ?_)
    exact E3
   ·iterate 10 (refine SlW.setA hAp ?_)
    exact E4
   ·iterate 10 (refine SlW.setA hAa ?_)
    exact E5
   ·iterate 10 (refine SlW.setA hAg ?_)
    exact E6
   ·simpa [World.setCell] using E9
   ·simpa [World.setCell] using E10
  ·have hbad : Hid (peCode l ≠ 0 ∧ Ending.returned (.tuple #[noV, .int .i64 (c + 1)]) = .returned (.tuple #[noV, .int .i64 (peCode l)])) := by
    unfold Hid; rw [hcode.out, if_neg h0]; exact ⟨by omega, rfl⟩
   have h0' : (c == 0) = false := by rw [beq_eq_false_iff_ne]; exact h0
   have r' := hrs2.r
   obtain ⟨x0, y0⟩ := r' 0 (by decide)
   obtain ⟨x1, y1⟩ := r' 1 (by decide)
   obtain ⟨x2, y2⟩ := r' 2 (by decide)
   obtain ⟨x3, y3⟩ := r' 3 (by decide)
   obtain ⟨x4, y4⟩ := r' 4 (by decide)
   obtain ⟨x5, y5⟩ := r' 5 (by decide)
   obtain ⟨x6, y6⟩ := r' 6 (by decide)
   obtain ⟨x7, y7⟩ := r' 7 (by decide)
   obtain ⟨x8, y8⟩ := r' 8 (by decide)
   obtain ⟨x9, y9⟩ := r' 9 (by decide)
   have f1 := hrs2.rf
   have hbB := hrs2.below
   clear r'
   go_wp2
   refine bodyPost_ret (v := .tuple #[noV, .int .i64 (c + 1)]) (by simp [results, Tryd.results8, go_sem, y0, y1, y2, y3, y4, y5, y6, y7, y8, y9] <;> rfl) rfl ⟨?_, Or.inl hbad.out⟩
   iterate 10 (refine Below.setCell ?_ (show _ <= w.heap.size from Nat.le_refl _) _)
   exact hbB
end Go.Proofs.YtihacnhmiopalaaDoor
