/-
  impl's rules and verdict.
-/
import Derived.Test.YtnkpikknkooblaaGreatHrDF
import Derived.Test.YtnkpikknkooblaaGreatHrEM
import Derived.Test.YtnkpikknkooblaaGreatHrGH
import Derived.Test.YtnkpikknkooblaaGreatHrKJ
namespace Go.Proofs.YtnkpikknkooblaaGreat
open Go.RowKit Go.Maps Go.ChangeMaps

theorem vdF_skip {f : Nat → Int × Bool} (m : Nat) : ∀ (k i : Nat), (∀ j, j < k → (f (i + j)).2 = false) → vdF f i (k + m) = vdF f (i + k) m
  | 0, i, _ => by rw [Nat.zero_add, Nat.add_zero]
  | k + 1, i, h => by
    rw [show k + 1 + m = (k + m) + 1 by omega, vdF_go (i := i) (by have := h 0 (by omega); rw [Nat.add_zero] at this; exact this), vdF_skip m k (i + 1) (fun j hj => by have := h (j + 1) (by omega); rw [show i + (j + 1) = i + 1 + j by omega] at this; exact this), show i + 1 + k = i + (k + 1) by omega]
theorem vdF_at {f : Nat → Int × Bool} {k : Nat} (hk : k < 11) (h : ∀ j, j < k → (f j).2 = false) {c : Int} (h1 : f k = (c, true)) : vdF f 0 11 = c := by
  have := vdF_skip (f := f) (11 - k) k 0 (fun j hj => by rw [Nat.zero_add]; exact h j hj)
  rw [show k + (11 - k) = 11 by omega, Nat.zero_add, show 11 - k = (10 - k) + 1 by omega, vdF_is (i := k) (by rw [h1]), h1] at this
  exact this
theorem vdF_no {f : Nat → Int × Bool} (h : ∀ j, j < 11 → (f j).2 = false) : vdF f 0 11 = 0 := by
  have := vdF_skip (f := f) 0 11 0 (fun j hj => by rw [Nat.zero_add]; exact h j hj)
  rw [Nat.add_zero] at this
  exact this
theorem sil_succ {f : Nat → Int × Bool} {k : Nat} (h : ∀ j, j < k → (f j).2 = false) {c : Int} (h1 : f k = (c, false)) : ∀ j, j < k + 1 → (f j).2 = false := fun j hj => by
  by_cases e : j = k
  · subst e; rw [h1]
  · exact h j (by omega)

/-- the rules. -/
abbrev rlsA (h : Nat) : Array Value := #[.func (.func 101) #[.pointer (some ⟨h, 0, none⟩)] #[], .func (.func 102) #[.pointer (some ⟨h, 0, none⟩)] #[], .func (.func 103) #[.pointer (some ⟨h, 0, none⟩)] #[], .func (.func 104) #[.pointer (some ⟨h, 0, none⟩)] #[], .func (.func 105) #[.pointer (some ⟨h, 0, none⟩)] #[], .func (.func 106) #[.pointer (some ⟨h, 0, none⟩)] #[], .func (.func 107) #[.pointer (some ⟨h, 0, none⟩)] #[], .func (.func 108) #[.pointer (some ⟨h, 0, none⟩)] #[], .func (.func 109) #[.pointer (some ⟨h, 0, none⟩)] #[], .func (.func 110) #[.pointer (some ⟨h, 0, none⟩)] #[], .func (.func 111) #[.pointer (some ⟨h, 0, none⟩)] #[]]
set_option maxRecDepth 100000 in
set_option maxHeartbeats 1000000 in
theorem rlsI (h : Nat) (w : World) :
    Calls Tryz.prog 74 #[.pointer (some ⟨h, 0, none⟩)] w fun x w' => x = .returned (.slice (some ⟨w.heap.size, 0, none⟩) 11 11) ∧ Hid (∀ i, w'.cell? ⟨w.heap.size, i, none⟩ = (rlsA h)[i]?) ∧ Below w.heap.size w w' ∧ w.heap.size < w'.heap.size := by
  go_enter Tryz.func74, Tryz.ntmps74
  go_wp2
  go_ret
  exact ⟨rfl, fun i => box_cells (Below.refl _ _) i, (Below.refl _ _).alloc (Nat.le_refl _) _, by simp⟩

set_option maxRecDepth 100000 in
set_option maxHeartbeats 4000000 in
theorem vdI {h mb c : Nat} {F : Ent → Value} {oc op : Option Addr} {o : View} {e : Ev} {pa : Option Addr} {cp : Nat} {aa : Option Addr} {ca : Nat} {ga : Option Addr} {cg : Nat} (w : World) (H : Hr w h mb c F oc op o e pa cp aa ca ga cg) (ht : e.ty.size ≤ 1000) :
    Calls Tryz.prog 34 #[.pointer (some ⟨h, 0, none⟩)] w fun x w' => x = .returned (.int .i64 (vdF (rlV o e) 0 11)) ∧ Below w.heap.size w w' := by
  have R0 : Hid (∀ W, Below w.heap.size w W → Calls Tryz.prog 101 #[.pointer (some ⟨h, 0, none⟩)] W fun x w' => x = .returned (rAns (rlV o e 0)) ∧ Below W.heap.size W w') := fun W hW => creI W (H.below hW)
  have R1 : Hid (∀ W, Below w.heap.size w W → Calls Tryz.prog 102 #[.pointer (some ⟨h, 0, none⟩)] W fun x w' => x = .returned (rAns (rlV o e 1)) ∧ Below W.heap.size W w') := fun W hW => witI W (H.below hW)
  have R2 : Hid (∀ W, Below w.heap.size w W → Calls Tryz.prog 103 #[.pointer (some ⟨h, 0, none⟩)] W fun x w' => x = .returned (rAns (rlV o e 2)) ∧ Below W.heap.size W w') := fun W hW => joiI W (H.below hW)
  have R3 : Hid (∀ W, Below w.heap.size w W → Calls Tryz.prog 104 #[.pointer (some ⟨h, 0, none⟩)] W fun x w' => x = .returned (rAns (rlV o e 3)) ∧ Below W.heap.size W w') := fun W hW => leaI W (H.below hW)
  have R4 : Hid (isCr e = false → ∀ W, Below w.heap.size w W → Calls Tryz.prog 105 #[.pointer (some ⟨h, 0, none⟩)] W fun x w' => x = .returned (rAns (rlV o e 4)) ∧ Below W.heap.size W w') := fun hc W hW => outI W (H.below hW) hc
  have R5 : Hid (∀ W, Below w.heap.size w W → Calls Tryz.prog 106 #[.pointer (some ⟨h, 0, none⟩)] W fun x w' => x = .returned (rAns (rlV o e 5)) ∧ Below W.heap.size W w') := fun W hW => invI W (H.below hW)
  have R6 : Hid (∀ W, Below w.heap.size w W → Calls Tryz.prog 107 #[.pointer (some ⟨h, 0, none⟩)] W fun x w' => x = .returned (rAns (rlV o e 6)) ∧ Below W.heap.size W w') := fun W hW => banI W (H.below hW)
  have R7 : Hid (∀ W, Below w.heap.size w W → Calls Tryz.prog 108 #[.pointer (some ⟨h, 0, none⟩)] W fun x w' => x = .returned (rAns (rlV o e 7)) ∧ Below W.heap.size W w') := fun W hW => remI W (H.below hW)
  have R8 : Hid (∀ W, Below w.heap.size w W → Calls Tryz.prog 109 #[.pointer (some ⟨h, 0, none⟩)] W fun x w' => x = .returned (rAns (rlV o e 8)) ∧ Below W.heap.size W w') := fun W hW => undI W (H.below hW) ht
  have R9 : Hid (∀ W, Below w.heap.size w W → Calls Tryz.prog 110 #[.pointer (some ⟨h, 0, none⟩)] W fun x w' => x = .returned (rAns (rlV o e 9)) ∧ Below W.heap.size W w') := fun W hW => keyI W (H.below hW)
  have R10 : Hid (∀ W, Below w.heap.size w W → Calls Tryz.prog 111 #[.pointer (some ⟨h, 0, none⟩)] W fun x w' => x = .returned (rAns (rlV o e 10)) ∧ Below W.heap.size W w') := fun W hW => regI W (H.below hW)
  have H0 : Hid ((rlV o e 0).2 = false → isCr e = false) := fun h1 => by
    cases hc : isCr e
    · rfl
    · have h2 : (rCre o e).2 = false := h1
      unfold rCre at h2
      rw [hc] at h2
      cases h2
  clear H
  generalize rlV o e = f at *
  have hrf : Below w.heap.size w w := Below.refl _ _
  go_enter Tryz.func34, Tryz.ntmps34
  go_wp2_with fail
  refine (rlsI h w).mono ?_
  rintro x w1 ⟨rfl, hcs, hb1, hsz1⟩
  go_wp2_with fail
  go_loopw [10] (fun i wr => ∃ k : Nat, k ≤ 11 ∧ i = .int .i64 k ∧ Hid (∀ j, j < k → (f j).2 = false) ∧ Below w1.heap.size w1 wr) (fun i _ => 11 - (intOf i).toNat)
  case atStart => exact ⟨0, Nat.zero_le _, rfl, fun j hj => absurd hj (Nat.not_lt_zero _), Below.refl _ _⟩
  case round =>
    obtain ⟨k, hk, rfl, hsil, hbel⟩ := hrel
    have hbw := hb1.trans (hbel.mono hb1.size)
    have hcr : Hid (∀ i, wr.cell? ⟨w.heap.size, i, none⟩ = (rlsA h)[i]?) := fun i => (hbel.cell (by exact hsz1)).trans (hcs.out i)
    clear hcs
    rcases (by omega : k = 0 ∨ k = 1 ∨ k = 2 ∨ k = 3 ∨ k = 4 ∨ k = 5 ∨ k = 6 ∨ k = 7 ∨ k = 8 ∨ k = 9 ∨ k = 10 ∨ k = 11) with rfl | rfl | rfl | rfl | rfl | rfl | rfl | rfl | rfl | rfl | rfl | rfl
    · have a0 : wr.cell? ⟨w.heap.size, 0, none⟩ = some (.func (.func 101) #[.pointer (some ⟨h, 0, none⟩)] #[]) := hcr.out 0
      have RK : Hid (Calls Tryz.prog 101 #[.pointer (some ⟨h, 0, none⟩)] wr fun x w' => x = .returned (rAns (f 0)) ∧ Below wr.heap.size wr w') := R0.out wr hbw
      clear R0 R1 R2 R3 R4 R5 R6 R7 R8 R9 R10 H0 hcr
      rcases hf : f 0 with ⟨cc, s⟩
      rw [hf] at RK
      cases s
      · have hs2 : Hid (∀ j, j < 1 → (f j).2 = false) := sil_succ hsil.out hf
        clear hsil hf
        go_wp2_with (go_at_call 101; refine RK.out.mono ?_; rintro x w2 ⟨rfl, hb2⟩)
        go_roundw
        case rel => exact ⟨1, by omega, by go_num, hs2, hbel.trans (hb2.mono hbel.size)⟩
        case measure => simp [intOf]
      · have hv : Hid (vdF f 0 11 = cc) := vdF_at (by omega) hsil.out hf
        clear hsil hf
        go_wp2_with (go_at_call 101; refine RK.out.mono ?_; rintro x w2 ⟨rfl, hb2⟩)
        go_ret
        exact ⟨ret_int hv.out.symm, hbw.trans (hb2.mono hbw.size)⟩
    · have a0 : wr.cell? ⟨w.heap.size, 1, none⟩ = some (.func (.func 102) #[.pointer (some ⟨h, 0, none⟩)] #[]) := hcr.out 1
      have RK : Hid (Calls Tryz.prog 102 #[.pointer (some ⟨h, 0, none⟩)] wr fun x w' => x = .returned (rAns (f 1)) ∧ Below wr.heap.size wr w') := R1.out wr hbw
      clear R0 R1 R2 R3 R4 R5 R6 R7 R8 R9 R10 H0 hcr
      rcases hf : f 1 with ⟨cc, s⟩
      rw [hf] at RK
      cases s
      · have hs2 : Hid (∀ j, j < 2 → (f j).2 = false) := sil_succ hsil.out hf
        clear hsil hf
        go_wp2_with (go_at_call 102; refine RK.out.mono ?_; rintro x w2 ⟨rfl, hb2⟩)
        go_roundw
        case rel => exact ⟨2, by omega, by go_num, hs2, hbel.trans (hb2.mono hbel.size)⟩
        case measure => simp [intOf]
      · have hv : Hid (vdF f 0 11 = cc) := vdF_at (by omega) hsil.out hf
        clear hsil hf
        go_wp2_with (go_at_call 102; refine RK.out.mono ?_; rintro x w2 ⟨rfl, hb2⟩)
        go_ret
        exact ⟨ret_int hv.out.symm, hbw.trans (hb2.mono hbw.size)⟩
    · have a0 : wr.cell? ⟨w.heap.size, 2, none⟩ = some (.func (.func 103) #[.pointer (some ⟨h, 0, none⟩)] #[]) := hcr.out 2
      have RK : Hid (Calls Tryz.prog 103 #[.pointer (some ⟨h, 0, none⟩)] wr fun x w' => x = .returned (rAns (f 2)) ∧ Below wr.heap.size wr w') := R2.out wr hbw
      clear R0 R1 R2 R3 R4 R5 R6 R7 R8 R9 R10 H0 hcr
      rcases hf : f 2 with ⟨cc, s⟩
      rw [hf] at RK
      cases s
      · have hs2 : Hid (∀ j, j < 3 → (f j).2 = false) := sil_succ hsil.out hf
        clear hsil hf
        go_wp2_with (go_at_call 103; refine RK.out.mono ?_; rintro x w2 ⟨rfl, hb2⟩)
        go_roundw
        case rel => exact ⟨3, by omega, by go_num, hs2, hbel.trans (hb2.mono hbel.size)⟩
        case measure => simp [intOf]
      · have hv : Hid (vdF f 0 11 = cc) := vdF_at (by omega) hsil.out hf
        clear hsil hf
        go_wp2_with (go_at_call 103; refine RK.out.mono ?_; rintro x w2 ⟨rfl, hb2⟩)
        go_ret
        exact ⟨ret_int hv.out.symm, hbw.trans (hb2.mono hbw.size)⟩
    · have a0 : wr.cell? ⟨w.heap.size, 3, none⟩ = some (.func (.func 104) #[.pointer (some ⟨h, 0, none⟩)] #[]) := hcr.out 3
      have RK : Hid (Calls Tryz.prog 104 #[.pointer (some ⟨h, 0, none⟩)] wr fun x w' => x = .returned (rAns (f 3)) ∧ Below wr.heap.size wr w') := R3.out wr hbw
      clear R0 R1 R2 R3 R4 R5 R6 R7 R8 R9 R10 H0 hcr
      rcases hf : f 3 with ⟨cc, s⟩
      rw [hf] at RK
      cases s
      · have hs2 : Hid (∀ j, j < 4 → (f j).2 = false) := sil_succ hsil.out hf
        clear hsil hf
        go_wp2_with (go_at_call 104; refine RK.out.mono ?_; rintro x w2 ⟨rfl, hb2⟩)
        go_roundw
        case rel => exact ⟨4, by omega, by go_num, hs2, hbel.trans (hb2.mono hbel.size)⟩
        case measure => simp [intOf]
      · have hv : Hid (vdF f 0 11 = cc) := vdF_at (by omega) hsil.out hf
        clear hsil hf
        go_wp2_with (go_at_call 104; refine RK.out.mono ?_; rintro x w2 ⟨rfl, hb2⟩)
        go_ret
        exact ⟨ret_int hv.out.symm, hbw.trans (hb2.mono hbw.size)⟩
    · have a0 : wr.cell? ⟨w.heap.size, 4, none⟩ = some (.func (.func 105) #[.pointer (some ⟨h, 0, none⟩)] #[]) := hcr.out 4
      have RK : Hid (Calls Tryz.prog 105 #[.pointer (some ⟨h, 0, none⟩)] wr fun x w' => x = .returned (rAns (f 4)) ∧ Below wr.heap.size wr w') := R4.out (H0.out (hsil.out 0 (by omega))) wr hbw
      clear R0 R1 R2 R3 R4 R5 R6 R7 R8 R9 R10 H0 hcr
      rcases hf : f 4 with ⟨cc, s⟩
      rw [hf] at RK
      cases s
      · have hs2 : Hid (∀ j, j < 5 → (f j).2 = false) := sil_succ hsil.out hf
        clear hsil hf
        go_wp2_with (go_at_call 105; refine RK.out.mono ?_; rintro x w2 ⟨rfl, hb2⟩)
        go_roundw
        case rel => exact ⟨5, by omega, by go_num, hs2, hbel.trans (hb2.mono hbel.size)⟩
        case measure => simp [intOf]
      · have hv : Hid (vdF f 0 11 = cc) := vdF_at (by omega) hsil.out hf
        clear hsil hf
        go_wp2_with (go_at_call 105; refine RK.out.mono ?_; rintro x w2 ⟨rfl, hb2⟩)
        go_ret
        exact ⟨ret_int hv.out.symm, hbw.trans (hb2.mono hbw.size)⟩
    · have a0 : wr.cell? ⟨w.heap.size, 5, none⟩ = some (.func (.func 106) #[.pointer (some ⟨h, 0, none⟩)] #[]) := hcr.out 5
      have RK : Hid (Calls Tryz.prog 106 #[.pointer (some ⟨h, 0, none⟩)] wr fun x w' => x = .returned (rAns (f 5)) ∧ Below wr.heap.size wr w') := R5.out wr hbw
      clear R0 R1 R2 R3 R4 R5 R6 R7 R8 R9 R10 H0 hcr
      rcases hf : f 5 with ⟨cc, s⟩
      rw [hf] at RK
      cases s
      · have hs2 : Hid (∀ j, j < 6 → (f j).2 = false) := sil_succ hsil.out hf
        clear hsil hf
        go_wp2_with (go_at_call 106; refine RK.out.mono ?_; rintro x w2 ⟨rfl, hb2⟩)
        go_roundw
        case rel => exact ⟨6, by omega, by go_num, hs2, hbel.trans (hb2.mono hbel.size)⟩
        case measure => simp [intOf]
      · have hv : Hid (vdF f 0 11 = cc) := vdF_at (by omega) hsil.out hf
        clear hsil hf
        go_wp2_with (go_at_call 106; refine RK.out.mono ?_; rintro x w2 ⟨rfl, hb2⟩)
        go_ret
        exact ⟨ret_int hv.out.symm, hbw.trans (hb2.mono hbw.size)⟩
    · have a0 : wr.cell? ⟨w.heap.size, 6, none⟩ = some (.func (.func 107) #[.pointer (some ⟨h, 0, none⟩)] #[]) := hcr.out 6
      have RK : Hid (Calls Tryz.prog 107 #[.pointer (some ⟨h, 0, none⟩)] wr fun x w' => x = .returned (rAns (f 6)) ∧ Below wr.heap.size wr w') := R6.out wr hbw
      clear R0 R1 R2 R3 R4 R5 R6 R7 R8 R9 R10 H0 hcr
      rcases hf : f 6 with ⟨cc, s⟩
      rw [hf] at RK
      cases s
      · have hs2 : Hid (∀ j, j < 7 → (f j).2 = false) := sil_succ hsil.out hf
        clear hsil hf
        go_wp2_with (go_at_call 107; refine RK.out.mono ?_; rintro x w2 ⟨rfl, hb2⟩)
        go_roundw
        case rel => exact ⟨7, by omega, by go_num, hs2, hbel.trans (hb2.mono hbel.size)⟩
        case measure => simp [intOf]
      · have hv : Hid (vdF f 0 11 = cc) := vdF_at (by omega) hsil.out hf
        clear hsil hf
        go_wp2_with (go_at_call 107; refine RK.out.mono ?_; rintro x w2 ⟨rfl, hb2⟩)
        go_ret
        exact ⟨ret_int hv.out.symm, hbw.trans (hb2.mono hbw.size)⟩
    · have a0 : wr.cell? ⟨w.heap.size, 7, none⟩ = some (.func (.func 108) #[.pointer (some ⟨h, 0, none⟩)] #[]) := hcr.out 7
      have RK : Hid (Calls Tryz.prog 108 #[.pointer (some ⟨h, 0, none⟩)] wr fun x w' => x = .returned (rAns (f 7)) ∧ Below wr.heap.size wr w') := R7.out wr hbw
      clear R0 R1 R2 R3 R4 R5 R6 R7 R8 R9 R10 H0 hcr
      rcases hf : f 7 with ⟨cc, s⟩
      rw [hf] at RK
      cases s
      · have hs2 : Hid (∀ j, j < 8 → (f j).2 = false) := sil_succ hsil.out hf
        clear hsil hf
        go_wp2_with (go_at_call 108; refine RK.out.mono ?_; rintro x w2 ⟨rfl, hb2⟩)
        go_roundw
        case rel => exact ⟨8, by omega, by go_num, hs2, hbel.trans (hb2.mono hbel.size)⟩
        case measure => simp [intOf]
      · have hv : Hid (vdF f 0 11 = cc) := vdF_at (by omega) hsil.out hf
        clear hsil hf
        go_wp2_with (go_at_call 108; refine RK.out.mono ?_; rintro x w2 ⟨rfl, hb2⟩)
        go_ret
        exact ⟨ret_int hv.out.symm, hbw.trans (hb2.mono hbw.size)⟩
    · have a0 : wr.cell? ⟨w.heap.size, 8, none⟩ = some (.func (.func 109) #[.pointer (some ⟨h, 0, none⟩)] #[]) := hcr.out 8
      have RK : Hid (Calls Tryz.prog 109 #[.pointer (some ⟨h, 0, none⟩)] wr fun x w' => x = .returned (rAns (f 8)) ∧ Below wr.heap.size wr w') := R8.out wr hbw
      clear R0 R1 R2 R3 R4 R5 R6 R7 R8 R9 R10 H0 hcr
      rcases hf : f 8 with ⟨cc, s⟩
      rw [hf] at RK
      cases s
      · have hs2 : Hid (∀ j, j < 9 → (f j).2 = false) := sil_succ hsil.out hf
        clear hsil hf
        go_wp2_with (go_at_call 109; refine RK.out.mono ?_; rintro x w2 ⟨rfl, hb2⟩)
        go_roundw
        case rel => exact ⟨9, by omega, by go_num, hs2, hbel.trans (hb2.mono hbel.size)⟩
        case measure => simp [intOf]
      · have hv : Hid (vdF f 0 11 = cc) := vdF_at (by omega) hsil.out hf
        clear hsil hf
        go_wp2_with (go_at_call 109; refine RK.out.mono ?_; rintro x w2 ⟨rfl, hb2⟩)
        go_ret
        exact ⟨ret_int hv.out.symm, hbw.trans (hb2.mono hbw.size)⟩
    · have a0 : wr.cell? ⟨w.heap.size, 9, none⟩ = some (.func (.func 110) #[.pointer (some ⟨h, 0, none⟩)] #[]) := hcr.out 9
      have RK : Hid (Calls Tryz.prog 110 #[.pointer (some ⟨h, 0, none⟩)] wr fun x w' => x = .returned (rAns (f 9)) ∧ Below wr.heap.size wr w') := R9.out wr hbw
      clear R0 R1 R2 R3 R4 R5 R6 R7 R8 R9 R10 H0 hcr
      rcases hf : f 9 with ⟨cc, s⟩
      rw [hf] at RK
      cases s
      · have hs2 : Hid (∀ j, j < 10 → (f j).2 = false) := sil_succ hsil.out hf
        clear hsil hf
        go_wp2_with (go_at_call 110; refine RK.out.mono ?_; rintro x w2 ⟨rfl, hb2⟩)
        go_roundw
        case rel => exact ⟨10, by omega, by go_num, hs2, hbel.trans (hb2.mono hbel.size)⟩
        case measure => simp [intOf]
      · have hv : Hid (vdF f 0 11 = cc) := vdF_at (by omega) hsil.out hf
        clear hsil hf
        go_wp2_with (go_at_call 110; refine RK.out.mono ?_; rintro x w2 ⟨rfl, hb2⟩)
        go_ret
        exact ⟨ret_int hv.out.symm, hbw.trans (hb2.mono hbw.size)⟩
    · have a0 : wr.cell? ⟨w.heap.size, 10, none⟩ = some (.func (.func 111) #[.pointer (some ⟨h, 0, none⟩)] #[]) := hcr.out 10
      have RK : Hid (Calls Tryz.prog 111 #[.pointer (some ⟨h, 0, none⟩)] wr fun x w' => x = .returned (rAns (f 10)) ∧ Below wr.heap.size wr w') := R10.out wr hbw
      clear R0 R1 R2 R3 R4 R5 R6 R7 R8 R9 R10 H0 hcr
      rcases hf : f 10 with ⟨cc, s⟩
      rw [hf] at RK
      cases s
      · have hs2 : Hid (∀ j, j < 11 → (f j).2 = false) := sil_succ hsil.out hf
        clear hsil hf
        go_wp2_with (go_at_call 111; refine RK.out.mono ?_; rintro x w2 ⟨rfl, hb2⟩)
        go_roundw
        case rel => exact ⟨11, by omega, by go_num, hs2, hbel.trans (hb2.mono hbel.size)⟩
        case measure => simp [intOf]
      · have hv : Hid (vdF f 0 11 = cc) := vdF_at (by omega) hsil.out hf
        clear hsil hf
        go_wp2_with (go_at_call 111; refine RK.out.mono ?_; rintro x w2 ⟨rfl, hb2⟩)
        go_ret
        exact ⟨ret_int hv.out.symm, hbw.trans (hb2.mono hbw.size)⟩
    · have hv : Hid (vdF f 0 11 = 0) := vdF_no hsil.out
      clear R0 R1 R2 R3 R4 R5 R6 R7 R8 R9 R10 H0 hcr hsil
      go_wp2
      go_ret
      exact ⟨ret_int hv.out.symm, hbw⟩
end Go.Proofs.YtnkpikknkooblaaGreat
