import Derived.Test.YtgocjlpbokhoeaaGqU
namespace Go.Proofs.Ytgocjlpbokhoeaa
open Go.RowKit
noncomputable def asN (bs : Nat → Nat) (m q : Nat) : Nat := if nxB bs m q % 5 = 4 then ssN (stoD bs m (nxQ m q)).n (nxB bs m (stoD bs m (nxQ m q)).q) else (stoD bs m (nxQ m q)).n
noncomputable def asG (bs : Nat → Nat) (m q : Nat) : Nat → Grp := if nxB bs m q % 5 = 4 then ssG bs m (stoD bs m (nxQ m q)).n (stoD bs m (nxQ m q)).G (nxB bs m (stoD bs m (nxQ m q)).q) (nxQ m (stoD bs m (nxQ m q)).q) else (stoD bs m (nxQ m q)).G
noncomputable def asQ (bs : Nat → Nat) (m q : Nat) : Nat := if nxB bs m q % 5 = 4 then ssQ m (nxB bs m (stoD bs m (nxQ m q)).q) (nxQ m (stoD bs m (nxQ m q)).q) else (stoD bs m (nxQ m q)).q
theorem asN_pos (bs : Nat → Nat) (m q : Nat) : 0 < asN bs m q ∧ asN bs m q ≤ 13 := by
  have h := stoD_n bs m (nxQ m q)
  unfold asN
  split
  · have := ssN_pos (k := nxB bs m (stoD bs m (nxQ m q)).q) h.1; omega
  · omega
theorem asG_ty (bs : Nat → Nat) (m q : Nat) : ∀ j, Ty6 (asG bs m q j).sets := by
  unfold asG
  split
  · exact ssG_ty (stoD_ok bs m (nxQ m q)).gty
  · exact (stoD_ok bs m (nxQ m q)).gty
def AsPost (p : Nat) (w : World) (bs : Nat → Nat) (m n : Nat) (G : Nat → Grp) (q : Nat) (e : Ending) (w' : World) : Prop := ∃ a c, e = .returned (.agg #[.slice a n c]) ∧ Hid (∀ W, KW (w.heap.size + 1) w' W → SlT W a n c G) ∧ DwF p w w' bs m q
set_option maxRecDepth 100000 in
set_option maxHeartbeats 4000000 in
theorem drawAsto (p : Nat) {bs : Nat → Nat} {m q : Nat} (w : World) (h : RdF w p bs m q) : Calls Try.prog 14 #[.pointer (some ⟨p, 0, none⟩)] w (AsPost p w bs m (asN bs m q) (asG bs m q) (asQ bs m q)) := by
  have hp := h.lt
  have hb0 : ∀ o, Below w.heap.size w (w.alloc o) := fun o => (Below.refl _ _).alloc (Nat.le_refl _) _
  go_enter Try.func14, Try.ntmps14
  go_wp2_with fail
  refine (nextF p _ (h.below (hb0 _))).mono ?_
  rintro e w1 ⟨rfl, hd1⟩
  have hdw : DwF p w w1 bs m (nxQ m q) := DwF.of_below h (hb0 _) hd1
  have r0 : w1.cell? ⟨w.heap.size, 0, none⟩ = some (.slice none 0 0) := by
    refine (hd1.2.cell_far ⟨w.heap.size, 0, none⟩ (by simp) (fun e => absurd (Option.some.inj e) (by show w.heap.size ≠ p; omega))).trans ?_
    exact World.cell?_alloc_at _ _ _ _ rfl
  have rf0 : w1.frozen? ⟨w.heap.size, 0, none⟩ = false := by
    refine (hd1.2.frozen_far ⟨w.heap.size, 0, none⟩ (by simp) (fun e => absurd (Option.some.inj e) (by show w.heap.size ≠ p; omega))).trans ?_
    exact World.frozen?_alloc_at _ _ _ _ rfl
  have hlt1 : w.heap.size < w1.heap.size := by have := hd1.2.size; simp at this; omega
  clear hd1 hb0
  have HX : Hid (asN bs m q = (if nxB bs m q % 5 = 4 then ssN (stoD bs m (nxQ m q)).n (nxB bs m (stoD bs m (nxQ m q)).q) else (stoD bs m (nxQ m q)).n) ∧ asG bs m q = (if nxB bs m q % 5 = 4 then ssG bs m (stoD bs m (nxQ m q)).n (stoD bs m (nxQ m q)).G (nxB bs m (stoD bs m (nxQ m q)).q) (nxQ m (stoD bs m (nxQ m q)).q) else (stoD bs m (nxQ m q)).G) ∧ asQ bs m q = if nxB bs m q % 5 = 4 then ssQ m (nxB bs m (stoD bs m (nxQ m q)).q) (nxQ m (stoD bs m (nxQ m q)).q) else (stoD bs m (nxQ m q)).q) := ⟨rfl, rfl, rfl⟩
  have hn := stoD_n bs m (nxQ m q)
  have HS : Hid (stoTo (stoD bs m (nxQ m q)).G (stoD bs m (nxQ m q)).n = true) := (stoB_parts (stoD_ok bs m (nxQ m q)).sto).2
  have Hcall : Hid (Calls Try.prog 36 #[.pointer (some ⟨p, 0, none⟩)] w1 (DsPost p w1 bs m (stoD bs m (nxQ m q)).n (stoD bs m (nxQ m q)).G (stoD bs m (nxQ m q)).q)) := drawSto p w1 hdw.1
  generalize nxB bs m q = k at *
  generalize stoD bs m (nxQ m q) = d at *
  go_wp2_with fail
  refine Hcall.out.mono ?_
  rintro e w2 ⟨va, vc, T, rfl, hrow, hd2⟩
  clear Hcall
  have hne : ∀ b, w.heap.size ≤ b → some b ≠ some p := fun b h1 e => by injection e with e; omega
  have hsz2 := hd2.size
  obtain ⟨w3, hw3⟩ : ∃ w3, w3 = w2.alloc (.cells #[.slice va d.n vc] 25) := ⟨_, rfl⟩
  have hb3 : Below w2.heap.size w2 w3 := by rw [hw3]; exact (Below.refl _ _).alloc (Nat.le_refl _) _
  have x3 : w3.cell? ⟨w2.heap.size, 0, none⟩ = some (.slice va d.n vc) := by rw [hw3]; exact World.cell?_alloc_at _ _ _ _ rfl
  have r3 : w3.cell? ⟨w.heap.size, 0, none⟩ = some (.slice none 0 0) := (hb3.cell (p := ⟨w.heap.size, 0, none⟩) (by show w.heap.size < _; omega)).trans ((hd2.2.cell_far ⟨w.heap.size, 0, none⟩ hlt1 (hne _ (Nat.le_refl _))).trans r0)
  have rf3 : w3.frozen? ⟨w.heap.size, 0, none⟩ = false := (hb3.frozen (p := ⟨w.heap.size, 0, none⟩) (by show w.heap.size < _; omega)).trans ((hd2.2.frozen_far ⟨w.heap.size, 0, none⟩ hlt1 (hne _ (Nat.le_refl _))).trans rf0)
  have hdw3 : DwF p w w3 bs m d.q := (hdw.trans hd2).below hb3
  have HR : Hid (RowP w3 w1.heap.size (.slice va d.n vc) d.n d.G T) := hrow.below hb3
  have hsz3 := hb3.size
  have HD : Hid (DwF p w w3 bs m d.q) := hdw3
  clear hdw hrow r0 rf0 hd2 hdw3 hb3
  by_cases hk : k % 5 = 4
  · have hkz : (k : Int) % 5 = 4 := by omega
    rw [if_pos hk, if_pos hk, if_pos hk] at HX
    go_wp2_with fail
    rw [← hw3]
    clear hw3
    refine (spoilSto p w1.heap.size _ HD.out.1 (by omega) (by omega) HR.out hn.1 hn.2 (fun j hj => Nat.le_trans (grpOk_parts (stoTo_at HS.out j hj)).2.2.1 (by decide))).mono ?_
    rintro e w4 ⟨a4, c4, rfl, hT4, hr4, hk4⟩
    have nw : ¬ ((fun b => b = p ∨ w1.heap.size ≤ b) w.heap.size) := by
      intro hP
      rcases hP with hP | hP <;> omega
    have r4 : w4.cell? ⟨w.heap.size, 0, none⟩ = some (.slice none 0 0) := (hk4.cell (p := ⟨w.heap.size, 0, none⟩) (by show w.heap.size < _; omega) nw).trans r3
    have rf4 : w4.frozen? ⟨w.heap.size, 0, none⟩ = false := (hk4.frozen (p := ⟨w.heap.size, 0, none⟩) (by show w.heap.size < _; omega) nw).trans rf3
    have hd4 : DwF p w w4 bs m (ssQ m (nxB bs m d.q) (nxQ m d.q)) := by
      refine ⟨hr4, hk4.os.trans HD.out.2.os, hk4.tape.trans HD.out.2.tape, hk4.output.trans HD.out.2.output, Nat.le_trans HD.out.2.size hk4.size, fun b hb hne => ?_⟩
      refine (hk4.block b (Nat.lt_of_lt_of_le hb HD.out.2.size) (fun hP => ?_)).trans (HD.out.2.block b hb hne)
      rcases hP with hP | hP
      · exact hne (by rw [hP])
      · omega
    have HP : Hid (AsPost p w bs m (asN bs m q) (asG bs m q) (asQ bs m q) (.returned (.agg #[.slice a4 (ssN d.n (nxB bs m d.q)) c4])) (w4.setCell ⟨w.heap.size, 0, none⟩ (.slice a4 (ssN d.n (nxB bs m d.q)) c4))) := by
      rw [HX.out.1, HX.out.2.1, HX.out.2.2]
      exact ⟨a4, c4, rfl, fun W hW => hT4 W (((KW.set w4 (Nat.lt_succ_self _) _ _).trans hW).up (by omega)), hd4.own (Nat.le_refl _) hp _ _⟩
    clear hT4 hr4 hk4 nw hd4 HR HD HS HX x3 r3 rf3
    go_wp2
    exact bodyPost_ret (v := .agg #[.slice a4 (ssN d.n (nxB bs m d.q)) c4]) (by simp [results, Try.results14, go_sem, r4]) rfl HP.out
  · have hkz : ¬ (k : Int) % 5 = 4 := by omega
    rw [if_neg hk, if_neg hk, if_neg hk] at HX
    have HP : Hid (AsPost p w bs m (asN bs m q) (asG bs m q) (asQ bs m q) (.returned (.agg #[.slice va d.n vc])) (w3.setCell ⟨w.heap.size, 0, none⟩ (.slice va d.n vc))) := by
      rw [HX.out.1, HX.out.2.1, HX.out.2.2]
      refine ⟨va, vc, rfl, fun W hW => ?_, HD.out.own (Nat.le_refl _) hp _ _⟩
      obtain ⟨a', c', e, hT⟩ := (HR.out.kw (((KW.set w3 (Nat.lt_succ_self _) _ _).trans hW).up (by omega))).slt
      injection e with e1 _ e2
      subst e1 e2
      exact hT
    subst hw3
    clear HR HD HS HX
    go_wp2
    exact bodyPost_ret (v := .agg #[.slice va d.n vc]) (by simp [results, Try.results14, go_sem, r3]) rfl HP.out
end Go.Proofs.Ytgocjlpbokhoeaa
