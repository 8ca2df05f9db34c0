import Derived.Test.YtgocjlpbokhoeaaClE
import Derived.Test.YtgocjlpbokhoeaaLyT
import Derived.Test.YtgocjlpbokhoeaaStaI
import Derived.Test.YtgocjlpbokhoeaaDeI
namespace Go.Proofs.Ytgocjlpbokhoeaa
open Go.RowKit
def GoPost (G : Nat → Grp) (n : Nat) (s : List Ent) (near : Int) (w : World) (x : Ending) (w' : World) : Prop :=
  ∃ t : Lg, x = .returned (.agg #[.int .i64 (nwG G n s near).par, .slice t.a (nwG G n s near).sets.length t.c]) ∧ Hid (QP w' (nwG G n s near) t) ∧ w.heap.size ≤ t.lo ∧ Below w.heap.size w w'
theorem stOf_st {L : List (List Ent)} (h : ChOk L) (h3 : (stOf L).length ≤ 300) : stB (stOf L) = true := by
  obtain ⟨h1, h2, _⟩ := stOf_ok h
  unfold stB
  rw [Bool.and_eq_true, Bool.and_eq_true]
  refine ⟨?_, decide_eq_true h3, ord_of h1⟩
  have : ∀ n, n ≤ (stOf L).length → idsTo (stOf L) n = true := fun n => by
    induction n with
    | zero => exact fun _ => rfl
    | succ n ih =>
      intro hn
      unfold idsTo
      rw [ih (by omega), h2 _ (eAt_mem _ n (by omega))]
      rfl
  exact this _ (Nat.le_refl _)
set_option maxRecDepth 100000 in
set_option maxHeartbeats 4000000 in
theorem grpOf_sl {a : Option Addr} {n cap : Nat} {X : Nat → Value} {G : Nat → Grp} {sa : Option Addr} {sc : Nat} {s : List Ent} (near : Int) (w : World) (hto : stoTo G n = true) (hk : ∀ i, i < n → AllOk (G i).sets) (hs : stB s = true) (hq : SlQ w a n cap X) (hX : ∀ i, i < n → LayAt w none (X i) (csF G i)) (h : SlE w sa sc s) :
    Calls Try.prog 32 #[.slice a n cap, .slice sa s.length sc, .int .i64 near] w (GoPost G n s near w) := by
  have hs3 := (st_parts hs).1
  have hba : ∀ o, Below w.heap.size w (w.alloc o) := fun o => (Below.refl _ _).alloc (Nat.le_refl _) _
  obtain ⟨wa, hwa⟩ : ∃ wa, wa = w.alloc (.cells #[.int .i64 0, .slice none 0 0] 46) := ⟨_, rfl⟩
  have hwwa : Below w.heap.size w wa := by rw [hwa]; exact hba _
  have hsa : wa.heap.size = w.heap.size + 1 := by rw [hwa]; simp
  have hca : Hid (∀ W, Below wa.heap.size wa W → W.cell? ⟨w.heap.size, 0, none⟩ = some (.int .i64 0) ∧ W.cell? ⟨w.heap.size, 1, none⟩ = some (.slice none 0 0) ∧ W.frozen? ⟨w.heap.size, 0, none⟩ = false ∧ W.frozen? ⟨w.heap.size, 1, none⟩ = false) := fun W hW => by
    have hl : w.heap.size < wa.heap.size := by omega
    refine ⟨(hW.cell (by exact hl)).trans ?_, (hW.cell (by exact hl)).trans ?_, (hW.frozen (by exact hl)).trans ?_, (hW.frozen (by exact hl)).trans ?_⟩ <;> rw [hwa]
    · exact World.cell?_alloc_at _ _ _ _ rfl
    · exact World.cell?_alloc_at _ _ _ _ rfl
    · exact World.frozen?_alloc_at _ _ _ _ rfl
    · exact World.frozen?_alloc_at _ _ _ _ rfl
  have HQ : Hid (∀ (W : World) (p : Int) (l : List Ent) (t : Lg), Below wa.heap.size wa W → wa.heap.size ≤ t.lo → QP W ⟨p, l⟩ t → nwG G n s near = ⟨p, l⟩ → GoPost G n s near w (.returned (.agg #[.int .i64 p, .slice t.a l.length t.c])) ((W.setCell ⟨w.heap.size, 0, none⟩ (.int .i64 p)).setCell ⟨w.heap.size, 1, none⟩ (.slice t.a l.length t.c))) := fun W p l t hW hlo hqp he => by
    refine ⟨t, by rw [he], ?_, by omega, ((hwwa.trans (hW.mono hwwa.size)).setCell (Nat.le_refl _) _).setCell (Nat.le_refl _) _⟩
    unfold Hid
    rw [he]
    exact hqp.kept (by simp [World.setCell]) (fun x h1 _ => (Below.heap_setCell _ _ _ _ (by show x ≠ w.heap.size; omega)).trans (Below.heap_setCell _ _ _ _ (by show x ≠ w.heap.size; omega)))
  have HX : Hid (∀ i, i < n → LayAt wa none (X i) (csF G i)) := fun i hi => (hX i hi).below hwwa
  have HF : Hid (stoTo G n = true ∧ (∀ i, i < n → AllOk (G i).sets)) := ⟨hto, hk⟩
  have hqa := hq.below hwwa
  have hsl := h.below hwwa
  have Hpl : Hid (nwB G n near = ((decide (0 ≤ near) && decide (near < n)) && decide (lnk G (near.toNat + 1) near.toNat < 4))) := by unfold Hid nwB; rw [Bool.and_assoc]
  have hss : Hid (stB s = true) := hs
  clear hX hto hk hq h hs
  go_enter Try.func32, Try.ntmps32
  go_wp2_with fail
  rw [← hwa]
  clear hwa
  refine (hasPl_any a n cap near _).mono ?_
  rintro e w2 ⟨rfl, rfl⟩
  obtain ⟨wa, rfl⟩ : ∃ W : World, W = w2 := ⟨_, rfl⟩
  by_cases hpl : (decide (0 ≤ near) && decide (near < (n : Int))) = true
  · rw [hpl]
    rw [hpl, Bool.true_and] at Hpl
    rw [Bool.and_eq_true, decide_eq_true_eq, decide_eq_true_eq] at hpl
    obtain ⟨q, rfl⟩ : ∃ q : Nat, near = (q : Int) := ⟨near.toNat, by omega⟩
    have hqn : q < n := by omega
    have hFr := stoTo_front HF.out.1
    have hcf := cs_facts hFr q hqn
    have hbd := cs_bd HF.out.1 q hqn
    have HOq : Hid (ChOk (csF G q)) := cs_ok HF.out.1 HF.out.2 q hqn
    obtain ⟨T, R, hTR⟩ := cs_cons hFr hqn
    have hLq := HX.out q hqn
    obtain ⟨p, hp⟩ := hLq.ptr
    rw [hp] at hLq
    rcases hqa.cells with h0 | ⟨rb, ro, rfl, hrb, hrc⟩
    · omega
    have hr0 := hrc q hqn
    rw [hp] at hr0
    have HL : Hid (LayAt wa none (.pointer p) (csF G q)) := hLq
    rw [hTR] at hLq
    obtain ⟨lb, pp, ta, tc, e0, hblt, c0, c1, c2, c3, -, -, -⟩ := hLq
    injection e0 with e0
    subst e0
    have hlk : R.length = lnk G (q + 1) q := by have := hcf.1; rw [hTR, List.length_cons] at this; omega
    rw [hlk] at c2
    have hi0 : (0 : Int) ≤ (q : Int) := by omega
    have hi1 : (q : Int) < (n : Int) := by omega
    have Hst : Hid (stOf (csF G q) = expF G (q + 1) q) := hcf.2
    have Hb1 : Hid ((csF G q).length ≤ 5 ∧ (stOf (csF G q)).length ≤ 300) := hbd
    clear hTR hlk hcf hbd hrc hp c0 c1 c3 hFr hpl
    by_cases hl4 : lnk G (q + 1) q < 4
    · have hnb : Hid (nwB G n (q : Int) = true) := by rw [Hpl.out]; exact decide_eq_true hl4
      have hl4' : ¬ (4 ≤ lnk G (q + 1) q) := by omega
      have hl4i : ¬ ((4 : Int) ≤ ((lnk G (q + 1) q : Nat) : Int)) := by omega
      have Hnw : Hid (nwG G n s (q : Int) = ⟨(q : Int), dl2 (expF G (q + 1) q) s s.length⟩) := nwG_yes hnb.out
      clear hnb Hpl
      go_wp2_with fail
      refine (state_any _ HL.out HOq.out (by have := Hb1.out.1; omega)).mono ?_
      rintro e w3 ⟨v3, rfl, ho3, hb3⟩
      have hok3 : Hid (AllOk (stOf (csF G q)) ∧ stB (stOf (csF G q)) = true) := ⟨(stOf_ok HOq.out).2.2, stOf_st HOq.out Hb1.out.2⟩
      obtain ⟨va, vc, rfl, hsl3⟩ := ho3.sl hok3.out.1.at
      go_wp2_with fail
      refine (deltaI_st _ hsl3 (hsl.below hb3) hok3.out.2 hss.out).mono ?_
      rintro e w4 ⟨v4, rfl, ho4, hb4⟩
      rw [Hst.out] at ho4
      have hok4 : AllOk (dl2 (expF G (q + 1) q) s s.length) := dl2_ok (by rw [← Hst.out]; exact hok3.out.1) hsl.ok _ (Nat.le_refl _)
      obtain ⟨da, dc, rfl, hqp⟩ := ho4.qp hok4 (q : Int) hb4.size
      have hb34 := hb3.trans (hb4.mono hb3.size)
      have HP : Hid (GoPost G n s (q : Int) w (.returned (.agg #[.int .i64 (q : Int), .slice da (dl2 (expF G (q + 1) q) s s.length).length dc])) ((w4.setCell ⟨w.heap.size, 0, none⟩ (.int .i64 (q : Int))).setCell ⟨w.heap.size, 1, none⟩ (.slice da (dl2 (expF G (q + 1) q) s s.length).length dc))) := HQ.out w4 (q : Int) _ ⟨da, dc, w3.heap.size, w4.heap.size⟩ hb34 hb3.size hqp Hnw.out
      obtain ⟨y0, y1, y2, y3⟩ := hca.out _ hb34
      clear hqp ho4 hok4 ho3 hsl3 HQ
      go_wp2
      exact bodyPost_ret (v := .agg #[.int .i64 (q : Int), .slice da (dl2 (expF G (q + 1) q) s s.length).length dc]) (by simp [results, Try.results32, go_sem, y0, y1]) rfl HP.out
    · have hnb : Hid (nwB G n (q : Int) = false) := by rw [Hpl.out]; exact decide_eq_false hl4
      have hl4' : 4 ≤ lnk G (q + 1) q := by omega
      have hl4i : (4 : Int) ≤ ((lnk G (q + 1) q : Nat) : Int) := by omega
      have Hnw : Hid (nwG G n s (q : Int) = ⟨-1, s⟩) := nwG_no hnb.out
      clear hnb Hpl HOq Hst Hb1 HL
      go_wp2_with fail
      refine (clE_sl _ (by omega) hsl).mono ?_
      rintro e w4 ⟨v4, rfl, ho4, hb4⟩
      obtain ⟨da, dc, rfl, hqp⟩ := ho4.qp hsl.ok (-1) hb4.size
      have HP : Hid (GoPost G n s (q : Int) w (.returned (.agg #[.int .i64 (-1), .slice da s.length dc])) ((w4.setCell ⟨w.heap.size, 0, none⟩ (.int .i64 (-1))).setCell ⟨w.heap.size, 1, none⟩ (.slice da s.length dc))) := HQ.out w4 (-1) _ ⟨da, dc, wa.heap.size, w4.heap.size⟩ hb4 (Nat.le_refl _) hqp Hnw.out
      obtain ⟨y0, y1, y2, y3⟩ := hca.out _ hb4
      clear hqp ho4 HQ
      go_wp2
      exact bodyPost_ret (v := .agg #[.int .i64 (-1), .slice da s.length dc]) (by simp [results, Try.results32, go_sem, y0, y1]) rfl HP.out
  · have hpf : (decide (0 ≤ near) && decide (near < (n : Int))) = false := by cases hq : (decide (0 ≤ near) && decide (near < (n : Int))) <;> simp_all
    rw [hpf]
    rw [hpf, Bool.false_and] at Hpl
    have Hnw : Hid (nwG G n s near = ⟨-1, s⟩) := nwG_no Hpl.out
    clear hpl hpf HX Hpl
    go_wp2_with fail
    refine (clE_sl _ (by omega) hsl).mono ?_
    rintro e w4 ⟨v4, rfl, ho4, hb4⟩
    obtain ⟨da, dc, rfl, hqp⟩ := ho4.qp hsl.ok (-1) hb4.size
    have HP : Hid (GoPost G n s near w (.returned (.agg #[.int .i64 (-1), .slice da s.length dc])) ((w4.setCell ⟨w.heap.size, 0, none⟩ (.int .i64 (-1))).setCell ⟨w.heap.size, 1, none⟩ (.slice da s.length dc))) := HQ.out w4 (-1) _ ⟨da, dc, wa.heap.size, w4.heap.size⟩ hb4 (Nat.le_refl _) hqp Hnw.out
    obtain ⟨y0, y1, y2, y3⟩ := hca.out _ hb4
    clear hqp ho4 HQ
    go_wp2
    exact bodyPost_ret (v := .agg #[.int .i64 (-1), .slice da s.length dc]) (by simp [results, Try.results32, go_sem, y0, y1]) rfl HP.out
end Go.Proofs.Ytgocjlpbokhoeaa
