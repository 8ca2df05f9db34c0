import Derived.Test.YtgocjlpbokhoeaaSvP
import Derived.Test.YtgocjlpbokhoeaaToTM
import Derived.Test.YtgocjlpbokhoeaaDlLM
import Derived.Deep.AppendLies
import Derived.Deep.RegionLaw
import Derived.Deep.RegionHeld3
namespace Go.Proofs.Ytgocjlpbokhoeaa
open Go.RowKit
theorem SvPost.blw {G : Nat → Grp} {n : Nat} {s : List Ent} {near f : Int} {w w' w2 : World} {x : Ending} (h : SvPost G n s near f w x w') (hb : Below w'.heap.size w' w2) : SvPost G n s near f w x w2 := by
  obtain ⟨v, T, e, hr, hbw⟩ := h
  exact ⟨v, T, e, hr.out.below hb, hbw.trans (hb.mono hbw.size)⟩
set_option maxRecDepth 100000 in
set_option maxHeartbeats 8000000 in
theorem svS_sl {a : Option Addr} (n cap : Nat) {G : Nat → Grp} {sa : Option Addr} {sc : Nat} {s : List Ent} (near f : Int) (w : World) (hf : Fnd G s n f) (h : SlT w a n cap G) (hs : SlE w sa sc s) :
    Calls Try.prog 5 #[.agg #[.slice a n cap], .slice sa s.length sc, .int .i64 near] w (SvPost G n s near f w) := by
  obtain ⟨i0, hi, hz0, hz1, hz2⟩ := info_parts Try.infoGroup
  have hnn := Nat.le_trans h.le h.max
  unfold maxLen at hnn
  obtain ⟨wa, hwa⟩ : ∃ wa, wa = (w.alloc (.cells #[.slice a n cap] 25)).alloc (.cells #[.slice none 0 0] 25) := ⟨_, rfl⟩
  have hsa : wa.heap.size = w.heap.size + 2 := by rw [hwa]; simp
  have hba : Below w.heap.size w wa := by rw [hwa]; exact ((Below.refl _ _).alloc (Nat.le_refl _) _).alloc (by simp) _
  have hca : Hid (∀ W, Below wa.heap.size wa W → W.cell? ⟨w.heap.size, 0, none⟩ = some (.slice a n cap) ∧ W.cell? ⟨w.heap.size + 1, 0, none⟩ = some (.slice none 0 0) ∧ W.frozen? ⟨w.heap.size + 1, 0, none⟩ = false) := fun W hW => by
    refine ⟨(hW.cell (by show w.heap.size < wa.heap.size; omega)).trans ?_, (hW.cell (by show w.heap.size + 1 < wa.heap.size; omega)).trans ?_, (hW.frozen (by show w.heap.size + 1 < wa.heap.size; omega)).trans ?_⟩
    · rw [hwa, World.cell?_alloc_past _ _ _ (by simp)]
      exact World.cell?_alloc_at _ _ _ _ rfl
    · rw [hwa]; exact World.cell?_alloc_at _ _ _ _ (by simp)
    · rw [hwa]; exact World.frozen?_alloc_at _ _ _ _ (by simp)
  have Hno : Hid (∀ W, Below wa.heap.size wa W → svN G n s f = 0 ∧ svC G n s f = -1 → SvPost G n s near f w (.returned (.tuple #[.agg #[.slice none 0 0], .int .i64 (-1)])) (W.setCell ⟨w.heap.size + 1, 0, none⟩ (.slice none 0 0))) := fun W hW hv => SvPost.none hv ((hba.trans (hW.mono hba.size)).setCell (by exact Nat.le_succ _) _)
  have r0 : ((w.alloc (.cells #[.slice a n cap] 25)).alloc (.cells #[.slice none 0 0] 25)).cell? ⟨w.heap.size, 0, none⟩ = some (.slice a n cap) := by rw [← hwa]; exact (hca.out _ (Below.refl _ _)).1
  have Hf : Hid (Fnd G s n f) := hf
  clear hf
  go_enter Try.func5, Try.ntmps5
  go_wp2_with fail
  rw [← hwa]
  clear hwa r0
  refine (storeS_sl _ (h.below hba)).mono ?_
  rintro e w1 ⟨rfl, hb1⟩
  obtain ⟨-, y1, y2⟩ := hca.out _ hb1
  cases hst : stoB G n
  case false =>
    have Hn : Hid (_) := Hno.out w1 hb1 (sv_bad (by rw [hst]; rfl))
    go_wp2
    exact bodyPost_ret (v := .tuple #[.agg #[.slice none 0 0], .int .i64 (-1)]) (by simp [results, Try.results5, go_sem, y1]) rfl Hn.out
  clear y1 y2
  go_wp2_with fail
  have hw1 := hba.trans (hb1.mono hba.size)
  refine (stateS_sl _ (hs.below hw1)).mono ?_
  rintro e w2 ⟨rfl, hb2'⟩
  have hb2 := hb1.trans (hb2'.mono hb1.size)
  clear hb2' hb1 hw1
  obtain ⟨y0, y1, y2⟩ := hca.out _ hb2
  cases hss : stB s
  case false =>
    have Hn : Hid (_) := Hno.out w2 hb2 (sv_bad (by rw [hst, hss]; rfl))
    go_wp2
    exact bodyPost_ret (v := .tuple #[.agg #[.slice none 0 0], .int .i64 (-1)]) (by simp [results, Try.results5, go_sem, y1]) rfl Hn.out
  have hokk : (stoB G n && stB s) = true := by rw [hst, hss]; rfl
  have h1000 : n ≤ 1000 := by
    unfold stoB at hst
    rw [Bool.and_eq_true] at hst
    exact of_decide_eq_true hst.1
  have Hto : Hid (stoTo G n = true) := by
    unfold stoB at hst
    rw [Bool.and_eq_true] at hst
    exact hst.2
  have Hall : Hid (∀ j, j < n → AllOk (G j).sets) := fun j hj => by
    rcases h.cells with h0 | ⟨_, _, _, _, hc⟩
    · omega
    · obtain ⟨_, _, _, _, hsl⟩ := hc j hj
      exact hsl.ok
  have Hfront : Hid (Front G n) := stoTo_front Hto.out
  have Hsets : Hid (∀ j, j < n → (G j).sets.length ≤ 600) := fun j hj => (grpOk_parts (stoTo_at Hto.out j hj)).2.2.1
  have Hexp : Hid (∀ j, j < n → (expF G (j + 1) j).length ≤ 300) := fun j hj => (grpOk_parts (stoTo_at Hto.out j hj)).2.2.2.2
  have Hexo : Hid (∀ j, j < n → AllOk (expF G (j + 1) j)) := fun j hj => expF_ok Hfront.out Hall.out (j + 1) j hj
  have hs3 : s.length ≤ 300 := by
    unfold stB at hss
    rw [Bool.and_eq_true, Bool.and_eq_true] at hss
    exact of_decide_eq_true hss.2.1
  clear hst hss
  obtain ⟨B, hBd⟩ : ∃ B, B = w2.heap.size := ⟨_, rfl⟩
  obtain ⟨w3, hw3⟩ : ∃ w3, w3 = (w2.alloc (.cells #[] 46)).alloc (.cells #[.slice (some ⟨w2.heap.size, 0, none⟩) 0 0] 25) := ⟨_, rfl⟩
  have h23 : Below w2.heap.size w2 w3 := by rw [hw3]; exact ((Below.refl _ _).alloc (Nat.le_refl _) _).alloc (by simp) _
  have hBa : w.heap.size + 2 ≤ B := by rw [hBd]; have := hb2.size; omega
  have hC0 : CRp w w3 B a n cap (.slice (some ⟨B, 0, none⟩) 0 0) := by
    have hb3 := hb2.trans (h23.mono hb2.size)
    obtain ⟨q0, q1, q2⟩ := hca.out _ hb3
    refine ⟨q0, ⟨_, q1⟩, ?_, q2, ?_, ?_, hba.trans (hb3.mono hba.size), hBa⟩
    · rw [hw3, hBd]; exact World.cell?_alloc_at _ _ _ _ (by simp)
    · rw [hw3, hBd]; exact World.frozen?_alloc_at _ _ _ _ (by simp)
    · rw [hw3, hBd]; simp
  have hV0 : RowP w3 (w.heap.size + 2) (.slice (some ⟨B, 0, none⟩) 0 0) 0 G (fun _ => ⟨none, 0, 0, 0⟩) := by
    have := RowP.new w2 (w.heap.size + 2) (by omega) G (fun _ => ⟨none, 0, 0, 0⟩)
    rw [hw3, hBd]
    exact this.below ((Below.refl _ _).alloc (Nat.le_refl _) _)
  have hF0 : Hid (Fnd G s 0 (-1)) := fnd_zero G s
  go_wp2_with fail
  rw [← hw3, ← hBd]
  clear hw3 h23 hb2 hBd y0 y1 y2
  go_loopw [9, 10] (fun fv iv wr => ∃ (k : Nat) (fk : Int), k ≤ n ∧ iv = .int .i64 (k : Int) ∧ fv = .int .i64 fk ∧ Hid (Fnd G s k fk) ∧ ∃ g c T, Hid (CRp w wr B a n cap (.slice (some ⟨g, 0, none⟩) k c)) ∧ Hid (RowP wr (w.heap.size + 2) (.slice (some ⟨g, 0, none⟩) k c) k G T) ∧ g ≠ B + 1 ∧ Hid (∀ i, i < k → B + 1 < (T i).lo)) (fun _ iv _ => n - (intOf iv).toNat)
  case atStart => exact ⟨0, -1, Nat.zero_le _, rfl, rfl, hF0, B, 0, _, hC0, hV0, by omega, fun _ hi => absurd hi (Nat.not_lt_zero _)⟩
  case round =>
    clear hC0 hV0 hF0
    obtain ⟨k, fk, hk, rfl, rfl, hFk, g, c, T, hCR, hV, hg1, hT⟩ := hrel
    obtain ⟨x0, ⟨u1, x1⟩, x3, f1, f3, hz3, hbel, -⟩ := hCR.out
    have hgl := hV.out.some_lt
    have hwz : w.heap.size < wr.heap.size := by omega
    by_cases hlt : k < n
    · obtain ⟨b, off, rfl, hb, hck⟩ : ∃ b off, a = some ⟨b, off, none⟩ ∧ b < w.heap.size ∧ GrpAt w b (off + k * 2) (G k) := by
        rcases h.cells with h0 | ⟨b', off', e, hlt', hc⟩
        · omega
        · exact ⟨b', off', e, hlt', hc k hlt⟩
      obtain ⟨ga, gc, c1, c2, hsl⟩ := hck.below hbel hb
      have hbr : b < wr.heap.size := Nat.lt_of_lt_of_le hb hbel.size
      have hs6 := Hsets.out k hlt
      have Hcp : Hid (∀ W, Below wr.heap.size wr W → Calls Try.prog 22 #[.slice ga (G k).sets.length gc] W fun x w' => ∃ t : Lg, x = .returned (.slice t.a (G k).sets.length t.c) ∧ Hid (QP w' (G k) t) ∧ wr.heap.size ≤ t.lo ∧ Below wr.heap.size wr w') := fun W hW => by
        refine (copy_sl W (by omega) (hsl.below hW)).mono ?_
        rintro x w' ⟨v, rfl, ho, hb'⟩
        obtain ⟨a', c', rfl, hq⟩ := ho.qp hsl.ok (G k).par hb'.size
        exact ⟨⟨a', c', W.heap.size, w'.heap.size⟩, rfl, hq, hW.size, hW.trans (hb'.mono hW.size)⟩
      have HO : Hid (∀ X, Below wr.heap.size wr X → X.ownsRow (w.heap.size + 2) 46 2 (.slice (some ⟨g, 0, none⟩) k c) k (encP G T k)) := fun X hX => ownsRow_below hV.out.own hX
      have HS : Hid (∀ W, Below wr.heap.size wr W → W.cell? ⟨w.heap.size, 0, none⟩ = some (.slice (some ⟨b, off, none⟩) n cap) ∧ W.cell? ⟨b, off + k * 2, none⟩ = some (.int .i64 (G k).par) ∧ W.cell? ⟨b, off + k * 2 + 1, none⟩ = some (.slice ga (G k).sets.length gc)) := fun W hW => ⟨(hW.cell (by exact hwz)).trans x0, (hW.cell (by exact hbr)).trans c1, (hW.cell (by exact hbr)).trans c2⟩
      have HF : Hid (∀ X w3, Below wr.heap.size wr X → X.grownBy w3 (some g) → w3.cell? ⟨B + 1, 0, none⟩ = some (.slice (some ⟨g, 0, none⟩) k c) ∧ w3.frozen? ⟨B + 1, 0, none⟩ = false ∧ (w3.cell? ⟨w.heap.size, 0, none⟩ = some (.slice (some ⟨b, off, none⟩) n cap) ∧ w3.cell? ⟨b, off + k * 2, none⟩ = some (.int .i64 (G k).par) ∧ w3.cell? ⟨b, off + k * 2 + 1, none⟩ = some (.slice ga (G k).sets.length gc)) ∧ ∀ V, (w3.setCell ⟨B + 1, 0, none⟩ V).cell? ⟨w.heap.size, 0, none⟩ = some (.slice (some ⟨b, off, none⟩) n cap) ∧ (w3.setCell ⟨B + 1, 0, none⟩ V).cell? ⟨b, off + k * 2, none⟩ = some (.int .i64 (G k).par) ∧ (w3.setCell ⟨B + 1, 0, none⟩ V).cell? ⟨b, off + k * 2 + 1, none⟩ = some (.slice ga (G k).sets.length gc)) := fun X w3 hX hgr => by
        have q := crp_far hCR.out hgl.1 hg1 hX hgr
        have hbb : ∀ o, w3.cell? ⟨b, o, none⟩ = wr.cell? ⟨b, o, none⟩ := fun o => (hgr.cell_far _ (by show b < X.heap.size; have := hX.size; omega) (fun e => by
          have e2 : some b = some g := e
          injection e2 with e2
          omega)).trans (hX.cell (by exact hbr))
        have q1 := (hbb _).trans c1
        have q2 := (hbb _).trans c2
        exact ⟨q.x3, q.f3, ⟨q.x0, q1, q2⟩, fun V => ⟨by rw [far_block (by omega)]; exact q.x0, by rw [far_block (by omega)]; exact q1, by rw [far_block (by omega)]; exact q2⟩⟩
      have HZ : Hid (∀ (w1 X w3 : World) (t : Lg) (gg cc : Nat), Below wr.heap.size wr w1 → QP w1 (G k) t → wr.heap.size ≤ t.lo → Below w1.heap.size w1 X → w3.ownsRow (w.heap.size + 2) 46 2 (.slice (some ⟨gg, 0, none⟩) (k + 1) cc) (k + 1) (encP G T k ++ gpL (G k) t) → X.grownBy w3 (some g) → (some g = some gg ∨ X.heap.size ≤ gg) → CRp w (w3.setCell ⟨B + 1, 0, none⟩ (.slice (some ⟨gg, 0, none⟩) (k + 1) cc)) B (some ⟨b, off, none⟩) n cap (.slice (some ⟨gg, 0, none⟩) (k + 1) cc) ∧ RowP (w3.setCell ⟨B + 1, 0, none⟩ (.slice (some ⟨gg, 0, none⟩) (k + 1) cc)) (w.heap.size + 2) (.slice (some ⟨gg, 0, none⟩) (k + 1) cc) (k + 1) G (extL T k t) ∧ gg ≠ B + 1 ∧ ∀ i, i < k + 1 → B + 1 < (extL T k t i).lo) := fun w1 X w3 t gg cc h1 hq hlo hX hown hgr hgg => crp_push hCR.out hV.out hg1 hT.out (h1.trans (hX.mono h1.size)) (hq.below hX) hlo hown hgr hgg
      have hm1 : k + 1 ≤ maxLen := by unfold maxLen; omega
      have hm2 : (k + 1) * 32 ≤ 140737488355328 := by omega
      have hrf : Below wr.heap.size wr wr := Below.refl _ _
      have hkn : (k : Int) < (n : Int) := by omega
      have hk0 : (0 : Int) ≤ (k : Int) := by omega
      have hne : b ≠ B + 1 := by omega
      have hbg : b ≠ g := by omega
      clear hck hsl hCR hT hV
      generalize hgk : G k = gk at *
      clear hgk
      go_wp2_with fail
      go_cut [47] from 23 to 58 (fun v wx => ∃ gg cc T2, v = .slice (some ⟨gg, 0, none⟩) (k + 1) cc ∧ Hid (CRp w wx B (some ⟨b, off, none⟩) n cap (.slice (some ⟨gg, 0, none⟩) (k + 1) cc)) ∧ Hid (RowP wx (w.heap.size + 2) (.slice (some ⟨gg, 0, none⟩) (k + 1) cc) (k + 1) G T2) ∧ gg ≠ B + 1 ∧ Hid (∀ i, i < k + 1 → B + 1 < (T2 i).lo))
      case first =>
        refine wp_region_held_drew (S := fun W => W.cell? ⟨w.heap.size, 0, none⟩ = some (.slice (some ⟨b, off, none⟩) n cap) ∧ W.cell? ⟨b, off + k * 2, none⟩ = some (.int .i64 gk.par) ∧ W.cell? ⟨b, off + k * 2 + 1, none⟩ = some (.slice ga gk.sets.length gc)) (by kernel_rfl) ?_ (fun hHeld => ?_)
        · (try dsimp only); exact HS.out _ (by first | with_reducible exact hrf | with_reducible exact hrf.drew | with_reducible exact hrf.drew.drew | with_reducible exact hrf.drew.drew.drew)
        refine wpAnyH_take (i := 0) (v := ?vm1) rfl (by kernel_rfl) (by kernel_rfl) (by kernel_rfl) (fun _ _ _ h => h) (Or.inl ⟨by rfl, ?hm1⟩) (by assumption) ?_
        case hm1 => (intro w hSw; (try dsimp only at hSw); go_simp; try (with_reducible rfl))
        simp only [Act.put, List.getElem_toArray, List.getElem_cons_zero, List.setIfInBounds_toArray, List.set_cons_zero, List.set_cons_succ]
        refine wpAnyH_take (i := 2) (v := ?vm2) rfl (by kernel_rfl) (by kernel_rfl) (by kernel_rfl) (fun _ _ _ h => h) (Or.inl ⟨by rfl, ?hm2⟩) (by assumption) ?_
        case hm2 => (intro w hSw; (try dsimp only at hSw); go_simp; try (with_reducible rfl))
        simp only [Act.put, List.getElem_toArray, List.getElem_cons_zero, List.getElem_cons_succ, List.setIfInBounds_toArray, List.set_cons_zero, List.set_cons_succ]
        refine wpAnyH_take (i := 3) (v := ?vm3) rfl (by kernel_rfl) (by kernel_rfl) (by kernel_rfl) (fun _ _ _ h => h) (Or.inl ⟨by rfl, ?hm3⟩) (by assumption) ?_
        case hm3 => (intro w hSw; (try dsimp only at hSw); go_simp; try (with_reducible rfl))
        simp only [Act.put, List.getElem_toArray, List.getElem_cons_zero, List.getElem_cons_succ, List.setIfInBounds_toArray, List.set_cons_zero, List.set_cons_succ]
        refine wpAnyH_take (i := 4) (v := ?vm4) rfl (by kernel_rfl) (by kernel_rfl) (by kernel_rfl) (fun _ _ _ h => h) (Or.inl ⟨by rfl, ?hm4⟩) (by assumption) ?_
        case hm4 => (intro w hSw; (try dsimp only at hSw); go_simp; try (with_reducible rfl))
        simp only [Act.put, List.getElem_toArray, List.getElem_cons_zero, List.getElem_cons_succ, List.setIfInBounds_toArray, List.set_cons_zero, List.set_cons_succ]
        refine wpAnyH_take (i := 5) (v := ?vm5) rfl (by kernel_rfl) (by kernel_rfl) (by kernel_rfl) (fun _ _ _ h => h) (Or.inl ⟨by rfl, ?hm5⟩) (by assumption) ?_
        case hm5 => (intro w hSw; (try dsimp only at hSw); go_simp; try (with_reducible rfl))
        simp only [Act.put, List.getElem_toArray, List.getElem_cons_zero, List.getElem_cons_succ, List.setIfInBounds_toArray, List.set_cons_zero, List.set_cons_succ]
        refine wpAnyH_take (i := 6) (v := ?vm6) rfl (by kernel_rfl) (by kernel_rfl) (by kernel_rfl) (fun _ _ _ h => h) (Or.inl ⟨by rfl, ?hm6⟩) (by assumption) ?_
        case hm6 => (intro w hSw; (try dsimp only at hSw); go_simp; try (with_reducible rfl))
        simp only [Act.put, List.getElem_toArray, List.getElem_cons_zero, List.getElem_cons_succ, List.setIfInBounds_toArray, List.set_cons_zero, List.set_cons_succ]
        refine wpAnyH_take (i := 7) (v := ?vm7) rfl (by kernel_rfl) (by kernel_rfl) (by kernel_rfl) (fun _ _ _ h => h) (Or.inl ⟨by rfl, ?hm7⟩) (by assumption) ?_
        case hm7 => (intro w hSw; (try dsimp only at hSw); go_simp; try (with_reducible rfl))
        simp only [Act.put, List.getElem_toArray, List.getElem_cons_zero, List.getElem_cons_succ, List.setIfInBounds_toArray, List.set_cons_zero, List.set_cons_succ]
        refine wpAnyH_take (i := 8) (v := ?vm8) rfl (by kernel_rfl) (by kernel_rfl) (by kernel_rfl) (fun _ _ _ h => h) (Or.inl ⟨by rfl, ?hm8⟩) (by assumption) ?_
        case hm8 => (intro w hSw; (try dsimp only at hSw); go_simp; try (with_reducible rfl))
        simp only [Act.put, List.getElem_toArray, List.getElem_cons_zero, List.getElem_cons_succ, List.setIfInBounds_toArray, List.set_cons_zero, List.set_cons_succ]
        refine wpAnyH_take (i := 9) (v := ?vm9) rfl (by kernel_rfl) (by kernel_rfl) (by kernel_rfl) (fun _ _ _ h => h) (Or.inl ⟨by rfl, ?hm9⟩) (by assumption) ?_
        case hm9 => (intro w hSw; (try dsimp only at hSw); go_simp; try (with_reducible rfl))
        simp only [Act.put, List.getElem_toArray, List.getElem_cons_zero, List.getElem_cons_succ, List.setIfInBounds_toArray, List.set_cons_zero, List.set_cons_succ]
        refine wpAnyH_take (i := 10) (v := ?vm10) rfl (by kernel_rfl) (by kernel_rfl) (by kernel_rfl) (fun _ _ _ h => h) (Or.inl ⟨by rfl, ?hm10⟩) (by assumption) ?_
        case hm10 => (intro w hSw; (try dsimp only at hSw); go_simp; try (with_reducible rfl))
        simp only [Act.put, List.getElem_toArray, List.getElem_cons_zero, List.getElem_cons_succ, List.setIfInBounds_toArray, List.set_cons_zero, List.set_cons_succ]
        refine wpAnyH_take (i := 11) (v := ?vm11) rfl (by kernel_rfl) (by kernel_rfl) (by kernel_rfl) (fun _ _ _ h => h) (Or.inl ⟨by rfl, ?hm11⟩) (by assumption) ?_
        case hm11 => (intro w hSw; (try dsimp only at hSw); go_simp; try (with_reducible rfl))
        simp only [Act.put, List.getElem_toArray, List.getElem_cons_zero, List.getElem_cons_succ, List.setIfInBounds_toArray, List.set_cons_zero, List.set_cons_succ]
        refine wpAnyH_take (i := 12) (v := ?vm12) rfl (by kernel_rfl) (by kernel_rfl) (by kernel_rfl) (fun _ _ _ h => h) (Or.inl ⟨by rfl, ?hm12⟩) (by assumption) ?_
        case hm12 => (intro w hSw; (try dsimp only at hSw); go_simp; try (with_reducible rfl))
        simp only [Act.put, List.getElem_toArray, List.getElem_cons_zero, List.getElem_cons_succ, List.setIfInBounds_toArray, List.set_cons_zero, List.set_cons_succ]
        refine wpAnyH_take (i := 13) (v := ?vm13) rfl (by kernel_rfl) (by kernel_rfl) (by kernel_rfl) (fun _ _ _ h => h) (Or.inl ⟨by rfl, ?hm13⟩) (by assumption) ?_
        case hm13 => (intro w hSw; (try dsimp only at hSw); go_simp; try (with_reducible rfl))
        simp only [Act.put, List.getElem_toArray, List.getElem_cons_zero, List.getElem_cons_succ, List.setIfInBounds_toArray, List.set_cons_zero, List.set_cons_succ]
        refine wpAnyH_ready (rs := [1, 14]) (by kernel_rfl) (by simp) ?_
        refine AllReadyH.cons rfl (fun K hK => ?_) (AllReadyH.cons rfl (fun K hK => ?_) AllReadyH.nil)
        · go_simp
          refine hK.out _ _ ?_ (fun hHeld => ?_)
          · (try dsimp only); exact HS.out _ (by first | with_reducible exact hrf | with_reducible exact hrf.drew | with_reducible exact hrf.drew.drew | with_reducible exact hrf.drew.drew.drew)
          clear hK K
          try simp only [Act.put, List.getElem_toArray, List.getElem_cons_zero, List.getElem_cons_succ, List.setIfInBounds_toArray, List.set_cons_zero, List.set_cons_succ]
          refine wpAnyH_ready (rs := [14]) (by kernel_rfl) (by simp) ?_
          refine AllReadyH.cons rfl (fun K hK => ?_) AllReadyH.nil
          go_simp
          go_at_call 22
          refine (Hcp.out _ (by first | with_reducible exact hrf | with_reducible exact hrf.drew | with_reducible exact hrf.drew.drew | with_reducible exact hrf.drew.drew.drew)).mono ?_
          rintro x w1 ⟨t, rfl, hq1, ht1, hb1⟩
          have q1v := (hb1.cell (by exact hz3)).trans x3
          have qva : ∀ Z, (w1.alloc Z).cell? ⟨B + 1, 0, none⟩ = some (.slice (some ⟨g, 0, none⟩) k c) := fun Z => (((Below.refl _ _).alloc (Nat.le_refl _) _).cell (by show B + 1 < w1.heap.size; have := hb1.size; omega)).trans q1v
          try dsimp only
          refine hK.out _ _ ?_ (fun hHeld => ?_)
          · (try dsimp only); exact HS.out _ (by first | with_reducible exact hb1 | with_reducible exact hb1.drew | with_reducible exact hb1.drew.drew | with_reducible exact hb1.drew.drew.drew)
          clear hK K
          try simp only [Act.put, List.getElem_toArray, List.getElem_cons_zero, List.getElem_cons_succ, List.setIfInBounds_toArray, List.set_cons_zero, List.set_cons_succ]
          refine wpAnyH_take (i := 15) (v := ?vm14) rfl (by kernel_rfl) (by kernel_rfl) (by kernel_rfl) (fun _ _ _ h => h) (Or.inl ⟨by rfl, ?hm14⟩) (by assumption) ?_
          case hm14 => (intro w hSw; (try dsimp only at hSw); go_simp; try (with_reducible rfl))
          simp only [Act.put, List.getElem_toArray, List.getElem_cons_zero, List.getElem_cons_succ, List.setIfInBounds_toArray, List.set_cons_zero, List.set_cons_succ]
          refine wpAnyH_ready (rs := [16]) (by kernel_rfl) (by simp) ?_
          refine AllReadyH.cons rfl (fun K hK => ?_) AllReadyH.nil
          go_simp
          refine hK.out _ _ ?_ (fun hHeld => ?_)
          · (try dsimp only); exact HS.out _ (by first | exact hb1.alloc hb1.size _ | exact (hb1.alloc hb1.size _).drew | exact (hb1.drew.alloc hb1.size _))
          clear hK K
          try simp only [Act.put, List.getElem_toArray, List.getElem_cons_zero, List.getElem_cons_succ, List.setIfInBounds_toArray, List.set_cons_zero, List.set_cons_succ]
          refine wpAnyH_ready (rs := [17]) (by kernel_rfl) (by simp) ?_
          refine AllReadyH.cons rfl (fun K hK => ?_) AllReadyH.nil
          refine step_append_lies _ (by rfl) _ _ _ (by rfl) (w.heap.size + 2) 46 i0 _ 2 32 Try.underlying23 hi hz0 hz1 hz2 rfl (by decide) (.slice (some ⟨g, 0, none⟩) k c) k (encP G T k) (by rfl) (HO.out _ (by first | exact hb1.alloc hb1.size _ | exact (hb1.alloc hb1.size _).drew | exact (hb1.drew.alloc hb1.size _))) ⟨w1.heap.size, 0, none⟩ 1 1 (gpL gk t) (by rfl) (by rfl) (fun j u hj => gpL_cells w1 gk t _ j u hj) (gpL_one gk t) (by decide) hm1 hm2 (by simp; have := hb1.size; omega) (w1.heap.size + 1) (by simp) ?_
          intro gg cc w3 hown3 hgrow hat hlt3
          obtain ⟨F3, Z3, hS3, hS4⟩ := HF.out _ w3 (by first | exact hb1.alloc hb1.size _ | exact (hb1.alloc hb1.size _).drew | exact (hb1.drew.alloc hb1.size _)) hgrow
          refine hK.out _ _ ?_ (fun hHeld => ?_)
          · (try dsimp only); exact hS3
          clear hK K
          try simp only [Act.put, List.getElem_toArray, List.getElem_cons_zero, List.getElem_cons_succ, List.setIfInBounds_toArray, List.set_cons_zero, List.set_cons_succ]
          refine wpAnyH_take (i := 18) (v := ?vm15) rfl (by kernel_rfl) (by kernel_rfl) (by kernel_rfl) (fun _ _ _ h => h) (Or.inl ⟨by rfl, ?hm15⟩) (by assumption) ?_
          case hm15 => (intro w hSw; (try dsimp only at hSw); go_simp; try (with_reducible rfl))
          simp only [Act.put, List.getElem_toArray, List.getElem_cons_zero, List.getElem_cons_succ, List.setIfInBounds_toArray, List.set_cons_zero, List.set_cons_succ]
          refine wpAnyH_ready (rs := [19]) (by kernel_rfl) (by simp) ?_
          refine AllReadyH.cons rfl (fun K hK => ?_) AllReadyH.nil
          go_simp
          refine hK.out _ _ ?_ (fun hHeld => ?_)
          · (try dsimp only); exact hS4 _
          clear hK K
          try simp only [Act.put, List.getElem_toArray, List.getElem_cons_zero, List.getElem_cons_succ, List.setIfInBounds_toArray, List.set_cons_zero, List.set_cons_succ]
          refine wpAnyH_done (by kernel_rfl) ?_ _
          (try go_wp2_with fail)
          go_meet
          obtain ⟨z1, z2, z4, z6⟩ := HZ.out w1 _ w3 t gg cc hb1 hq1.out ht1 (by first | exact (Below.refl _ _).alloc (Nat.le_refl _) _ | exact ((Below.refl _ _).alloc (Nat.le_refl _) _).drew) hown3 hgrow (hat.imp (fun q => q) (fun q => by simp; omega))
          exact ⟨gg, cc, _, rfl, z1, z2, z4, z6⟩
        · go_simp
          go_at_call 22
          refine (Hcp.out _ (by first | with_reducible exact hrf | with_reducible exact hrf.drew | with_reducible exact hrf.drew.drew | with_reducible exact hrf.drew.drew.drew)).mono ?_
          rintro x w1 ⟨t, rfl, hq1, ht1, hb1⟩
          have q1v := (hb1.cell (by exact hz3)).trans x3
          have qva : ∀ Z, (w1.alloc Z).cell? ⟨B + 1, 0, none⟩ = some (.slice (some ⟨g, 0, none⟩) k c) := fun Z => (((Below.refl _ _).alloc (Nat.le_refl _) _).cell (by show B + 1 < w1.heap.size; have := hb1.size; omega)).trans q1v
          try dsimp only
          refine hK.out _ _ ?_ (fun hHeld => ?_)
          · (try dsimp only); exact HS.out _ (by first | with_reducible exact hb1 | with_reducible exact hb1.drew | with_reducible exact hb1.drew.drew | with_reducible exact hb1.drew.drew.drew)
          clear hK K
          try simp only [Act.put, List.getElem_toArray, List.getElem_cons_zero, List.getElem_cons_succ, List.setIfInBounds_toArray, List.set_cons_zero, List.set_cons_succ]
          refine wpAnyH_take (i := 15) (v := ?vm18) rfl (by kernel_rfl) (by kernel_rfl) (by kernel_rfl) (fun _ _ _ h => h) (Or.inl ⟨by rfl, ?hm18⟩) (by assumption) ?_
          case hm18 => (intro w hSw; (try dsimp only at hSw); go_simp; try (with_reducible rfl))
          simp only [Act.put, List.getElem_toArray, List.getElem_cons_zero, List.getElem_cons_succ, List.setIfInBounds_toArray, List.set_cons_zero, List.set_cons_succ]
          refine wpAnyH_ready (rs := [1, 16]) (by kernel_rfl) (by simp) ?_
          refine AllReadyH.cons rfl (fun K hK => ?_) (AllReadyH.cons rfl (fun K hK => ?_) AllReadyH.nil)
          · go_simp
            refine hK.out _ _ ?_ (fun hHeld => ?_)
            · (try dsimp only); exact HS.out _ (by first | with_reducible exact hb1 | with_reducible exact hb1.drew | with_reducible exact hb1.drew.drew | with_reducible exact hb1.drew.drew.drew)
            clear hK K
            try simp only [Act.put, List.getElem_toArray, List.getElem_cons_zero, List.getElem_cons_succ, List.setIfInBounds_toArray, List.set_cons_zero, List.set_cons_succ]
            refine wpAnyH_ready (rs := [16]) (by kernel_rfl) (by simp) ?_
            refine AllReadyH.cons rfl (fun K hK => ?_) AllReadyH.nil
            go_simp
            refine hK.out _ _ ?_ (fun hHeld => ?_)
            · (try dsimp only); exact HS.out _ (by first | exact hb1.alloc hb1.size _ | exact (hb1.alloc hb1.size _).drew | exact (hb1.drew.alloc hb1.size _))
            clear hK K
            try simp only [Act.put, List.getElem_toArray, List.getElem_cons_zero, List.getElem_cons_succ, List.setIfInBounds_toArray, List.set_cons_zero, List.set_cons_succ]
            refine wpAnyH_ready (rs := [17]) (by kernel_rfl) (by simp) ?_
            refine AllReadyH.cons rfl (fun K hK => ?_) AllReadyH.nil
            refine step_append_lies _ (by rfl) _ _ _ (by rfl) (w.heap.size + 2) 46 i0 _ 2 32 Try.underlying23 hi hz0 hz1 hz2 rfl (by decide) (.slice (some ⟨g, 0, none⟩) k c) k (encP G T k) (by rfl) (HO.out _ (by first | exact hb1.alloc hb1.size _ | exact (hb1.alloc hb1.size _).drew | exact (hb1.drew.alloc hb1.size _))) ⟨w1.heap.size, 0, none⟩ 1 1 (gpL gk t) (by rfl) (by rfl) (fun j u hj => gpL_cells w1 gk t _ j u hj) (gpL_one gk t) (by decide) hm1 hm2 (by simp; have := hb1.size; omega) (w1.heap.size + 1) (by simp) ?_
            intro gg cc w3 hown3 hgrow hat hlt3
            obtain ⟨F3, Z3, hS3, hS4⟩ := HF.out _ w3 (by first | exact hb1.alloc hb1.size _ | exact (hb1.alloc hb1.size _).drew | exact (hb1.drew.alloc hb1.size _)) hgrow
            refine hK.out _ _ ?_ (fun hHeld => ?_)
            · (try dsimp only); exact hS3
            clear hK K
            try simp only [Act.put, List.getElem_toArray, List.getElem_cons_zero, List.getElem_cons_succ, List.setIfInBounds_toArray, List.set_cons_zero, List.set_cons_succ]
            refine wpAnyH_take (i := 18) (v := ?vm16) rfl (by kernel_rfl) (by kernel_rfl) (by kernel_rfl) (fun _ _ _ h => h) (Or.inl ⟨by rfl, ?hm16⟩) (by assumption) ?_
            case hm16 => (intro w hSw; (try dsimp only at hSw); go_simp; try (with_reducible rfl))
            simp only [Act.put, List.getElem_toArray, List.getElem_cons_zero, List.getElem_cons_succ, List.setIfInBounds_toArray, List.set_cons_zero, List.set_cons_succ]
            refine wpAnyH_ready (rs := [19]) (by kernel_rfl) (by simp) ?_
            refine AllReadyH.cons rfl (fun K hK => ?_) AllReadyH.nil
            go_simp
            refine hK.out _ _ ?_ (fun hHeld => ?_)
            · (try dsimp only); exact hS4 _
            clear hK K
            try simp only [Act.put, List.getElem_toArray, List.getElem_cons_zero, List.getElem_cons_succ, List.setIfInBounds_toArray, List.set_cons_zero, List.set_cons_succ]
            refine wpAnyH_done (by kernel_rfl) ?_ _
            (try go_wp2_with fail)
            go_meet
            obtain ⟨z1, z2, z4, z6⟩ := HZ.out w1 _ w3 t gg cc hb1 hq1.out ht1 (by first | exact (Below.refl _ _).alloc (Nat.le_refl _) _ | exact ((Below.refl _ _).alloc (Nat.le_refl _) _).drew) hown3 hgrow (hat.imp (fun q => q) (fun q => by simp; omega))
            exact ⟨gg, cc, _, rfl, z1, z2, z4, z6⟩
          · go_simp
            refine hK.out _ _ ?_ (fun hHeld => ?_)
            · (try dsimp only); exact HS.out _ (by first | exact hb1.alloc hb1.size _ | exact (hb1.alloc hb1.size _).drew | exact (hb1.drew.alloc hb1.size _))
            clear hK K
            try simp only [Act.put, List.getElem_toArray, List.getElem_cons_zero, List.getElem_cons_succ, List.setIfInBounds_toArray, List.set_cons_zero, List.set_cons_succ]
            refine wpAnyH_ready (rs := [1]) (by kernel_rfl) (by simp) ?_
            refine AllReadyH.cons rfl (fun K hK => ?_) AllReadyH.nil
            go_simp
            refine hK.out _ _ ?_ (fun hHeld => ?_)
            · (try dsimp only); exact HS.out _ (by first | exact hb1.alloc hb1.size _ | exact (hb1.alloc hb1.size _).drew | exact (hb1.drew.alloc hb1.size _))
            clear hK K
            try simp only [Act.put, List.getElem_toArray, List.getElem_cons_zero, List.getElem_cons_succ, List.setIfInBounds_toArray, List.set_cons_zero, List.set_cons_succ]
            refine wpAnyH_ready (rs := [17]) (by kernel_rfl) (by simp) ?_
            refine AllReadyH.cons rfl (fun K hK => ?_) AllReadyH.nil
            refine step_append_lies _ (by rfl) _ _ _ (by rfl) (w.heap.size + 2) 46 i0 _ 2 32 Try.underlying23 hi hz0 hz1 hz2 rfl (by decide) (.slice (some ⟨g, 0, none⟩) k c) k (encP G T k) (by rfl) (HO.out _ (by first | exact hb1.alloc hb1.size _ | exact (hb1.alloc hb1.size _).drew | exact (hb1.drew.alloc hb1.size _))) ⟨w1.heap.size, 0, none⟩ 1 1 (gpL gk t) (by rfl) (by rfl) (fun j u hj => gpL_cells w1 gk t _ j u hj) (gpL_one gk t) (by decide) hm1 hm2 (by simp; have := hb1.size; omega) (w1.heap.size + 1) (by simp) ?_
            intro gg cc w3 hown3 hgrow hat hlt3
            obtain ⟨F3, Z3, hS3, hS4⟩ := HF.out _ w3 (by first | exact hb1.alloc hb1.size _ | exact (hb1.alloc hb1.size _).drew | exact (hb1.drew.alloc hb1.size _)) hgrow
            refine hK.out _ _ ?_ (fun hHeld => ?_)
            · (try dsimp only); exact hS3
            clear hK K
            try simp only [Act.put, List.getElem_toArray, List.getElem_cons_zero, List.getElem_cons_succ, List.setIfInBounds_toArray, List.set_cons_zero, List.set_cons_succ]
            refine wpAnyH_take (i := 18) (v := ?vm17) rfl (by kernel_rfl) (by kernel_rfl) (by kernel_rfl) (fun _ _ _ h => h) (Or.inl ⟨by rfl, ?hm17⟩) (by assumption) ?_
            case hm17 => (intro w hSw; (try dsimp only at hSw); go_simp; try (with_reducible rfl))
            simp only [Act.put, List.getElem_toArray, List.getElem_cons_zero, List.getElem_cons_succ, List.setIfInBounds_toArray, List.set_cons_zero, List.set_cons_succ]
            refine wpAnyH_ready (rs := [19]) (by kernel_rfl) (by simp) ?_
            refine AllReadyH.cons rfl (fun K hK => ?_) AllReadyH.nil
            go_simp
            refine hK.out _ _ ?_ (fun hHeld => ?_)
            · (try dsimp only); exact hS4 _
            clear hK K
            try simp only [Act.put, List.getElem_toArray, List.getElem_cons_zero, List.getElem_cons_succ, List.setIfInBounds_toArray, List.set_cons_zero, List.set_cons_succ]
            refine wpAnyH_done (by kernel_rfl) ?_ _
            (try go_wp2_with fail)
            go_meet
            obtain ⟨z1, z2, z4, z6⟩ := HZ.out w1 _ w3 t gg cc hb1 hq1.out ht1 (by first | exact (Below.refl _ _).alloc (Nat.le_refl _) _ | exact ((Below.refl _ _).alloc (Nat.le_refl _) _).drew) hown3 hgrow (hat.imp (fun q => q) (fun q => by simp; omega))
            exact ⟨gg, cc, _, rfl, z1, z2, z4, z6⟩
      case rest =>
        obtain ⟨gg, cc, T2, rfl, Y1, Y2, z4, Y6⟩ := hcut
        clear HZ HF HO HS Hcp hkn hk0 x0 x1 x3 f1 f3 hz3 c1 c2 hbel hwz hrf hgl hbr
        obtain ⟨x0, ⟨u1, x1⟩, x3, f1, f3, hz3, hbel, -⟩ := Y1.out
        have hfk := fnd_ge hFk.out
        by_cases hneg : fk < 0
        · go_wp2_with fail
          refine (expand_any (N := n) (by omega) (Nat.le_refl _) Hfront.out Hsets.out (fun j hj => Hexp.out j (by omega)) k hlt _ (h.below hbel)).mono ?_
          rintro e w4 ⟨v4, rfl, ho4, hb4⟩
          obtain ⟨ea, ec, rfl, hsl4⟩ := ho4.sl (Hexo.out k hlt).at
          have hw4 := hbel.trans (hb4.mono hbel.size)
          have hl3 := Hexp.out k hlt
          go_wp2_with fail
          refine (eqP_sl _ (by omega) hsl4 (hs.below hw4)).mono ?_
          rintro e w5 ⟨⟨q, rfl, hq⟩, hd5⟩
          have hb5 := hb4.trans ((hd5.below w4.heap.size).mono hb4.size)
          have Y1' : Hid (_) := Y1.out.below hb5
          have Y2' : Hid (_) := Y2.out.below hb5
          cases q
          case false =>
            have hF2 : Hid (Fnd G s (k + 1) fk) := fnd_no hFk.out hneg (fun e => by have := hq.2 e; cases this)
            clear hq
            go_wp2
            go_roundw
            case rel => exact ⟨k + 1, fk, by omega, by go_num, rfl, hF2, gg, cc, T2, Y1', Y2', z4, Y6⟩
            case measure => simp [intOf]; omega
          case true =>
            have hF2 : Hid (Fnd G s (k + 1) (k : Int)) := fnd_yes hFk.out hneg (hq.1 rfl)
            clear hq
            go_wp2
            go_roundw
            case rel => exact ⟨k + 1, (k : Int), by omega, by go_num, rfl, hF2, gg, cc, T2, Y1', Y2', z4, Y6⟩
            case measure => simp [intOf]; omega
        · have hF2 : Hid (Fnd G s (k + 1) fk) := fnd_old hFk.out (by omega)
          go_wp2
          go_roundw
          case rel => exact ⟨k + 1, fk, by omega, by go_num, rfl, hF2, gg, cc, T2, Y1, Y2, z4, Y6⟩
          case measure => simp [intOf]; omega
    · have hkn : k = n := by omega
      subst hkn
      have hff : fk = f := fnd_uniq hFk.out Hf.out
      subst hff
      have hfk := fnd_ge Hf.out
      by_cases h0 : 0 ≤ fk
      · have hsv := sv_old hokk h0
        have hn0 : ¬ (fk < 0) := by omega
        have HP : Hid (SvPost G k s near fk w (.returned (.tuple #[.agg #[.slice (some ⟨g, 0, none⟩) k c], .int .i64 fk])) (wr.setCell ⟨w.heap.size + 1, 0, none⟩ (.slice (some ⟨g, 0, none⟩) k c))) := by
          refine ⟨_, T, by rw [hsv.2], ?_, hbel.setCell (by exact Nat.le_succ _) _⟩
          unfold Hid
          rw [hsv.1]
          exact ((hV.out.congG extP_lt).setB (fun q hq => by have := own_inj hq; omega) (fun i hi => Or.inl (by have := hV.out.low i hi; omega))).base_le (by omega)
        clear hsv hV hT
        go_wp2
        exact bodyPost_ret (v := .tuple #[.agg #[.slice (some ⟨g, 0, none⟩) k c], .int .i64 fk]) (by simp [results, Try.results5, go_sem, x1]) rfl HP.out
      have hneg : fk < 0 := by omega
      by_cases hful : 1000 ≤ k
      · have hk1 : (1000 : Int) ≤ (k : Int) := by omega
        have HP : Hid (SvPost G k s near fk w (.returned (.tuple #[.agg #[.slice none 0 0], .int .i64 (-1)])) (wr.setCell ⟨w.heap.size + 1, 0, none⟩ (.slice none 0 0))) := SvPost.none (sv_full hokk h0 hful) (hbel.setCell (by exact Nat.le_succ _) _)
        clear hV hT
        go_wp2
        exact bodyPost_ret (v := .tuple #[.agg #[.slice none 0 0], .int .i64 (-1)]) (by simp [results, Try.results5, go_sem, x1]) rfl HP.out
      have hsv : Hid (svN G k s fk = k + 1 ∧ svC G k s fk = (k : Int)) := sv_new hokk h0 hful
      obtain ⟨f, rfl⟩ : ∃ f, f = fk := ⟨_, rfl⟩
      have hk1 : ¬ ((1000 : Int) ≤ (k : Int)) := by omega
      clear h0 hful
      go_wp2_with fail
      refine (copy_sl _ (by omega) (hs.below hbel)).mono ?_
      rintro e w5 ⟨v5, rfl, ho5, hb5⟩
      obtain ⟨da, dc, rfl, hq5⟩ := ho5.qp hs.ok (-1) hb5.size
      obtain ⟨wz, hwz⟩ : ∃ wz, wz = w5.alloc (.cells #[.int .i64 (-1), .slice da s.length dc] 46) := ⟨_, rfl⟩
      have h5z : Below w5.heap.size w5 wz := by rw [hwz]; exact (Below.refl _ _).alloc (Nat.le_refl _) _
      have hs5z : wz.heap.size = w5.heap.size + 1 := by rw [hwz]; simp
      have hbz : Below wr.heap.size wr wz := hb5.trans (h5z.mono hb5.size)
      have t0 : wz.cell? ⟨w5.heap.size, 0, none⟩ = some (.int .i64 (-1)) := by rw [hwz]; exact World.cell?_alloc_at _ _ _ _ rfl
      have t1 : wz.cell? ⟨w5.heap.size, 1, none⟩ = some (.slice da s.length dc) := by rw [hwz]; exact World.cell?_alloc_at _ _ _ _ rfl
      have tz0 : wz.frozen? ⟨w5.heap.size, 0, none⟩ = false := by rw [hwz]; exact World.frozen?_alloc_at _ _ _ _ rfl
      have tz1 : wz.frozen? ⟨w5.heap.size, 1, none⟩ = false := by rw [hwz]; exact World.frozen?_alloc_at _ _ _ _ rfl
      have v0 : (w5.alloc (.cells #[.int .i64 (-1), .slice da s.length dc] 46)).cell? ⟨w.heap.size, 0, none⟩ = some (.slice a k cap) := by rw [← hwz]; exact (hCR.out.below hbz).x0
      have v3 : (w5.alloc (.cells #[.int .i64 (-1), .slice da s.length dc] 46)).cell? ⟨B + 1, 0, none⟩ = some (.slice (some ⟨g, 0, none⟩) k c) := by rw [← hwz]; exact (hCR.out.below hbz).x3
      have hqz : Hid (QP wz ⟨-1, s⟩ ⟨da, dc, wr.heap.size, w5.heap.size⟩) := hq5.below h5z
      have v5 : w5.cell? ⟨B + 1, 0, none⟩ = some (.slice (some ⟨g, 0, none⟩) k c) := (hCR.out.below hb5).x3
      have hlt5 : B + 1 < w5.heap.size := (hCR.out.below hb5).sz
      have hne5 : B + 1 ≠ w5.heap.size := by omega
      have hs5 := hb5.size
      clear hq5
      by_cases hnb : nwB G k near = true
      case neg =>
        have Hnw : Hid (nwG G k s near = ⟨-1, s⟩) := nwG_no (by cases e : nwB G k near with | false => rfl | true => exact absurd e hnb)
        have hlz : wr.heap.size ≤ (⟨da, dc, wr.heap.size, w5.heap.size⟩ : Lg).lo := Nat.le_refl _
        have h3 : near < 0 ∨ (0 ≤ near ∧ ¬ near < (k : Int)) ∨ (0 ≤ near ∧ near < (k : Int) ∧ ¬ lnk G (near.toNat + 1) near.toNat < 4) := by
          unfold nwB at hnb
          simp only [Bool.and_eq_true, decide_eq_true_eq] at hnb
          omega
        clear hnb
        rcases h3 with h3 | ⟨h3, h4⟩ | ⟨h3, h4, h5⟩
        · have h3' : ¬ (0 ≤ near) := by omega
          subst hwz
          have hszz : (w5.alloc (.cells #[.int .i64 (-1), .slice da s.length dc] 46)).heap.size = w5.heap.size + 1 := by simp
          have hX : Below wr.heap.size wr ((w5.alloc (.cells #[.int .i64 (-1), .slice da s.length dc] 46)).alloc (.cells #[.int .i64 (-1), .slice da s.length dc] 46)) := hbz.alloc hbz.size _
          have hownz : (w5.alloc (.cells #[.int .i64 (-1), .slice da s.length dc] 46)).ownsRow (w.heap.size + 2) 46 2 (.slice (some ⟨g, 0, none⟩) k c) k (encP G T k) := ownsRow_below hV.out.own hbz
          have HF : Hid (∀ w9, ((w5.alloc (.cells #[.int .i64 (-1), .slice da s.length dc] 46)).alloc (.cells #[.int .i64 (-1), .slice da s.length dc] 46)).grownBy w9 (some g) → CRp w w9 B a k cap (.slice (some ⟨g, 0, none⟩) k c)) := fun w9 hgr => crp_far hCR.out hgl.1 hg1 hX hgr
          have HZ : Hid (∀ (w9 : World) (gg cc : Nat), w9.ownsRow (w.heap.size + 2) 46 2 (.slice (some ⟨gg, 0, none⟩) (k + 1) cc) (k + 1) (encP G T k ++ gpL ⟨-1, s⟩ ⟨da, dc, wr.heap.size, w5.heap.size⟩) → ((w5.alloc (.cells #[.int .i64 (-1), .slice da s.length dc] 46)).alloc (.cells #[.int .i64 (-1), .slice da s.length dc] 46)).grownBy w9 (some g) → (some g = some gg ∨ gg = w5.heap.size + 1 + 1) → SvPost G k s near f w (.returned (.tuple #[.agg #[.slice (some ⟨gg, 0, none⟩) (k + 1) cc], .int .i64 (k : Int)])) ((w9.setCell ⟨B + 1, 0, none⟩ (.slice (some ⟨gg, 0, none⟩) (k + 1) cc)).setCell ⟨w.heap.size + 1, 0, none⟩ (.slice (some ⟨gg, 0, none⟩) (k + 1) cc)) ∧ gg ≠ w.heap.size + 1 ∧ gg ≠ B + 1) := fun w9 gg cc hown hgr hgg => by
            have hnw : extP G k (nwG G k s near) k = ⟨-1, s⟩ := by rw [← Hnw.out]; exact if_pos rfl
            have hq : QP ((w5.alloc (.cells #[.int .i64 (-1), .slice da s.length dc] 46)).alloc (.cells #[.int .i64 (-1), .slice da s.length dc] 46)) (extP G k (nwG G k s near) k) ⟨da, dc, wr.heap.size, w5.heap.size⟩ := by rw [hnw]; exact hqz.out.below ((Below.refl _ _).alloc (Nat.le_refl _) _)
            have he : encP G T k = encP (extP G k (nwG G k s near)) T k := encP_congr extP_lt (fun _ _ => rfl)
            obtain ⟨p1, p2, p3, p4⟩ := crp_push hCR.out (hV.out.congG extP_lt) hg1 hT.out hX hq hlz (by rw [hnw, ← he]; exact hown) hgr (hgg.imp id fun e => by rw [e, World.size_alloc, hszz]; exact Nat.le_refl _)
            have hgg2 : w.heap.size + 2 ≤ gg := p2.some_lt.1
            refine ⟨⟨_, extL T k ⟨da, dc, wr.heap.size, w5.heap.size⟩, by rw [hsv.out.2], ?_, p1.bel.setCell (by exact Nat.le_succ _) _⟩, by omega, p3⟩
            unfold Hid
            rw [hsv.out.1]
            exact (p2.setB (fun q hq => by have := own_inj hq; omega) (fun i hi => Or.inl (by have := p4 i hi; omega))).base_le (by omega)
          obtain ⟨-, -, z3, -, -, -, -, -⟩ := (hCR.out.below hbz)
          have Hgc : ∀ (j : Nat) (u : Value), (gpL ⟨-1, s⟩ ⟨da, dc, wr.heap.size, w5.heap.size⟩)[j]? = some u → ((w5.alloc (.cells #[.int .i64 (-1), .slice da s.length dc] 46)).alloc (.cells #[.int .i64 (-1), .slice da s.length dc] 46)).cell? ((⟨w5.heap.size + 1, 0, none⟩ : Addr).add j) = some u := fun j u hj => by
            have := gpL_cells (w5.alloc (.cells #[.int .i64 (-1), .slice da s.length dc] 46)) ⟨-1, s⟩ ⟨da, dc, wr.heap.size, w5.heap.size⟩ 46 j u hj
            rw [hszz] at this
            exact this
          have hm1 : k + 1 ≤ maxLen := by unfold maxLen; omega
          have hm2 : (k + 1) * 32 ≤ 140737488355328 := by omega
          have hm3 : ∀ o, w.heap.size + 2 ≤ ((w5.alloc (.cells #[.int .i64 (-1), .slice da s.length dc] 46)).alloc o).heap.size := fun o => by have := hbz.size; simp; omega
          have hk1 : IntKind.i64.wrap ((k : Int) + 1 - 1) = (k : Int) := by rw [IntKind.wrap_i64]; omega
          have hk2 : IntKind.i64.wrap (k : Int) = (k : Int) := by rw [IntKind.wrap_i64]; omega
          clear hV hT hqz hX
          go_wp2_with (at_builtin; refine wpList_append_lies _ rfl _ _ 23 rfl (w.heap.size + 2) 46 i0 (.agg #[.int .i64 0, .slice none 0 0]) 2 32 Try.underlying23 hi hz0 hz1 hz2 rfl (by decide) _ _ _ rfl (World.ownsRow.alloc hownz _) ⟨w5.heap.size + 1, 0, none⟩ 1 1 (gpL ⟨-1, s⟩ ⟨da, dc, wr.heap.size, w5.heap.size⟩) rfl rfl Hgc (gpL_one _ _) (by decide) hm1 hm2 (hm3 _) (w5.heap.size + 1 + 1) (by simp) ?_; intro gg cc w9 hown9 hgrow9 hat9 hlt9; obtain ⟨-, ⟨u9, y1⟩, y3, z1, z9, -, -, -⟩ := HF.out w9 hgrow9; obtain ⟨Hfin, n1, n2⟩ := HZ.out w9 gg cc hown9 hgrow9 hat9; have HH : Hid (SvPost G k s near f w (.returned (.tuple #[.agg #[.slice (some ⟨gg, 0, none⟩) (k + 1) cc], .int .i64 (k : Int)])) ((w9.setCell ⟨B + 1, 0, none⟩ (.slice (some ⟨gg, 0, none⟩) (k + 1) cc)).setCell ⟨w.heap.size + 1, 0, none⟩ (.slice (some ⟨gg, 0, none⟩) (k + 1) cc))) := Hfin; clear Hfin hown9 hgrow9 hat9)
          (try go_wp2_with fail)
          go_region
          all_goals
            go_wp2
            exact bodyPost_ret (v := .tuple #[.agg #[.slice (some ⟨gg, 0, none⟩) (k + 1) cc], .int .i64 (k : Int)]) (by simp [results, Try.results5, go_sem, y1]) rfl (HH.out.blw (by first | exact Below.refl _ _ | exact (Below.refl _ _).drew))
        · subst hwz
          have hszz : (w5.alloc (.cells #[.int .i64 (-1), .slice da s.length dc] 46)).heap.size = w5.heap.size + 1 := by simp
          have hX : Below wr.heap.size wr ((w5.alloc (.cells #[.int .i64 (-1), .slice da s.length dc] 46)).alloc (.cells #[.int .i64 (-1), .slice da s.length dc] 46)) := hbz.alloc hbz.size _
          have hownz : (w5.alloc (.cells #[.int .i64 (-1), .slice da s.length dc] 46)).ownsRow (w.heap.size + 2) 46 2 (.slice (some ⟨g, 0, none⟩) k c) k (encP G T k) := ownsRow_below hV.out.own hbz
          have HF : Hid (∀ w9, ((w5.alloc (.cells #[.int .i64 (-1), .slice da s.length dc] 46)).alloc (.cells #[.int .i64 (-1), .slice da s.length dc] 46)).grownBy w9 (some g) → CRp w w9 B a k cap (.slice (some ⟨g, 0, none⟩) k c)) := fun w9 hgr => crp_far hCR.out hgl.1 hg1 hX hgr
          have HZ : Hid (∀ (w9 : World) (gg cc : Nat), w9.ownsRow (w.heap.size + 2) 46 2 (.slice (some ⟨gg, 0, none⟩) (k + 1) cc) (k + 1) (encP G T k ++ gpL ⟨-1, s⟩ ⟨da, dc, wr.heap.size, w5.heap.size⟩) → ((w5.alloc (.cells #[.int .i64 (-1), .slice da s.length dc] 46)).alloc (.cells #[.int .i64 (-1), .slice da s.length dc] 46)).grownBy w9 (some g) → (some g = some gg ∨ gg = w5.heap.size + 1 + 1) → SvPost G k s near f w (.returned (.tuple #[.agg #[.slice (some ⟨gg, 0, none⟩) (k + 1) cc], .int .i64 (k : Int)])) ((w9.setCell ⟨B + 1, 0, none⟩ (.slice (some ⟨gg, 0, none⟩) (k + 1) cc)).setCell ⟨w.heap.size + 1, 0, none⟩ (.slice (some ⟨gg, 0, none⟩) (k + 1) cc)) ∧ gg ≠ w.heap.size + 1 ∧ gg ≠ B + 1) := fun w9 gg cc hown hgr hgg => by
            have hnw : extP G k (nwG G k s near) k = ⟨-1, s⟩ := by rw [← Hnw.out]; exact if_pos rfl
            have hq : QP ((w5.alloc (.cells #[.int .i64 (-1), .slice da s.length dc] 46)).alloc (.cells #[.int .i64 (-1), .slice da s.length dc] 46)) (extP G k (nwG G k s near) k) ⟨da, dc, wr.heap.size, w5.heap.size⟩ := by rw [hnw]; exact hqz.out.below ((Below.refl _ _).alloc (Nat.le_refl _) _)
            have he : encP G T k = encP (extP G k (nwG G k s near)) T k := encP_congr extP_lt (fun _ _ => rfl)
            obtain ⟨p1, p2, p3, p4⟩ := crp_push hCR.out (hV.out.congG extP_lt) hg1 hT.out hX hq hlz (by rw [hnw, ← he]; exact hown) hgr (hgg.imp id fun e => by rw [e, World.size_alloc, hszz]; exact Nat.le_refl _)
            have hgg2 : w.heap.size + 2 ≤ gg := p2.some_lt.1
            refine ⟨⟨_, extL T k ⟨da, dc, wr.heap.size, w5.heap.size⟩, by rw [hsv.out.2], ?_, p1.bel.setCell (by exact Nat.le_succ _) _⟩, by omega, p3⟩
            unfold Hid
            rw [hsv.out.1]
            exact (p2.setB (fun q hq => by have := own_inj hq; omega) (fun i hi => Or.inl (by have := p4 i hi; omega))).base_le (by omega)
          obtain ⟨-, -, z3, -, -, -, -, -⟩ := (hCR.out.below hbz)
          have Hgc : ∀ (j : Nat) (u : Value), (gpL ⟨-1, s⟩ ⟨da, dc, wr.heap.size, w5.heap.size⟩)[j]? = some u → ((w5.alloc (.cells #[.int .i64 (-1), .slice da s.length dc] 46)).alloc (.cells #[.int .i64 (-1), .slice da s.length dc] 46)).cell? ((⟨w5.heap.size + 1, 0, none⟩ : Addr).add j) = some u := fun j u hj => by
            have := gpL_cells (w5.alloc (.cells #[.int .i64 (-1), .slice da s.length dc] 46)) ⟨-1, s⟩ ⟨da, dc, wr.heap.size, w5.heap.size⟩ 46 j u hj
            rw [hszz] at this
            exact this
          have hm1 : k + 1 ≤ maxLen := by unfold maxLen; omega
          have hm2 : (k + 1) * 32 ≤ 140737488355328 := by omega
          have hm3 : ∀ o, w.heap.size + 2 ≤ ((w5.alloc (.cells #[.int .i64 (-1), .slice da s.length dc] 46)).alloc o).heap.size := fun o => by have := hbz.size; simp; omega
          have hk1 : IntKind.i64.wrap ((k : Int) + 1 - 1) = (k : Int) := by rw [IntKind.wrap_i64]; omega
          have hk2 : IntKind.i64.wrap (k : Int) = (k : Int) := by rw [IntKind.wrap_i64]; omega
          clear hV hT hqz hX
          go_wp2_with (at_builtin; refine wpList_append_lies _ rfl _ _ 23 rfl (w.heap.size + 2) 46 i0 (.agg #[.int .i64 0, .slice none 0 0]) 2 32 Try.underlying23 hi hz0 hz1 hz2 rfl (by decide) _ _ _ rfl (World.ownsRow.alloc hownz _) ⟨w5.heap.size + 1, 0, none⟩ 1 1 (gpL ⟨-1, s⟩ ⟨da, dc, wr.heap.size, w5.heap.size⟩) rfl rfl Hgc (gpL_one _ _) (by decide) hm1 hm2 (hm3 _) (w5.heap.size + 1 + 1) (by simp) ?_; intro gg cc w9 hown9 hgrow9 hat9 hlt9; obtain ⟨-, ⟨u9, y1⟩, y3, z1, z9, -, -, -⟩ := HF.out w9 hgrow9; obtain ⟨Hfin, n1, n2⟩ := HZ.out w9 gg cc hown9 hgrow9 hat9; have HH : Hid (SvPost G k s near f w (.returned (.tuple #[.agg #[.slice (some ⟨gg, 0, none⟩) (k + 1) cc], .int .i64 (k : Int)])) ((w9.setCell ⟨B + 1, 0, none⟩ (.slice (some ⟨gg, 0, none⟩) (k + 1) cc)).setCell ⟨w.heap.size + 1, 0, none⟩ (.slice (some ⟨gg, 0, none⟩) (k + 1) cc))) := Hfin; clear Hfin hown9 hgrow9 hat9)
          (try go_wp2_with fail)
          go_region
          all_goals
            go_wp2
            exact bodyPost_ret (v := .tuple #[.agg #[.slice (some ⟨gg, 0, none⟩) (k + 1) cc], .int .i64 (k : Int)]) (by simp [results, Try.results5, go_sem, y1]) rfl (HH.out.blw (by first | exact Below.refl _ _ | exact (Below.refl _ _).drew))
        · obtain ⟨q, rfl⟩ : ∃ q : Nat, near = (q : Int) := ⟨near.toNat, by omega⟩
          have h5' : ¬ lnk G (q + 1) q < 4 := h5
          have hql : q < k := by omega
          go_wp2_with fail
          rw [← hwz]
          clear hwz v0 v3
          refine (links_any (N := k) (by omega) (Nat.le_refl _) Hfront.out q hql _ (h.below (hbel.trans (hbz.mono hbel.size)))).mono ?_
          rintro e w6 ⟨rfl, hb6⟩
          have hz6 := hbz.trans (hb6.mono hbz.size)
          have T0 := (hb6.cell (by show w5.heap.size < wz.heap.size; omega)).trans t0
          have T1 := (hb6.cell (by show w5.heap.size < wz.heap.size; omega)).trans t1
          have hqz : Hid (QP w6 ⟨-1, s⟩ ⟨da, dc, wr.heap.size, w5.heap.size⟩) := hqz.out.below hb6
          clear hbz hb6 tz0 tz1 hs5z h5z t0 t1
          obtain ⟨wz, rfl⟩ : ∃ W : World, W = w6 := ⟨_, rfl⟩
          have hbz := hz6
          clear hz6
          have hszz : wz.heap.size = wz.heap.size := by rfl
          have hX : Below wr.heap.size wr (wz.alloc (.cells #[.int .i64 (-1), .slice da s.length dc] 46)) := hbz.alloc hbz.size _
          have hownz : wz.ownsRow (w.heap.size + 2) 46 2 (.slice (some ⟨g, 0, none⟩) k c) k (encP G T k) := ownsRow_below hV.out.own hbz
          have HF : Hid (∀ w9, (wz.alloc (.cells #[.int .i64 (-1), .slice da s.length dc] 46)).grownBy w9 (some g) → CRp w w9 B a k cap (.slice (some ⟨g, 0, none⟩) k c)) := fun w9 hgr => crp_far hCR.out hgl.1 hg1 hX hgr
          have HZ : Hid (∀ (w9 : World) (gg cc : Nat), w9.ownsRow (w.heap.size + 2) 46 2 (.slice (some ⟨gg, 0, none⟩) (k + 1) cc) (k + 1) (encP G T k ++ gpL ⟨-1, s⟩ ⟨da, dc, wr.heap.size, w5.heap.size⟩) → (wz.alloc (.cells #[.int .i64 (-1), .slice da s.length dc] 46)).grownBy w9 (some g) → (some g = some gg ∨ gg = wz.heap.size + 1) → SvPost G k s (q : Int) f w (.returned (.tuple #[.agg #[.slice (some ⟨gg, 0, none⟩) (k + 1) cc], .int .i64 (k : Int)])) ((w9.setCell ⟨B + 1, 0, none⟩ (.slice (some ⟨gg, 0, none⟩) (k + 1) cc)).setCell ⟨w.heap.size + 1, 0, none⟩ (.slice (some ⟨gg, 0, none⟩) (k + 1) cc)) ∧ gg ≠ w.heap.size + 1 ∧ gg ≠ B + 1) := fun w9 gg cc hown hgr hgg => by
            have hnw : extP G k (nwG G k s (q : Int)) k = ⟨-1, s⟩ := by rw [← Hnw.out]; exact if_pos rfl
            have hq : QP (wz.alloc (.cells #[.int .i64 (-1), .slice da s.length dc] 46)) (extP G k (nwG G k s (q : Int)) k) ⟨da, dc, wr.heap.size, w5.heap.size⟩ := by rw [hnw]; exact hqz.out.below ((Below.refl _ _).alloc (Nat.le_refl _) _)
            have he : encP G T k = encP (extP G k (nwG G k s (q : Int))) T k := encP_congr extP_lt (fun _ _ => rfl)
            obtain ⟨p1, p2, p3, p4⟩ := crp_push hCR.out (hV.out.congG extP_lt) hg1 hT.out hX hq hlz (by rw [hnw, ← he]; exact hown) hgr (hgg.imp id fun e => by rw [e, World.size_alloc, hszz]; exact Nat.le_refl _)
            have hgg2 : w.heap.size + 2 ≤ gg := p2.some_lt.1
            refine ⟨⟨_, extL T k ⟨da, dc, wr.heap.size, w5.heap.size⟩, by rw [hsv.out.2], ?_, p1.bel.setCell (by exact Nat.le_succ _) _⟩, by omega, p3⟩
            unfold Hid
            rw [hsv.out.1]
            exact (p2.setB (fun q hq => by have := own_inj hq; omega) (fun i hi => Or.inl (by have := p4 i hi; omega))).base_le (by omega)
          obtain ⟨-, -, z3, -, -, -, -, -⟩ := (hCR.out.below hbz)
          have Hgc : ∀ (j : Nat) (u : Value), (gpL ⟨-1, s⟩ ⟨da, dc, wr.heap.size, w5.heap.size⟩)[j]? = some u → (wz.alloc (.cells #[.int .i64 (-1), .slice da s.length dc] 46)).cell? ((⟨wz.heap.size, 0, none⟩ : Addr).add j) = some u := fun j u hj => by
            have := gpL_cells wz ⟨-1, s⟩ ⟨da, dc, wr.heap.size, w5.heap.size⟩ 46 j u hj
            rw [hszz] at this
            exact this
          have hm1 : k + 1 ≤ maxLen := by unfold maxLen; omega
          have hm2 : (k + 1) * 32 ≤ 140737488355328 := by omega
          have hm3 : ∀ o, w.heap.size + 2 ≤ (wz.alloc o).heap.size := fun o => by have := hbz.size; simp; omega
          have hk1 : IntKind.i64.wrap ((k : Int) + 1 - 1) = (k : Int) := by rw [IntKind.wrap_i64]; omega
          have hk2 : IntKind.i64.wrap (k : Int) = (k : Int) := by rw [IntKind.wrap_i64]; omega
          clear hV hT hqz hX
          go_wp2_with (at_builtin; refine wpList_append_lies _ rfl _ _ 23 rfl (w.heap.size + 2) 46 i0 (.agg #[.int .i64 0, .slice none 0 0]) 2 32 Try.underlying23 hi hz0 hz1 hz2 rfl (by decide) _ _ _ rfl (World.ownsRow.alloc hownz _) ⟨wz.heap.size, 0, none⟩ 1 1 (gpL ⟨-1, s⟩ ⟨da, dc, wr.heap.size, w5.heap.size⟩) rfl rfl Hgc (gpL_one _ _) (by decide) hm1 hm2 (hm3 _) (wz.heap.size + 1) (by simp) ?_; intro gg cc w9 hown9 hgrow9 hat9 hlt9; obtain ⟨-, ⟨u9, y1⟩, y3, z1, z9, -, -, -⟩ := HF.out w9 hgrow9; obtain ⟨Hfin, n1, n2⟩ := HZ.out w9 gg cc hown9 hgrow9 hat9; have HH : Hid (SvPost G k s (q : Int) f w (.returned (.tuple #[.agg #[.slice (some ⟨gg, 0, none⟩) (k + 1) cc], .int .i64 (k : Int)])) ((w9.setCell ⟨B + 1, 0, none⟩ (.slice (some ⟨gg, 0, none⟩) (k + 1) cc)).setCell ⟨w.heap.size + 1, 0, none⟩ (.slice (some ⟨gg, 0, none⟩) (k + 1) cc))) := Hfin; clear Hfin hown9 hgrow9 hat9)
          (try go_wp2_with fail)
          go_region
          all_goals
            go_wp2
            exact bodyPost_ret (v := .tuple #[.agg #[.slice (some ⟨gg, 0, none⟩) (k + 1) cc], .int .i64 (k : Int)]) (by simp [results, Try.results5, go_sem, y1]) rfl (HH.out.blw (by first | exact Below.refl _ _ | exact (Below.refl _ _).drew))
      case pos =>
        have h3 := hnb
        unfold nwB at h3
        simp only [Bool.and_eq_true, decide_eq_true_eq] at h3
        obtain ⟨p1, p2, p3⟩ := h3
        obtain ⟨q, rfl⟩ : ∃ q : Nat, near = (q : Int) := ⟨near.toNat, by omega⟩
        have hql : q < k := by omega
        have p3' : lnk G (q + 1) q < 4 := p3
        have Hnw : Hid (nwG G k s (q : Int) = ⟨(q : Int), dl2 (expF G (q + 1) q) s s.length⟩) := nwG_yes hnb
        clear hnb p3
        go_wp2_with fail
        rw [← hwz]
        clear hwz v0 v3
        refine (links_any (N := k) (by omega) (Nat.le_refl _) Hfront.out q hql _ (h.below (hbel.trans (hbz.mono hbel.size)))).mono ?_
        rintro e w6 ⟨rfl, hb6⟩
        have hz6 := hbz.trans (hb6.mono hbz.size)
        have e0 := (hCR.out.below hz6).x0
        go_wp2_with fail
        refine (expand_any (N := k) (by omega) (Nat.le_refl _) Hfront.out Hsets.out (fun j hj => Hexp.out j (by omega)) q hql _ (h.below (hbel.trans (hz6.mono hbel.size)))).mono ?_
        rintro e w7 ⟨v7, rfl, ho7, hb7⟩
        obtain ⟨ea, ec, rfl, hsl7⟩ := ho7.sl (Hexo.out q hql).at
        have hz7 := hz6.trans (hb7.mono hz6.size)
        have hl7 := Hexp.out q hql
        go_wp2_with fail
        refine (l4Delta_sl _ (by omega) (by omega) hsl7 (hs.below (hbel.trans (hz7.mono hbel.size)))).mono ?_
        rintro e w8 ⟨v8, rfl, ho8, hb8⟩
        obtain ⟨fa, fc, rfl, hq8⟩ := ho8.qp (dl2_ok (Hexo.out q hql) hs.ok _ (Nat.le_refl _)) (q : Int) hb8.size
        have h68 : Below wz.heap.size wz w8 := (hb6.trans (hb7.mono hb6.size)).trans (hb8.mono (hb6.trans (hb7.mono hb6.size)).size)
        have hz8 := hbz.trans (h68.mono hbz.size)
        have s67 := hb7.size
        have s56 := hb6.size
        have T0' := (h68.cell (by show w5.heap.size < wz.heap.size; omega)).trans t0
        have T1' := (h68.cell (by show w5.heap.size < wz.heap.size; omega)).trans t1
        have Z0' := (h68.frozen (by show w5.heap.size < wz.heap.size; omega)).trans tz0
        have Z1' := (h68.frozen (by show w5.heap.size < wz.heap.size; omega)).trans tz1
        have v8 := (hCR.out.below hz8).x3
        have hlz : wr.heap.size ≤ (⟨fa, fc, w7.heap.size, w8.heap.size⟩ : Lg).lo := by show wr.heap.size ≤ w7.heap.size; omega
        have hfar : w5.heap.size < w7.heap.size := by omega
        obtain ⟨wy, hwy⟩ : ∃ wy, wy = (w8.setCell ⟨w5.heap.size, 0, none⟩ (.int .i64 (q : Int))).setCell ⟨w5.heap.size, 1, none⟩ (.slice fa (dl2 (expF G (q + 1) q) s s.length).length fc) := ⟨_, rfl⟩
        have T0 : wy.cell? ⟨w5.heap.size, 0, none⟩ = some (.int .i64 (q : Int)) := by rw [hwy, set_far (by omega)]; exact set_same ⟨_, T0'⟩
        have T1 : wy.cell? ⟨w5.heap.size, 1, none⟩ = some (.slice fa (dl2 (expF G (q + 1) q) s s.length).length fc) := by rw [hwy]; exact set_same ⟨_, by rw [set_far (by omega)]; exact T1'⟩
        have hby : Below wr.heap.size wr wy := by rw [hwy]; exact (hz8.setCell (by exact hs5) _).setCell (by exact hs5) _
        have hqy : Hid (QP wy ⟨(q : Int), dl2 (expF G (q + 1) q) s s.length⟩ ⟨fa, fc, w7.heap.size, w8.heap.size⟩) := by
          rw [hwy]
          exact hq8.kept (by simp [World.setCell]) (fun x h1 _ => (Below.heap_setCell _ _ _ _ (by show x ≠ w5.heap.size; have h1' : w7.heap.size ≤ x := h1; omega)).trans (Below.heap_setCell _ _ _ _ (by show x ≠ w5.heap.size; have h1' : w7.heap.size ≤ x := h1; omega)))
        have hne1 : ¬ w5.heap.size = B + 1 := by omega
        have hne2 : ¬ B + 1 = w5.heap.size := by omega
        have y3 : ((w8.setCell ⟨w5.heap.size, 0, none⟩ (.int .i64 (q : Int))).setCell ⟨w5.heap.size, 1, none⟩ (.slice fa (dl2 (expF G (q + 1) q) s s.length).length fc)).cell? ⟨B + 1, 0, none⟩ = some (.slice (some ⟨g, 0, none⟩) k c) := by rw [← hwy]; exact (hCR.out.below hby).x3
        clear hbz hqz
        obtain ⟨wz, hwz⟩ : ∃ wz, wz = wy := ⟨_, rfl⟩
        rw [← hwz] at T0 T1 hby hqy hwy
        rw [hwy] at T0 T1 hby hqy
        have hbz := hby
        have hqz := hqy
        clear hwz hby hqy hq8 ho7 ho8 hsl7 t0 t1 tz0 tz1 h5z hs5z hb6 hb7 hb8 h68 hz8 hz7 hz6 e0 hb5
        clear hwy
        have hszz : ((w8.setCell ⟨w5.heap.size, 0, none⟩ (.int .i64 (q : Int))).setCell ⟨w5.heap.size, 1, none⟩ (.slice fa (dl2 (expF G (q + 1) q) s s.length).length fc)).heap.size = w8.heap.size := by simp [World.setCell]
        have hX : Below wr.heap.size wr (((w8.setCell ⟨w5.heap.size, 0, none⟩ (.int .i64 (q : Int))).setCell ⟨w5.heap.size, 1, none⟩ (.slice fa (dl2 (expF G (q + 1) q) s s.length).length fc)).alloc (.cells #[.int .i64 (q : Int), .slice fa (dl2 (expF G (q + 1) q) s s.length).length fc] 46)) := hbz.alloc hbz.size _
        have hownz : ((w8.setCell ⟨w5.heap.size, 0, none⟩ (.int .i64 (q : Int))).setCell ⟨w5.heap.size, 1, none⟩ (.slice fa (dl2 (expF G (q + 1) q) s s.length).length fc)).ownsRow (w.heap.size + 2) 46 2 (.slice (some ⟨g, 0, none⟩) k c) k (encP G T k) := ownsRow_below hV.out.own hbz
        have HF : Hid (∀ w9, (((w8.setCell ⟨w5.heap.size, 0, none⟩ (.int .i64 (q : Int))).setCell ⟨w5.heap.size, 1, none⟩ (.slice fa (dl2 (expF G (q + 1) q) s s.length).length fc)).alloc (.cells #[.int .i64 (q : Int), .slice fa (dl2 (expF G (q + 1) q) s s.length).length fc] 46)).grownBy w9 (some g) → CRp w w9 B a k cap (.slice (some ⟨g, 0, none⟩) k c)) := fun w9 hgr => crp_far hCR.out hgl.1 hg1 hX hgr
        have HZ : Hid (∀ (w9 : World) (gg cc : Nat), w9.ownsRow (w.heap.size + 2) 46 2 (.slice (some ⟨gg, 0, none⟩) (k + 1) cc) (k + 1) (encP G T k ++ gpL ⟨(q : Int), (dl2 (expF G (q + 1) q) s s.length)⟩ ⟨fa, fc, w7.heap.size, w8.heap.size⟩) → (((w8.setCell ⟨w5.heap.size, 0, none⟩ (.int .i64 (q : Int))).setCell ⟨w5.heap.size, 1, none⟩ (.slice fa (dl2 (expF G (q + 1) q) s s.length).length fc)).alloc (.cells #[.int .i64 (q : Int), .slice fa (dl2 (expF G (q + 1) q) s s.length).length fc] 46)).grownBy w9 (some g) → (some g = some gg ∨ gg = w8.heap.size + 1) → SvPost G k s (q : Int) f w (.returned (.tuple #[.agg #[.slice (some ⟨gg, 0, none⟩) (k + 1) cc], .int .i64 (k : Int)])) ((w9.setCell ⟨B + 1, 0, none⟩ (.slice (some ⟨gg, 0, none⟩) (k + 1) cc)).setCell ⟨w.heap.size + 1, 0, none⟩ (.slice (some ⟨gg, 0, none⟩) (k + 1) cc)) ∧ gg ≠ w.heap.size + 1 ∧ gg ≠ B + 1) := fun w9 gg cc hown hgr hgg => by
          have hnw : extP G k (nwG G k s (q : Int)) k = ⟨(q : Int), (dl2 (expF G (q + 1) q) s s.length)⟩ := by rw [← Hnw.out]; exact if_pos rfl
          have hq : QP (((w8.setCell ⟨w5.heap.size, 0, none⟩ (.int .i64 (q : Int))).setCell ⟨w5.heap.size, 1, none⟩ (.slice fa (dl2 (expF G (q + 1) q) s s.length).length fc)).alloc (.cells #[.int .i64 (q : Int), .slice fa (dl2 (expF G (q + 1) q) s s.length).length fc] 46)) (extP G k (nwG G k s (q : Int)) k) ⟨fa, fc, w7.heap.size, w8.heap.size⟩ := by rw [hnw]; exact hqz.out.below ((Below.refl _ _).alloc (Nat.le_refl _) _)
          have he : encP G T k = encP (extP G k (nwG G k s (q : Int))) T k := encP_congr extP_lt (fun _ _ => rfl)
          obtain ⟨p1, p2, p3, p4⟩ := crp_push hCR.out (hV.out.congG extP_lt) hg1 hT.out hX hq hlz (by rw [hnw, ← he]; exact hown) hgr (hgg.imp id fun e => by rw [e, World.size_alloc, hszz]; exact Nat.le_refl _)
          have hgg2 : w.heap.size + 2 ≤ gg := p2.some_lt.1
          refine ⟨⟨_, extL T k ⟨fa, fc, w7.heap.size, w8.heap.size⟩, by rw [hsv.out.2], ?_, p1.bel.setCell (by exact Nat.le_succ _) _⟩, by omega, p3⟩
          unfold Hid
          rw [hsv.out.1]
          exact (p2.setB (fun q hq => by have := own_inj hq; omega) (fun i hi => Or.inl (by have := p4 i hi; omega))).base_le (by omega)
        obtain ⟨-, -, z3, -, -, -, -, -⟩ := (hCR.out.below hbz)
        have Hgc : ∀ (j : Nat) (u : Value), (gpL ⟨(q : Int), (dl2 (expF G (q + 1) q) s s.length)⟩ ⟨fa, fc, w7.heap.size, w8.heap.size⟩)[j]? = some u → (((w8.setCell ⟨w5.heap.size, 0, none⟩ (.int .i64 (q : Int))).setCell ⟨w5.heap.size, 1, none⟩ (.slice fa (dl2 (expF G (q + 1) q) s s.length).length fc)).alloc (.cells #[.int .i64 (q : Int), .slice fa (dl2 (expF G (q + 1) q) s s.length).length fc] 46)).cell? ((⟨w8.heap.size, 0, none⟩ : Addr).add j) = some u := fun j u hj => by
          have := gpL_cells ((w8.setCell ⟨w5.heap.size, 0, none⟩ (.int .i64 (q : Int))).setCell ⟨w5.heap.size, 1, none⟩ (.slice fa (dl2 (expF G (q + 1) q) s s.length).length fc)) ⟨(q : Int), (dl2 (expF G (q + 1) q) s s.length)⟩ ⟨fa, fc, w7.heap.size, w8.heap.size⟩ 46 j u hj
          rw [hszz] at this
          exact this
        have hm1 : k + 1 ≤ maxLen := by unfold maxLen; omega
        have hm2 : (k + 1) * 32 ≤ 140737488355328 := by omega
        have hm3 : ∀ o, w.heap.size + 2 ≤ (((w8.setCell ⟨w5.heap.size, 0, none⟩ (.int .i64 (q : Int))).setCell ⟨w5.heap.size, 1, none⟩ (.slice fa (dl2 (expF G (q + 1) q) s s.length).length fc)).alloc o).heap.size := fun o => by have := hbz.size; simp; omega
        have hk1 : IntKind.i64.wrap ((k : Int) + 1 - 1) = (k : Int) := by rw [IntKind.wrap_i64]; omega
        have hk2 : IntKind.i64.wrap (k : Int) = (k : Int) := by rw [IntKind.wrap_i64]; omega
        clear hV hT hqz hX
        go_wp2_with (at_builtin; refine wpList_append_lies _ rfl _ _ 23 rfl (w.heap.size + 2) 46 i0 (.agg #[.int .i64 0, .slice none 0 0]) 2 32 Try.underlying23 hi hz0 hz1 hz2 rfl (by decide) _ _ _ rfl (World.ownsRow.alloc hownz _) ⟨w8.heap.size, 0, none⟩ 1 1 (gpL ⟨(q : Int), (dl2 (expF G (q + 1) q) s s.length)⟩ ⟨fa, fc, w7.heap.size, w8.heap.size⟩) rfl rfl Hgc (gpL_one _ _) (by decide) hm1 hm2 (hm3 _) (w8.heap.size + 1) (by simp) ?_; intro gg cc w9 hown9 hgrow9 hat9 hlt9; obtain ⟨-, ⟨u9, y1⟩, y3, z1, z9, -, -, -⟩ := HF.out w9 hgrow9; obtain ⟨Hfin, n1, n2⟩ := HZ.out w9 gg cc hown9 hgrow9 hat9; have HH : Hid (SvPost G k s (q : Int) f w (.returned (.tuple #[.agg #[.slice (some ⟨gg, 0, none⟩) (k + 1) cc], .int .i64 (k : Int)])) ((w9.setCell ⟨B + 1, 0, none⟩ (.slice (some ⟨gg, 0, none⟩) (k + 1) cc)).setCell ⟨w.heap.size + 1, 0, none⟩ (.slice (some ⟨gg, 0, none⟩) (k + 1) cc))) := Hfin; clear Hfin hown9 hgrow9 hat9)
        (try go_wp2_with fail)
        go_region
        all_goals
          go_wp2
          exact bodyPost_ret (v := .tuple #[.agg #[.slice (some ⟨gg, 0, none⟩) (k + 1) cc], .int .i64 (k : Int)]) (by simp [results, Try.results5, go_sem, y1]) rfl (HH.out.blw (by first | exact Below.refl _ _ | exact (Below.refl _ _).drew))
end Go.Proofs.Ytgocjlpbokhoeaa
