import Derived.Test.YtgocjlpbokhoeaaHsI
import Derived.Test.YtgocjlpbokhoeaaGpI
namespace Go.Proofs.Ytgocjlpbokhoeaa
open Go.RowKit
set_option maxRecDepth 100000 in
set_option maxHeartbeats 8000000 in
theorem svI_any (b off n cap : Nat) {G : Nat → Grp} {sa : Option Addr} {sc : Nat} {s : List Ent} (near f : Int) (w : World) (hf : Fnd G s n f) (h : SlT w (some ⟨b, off, none⟩) n cap G) (hs : SlE w sa sc s) :
    Calls Try.prog 6 #[.agg #[.slice (some ⟨b, off, none⟩) n cap], .slice sa s.length sc, .int .i64 near] w (SvPost G n s near f w) := by
  obtain ⟨i0, hi, hz0, hz1, hz2⟩ := info_parts Try.infoGroup
  have hnn := Nat.le_trans h.le h.max
  unfold maxLen at hnn
  obtain ⟨wa, hwa⟩ : ∃ wa, wa = ((w.alloc (.cells #[.slice (some ⟨b, off, none⟩) n cap] 25)).alloc (.cells #[.slice sa s.length sc] 26)).alloc (.cells #[.slice none 0 0] 25) := ⟨_, rfl⟩
  have hsa : wa.heap.size = w.heap.size + 3 := by rw [hwa]; simp
  have hba : Below w.heap.size w wa := by rw [hwa]; exact (((Below.refl _ _).alloc (Nat.le_refl _) _).alloc (by simp) _).alloc (by simp; omega) _
  have hca : Hid (∀ W, Below wa.heap.size wa W → W.cell? ⟨w.heap.size, 0, none⟩ = some (.slice (some ⟨b, off, none⟩) n cap) ∧ W.cell? ⟨w.heap.size + 1, 0, none⟩ = some (.slice sa s.length sc) ∧ W.cell? ⟨w.heap.size + 1 + 1, 0, none⟩ = some (.slice none 0 0) ∧ W.frozen? ⟨w.heap.size + 1 + 1, 0, none⟩ = false) := fun W hW => by
    refine ⟨(hW.cell (by show w.heap.size < wa.heap.size; omega)).trans ?_, (hW.cell (by show w.heap.size + 1 < wa.heap.size; omega)).trans ?_, (hW.cell (by show w.heap.size + 1 + 1 < wa.heap.size; omega)).trans ?_, (hW.frozen (by show w.heap.size + 1 + 1 < wa.heap.size; omega)).trans ?_⟩
    · rw [hwa, World.cell?_alloc_past _ _ _ (by simp; omega), World.cell?_alloc_past _ _ _ (by simp)]
      exact World.cell?_alloc_at _ _ _ _ rfl
    · rw [hwa, World.cell?_alloc_past _ _ _ (by simp)]; exact World.cell?_alloc_at _ _ _ _ (by simp)
    · rw [hwa]; exact World.cell?_alloc_at _ _ _ _ (by simp)
    · rw [hwa]; exact World.frozen?_alloc_at _ _ _ _ (by simp)
  have Hno : Hid (∀ W, Below wa.heap.size wa W → svN G n s f = 0 ∧ svC G n s f = -1 → SvPost G n s near f w (.returned (.tuple #[.agg #[.slice none 0 0], .int .i64 (-1)])) (W.setCell ⟨w.heap.size + 1 + 1, 0, none⟩ (.slice none 0 0))) := fun W hW hv => SvPost.none hv ((hba.trans (hW.mono hba.size)).setCell (by exact Nat.le_add_right _ 2) _)
  have r0 : (((w.alloc (.cells #[.slice (some ⟨b, off, none⟩) n cap] 25)).alloc (.cells #[.slice sa s.length sc] 26)).alloc (.cells #[.slice none 0 0] 25)).cell? ⟨w.heap.size, 0, none⟩ = some (.slice (some ⟨b, off, none⟩) n cap) := by rw [← hwa]; exact (hca.out _ (Below.refl _ _)).1
  have Hf : Hid (Fnd G s n f) := hf
  have Hall : Hid (∀ i, i < n → AllOk (G i).sets) := h.oksets
  clear hf
  go_enter Try.func6, Try.ntmps6
  go_wp2_with fail
  rw [← hwa]
  clear hwa r0
  refine (layersOf_sl _ (h.below hba)).mono ?_
  rintro e w1 ⟨hb1, hp⟩
  rcases hp with ⟨hst, la, lc, X, rfl, hsq, hX⟩ | ⟨hst, rfl⟩
  case inr =>
    obtain ⟨-, -, y1, y2⟩ := hca.out _ hb1
    have Hn : Hid (_) := Hno.out w1 hb1 (sv_bad (by rw [hst]; rfl))
    clear hst
    go_wp2
    exact bodyPost_ret (v := .tuple #[.agg #[.slice none 0 0], .int .i64 (-1)]) (by simp [results, Try.results6, go_sem, y1]) rfl Hn.out
  have HX : Hid (∀ i, i < n → LayAt w1 none (X i) (csF G i)) := hX
  have Hst : Hid (stoB G n = true) := hst
  clear hX hst
  obtain ⟨y0, ys, y1, y2⟩ := hca.out _ hb1
  have hw1 := hba.trans (hb1.mono hba.size)
  go_wp2_with fail
  refine (stateI_sl _ (hs.below hw1)).mono ?_
  rintro e w2 ⟨rfl, hb2'⟩
  have hb2 := hb1.trans (hb2'.mono hb1.size)
  clear y0 ys y1 y2
  obtain ⟨y0, ys, y1, y2⟩ := hca.out _ hb2
  cases hss : stB s
  case false =>
    have Hn : Hid (_) := Hno.out w2 hb2 (sv_bad (by rw [hss, Bool.and_false]))
    go_wp2
    exact bodyPost_ret (v := .tuple #[.agg #[.slice none 0 0], .int .i64 (-1)]) (by simp [results, Try.results6, go_sem, y1]) rfl Hn.out
  have hokk : (stoB G n && stB s) = true := by rw [Hst.out, hss]; rfl
  have h1000 : n ≤ 1000 := by
    have := Hst.out
    unfold stoB at this
    rw [Bool.and_eq_true] at this
    exact of_decide_eq_true this.1
  have Hto : Hid (stoTo G n = true) := by
    have := Hst.out
    unfold stoB at this
    rw [Bool.and_eq_true] at this
    exact this.2
  have hs3 := (st_parts hss).1
  have Hss : Hid (stB s = true) := hss
  have HX2 : Hid (∀ i, i < n → LayAt w2 none (X i) (csF G i)) := fun i hi => (HX.out i hi).below hb2'
  have hsq2 := hsq.below hb2'
  have hw2 := hba.trans (hb2.mono hba.size)
  have hwz : w.heap.size + 1 < w2.heap.size := by have := hb2.size; omega
  have HC : Hid (∀ W i, i < n → Below w2.heap.size w2 W → Calls Try.prog 28 #[X i, .pointer (some ⟨w.heap.size + 1, 0, none⟩)] W (HsPost (csF G i) s W)) := fun W i hi hW => by
    have hL := (HX2.out i hi).below hW
    have hO := cs_ok Hto.out Hall.out i hi
    have hbd := cs_bd Hto.out i hi
    refine svCl_any W ((hW.cell (by exact hwz)).trans ys) hL.ptr ?_
    obtain ⟨T, R, hTR⟩ := cs_cons (stoTo_front Hto.out) hi
    rw [hTR] at hL hO hbd ⊢
    exact hasSt_any W hL hO (by omega) (by omega) Hss.out (hs.below (hw2.trans (hW.mono hw2.size)))
  have HG : Hid (∀ i, i < n → stOf (csF G i) = expF G (i + 1) i) := fun i hi => (cs_facts (stoTo_front Hto.out) i hi).2
  have hpt : ∀ i, i < n → ∃ q, X i = .pointer q := fun i hi => (HX.out i hi).ptr
  have Hix : Hid (Calls Try.prog 30 #[.slice la n lc, .func (.func 28) #[] #[.pointer (some ⟨w.heap.size + 1, 0, none⟩)]] w2 (IxPost G s n w2)) := idxQ_sl w2 h1000 hsq2 hpt HC HG
  clear HC HG hpt HX hsq hss Hst hb1 hb2' hw1
  go_wp2_with fail
  refine Hix.out.mono ?_
  rintro e w4 ⟨f', rfl, hf', hb4'⟩
  have hff : f' = f := fnd_uniq hf' Hf.out
  subst hff
  clear hf' Hix
  have hb4 := hb2.trans (hb4'.mono hb2.size)
  have hw4 := hba.trans (hb4.mono hba.size)
  have HX4 : Hid (∀ i, i < n → LayAt w4 none (X i) (csF G i)) := fun i hi => (HX2.out i hi).below hb4'
  have hsq4 := hsq2.below hb4'
  clear y0 ys y1 y2 HX2 hsq2 hb2 hb4' hw2 hwz
  obtain ⟨y0, ys, y1, y2⟩ := hca.out _ hb4
  have hfg := fnd_ge Hf.out
  have Hcs : Hid (Calls Try.prog 31 #[.agg #[.slice (some ⟨b, off, none⟩) n cap]] w4 (CsPost G n w4)) := clSt_any b off n cap w4 h1000 (fun i hi => Nat.le_trans (grpOk_parts (stoTo_at Hto.out i hi)).2.2.1 (by omega)) (h.below hw4)
  by_cases h0 : 0 ≤ f'
  · have hsv := sv_old hokk h0
    have Hsv : Hid (svN G n s f' = n ∧ svC G n s f' = f') := hsv
    clear hsv
    go_wp2_with fail
    refine Hcs.out.mono ?_
    rintro e w5 ⟨g, c, T, rfl, hV, hb5'⟩
    have hb5 := hb4.trans (hb5'.mono hb4.size)
    have hs4 := hb4.size
    obtain ⟨-, -, z1, z2⟩ := hca.out _ hb5
    have hgl := hV.out.some_lt
    have HP : Hid (SvPost G n s near f' w (.returned (.tuple #[.agg #[.slice (some ⟨g, 0, none⟩) n c], .int .i64 f'])) (w5.setCell ⟨w.heap.size + 1 + 1, 0, none⟩ (.slice (some ⟨g, 0, none⟩) n c))) := by
      refine ⟨_, T, by rw [Hsv.out.2], ?_, (hba.trans (hb5.mono hba.size)).setCell (by exact Nat.le_add_right _ 2) _⟩
      unfold Hid
      rw [Hsv.out.1]
      exact ((hV.out.congG extP_lt).setB (fun q hq => by have := own_inj hq; omega) (fun i hi => Or.inl (by have := hV.out.low i hi; omega))).base_le (by omega)
    clear hV Hsv
    go_wp2
    exact bodyPost_ret (v := .tuple #[.agg #[.slice (some ⟨g, 0, none⟩) n c], .int .i64 f']) (by simp [results, Try.results6, go_sem, z1]) rfl HP.out
  by_cases hful : 1000 ≤ n
  · have hk1 : (1000 : Int) ≤ (n : Int) := by omega
    have Hn : Hid (_) := Hno.out w4 hb4 (sv_full hokk h0 hful)
    clear Hcs
    go_wp2
    exact bodyPost_ret (v := .tuple #[.agg #[.slice none 0 0], .int .i64 (-1)]) (by simp [results, Try.results6, go_sem, y1]) rfl Hn.out
  have Hsv : Hid (svN G n s f' = n + 1 ∧ svC G n s f' = (n : Int)) := sv_new hokk h0 hful
  have hk1 : ¬ ((1000 : Int) ≤ (n : Int)) := by omega
  obtain ⟨f, rfl⟩ : ∃ f, f = f' := ⟨_, rfl⟩
  clear hokk hful
  go_wp2_with fail
  refine Hcs.out.mono ?_
  rintro e w5 ⟨g, c, T, rfl, hV, hb5'⟩
  have hb5 := hb4.trans (hb5'.mono hb4.size)
  have hs4 := hb4.size
  have hs5 := hb5'.size
  have hgl := hV.out.some_lt
  obtain ⟨wb, hwb⟩ : ∃ wb, wb = w5.alloc (.cells #[.slice (some ⟨g, 0, none⟩) n c] 25) := ⟨_, rfl⟩
  have h5b : Below w5.heap.size w5 wb := by rw [hwb]; exact (Below.refl _ _).alloc (Nat.le_refl _) _
  have hsb : wb.heap.size = w5.heap.size + 1 := by rw [hwb]; simp
  have hNB : w5.heap.size < wb.heap.size := by omega
  have x3 : wb.cell? ⟨w5.heap.size, 0, none⟩ = some (.slice (some ⟨g, 0, none⟩) n c) := by rw [hwb]; exact World.cell?_alloc_at _ _ _ _ rfl
  have x4 : wb.frozen? ⟨w5.heap.size, 0, none⟩ = false := by rw [hwb]; exact World.frozen?_alloc_at _ _ _ _ rfl
  have hab : Below wa.heap.size wa wb := hb5.trans (h5b.mono hb5.size)
  have h4b : Below w4.heap.size w4 wb := hb5'.trans (h5b.mono hb5'.size)
  have hwb2 := hba.trans (hab.mono hba.size)
  have hrf : Below wb.heap.size wb wb := Below.refl _ _
  have hsW : wa.heap.size ≤ wb.heap.size := hab.size
  have HS : Hid (∀ W, Below wb.heap.size wb W → W.cell? ⟨w.heap.size + 1, 0, none⟩ = some (.slice sa s.length sc)) := fun W hW => (hca.out _ (hab.trans (hW.mono hab.size))).2.1
  have Hgo : Hid (∀ W, Below wb.heap.size wb W → Calls Try.prog 32 #[.slice la n lc, .slice sa s.length sc, .int .i64 near] W fun x w' => ∃ t : Lg, x = .returned (.agg #[.int .i64 (nwG G n s near).par, .slice t.a (nwG G n s near).sets.length t.c]) ∧ Hid (QP w' (nwG G n s near) t) ∧ wb.heap.size ≤ t.lo ∧ Below wb.heap.size wb w') := fun W hW => by
    have h4W := h4b.trans (hW.mono h4b.size)
    refine (grpOf_sl near W Hto.out Hall.out Hss.out (hsq4.below h4W) (fun i hi => (HX4.out i hi).below h4W) (hs.below (hwb2.trans (hW.mono hwb2.size)))).mono ?_
    rintro x w' ⟨t, h1, h2, h3, h4⟩
    exact ⟨t, h1, h2, Nat.le_trans hW.size h3, hW.trans (h4.mono hW.size)⟩
  have HO : Hid (∀ X, Below wb.heap.size wb X → X.ownsRow (w4.heap.size + 2) 46 2 (.slice (some ⟨g, 0, none⟩) n c) n (encP G T n)) := fun X hX => ownsRow_below hV.out.own (h5b.trans (hX.mono h5b.size))
  have HF : Hid (∀ X w3, Below wb.heap.size wb X → X.grownBy w3 (some g) → w3.cell? ⟨w5.heap.size, 0, none⟩ = some (.slice (some ⟨g, 0, none⟩) n c) ∧ w3.frozen? ⟨w5.heap.size, 0, none⟩ = false ∧ w3.cell? ⟨w.heap.size + 1 + 1, 0, none⟩ = some (.slice none 0 0) ∧ w3.frozen? ⟨w.heap.size + 1 + 1, 0, none⟩ = false ∧ w3.cell? ⟨w.heap.size + 1, 0, none⟩ = some (.slice sa s.length sc) ∧ ∀ V, (w3.setCell ⟨w5.heap.size, 0, none⟩ V).cell? ⟨w.heap.size + 1, 0, none⟩ = some (.slice sa s.length sc)) := fun X w3 hX hgr => by
    have hsX := hX.size
    have far : ∀ q, q < wb.heap.size → q ≠ g → ∀ o, w3.cell? ⟨q, o, none⟩ = X.cell? ⟨q, o, none⟩ ∧ w3.frozen? ⟨q, o, none⟩ = X.frozen? ⟨q, o, none⟩ := fun q h2 h3 o => by
      have hne : some q ≠ some g := fun e => by injection e with e; omega
      exact ⟨hgr.cell_far _ (by show q < X.heap.size; omega) hne, hgr.frozen_far _ (by show q < X.heap.size; omega) hne⟩
    obtain ⟨-, q1, q2, q3⟩ := hca.out _ (hab.trans (hX.mono hab.size))
    have e1 := ((far (w.heap.size + 1) (by omega) (by omega) 0).1).trans q1
    exact ⟨((far _ hNB (by omega) 0).1).trans ((hX.cell (by exact hNB)).trans x3), ((far _ hNB (by omega) 0).2).trans ((hX.frozen (by exact hNB)).trans x4), ((far (w.heap.size + 1 + 1) (by omega) (by omega) 0).1).trans q2, ((far (w.heap.size + 1 + 1) (by omega) (by omega) 0).2).trans q3, e1, fun V => by rw [far_block (by omega)]; exact e1⟩
  have HZ : Hid (∀ (w1 X w3 : World) (t : Lg) (gg cc : Nat), Below wb.heap.size wb w1 → QP w1 (nwG G n s near) t → wb.heap.size ≤ t.lo → Below w1.heap.size w1 X → w3.ownsRow (w4.heap.size + 2) 46 2 (.slice (some ⟨gg, 0, none⟩) (n + 1) cc) (n + 1) (encP G T n ++ gpL (nwG G n s near) t) → X.grownBy w3 (some g) → (some g = some gg ∨ X.heap.size ≤ gg) → SvPost G n s near f w (.returned (.tuple #[.agg #[.slice (some ⟨gg, 0, none⟩) (n + 1) cc], .int .i64 (n : Int)])) ((w3.setCell ⟨w5.heap.size, 0, none⟩ (.slice (some ⟨gg, 0, none⟩) (n + 1) cc)).setCell ⟨w.heap.size + 1 + 1, 0, none⟩ (.slice (some ⟨gg, 0, none⟩) (n + 1) cc)) ∧ gg ≠ w.heap.size + 1 + 1 ∧ gg ≠ w5.heap.size) := fun w1 X w3 t gg cc h1 hq hlo hX hown hgr hgg => by
    have hbX := h1.trans (hX.mono h1.size)
    have h5X := h5b.trans (hbX.mono h5b.size)
    have hsX := hbX.size
    have hnw : extP G n (nwG G n s near) n = nwG G n s near := if_pos rfl
    have he : encP G T n = encP (extP G n (nwG G n s near)) T n := encP_congr extP_lt (fun _ _ => rfl)
    have hVs := ((hV.out.congG extP_lt).below h5X).snoc (g := gg) (cap := cc) (w' := w3) (t := t) (by rw [hnw]; exact hq.below hX) (by omega) (fun i hi => by have := (hV.out.q i hi).hh.2; omega) (fun q hq => Or.inl (by have := own_inj hq; omega)) (by rw [hnw, ← he]; exact hown) hgr hgg
    have hgg2 : gg ≠ w.heap.size + 1 + 1 ∧ gg ≠ w5.heap.size := by
      rcases hgg with q | q
      · injection q with q; omega
      · omega
    have hT2 : ∀ i, i < n + 1 → (w5.heap.size < (extL T n t i).lo ∨ (extL T n t i).hi ≤ w5.heap.size) ∧ w.heap.size + 1 + 1 < (extL T n t i).lo := fun i hi => by
      unfold extL
      by_cases q : i = n
      · rw [if_pos q]; exact ⟨Or.inl (by omega), by omega⟩
      · rw [if_neg q]
        have q1 := hV.out.low i (by omega)
        have q2 := (hV.out.q i (by omega)).hh.2
        exact ⟨Or.inr q2, by omega⟩
    refine ⟨⟨_, extL T n t, by rw [Hsv.out.2], ?_, ?_⟩, hgg2⟩
    · unfold Hid
      rw [Hsv.out.1]
      exact (((hVs.setB (fun q hq => by have := own_inj hq; omega) (fun i hi => (hT2 i hi).1)).setB (fun q hq => by have := own_inj hq; omega) (fun i hi => Or.inl (hT2 i hi).2)).base_le (by omega))
    · refine Below.setCell (Below.setCell ?_ (by show w.heap.size ≤ w5.heap.size; omega) _) (by exact Nat.le_add_right _ 2) _
      exact (hwb2.trans (hbX.mono hwb2.size)).grown hgr (by omega) (fun q hq => by
        have : some g = some q := hq
        injection this with this
        omega)
  have hm1 : n + 1 ≤ maxLen := by unfold maxLen; omega
  have hm2 : (n + 1) * 32 ≤ 140737488355328 := by omega
  have hne3 : w5.heap.size ≠ w.heap.size + 1 + 1 := by omega
  clear hV hab h4b hwb2 HX4 hsq4 Hcs Hno hca h5b
  obtain ⟨gk, hgk⟩ : ∃ gk, gk = nwG G n s near := ⟨_, rfl⟩
  rw [← hgk] at Hgo HZ
  go_wp2_with fail
  rw [← hwb]
  clear hwb hgk
  refine wp_region_held_drew (S := fun W => W.cell? ⟨w.heap.size + 1, 0, none⟩ = some (.slice sa s.length sc)) (by kernel_rfl) ?_ (fun hHeld => ?_)
  · (try dsimp only); exact HS.out _ (by first | with_reducible exact hrf | with_reducible exact hrf.drew | with_reducible exact hrf.drew.drew | with_reducible exact hrf.drew.drew.drew)
  refine wpAnyH_take (i := 0) (v := ?vm1) rfl (by kernel_rfl) (by kernel_rfl) (by kernel_rfl) (fun _ _ _ h => h) (Or.inl ⟨by rfl, ?hm1⟩) (by assumption) ?_
  case hm1 => (intro w hSw; (try dsimp only at hSw); go_simp; try (with_reducible rfl))
  simp only [Act.put, List.getElem_toArray, List.getElem_cons_zero, List.setIfInBounds_toArray, List.set_cons_zero, List.set_cons_succ]
  refine wpAnyH_take (i := 2) (v := ?vm2) rfl (by kernel_rfl) (by kernel_rfl) (by kernel_rfl) (fun _ _ _ h => h) (Or.inl ⟨by rfl, ?hm2⟩) (by assumption) ?_
  case hm2 => (intro w hSw; (try dsimp only at hSw); go_simp; try (with_reducible rfl))
  simp only [Act.put, List.getElem_toArray, List.getElem_cons_zero, List.getElem_cons_succ, List.setIfInBounds_toArray, List.set_cons_zero, List.set_cons_succ]
  refine wpAnyH_take (i := 3) (v := ?vm3) rfl (by kernel_rfl) (by kernel_rfl) (by kernel_rfl) (fun _ _ _ h => h) (Or.inl ⟨by rfl, ?hm3⟩) (by assumption) ?_
  case hm3 => (intro w hSw; (try dsimp only at hSw); go_simp; try (with_reducible rfl))
  simp only [Act.put, List.getElem_toArray, List.getElem_cons_zero, List.getElem_cons_succ, List.setIfInBounds_toArray, List.set_cons_zero, List.set_cons_succ]
  refine wpAnyH_take (i := 4) (v := ?vm4) rfl (by kernel_rfl) (by kernel_rfl) (by kernel_rfl) (fun _ _ _ h => h) (Or.inl ⟨by rfl, ?hm4⟩) (by assumption) ?_
  case hm4 => (intro w hSw; (try dsimp only at hSw); go_simp; try (with_reducible rfl))
  simp only [Act.put, List.getElem_toArray, List.getElem_cons_zero, List.getElem_cons_succ, List.setIfInBounds_toArray, List.set_cons_zero, List.set_cons_succ]
  refine wpAnyH_ready (rs := [1, 5]) (by kernel_rfl) (by simp) ?_
  refine AllReadyH.cons rfl (fun K hK => ?_) (AllReadyH.cons rfl (fun K hK => ?_) AllReadyH.nil)
  · go_simp
    refine hK.out _ _ ?_ (fun hHeld => ?_)
    · (try dsimp only); exact HS.out _ (by first | with_reducible exact hrf | with_reducible exact hrf.drew | with_reducible exact hrf.drew.drew | with_reducible exact hrf.drew.drew.drew)
    clear hK K
    try simp only [Act.put, List.getElem_toArray, List.getElem_cons_zero, List.getElem_cons_succ, List.setIfInBounds_toArray, List.set_cons_zero, List.set_cons_succ]
    refine wpAnyH_ready (rs := [5]) (by kernel_rfl) (by simp) ?_
    refine AllReadyH.cons rfl (fun K hK => ?_) AllReadyH.nil
    go_simp
    go_at_call 32
    refine (Hgo.out _ (by first | with_reducible exact hrf | with_reducible exact hrf.drew | with_reducible exact hrf.drew.drew | with_reducible exact hrf.drew.drew.drew)).mono ?_
    rintro x w1 ⟨t, rfl, hq1, ht1, hb1⟩
    have q1v := (hb1.cell (by exact hNB)).trans x3
    have qva : ∀ Z, (w1.alloc Z).cell? ⟨w5.heap.size, 0, none⟩ = some (.slice (some ⟨g, 0, none⟩) n c) := fun Z => (((Below.refl _ _).alloc (Nat.le_refl _) _).cell (by show w5.heap.size < w1.heap.size; have := hb1.size; omega)).trans q1v
    try dsimp only
    refine hK.out _ _ ?_ (fun hHeld => ?_)
    · (try dsimp only); exact HS.out _ (by first | with_reducible exact hb1 | with_reducible exact hb1.drew | with_reducible exact hb1.drew.drew | with_reducible exact hb1.drew.drew.drew)
    clear hK K
    try simp only [Act.put, List.getElem_toArray, List.getElem_cons_zero, List.getElem_cons_succ, List.setIfInBounds_toArray, List.set_cons_zero, List.set_cons_succ]
    refine wpAnyH_ready (rs := [6]) (by kernel_rfl) (by simp) ?_
    refine AllReadyH.cons rfl (fun K hK => ?_) AllReadyH.nil
    go_simp
    refine hK.out _ _ ?_ (fun hHeld => ?_)
    · (try dsimp only); exact HS.out _ (by first | exact hb1.alloc hb1.size _ | exact (hb1.alloc hb1.size _).drew | exact (hb1.drew.alloc hb1.size _))
    clear hK K
    try simp only [Act.put, List.getElem_toArray, List.getElem_cons_zero, List.getElem_cons_succ, List.setIfInBounds_toArray, List.set_cons_zero, List.set_cons_succ]
    refine wpAnyH_ready (rs := [7]) (by kernel_rfl) (by simp) ?_
    refine AllReadyH.cons rfl (fun K hK => ?_) AllReadyH.nil
    refine step_append_lies _ (by rfl) _ _ _ (by rfl) (w4.heap.size + 2) 46 i0 _ 2 32 Try.underlying23 hi hz0 hz1 hz2 rfl (by decide) (.slice (some ⟨g, 0, none⟩) n c) n (encP G T n) (by rfl) (HO.out _ (by first | exact hb1.alloc hb1.size _ | exact (hb1.alloc hb1.size _).drew | exact (hb1.drew.alloc hb1.size _))) ⟨w1.heap.size, 0, none⟩ 1 1 (gpL gk t) (by rfl) (by rfl) (fun j u hj => gpL_cells w1 gk t _ j u hj) (gpL_one gk t) (by decide) hm1 hm2 (by simp; have := hb1.size; omega) (w1.heap.size + 1) (by simp) ?_
    intro gg cc w3 hown3 hgrow hat hlt3
    obtain ⟨F3, Z3, R3, Q3, hS3, hS4⟩ := HF.out _ w3 (by first | exact hb1.alloc hb1.size _ | exact (hb1.alloc hb1.size _).drew | exact (hb1.drew.alloc hb1.size _)) hgrow
    refine hK.out _ _ ?_ (fun hHeld => ?_)
    · (try dsimp only); exact hS3
    clear hK K
    try simp only [Act.put, List.getElem_toArray, List.getElem_cons_zero, List.getElem_cons_succ, List.setIfInBounds_toArray, List.set_cons_zero, List.set_cons_succ]
    refine wpAnyH_take (i := 8) (v := ?vm5) rfl (by kernel_rfl) (by kernel_rfl) (by kernel_rfl) (fun _ _ _ h => h) (Or.inl ⟨by rfl, ?hm5⟩) (by assumption) ?_
    case hm5 => (intro w hSw; (try dsimp only at hSw); go_simp; try (with_reducible rfl))
    simp only [Act.put, List.getElem_toArray, List.getElem_cons_zero, List.getElem_cons_succ, List.setIfInBounds_toArray, List.set_cons_zero, List.set_cons_succ]
    refine wpAnyH_ready (rs := [9]) (by kernel_rfl) (by simp) ?_
    refine AllReadyH.cons rfl (fun K hK => ?_) AllReadyH.nil
    go_simp
    refine hK.out _ _ ?_ (fun hHeld => ?_)
    · (try dsimp only); exact hS4 _
    clear hK K
    try simp only [Act.put, List.getElem_toArray, List.getElem_cons_zero, List.getElem_cons_succ, List.setIfInBounds_toArray, List.set_cons_zero, List.set_cons_succ]
    refine wpAnyH_done (by kernel_rfl) ?_ _
    obtain ⟨hfin, n1, n2⟩ := HZ.out w1 _ w3 t gg cc hb1 hq1.out ht1 (by first | exact (Below.refl _ _).alloc (Nat.le_refl _) _ | exact ((Below.refl _ _).alloc (Nat.le_refl _) _).drew) hown3 hgrow (hat.imp (fun q => q) (fun q => by simp; omega))
    have HH : Hid (SvPost G n s near f w (.returned (.tuple #[.agg #[.slice (some ⟨gg, 0, none⟩) (n + 1) cc], .int .i64 (n : Int)])) ((w3.setCell ⟨w5.heap.size, 0, none⟩ (.slice (some ⟨gg, 0, none⟩) (n + 1) cc)).setCell ⟨w.heap.size + 1 + 1, 0, none⟩ (.slice (some ⟨gg, 0, none⟩) (n + 1) cc))) := hfin
    clear hfin hown3 hgrow HZ HF HO HS Hgo
    go_wp2
    exact bodyPost_ret (v := .tuple #[.agg #[.slice (some ⟨gg, 0, none⟩) (n + 1) cc], .int .i64 (n : Int)]) (by simp [results, Try.results6, go_sem, R3]) rfl HH.out
  · go_simp
    go_at_call 32
    refine (Hgo.out _ (by first | with_reducible exact hrf | with_reducible exact hrf.drew | with_reducible exact hrf.drew.drew | with_reducible exact hrf.drew.drew.drew)).mono ?_
    rintro x w1 ⟨t, rfl, hq1, ht1, hb1⟩
    have q1v := (hb1.cell (by exact hNB)).trans x3
    have qva : ∀ Z, (w1.alloc Z).cell? ⟨w5.heap.size, 0, none⟩ = some (.slice (some ⟨g, 0, none⟩) n c) := fun Z => (((Below.refl _ _).alloc (Nat.le_refl _) _).cell (by show w5.heap.size < w1.heap.size; have := hb1.size; omega)).trans q1v
    try dsimp only
    refine hK.out _ _ ?_ (fun hHeld => ?_)
    · (try dsimp only); exact HS.out _ (by first | with_reducible exact hb1 | with_reducible exact hb1.drew | with_reducible exact hb1.drew.drew | with_reducible exact hb1.drew.drew.drew)
    clear hK K
    try simp only [Act.put, List.getElem_toArray, List.getElem_cons_zero, List.getElem_cons_succ, List.setIfInBounds_toArray, List.set_cons_zero, List.set_cons_succ]
    refine wpAnyH_ready (rs := [1, 6]) (by kernel_rfl) (by simp) ?_
    refine AllReadyH.cons rfl (fun K hK => ?_) (AllReadyH.cons rfl (fun K hK => ?_) AllReadyH.nil)
    · go_simp
      refine hK.out _ _ ?_ (fun hHeld => ?_)
      · (try dsimp only); exact HS.out _ (by first | with_reducible exact hb1 | with_reducible exact hb1.drew | with_reducible exact hb1.drew.drew | with_reducible exact hb1.drew.drew.drew)
      clear hK K
      try simp only [Act.put, List.getElem_toArray, List.getElem_cons_zero, List.getElem_cons_succ, List.setIfInBounds_toArray, List.set_cons_zero, List.set_cons_succ]
      refine wpAnyH_ready (rs := [6]) (by kernel_rfl) (by simp) ?_
      refine AllReadyH.cons rfl (fun K hK => ?_) AllReadyH.nil
      go_simp
      refine hK.out _ _ ?_ (fun hHeld => ?_)
      · (try dsimp only); exact HS.out _ (by first | exact hb1.alloc hb1.size _ | exact (hb1.alloc hb1.size _).drew | exact (hb1.drew.alloc hb1.size _))
      clear hK K
      try simp only [Act.put, List.getElem_toArray, List.getElem_cons_zero, List.getElem_cons_succ, List.setIfInBounds_toArray, List.set_cons_zero, List.set_cons_succ]
      refine wpAnyH_ready (rs := [7]) (by kernel_rfl) (by simp) ?_
      refine AllReadyH.cons rfl (fun K hK => ?_) AllReadyH.nil
      refine step_append_lies _ (by rfl) _ _ _ (by rfl) (w4.heap.size + 2) 46 i0 _ 2 32 Try.underlying23 hi hz0 hz1 hz2 rfl (by decide) (.slice (some ⟨g, 0, none⟩) n c) n (encP G T n) (by rfl) (HO.out _ (by first | exact hb1.alloc hb1.size _ | exact (hb1.alloc hb1.size _).drew | exact (hb1.drew.alloc hb1.size _))) ⟨w1.heap.size, 0, none⟩ 1 1 (gpL gk t) (by rfl) (by rfl) (fun j u hj => gpL_cells w1 gk t _ j u hj) (gpL_one gk t) (by decide) hm1 hm2 (by simp; have := hb1.size; omega) (w1.heap.size + 1) (by simp) ?_
      intro gg cc w3 hown3 hgrow hat hlt3
      obtain ⟨F3, Z3, R3, Q3, hS3, hS4⟩ := HF.out _ w3 (by first | exact hb1.alloc hb1.size _ | exact (hb1.alloc hb1.size _).drew | exact (hb1.drew.alloc hb1.size _)) hgrow
      refine hK.out _ _ ?_ (fun hHeld => ?_)
      · (try dsimp only); exact hS3
      clear hK K
      try simp only [Act.put, List.getElem_toArray, List.getElem_cons_zero, List.getElem_cons_succ, List.setIfInBounds_toArray, List.set_cons_zero, List.set_cons_succ]
      refine wpAnyH_take (i := 8) (v := ?vm6) rfl (by kernel_rfl) (by kernel_rfl) (by kernel_rfl) (fun _ _ _ h => h) (Or.inl ⟨by rfl, ?hm6⟩) (by assumption) ?_
      case hm6 => (intro w hSw; (try dsimp only at hSw); go_simp; try (with_reducible rfl))
      simp only [Act.put, List.getElem_toArray, List.getElem_cons_zero, List.getElem_cons_succ, List.setIfInBounds_toArray, List.set_cons_zero, List.set_cons_succ]
      refine wpAnyH_ready (rs := [9]) (by kernel_rfl) (by simp) ?_
      refine AllReadyH.cons rfl (fun K hK => ?_) AllReadyH.nil
      go_simp
      refine hK.out _ _ ?_ (fun hHeld => ?_)
      · (try dsimp only); exact hS4 _
      clear hK K
      try simp only [Act.put, List.getElem_toArray, List.getElem_cons_zero, List.getElem_cons_succ, List.setIfInBounds_toArray, List.set_cons_zero, List.set_cons_succ]
      refine wpAnyH_done (by kernel_rfl) ?_ _
      obtain ⟨hfin, n1, n2⟩ := HZ.out w1 _ w3 t gg cc hb1 hq1.out ht1 (by first | exact (Below.refl _ _).alloc (Nat.le_refl _) _ | exact ((Below.refl _ _).alloc (Nat.le_refl _) _).drew) hown3 hgrow (hat.imp (fun q => q) (fun q => by simp; omega))
      have HH : Hid (SvPost G n s near f w (.returned (.tuple #[.agg #[.slice (some ⟨gg, 0, none⟩) (n + 1) cc], .int .i64 (n : Int)])) ((w3.setCell ⟨w5.heap.size, 0, none⟩ (.slice (some ⟨gg, 0, none⟩) (n + 1) cc)).setCell ⟨w.heap.size + 1 + 1, 0, none⟩ (.slice (some ⟨gg, 0, none⟩) (n + 1) cc))) := hfin
      clear hfin hown3 hgrow HZ HF HO HS Hgo
      go_wp2
      exact bodyPost_ret (v := .tuple #[.agg #[.slice (some ⟨gg, 0, none⟩) (n + 1) cc], .int .i64 (n : Int)]) (by simp [results, Try.results6, go_sem, R3]) rfl HH.out
    · go_simp
      refine hK.out _ _ ?_ (fun hHeld => ?_)
      · (try dsimp only); exact HS.out _ (by first | exact hb1.alloc hb1.size _ | exact (hb1.alloc hb1.size _).drew | exact (hb1.drew.alloc hb1.size _))
      clear hK K
      try simp only [Act.put, List.getElem_toArray, List.getElem_cons_zero, List.getElem_cons_succ, List.setIfInBounds_toArray, List.set_cons_zero, List.set_cons_succ]
      refine wpAnyH_ready (rs := [1]) (by kernel_rfl) (by simp) ?_
      refine AllReadyH.cons rfl (fun K hK => ?_) AllReadyH.nil
      go_simp
      refine hK.out _ _ ?_ (fun hHeld => ?_)
      · (try dsimp only); exact HS.out _ (by first | exact hb1.alloc hb1.size _ | exact (hb1.alloc hb1.size _).drew | exact (hb1.drew.alloc hb1.size _))
      clear hK K
      try simp only [Act.put, List.getElem_toArray, List.getElem_cons_zero, List.getElem_cons_succ, List.setIfInBounds_toArray, List.set_cons_zero, List.set_cons_succ]
      refine wpAnyH_ready (rs := [7]) (by kernel_rfl) (by simp) ?_
      refine AllReadyH.cons rfl (fun K hK => ?_) AllReadyH.nil
      refine step_append_lies _ (by rfl) _ _ _ (by rfl) (w4.heap.size + 2) 46 i0 _ 2 32 Try.underlying23 hi hz0 hz1 hz2 rfl (by decide) (.slice (some ⟨g, 0, none⟩) n c) n (encP G T n) (by rfl) (HO.out _ (by first | exact hb1.alloc hb1.size _ | exact (hb1.alloc hb1.size _).drew | exact (hb1.drew.alloc hb1.size _))) ⟨w1.heap.size, 0, none⟩ 1 1 (gpL gk t) (by rfl) (by rfl) (fun j u hj => gpL_cells w1 gk t _ j u hj) (gpL_one gk t) (by decide) hm1 hm2 (by simp; have := hb1.size; omega) (w1.heap.size + 1) (by simp) ?_
      intro gg cc w3 hown3 hgrow hat hlt3
      obtain ⟨F3, Z3, R3, Q3, hS3, hS4⟩ := HF.out _ w3 (by first | exact hb1.alloc hb1.size _ | exact (hb1.alloc hb1.size _).drew | exact (hb1.drew.alloc hb1.size _)) hgrow
      refine hK.out _ _ ?_ (fun hHeld => ?_)
      · (try dsimp only); exact hS3
      clear hK K
      try simp only [Act.put, List.getElem_toArray, List.getElem_cons_zero, List.getElem_cons_succ, List.setIfInBounds_toArray, List.set_cons_zero, List.set_cons_succ]
      refine wpAnyH_take (i := 8) (v := ?vm7) rfl (by kernel_rfl) (by kernel_rfl) (by kernel_rfl) (fun _ _ _ h => h) (Or.inl ⟨by rfl, ?hm7⟩) (by assumption) ?_
      case hm7 => (intro w hSw; (try dsimp only at hSw); go_simp; try (with_reducible rfl))
      simp only [Act.put, List.getElem_toArray, List.getElem_cons_zero, List.getElem_cons_succ, List.setIfInBounds_toArray, List.set_cons_zero, List.set_cons_succ]
      refine wpAnyH_ready (rs := [9]) (by kernel_rfl) (by simp) ?_
      refine AllReadyH.cons rfl (fun K hK => ?_) AllReadyH.nil
      go_simp
      refine hK.out _ _ ?_ (fun hHeld => ?_)
      · (try dsimp only); exact hS4 _
      clear hK K
      try simp only [Act.put, List.getElem_toArray, List.getElem_cons_zero, List.getElem_cons_succ, List.setIfInBounds_toArray, List.set_cons_zero, List.set_cons_succ]
      refine wpAnyH_done (by kernel_rfl) ?_ _
      obtain ⟨hfin, n1, n2⟩ := HZ.out w1 _ w3 t gg cc hb1 hq1.out ht1 (by first | exact (Below.refl _ _).alloc (Nat.le_refl _) _ | exact ((Below.refl _ _).alloc (Nat.le_refl _) _).drew) hown3 hgrow (hat.imp (fun q => q) (fun q => by simp; omega))
      have HH : Hid (SvPost G n s near f w (.returned (.tuple #[.agg #[.slice (some ⟨gg, 0, none⟩) (n + 1) cc], .int .i64 (n : Int)])) ((w3.setCell ⟨w5.heap.size, 0, none⟩ (.slice (some ⟨gg, 0, none⟩) (n + 1) cc)).setCell ⟨w.heap.size + 1 + 1, 0, none⟩ (.slice (some ⟨gg, 0, none⟩) (n + 1) cc))) := hfin
      clear hfin hown3 hgrow HZ HF HO HS Hgo
      go_wp2
      exact bodyPost_ret (v := .tuple #[.agg #[.slice (some ⟨gg, 0, none⟩) (n + 1) cc], .int .i64 (n : Int)]) (by simp [results, Try.results6, go_sem, R3]) rfl HH.out
end Go.Proofs.Ytgocjlpbokhoeaa
