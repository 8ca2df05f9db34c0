import Derived.Test.YtgocjlpbokhoeaaSvP
import Derived.Test.YtgocjlpbokhoeaaPtLM
import Derived.Test.YtgocjlpbokhoeaaToTM
import Derived.Lib.SliceRun
import Derived.Deep.AppendLies
import Derived.Deep.RegionLaw
import Derived.Deep.RegionHeld3
namespace Go.Proofs.Ytgocjlpbokhoeaa
open Go.RowKit
set_option maxRecDepth 100000 in
set_option maxHeartbeats 1000000 in
theorem clE_sl {a : Option Addr} {cap : Nat} {l : List Ent} (w : World) (hr : l.length ≤ 1000000) (h : SlE w a cap l) :
    Calls Try.prog 52 #[.slice a l.length cap] w fun e w' => ∃ v, e = .returned v ∧ OwnE w' w.heap.size v l ∧ Below w.heap.size w w' := by
  have q22 : ∀ (w : World) (a : Option Addr) (n c n' c' : Nat), (binOp .eql 26 (.slice a n c) (.slice none n' c')).run Try.prog w = .ok (.bool a.isNone) w := fun w a n c n' c' => Lib.run_eql_slice_nil w _ _ a n c n' c' Try.underlying26
  obtain ⟨i0, hi, hz0, hz1, hz2⟩ := info_parts Try.infoEntry
  have hok : Hid (AllOk l) := h.ok
  cases a with
  | none =>
    have hn0 : l = [] := by
      rcases h.cells with h0 | ⟨b, off, e, _⟩
      · exact h0
      · cases e
    subst hn0
    clear h
    go_enter Try.func52, Try.ntmps52
    go_wp2
    go_ret
    exact ⟨_, rfl, ⟨rfl, Or.inl ⟨rfl, rfl⟩⟩, Below.refl _ _⟩
  | some ad =>
    have hown : (w.alloc (.cells #[] 38)).ownsRow w.heap.size 38 3 (.slice (some ⟨w.heap.size, 0, none⟩) 0 0) 0 [] := ⟨rfl, Or.inr ⟨w.heap.size, 0, #[], rfl, Nat.le_refl _, by show (w.heap.push _)[w.heap.size]? = _; simp, Nat.le_refl _, by decide, rfl, rfl⟩⟩
    have HS : Hid (∀ j u, (encL l)[j]? = some u → (w.alloc (.cells #[] 38)).cell? (ad.add j) = some u) := fun j u hj => by
      rcases h.cells with rfl | ⟨b, off, e, hb, h1, h2, h3⟩
      · cases hj
      · injection e with e
        subst e
        have hb0 : Below w.heap.size w (w.alloc (.cells #[] 38)) := (Below.refl _ _).alloc (Nat.le_refl _) _
        have := encL_at l w b off h1 h2 h3 j u hj
        rw [Addr.add_lit] at this ⊢
        exact (hb0.cell (by exact hb)).trans this
    have hm1 : 0 + l.length ≤ maxLen := by unfold maxLen; omega
    have hm2 : (0 + l.length) * 48 ≤ 140737488355328 := by omega
    clear h
    go_enter Try.func52, Try.ntmps52
    go_wp2_with (at_builtin; refine wpList_append_own _ rfl _ _ 26 rfl w.heap.size 38 i0 (.agg #[.string ByteArray.empty, .string ByteArray.empty, .string ByteArray.empty]) 3 48 Try.underlying26 hi hz0 hz1 hz2 rfl (by decide) _ _ _ rfl hown ad l.length cap (encL l) rfl (encL_len l) HS.out (encL_one l) hm1 hm2 (by simp) ?_; intro v' w1 hown1 hgrow _)
    have hown' : OwnE w1 w.heap.size v' l := by
      unfold OwnE
      have := hown1
      rw [Nat.zero_add] at this
      exact this
    have hbel : Below w.heap.size w w1 := ((Below.refl _ w).alloc (Nat.le_refl _) _).grown hgrow (by simp) (fun k hk => by
      have hk2 : some w.heap.size = some k := hk
      injection hk2 with hk2
      omega)
    obtain ⟨a', c', rfl, _⟩ := hown'.sl hok.out.at
    clear hown hown1 hgrow HS
    go_wp2
    go_ret
    exact ⟨_, rfl, hown', hbel⟩
theorem make_grp0 (n : Nat) (h : n * 32 ≤ 140737488351232) (W : World) :
    (Instr.makeSlice 23 (.int .i64 0) (.int .i64 (n : Int))).run Try.prog W = .ok (.slice (some ⟨W.heap.size, 0, none⟩) 0 n) (W.alloc (.cells (mkGr n) 46)) := by
  obtain ⟨i0, hi, hz0, hz1, hz2⟩ := info_parts Try.infoGroup
  have := run_make (P := Try.prog) W 23 46 i0 (.agg #[.int .i64 0, .slice none 0 0]) Try.underlying23 hi hz0 .i64 .i64 0 (n : Int) (by omega) (by omega) (by rw [hz2]; omega) (by omega)
  rw [this, hz1]
  simp [mkGr, Value.cells]
theorem RowP.made (w : World) (base m : Nat) (hm : m ≤ maxLen) (hb : base ≤ w.heap.size) (G : Nat → Grp) (T : Nat → Lg) : RowP (w.alloc (.cells (mkGr m) 46)) base (.slice (some ⟨w.heap.size, 0, .none⟩) 0 m) 0 G T :=
  ⟨⟨rfl, Or.inr ⟨w.heap.size, m, mkGr m, rfl, hb, by show (w.heap.push _)[w.heap.size]? = _; simp, Nat.zero_le _, hm, mkGr_size m, by simp [encP]⟩⟩, fun _ hi => absurd hi (Nat.not_lt_zero _), fun _ hi => absurd hi (Nat.not_lt_zero _), fun _ _ _ hj => absurd hj (Nat.not_lt_zero _), fun _ _ _ hi => absurd hi (Nat.not_lt_zero _)⟩
def CsPost (G : Nat → Grp) (n : Nat) (w : World) (x : Ending) (w' : World) : Prop := ∃ g c T, x = .returned (.agg #[.slice (some ⟨g, 0, none⟩) n c]) ∧ Hid (RowP w' (w.heap.size + 2) (.slice (some ⟨g, 0, none⟩) n c) n G T) ∧ Below w.heap.size w w'
set_option maxRecDepth 100000 in
set_option maxHeartbeats 4000000 in
theorem clSt_any (b off n cap : Nat) {G : Nat → Grp} (w : World) (hn : n ≤ 1000) (hS : ∀ i, i < n → (G i).sets.length ≤ 1000000) (h : SlT w (some ⟨b, off, none⟩) n cap G) :
    Calls Try.prog 31 #[.agg #[.slice (some ⟨b, off, none⟩) n cap]] w (CsPost G n w) := by
  obtain ⟨i0, hi, hz0, hz1, hz2⟩ := info_parts Try.infoGroup
  have hmk0 := make_grp0 (n + 1) (by omega)
  have hmk : ∀ W : World, (Instr.makeSlice 23 (.int .i64 0) (.int .i64 ((n : Int) + 1))).run Try.prog W = .ok (.slice (some ⟨W.heap.size, 0, none⟩) 0 (n + 1)) (W.alloc (.cells (mkGr (n + 1)) 46)) := fun W => by have := hmk0 W; rwa [show ((n + 1 : Nat) : Int) = (n : Int) + 1 by omega] at this
  have hwr : IntKind.i64.wrap ((n : Int) + 1) = (n : Int) + 1 := by rw [IntKind.wrap_i64]; omega
  obtain ⟨wa, hwa⟩ : ∃ wa, wa = ((w.alloc (.cells #[.slice (some ⟨b, off, none⟩) n cap] 25)).alloc (.cells #[.slice none 0 0] 25)).alloc (.cells (mkGr (n + 1)) 46) := ⟨_, rfl⟩
  have hsa : wa.heap.size = w.heap.size + 3 := by rw [hwa]; simp
  have hba : Below w.heap.size w wa := by rw [hwa]; exact (((Below.refl _ _).alloc (Nat.le_refl _) _).alloc (by simp) _).alloc (by simp; omega) _
  have hca : Hid (∀ W, Below (w.heap.size + 2) wa W → W.cell? ⟨w.heap.size, 0, none⟩ = some (.slice (some ⟨b, off, none⟩) n cap) ∧ W.cell? ⟨w.heap.size + 1, 0, none⟩ = some (.slice none 0 0) ∧ W.frozen? ⟨w.heap.size + 1, 0, none⟩ = false) := fun W hW => by
    refine ⟨(hW.cell (by show w.heap.size < w.heap.size + 2; omega)).trans ?_, (hW.cell (by show w.heap.size + 1 < w.heap.size + 2; omega)).trans ?_, (hW.frozen (by show w.heap.size + 1 < w.heap.size + 2; omega)).trans ?_⟩
    · rw [hwa, World.cell?_alloc_past _ _ _ (by simp; omega), World.cell?_alloc_past _ _ _ (by simp)]
      exact World.cell?_alloc_at _ _ _ _ rfl
    · rw [hwa, World.cell?_alloc_past _ _ _ (by simp)]; exact World.cell?_alloc_at _ _ _ _ (by simp)
    · rw [hwa, World.frozen?_alloc_past _ _ _ (by simp)]; exact World.frozen?_alloc_at _ _ _ _ (by simp)
  have hV0 : RowP wa (w.heap.size + 2) (.slice (some ⟨w.heap.size + 1 + 1, 0, none⟩) 0 (n + 1)) 0 G (fun _ => ⟨none, 0, 0, 0⟩) := by
    have := RowP.made ((w.alloc (.cells #[.slice (some ⟨b, off, none⟩) n cap] 25)).alloc (.cells #[.slice none 0 0] 25)) (w.heap.size + 2) (n + 1) (by unfold maxLen; omega) (by simp) G (fun _ => ⟨none, 0, 0, 0⟩)
    simp only [World.size_alloc] at this
    rw [hwa]
    exact this
  have r0 : (((w.alloc (.cells #[.slice (some ⟨b, off, none⟩) n cap] 25)).alloc (.cells #[.slice none 0 0] 25)).alloc (.cells (mkGr (n + 1)) 46)).cell? ⟨w.heap.size, 0, none⟩ = some (.slice (some ⟨b, off, none⟩) n cap) := by rw [← hwa]; exact (hca.out _ (Below.refl _ _)).1
  have HSS : Hid (∀ i, i < n → (G i).sets.length ≤ 1000000) := hS
  clear hS
  go_enter Try.func31, Try.ntmps31
  go_wp2_with fail
  rw [← hwa]
  clear hwa r0 hmk hmk0
  go_loopw [3, 14] (fun gv iv wr => ∃ k : Nat, k ≤ n ∧ iv = .int .i64 (k : Int) ∧ ∃ g c T, gv = .slice (some ⟨g, 0, none⟩) k c ∧ Hid (RowP wr (w.heap.size + 2) (.slice (some ⟨g, 0, none⟩) k c) k G T) ∧ Below (w.heap.size + 2) wa wr) (fun _ iv _ => n - (intOf iv).toNat)
  case atStart => exact ⟨0, Nat.zero_le _, rfl, _, _, _, rfl, hV0, Below.refl _ _⟩
  case round =>
    clear hV0
    obtain ⟨k, hk, rfl, g, c, T, rfl, hV, hBa⟩ := hrel
    have hgl := hV.out.some_lt
    have hsr := hBa.size
    have hbel : Below w.heap.size w wr := hba.trans (hBa.mono (by omega))
    by_cases hlt : k < n
    · obtain ⟨hb, hck⟩ : b < w.heap.size ∧ GrpAt w b (off + k * 2) (G k) := by
        rcases h.cells with h0 | ⟨b', off', e, hlt', hc⟩
        · omega
        · injection e with e; injection e with e1 e2 _
          subst e1 e2
          exact ⟨hlt', hc k hlt⟩
      obtain ⟨ga, gc, c1, c2, hsl⟩ := hck.below hbel hb
      have hs6 := HSS.out k hlt
      obtain ⟨wg, hwg⟩ : ∃ wg, wg = wr.alloc (.cells #[.int .i64 (G k).par, .slice ga (G k).sets.length gc] 46) := ⟨_, rfl⟩
      have hrg : Below wr.heap.size wr wg := by rw [hwg]; exact (Below.refl _ _).alloc (Nat.le_refl _) _
      have hgz : wg.heap.size = wr.heap.size + 1 := by rw [hwg]; simp
      have hrf : Below wg.heap.size wg wg := Below.refl _ _
      have HS : Hid (∀ W, Below wg.heap.size wg W → W.cell? ⟨wr.heap.size, 0, none⟩ = some (.int .i64 (G k).par) ∧ W.cell? ⟨wr.heap.size, 1, none⟩ = some (.slice ga (G k).sets.length gc)) := fun W hW => by
        refine ⟨(hW.cell (by show wr.heap.size < wg.heap.size; omega)).trans ?_, (hW.cell (by show wr.heap.size < wg.heap.size; omega)).trans ?_⟩ <;> rw [hwg] <;> exact World.cell?_alloc_at _ _ _ _ rfl
      have Hcp : Hid (∀ W, Below wg.heap.size wg W → Calls Try.prog 52 #[.slice ga (G k).sets.length gc] W fun x w' => ∃ t : Lg, x = .returned (.slice t.a (G k).sets.length t.c) ∧ Hid (QP w' (G k) t) ∧ wr.heap.size ≤ t.lo ∧ Below wg.heap.size wg w') := fun W hW => by
        have hrW := hrg.trans (hW.mono hrg.size)
        refine (clE_sl W (by omega) (hsl.below hrW)).mono ?_
        rintro x w' ⟨v, rfl, ho, hb'⟩
        obtain ⟨a', c', rfl, hq⟩ := ho.qp hsl.ok (G k).par hb'.size
        exact ⟨⟨a', c', W.heap.size, w'.heap.size⟩, rfl, hq, hrW.size, hW.trans (hb'.mono hW.size)⟩
      have HO : Hid (∀ X, Below wg.heap.size wg X → X.ownsRow (w.heap.size + 2) 46 2 (.slice (some ⟨g, 0, none⟩) k c) k (encP G T k)) := fun X hX => ownsRow_below hV.out.own (hrg.trans (hX.mono hrg.size))
      have HF : Hid (∀ X w3, Below wg.heap.size wg X → X.grownBy w3 (some g) → w3.cell? ⟨wr.heap.size, 0, none⟩ = some (.int .i64 (G k).par) ∧ w3.cell? ⟨wr.heap.size, 1, none⟩ = some (.slice ga (G k).sets.length gc)) := fun X w3 hX hgr => by
        have hsX := hX.size
        have far : ∀ o, w3.cell? ⟨wr.heap.size, o, none⟩ = X.cell? ⟨wr.heap.size, o, none⟩ := fun o => hgr.cell_far _ (by show wr.heap.size < X.heap.size; omega) (fun e => by
          have e2 : some wr.heap.size = some g := e
          injection e2 with e2
          omega)
        exact ⟨(far _).trans (HS.out X hX).1, (far _).trans (HS.out X hX).2⟩
      have HZ : Hid (∀ (w1 X w3 : World) (t : Lg) (gg cc : Nat), Below wg.heap.size wg w1 → QP w1 (G k) t → wr.heap.size ≤ t.lo → Below w1.heap.size w1 X → w3.ownsRow (w.heap.size + 2) 46 2 (.slice (some ⟨gg, 0, none⟩) (k + 1) cc) (k + 1) (encP G T k ++ gpL (G k) t) → X.grownBy w3 (some g) → (some g = some gg ∨ X.heap.size ≤ gg) → RowP w3 (w.heap.size + 2) (.slice (some ⟨gg, 0, none⟩) (k + 1) cc) (k + 1) G (extL T k t) ∧ Below (w.heap.size + 2) wa w3) := fun w1 X w3 t gg cc h1 hq hlo hX hown hgr hgg => by
        have hrX := hrg.trans ((h1.trans (hX.mono h1.size)).mono hrg.size)
        have hsX := hrX.size
        refine ⟨(hV.out.below hrX).snoc (hq.below hX) (by omega) (fun i hi => Nat.le_trans (hV.out.q i hi).hh.2 hlo) (fun q hq => Or.inl (by have := own_inj hq; omega)) hown hgr hgg, ?_⟩
        exact (hBa.trans (hrX.mono (by omega))).grown hgr (by omega) (fun q hq => by
          have : some g = some q := hq
          injection this with this
          omega)
      have hm1 : k + 1 ≤ maxLen := by unfold maxLen; omega
      have hm2 : (k + 1) * 32 ≤ 140737488355328 := by omega
      have hgne : wr.heap.size ≠ g := by omega
      clear hck hsl hV
      generalize hgk : G k = gk at *
      clear hgk
      go_wp2_with fail
      rw [← hwg]
      clear hwg
      refine wp_region_held_drew (S := fun W => W.cell? ⟨wr.heap.size, 0, none⟩ = some (.int .i64 gk.par) ∧ W.cell? ⟨wr.heap.size, 1, none⟩ = some (.slice ga gk.sets.length gc)) (by kernel_rfl) ?_ (fun hHeld => ?_)
      · (try dsimp only); exact HS.out _ (by first | with_reducible exact hrf | with_reducible exact hrf.drew | with_reducible exact hrf.drew.drew | with_reducible exact hrf.drew.drew.drew)
      refine wpAnyH_take (i := 0) (v := ?vm1) rfl (by kernel_rfl) (by kernel_rfl) (by kernel_rfl) (fun _ _ _ h => h) (Or.inl ⟨by rfl, ?hm1⟩) (by assumption) ?_
      case hm1 => (intro w hSw; (try dsimp only at hSw); go_simp; try (with_reducible rfl))
      simp only [Act.put, List.getElem_toArray, List.getElem_cons_zero, List.setIfInBounds_toArray, List.set_cons_zero, List.set_cons_succ]
      refine wpAnyH_take (i := 1) (v := ?vm2) rfl (by kernel_rfl) (by kernel_rfl) (by kernel_rfl) (fun _ _ _ h => h) (Or.inl ⟨by rfl, ?hm2⟩) (by assumption) ?_
      case hm2 => (intro w hSw; (try dsimp only at hSw); go_simp; try (with_reducible rfl))
      simp only [Act.put, List.getElem_toArray, List.getElem_cons_zero, List.getElem_cons_succ, List.setIfInBounds_toArray, List.set_cons_zero, List.set_cons_succ]
      refine wpAnyH_take (i := 2) (v := ?vm3) rfl (by kernel_rfl) (by kernel_rfl) (by kernel_rfl) (fun _ _ _ h => h) (Or.inl ⟨by rfl, ?hm3⟩) (by assumption) ?_
      case hm3 => (intro w hSw; (try dsimp only at hSw); go_simp; try (with_reducible rfl))
      simp only [Act.put, List.getElem_toArray, List.getElem_cons_zero, List.getElem_cons_succ, List.setIfInBounds_toArray, List.set_cons_zero, List.set_cons_succ]
      refine wpAnyH_take (i := 3) (v := ?vm4) rfl (by kernel_rfl) (by kernel_rfl) (by kernel_rfl) (fun _ _ _ h => h) (Or.inl ⟨by rfl, ?hm4⟩) (by assumption) ?_
      case hm4 => (intro w hSw; (try dsimp only at hSw); go_simp; try (with_reducible rfl))
      simp only [Act.put, List.getElem_toArray, List.getElem_cons_zero, List.getElem_cons_succ, List.setIfInBounds_toArray, List.set_cons_zero, List.set_cons_succ]
      refine wpAnyH_take (i := 4) (v := ?vm5) rfl (by kernel_rfl) (by kernel_rfl) (by kernel_rfl) (fun _ _ _ h => h) (Or.inl ⟨by rfl, ?hm5⟩) (by assumption) ?_
      case hm5 => (intro w hSw; (try dsimp only at hSw); go_simp; try (with_reducible rfl))
      simp only [Act.put, List.getElem_toArray, List.getElem_cons_zero, List.getElem_cons_succ, List.setIfInBounds_toArray, List.set_cons_zero, List.set_cons_succ]
      refine wpAnyH_ready (rs := [5]) (by kernel_rfl) (by simp) ?_
      refine AllReadyH.cons rfl (fun K hK => ?_) AllReadyH.nil
      go_simp
      go_at_call 52
      refine (Hcp.out _ (by first | with_reducible exact hrf | with_reducible exact hrf.drew | with_reducible exact hrf.drew.drew | with_reducible exact hrf.drew.drew.drew)).mono ?_
      rintro x w1 ⟨t, rfl, hq1, ht1, hb1⟩
      try dsimp only
      refine hK.out _ _ ?_ (fun hHeld => ?_)
      · (try dsimp only); exact HS.out _ (by first | with_reducible exact hb1 | with_reducible exact hb1.drew | with_reducible exact hb1.drew.drew | with_reducible exact hb1.drew.drew.drew)
      clear hK K
      try simp only [Act.put, List.getElem_toArray, List.getElem_cons_zero, List.getElem_cons_succ, List.setIfInBounds_toArray, List.set_cons_zero, List.set_cons_succ]
      refine wpAnyH_take (i := 6) (v := ?vm6) rfl (by kernel_rfl) (by kernel_rfl) (by kernel_rfl) (fun _ _ _ h => h) (Or.inl ⟨by rfl, ?hm6⟩) (by assumption) ?_
      case hm6 => (intro w hSw; (try dsimp only at hSw); go_simp; try (with_reducible rfl))
      simp only [Act.put, List.getElem_toArray, List.getElem_cons_zero, List.getElem_cons_succ, List.setIfInBounds_toArray, List.set_cons_zero, List.set_cons_succ]
      refine wpAnyH_ready (rs := [7]) (by kernel_rfl) (by simp) ?_
      refine AllReadyH.cons rfl (fun K hK => ?_) AllReadyH.nil
      go_simp
      refine hK.out _ _ ?_ (fun hHeld => ?_)
      · (try dsimp only); exact HS.out _ (by first | exact hb1.alloc hb1.size _ | exact (hb1.alloc hb1.size _).drew | exact (hb1.drew.alloc hb1.size _))
      clear hK K
      try simp only [Act.put, List.getElem_toArray, List.getElem_cons_zero, List.getElem_cons_succ, List.setIfInBounds_toArray, List.set_cons_zero, List.set_cons_succ]
      refine wpAnyH_ready (rs := [8]) (by kernel_rfl) (by simp) ?_
      refine AllReadyH.cons rfl (fun K hK => ?_) AllReadyH.nil
      refine step_append_lies _ (by rfl) _ _ _ (by rfl) (w.heap.size + 2) 46 i0 _ 2 32 Try.underlying23 hi hz0 hz1 hz2 rfl (by decide) (.slice (some ⟨g, 0, none⟩) k c) k (encP G T k) (by rfl) (HO.out _ (by first | exact hb1.alloc hb1.size _ | exact (hb1.alloc hb1.size _).drew | exact (hb1.drew.alloc hb1.size _))) ⟨w1.heap.size, 0, none⟩ 1 1 (gpL gk t) (by rfl) (by rfl) (fun j u hj => gpL_cells w1 gk t _ j u hj) (gpL_one gk t) (by decide) hm1 hm2 (by simp; have := hb1.size; omega) (w1.heap.size + 1) (by simp) ?_
      intro gg cc w3 hown3 hgrow hat hlt3
      have hS3 := HF.out _ w3 (by first | exact hb1.alloc hb1.size _ | exact (hb1.alloc hb1.size _).drew | exact (hb1.drew.alloc hb1.size _)) hgrow
      refine hK.out _ _ ?_ (fun hHeld => ?_)
      · (try dsimp only); exact hS3
      clear hK K
      try simp only [Act.put, List.getElem_toArray, List.getElem_cons_zero, List.getElem_cons_succ, List.setIfInBounds_toArray, List.set_cons_zero, List.set_cons_succ]
      refine wpAnyH_take (i := 9) (v := ?vm7) rfl (by kernel_rfl) (by kernel_rfl) (by kernel_rfl) (fun _ _ _ h => h) (Or.inl ⟨by rfl, ?hm7⟩) (by assumption) ?_
      case hm7 => (intro w hSw; (try dsimp only at hSw); go_simp; try (with_reducible rfl))
      simp only [Act.put, List.getElem_toArray, List.getElem_cons_zero, List.getElem_cons_succ, List.setIfInBounds_toArray, List.set_cons_zero, List.set_cons_succ]
      refine wpAnyH_done (by kernel_rfl) ?_ _
      obtain ⟨z1, z2⟩ := HZ.out w1 _ w3 t gg cc hb1 hq1.out ht1 (by first | exact (Below.refl _ _).alloc (Nat.le_refl _) _ | exact ((Below.refl _ _).alloc (Nat.le_refl _) _).drew) hown3 hgrow (hat.imp (fun q => q) (fun q => by simp; omega))
      have Y1 : Hid (RowP w3 (w.heap.size + 2) (.slice (some ⟨gg, 0, none⟩) (k + 1) cc) (k + 1) G (extL T k t)) := z1
      clear z1 hown3 hgrow HZ HF HO HS Hcp
      (try go_wp2)
      go_roundw
      case rel => exact ⟨k + 1, by omega, by go_num, gg, cc, _, rfl, Y1, z2⟩
      case measure => simp [intOf]; omega
    · have hkn : k = n := by omega
      subst hkn
      obtain ⟨-, y1, y2⟩ := hca.out _ hBa
      have HP : Hid (CsPost G k w (.returned (.agg #[.slice (some ⟨g, 0, none⟩) k c])) (wr.setCell ⟨w.heap.size + 1, 0, none⟩ (.slice (some ⟨g, 0, none⟩) k c))) :=
        ⟨g, c, T, rfl, hV.out.setB (fun q hq => by have := own_inj hq; omega) (fun i hi => Or.inl (by have := hV.out.low i hi; omega)), hbel.setCell (by exact Nat.le_succ _) _⟩
      clear hV
      go_wp2
      exact bodyPost_ret (v := .agg #[.slice (some ⟨g, 0, none⟩) k c]) (by simp [results, Try.results31, go_sem, y1]) rfl HP.out
end Go.Proofs.Ytgocjlpbokhoeaa
