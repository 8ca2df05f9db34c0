import Derived.Test.YtpmebojkkjlkgaaGreatClIZ
import Derived.Deep.RegionLaw
namespace Go.Proofs.YtpmebojkkjlkgaaGreat
open Go.RowKit
structure CR (w wr : World) (a : Option Addr) (n cap : Nat) (v : Value) : Prop where
 x0 : wr.cell? ⟨w.heap.size, 0, none⟩ = some (.slice a n cap)
 x1 : ∃ u, wr.cell? ⟨w.heap.size + 1, 0, none⟩ = some u
 x3 : wr.cell? ⟨w.heap.size + 1 + 1 + 1, 0, none⟩ = some v
 f1 : wr.frozen? ⟨w.heap.size + 1, 0, none⟩ = false
 f3 : wr.frozen? ⟨w.heap.size + 1 + 1 + 1, 0, none⟩ = false
 sz : w.heap.size + 1 + 1 + 1 < wr.heap.size
 bel : Below w.heap.size w wr
set_option maxRecDepth 100000 in
set_option maxHeartbeats 4000000 in
theorem l2Cr_q {Q : World -> Ev -> Ls -> Prop} (hQ : QS Q) (b off n cap : Nat) (E : Nat -> Ev) (w : World) (hr : n * 168 <= 140737488351232) (hR : ∀ i, i < n -> EvReach (E i)) (h : SlV w (some ⟨b, off, none⟩) n cap E) (hb0 : 0 < n -> b < w.heap.size) (hc : ∀ i, i < n -> EvAt w b (off + i * 10) (E i)) :
  Calls Tryz.prog 43 #[.agg #[.slice (some ⟨b, off, none⟩) n cap]] w fun x w' => ∃ v T, x = .returned (.agg #[v]) ∧ Hid (RowV Q w' (w.heap.size + 2) v n E T) ∧ Below w.heap.size w w' := by
 obtain ⟨i0, hi, hz0, hz1, hz2⟩ := info_parts Tryz.infoEvent
 have hmx := Nat.le_trans h.le h.max
 have hnn := hmx
 unfold maxLen at hnn
 obtain ⟨wa, hwa⟩ : ∃ wa, wa = (((w.alloc (.cells #[.slice (some ⟨b, off, none⟩) n cap] 25)).alloc (.cells #[.slice none 0 0] 25)).alloc (.cells #[] 43)).alloc (.cells #[.slice (some ⟨w.heap.size + 1 + 1, 0, none⟩) 0 0] 25) := ⟨_, rfl⟩
 have hC0 : CR w wa (some ⟨b, off, none⟩) n cap (.slice (some ⟨w.heap.size + 1 + 1, 0, none⟩) 0 0) := by
  rw [hwa]
  refine ⟨?_, ⟨.slice none 0 0, ?_⟩, World.cell?_alloc_at _ _ _ _ (by simp), ?_, World.frozen?_alloc_at _ _ _ _ (by simp), by simp, ((((Below.refl _ _).alloc (Nat.le_refl _) _).alloc (by simp) _).alloc (by simp; omega) _).alloc (by simp; omega) _⟩
  ·rw [World.cell?_alloc_past _ _ _ (by simp; omega), World.cell?_alloc_past _ _ _ (by simp; omega), World.cell?_alloc_past _ _ _ (by simp)]
   exact World.cell?_alloc_at _ _ _ _ rfl
  ·rw [World.cell?_alloc_past _ _ _ (by simp), World.cell?_alloc_past _ _ _ (by simp)]
   exact World.cell?_alloc_at _ _ _ _ (by simp)
  ·rw [World.frozen?_alloc_past _ _ _ (by simp), World.frozen?_alloc_past _ _ _ (by simp)]
   exact World.frozen?_alloc_at _ _ _ _ (by simp)
 have hV0 : RowV Q wa (w.heap.size + 2) (.slice (some ⟨w.heap.size + 1 + 1, 0, none⟩) 0 0) 0 E (fun _ => ⟨none, 0, none, 0, none, 0, 0, 0, 0, 0⟩) := by
  have := RowV.new (Q := Q) ((w.alloc (.cells #[.slice (some ⟨b, off, none⟩) n cap] 25)).alloc (.cells #[.slice none 0 0] 25)) (w.heap.size + 2) (by simp) E (fun _ => ⟨none, 0, none, 0, none, 0, 0, 0, 0, 0⟩)
  simp only [World.size_alloc] at this
  rw [hwa]
  exact this.below hQ.c ((Below.refl _ _).alloc (Nat.le_refl _) _)
 have HC : Hid (_) := hc
 have HR : Hid (_) := hR
 clear hc hR h
 go_enter Tryz.func43, Tryz.ntmps43
 go_wp2_with fail
 rw [<- hwa]
 clear hwa
 go_loopw [4] (fun iv wr => ∃ k : Nat, k <= n ∧ iv = .int .i64 (k : Int) ∧ ∃ g c T, Hid (CR w wr (some ⟨b, off, none⟩) n cap (.slice (some ⟨g, 0, none⟩) k c)) ∧ Hid (RowV Q wr (w.heap.size + 2) (.slice (some ⟨g, 0, none⟩) k c) k E T) ∧ g ≠ w.heap.size + 1 + 1 + 1 ∧ w.heap.size + 2 <= g ∧ Hid (∀ i, i < k -> w.heap.size + 1 + 1 + 1 < (T i).lo)) (fun iv _ => n - (intOf iv).toNat)
 case atStart => exact ⟨0, Nat.zero_le _, rfl, w.heap.size + 1 + 1, 0, _, hC0, hV0, by omega, by omega, fun i hi => absurd hi (Nat.not_lt_zero _)⟩
 case round =>
  clear hC0 hV0
  obtain ⟨k, hk, rfl, g, c, T, hCR, hV, hg1, hg2, hT⟩ := hrel
  obtain ⟨x0, ⟨u1, x1⟩, x3, f1, f3, hz3, hbel⟩ := hCR.out
  by_cases hlt : k < n
  ·have hb : b < w.heap.size := hb0 (by omega)
   obtain ⟨pa, cp, aa, ca, ga, cg, hcs, hok⟩ := HC.out k hlt
   obtain ⟨c0, c1, c2, c3, c4, c5, c6, c7, c8, c9⟩ := hcs.below hbel hb
   have hbr : b < wr.heap.size := Nat.lt_of_lt_of_le hb hbel.size
   have hzr : w.heap.size < wr.heap.size := by omega
   have hne : b ≠ w.heap.size + 1 + 1 + 1 := by omega
   have hbg : b ≠ g := by omega
   have Hcp : Hid (∀ W, Below wr.heap.size wr W -> Calls Tryz.prog 44 #[.agg #[.string (E k).id, .string (E k).sd, .string (E k).ty, .bool (E k).st, .string (E k).key, .int .i64 (E k).tm, .slice pa (E k).np cp, .slice aa (E k).na ca, .string (E k).val, .slice ga (E k).ng cg]] W fun x w' => ∃ t : Ls, x = .returned (.agg #[.string (E k).id, .string (E k).sd, .string (E k).ty, .bool (E k).st, .string (E k).key, .int .i64 (E k).tm, .slice t.pa (E k).np t.cp, .slice t.aa (E k).na t.ca, .string (E k).val, .slice t.ga (E k).ng t.cg]) ∧ Hid (Q w' (E k) t) ∧ wr.heap.size <= t.lo ∧ Below wr.heap.size wr w') := fun W hW => by
    refine (hQ.cp (E k) W (HR.out k hlt) (hok.below (hbel.trans (hW.mono hbel.size)))).mono ?_
    rintro x w' ⟨t, h1, h2, h3, h4⟩
    exact ⟨t, h1, h2, Nat.le_trans hW.size h3, hW.trans (h4.mono hW.size)⟩
   have HZ : Hid (∀ (w1 X w3 : World) (t : Ls) (gg cc : Nat), Below wr.heap.size wr w1 -> Q w1 (E k) t -> wr.heap.size <= t.lo -> Below w1.heap.size w1 X -> w3.ownsRow (w.heap.size + 2) 43 10 (.slice (some ⟨gg, 0, none⟩) (k + 1) cc) (k + 1) (encV E T k ++ evL (E k) t) -> X.grownBy w3 (some g) -> (some g = some gg ∨ X.heap.size <= gg) -> CR w (w3.setCell ⟨w.heap.size + 1 + 1 + 1, 0, none⟩ (.slice (some ⟨gg, 0, none⟩) (k + 1) cc)) (some ⟨b, off, none⟩) n cap (.slice (some ⟨gg, 0, none⟩) (k + 1) cc) ∧ RowV Q (w3.setCell ⟨w.heap.size + 1 + 1 + 1, 0, none⟩ (.slice (some ⟨gg, 0, none⟩) (k + 1) cc)) (w.heap.size + 2) (.slice (some ⟨gg, 0, none⟩) (k + 1) cc) (k + 1) E (extT T k t) ∧ gg ≠ w.heap.size + 1 + 1 + 1 ∧ w.heap.size + 2 <= gg ∧ (∀ i, i < k + 1 -> w.heap.size + 1 + 1 + 1 < (extT T k t i).lo)) := fun w1 X w3 t gg cc h1 hq hlo hX hown hgr hgg => by
    have hwX := h1.trans (hX.mono h1.size)
    have hqX := hQ.c.below hq hX
    have hVX := hV.out.below hQ.c hwX
    have hgsz : g < wr.heap.size := by
     rcases hV.out.cells with ⟨q, _⟩ | ⟨g', cap', q, _, q2, _⟩
     ·injection q with q; cases q
     ·injection q with q
      injection q with q
      injection q with q
      omega
    have hVs := hVX.snoc hQ.c hqX (by omega) (fun i hi => Nat.le_trans (hQ.c.hi (hV.out.q i hi)).2 hlo) (fun q hq => Or.inl (by
     have : some g = some q := hq
     injection this with this
     omega)) hown hgr (by
     rcases hgg with q | q
     ·exact Or.inl q
     ·exact Or.inr q)
    have hsX : wr.heap.size <= X.heap.size := hwX.size
    have hs3 : X.heap.size <= w3.heap.size := hgr.size
    have hg3 : gg ≠ w.heap.size + 1 + 1 + 1 := by
     rcases hgg with q | q
     ·injection q with q; omega
     ·omega
    have hg4 : w.heap.size + 2 <= gg := by
     rcases hgg with q | q
     ·injection q with q; omega
     ·omega
    have far : ∀ q, q < wr.heap.size -> q ≠ g -> ∀ o, w3.cell? ⟨q, o, none⟩ = wr.cell? ⟨q, o, none⟩ := fun q h2 h3 o => (hgr.cell_far _ (by show q < X.heap.size; omega) (fun e => by
     have e2 : some q = some g := e
     injection e2 with e2
     omega)).trans (hwX.cell (by exact h2))
    have farz : ∀ q, q < wr.heap.size -> q ≠ g -> ∀ o, w3.frozen? ⟨q, o, none⟩ = wr.frozen? ⟨q, o, none⟩ := fun q h2 h3 o => (hgr.frozen_far _ (by show q < X.heap.size; omega) (fun e => by
     have e2 : some q = some g := e
     injection e2 with e2
     omega)).trans (hwX.frozen (by exact h2))
    have hT2 : ∀ i, i < k + 1 -> w.heap.size + 1 + 1 + 1 < (extT T k t i).lo := fun i hi => by
     unfold extT
     by_cases e : i = k
     ·rw [if_pos e]; omega
     ·rw [if_neg e]; exact hT.out i (by omega)
    refine ⟨⟨?_, ⟨u1, ?_⟩, ?_, ?_, ?_, by simp [World.setCell]; omega, ?_⟩, ⟨own_kept hVs.own (fun q hq => Below.heap_setCell _ _ _ _ (by
     have : some gg = some q := hq
     injection this with this
     show q ≠ w.heap.size + 1 + 1 + 1
     omega)), fun i hi => ?_, hVs.low, hVs.ord, hVs.apart⟩, hg3, hg4, hT2⟩
    ·rw [far_block (by omega), far _ (by omega) (by omega)]; exact x0
    ·rw [far_block (by omega), far _ (by omega) (by omega)]; exact x1
    ·exact set_same ⟨_, (far _ (by omega) (by omega) 0).trans x3⟩
    ·rw [World.frozen?_setCell, farz _ (by omega) (by omega)]; exact f1
    ·rw [World.frozen?_setCell, farz _ (by omega) (by omega)]; exact f3
    ·refine Below.setCell ?_ (by show w.heap.size <= w.heap.size + 1 + 1 + 1; omega) _
     exact (hbel.trans (hwX.mono hbel.size)).grown hgr (by omega) (fun q hq => by
      have : some g = some q := hq
      injection this with this
      omega)
    ·have q := hVs.q i hi
     have l := hT2 i hi
     exact hQ.s q (Or.inl l)
   have HO : Hid (∀ X, Below wr.heap.size wr X -> X.ownsRow (w.heap.size + 2) 43 10 (.slice (some ⟨g, 0, none⟩) k c) k (encV E T k)) := fun X hX => ownsRow_blw hV.out.own hX
   have HF : Hid (∀ (X w3 : World), Below wr.heap.size wr X -> X.grownBy w3 (some g) -> (∀ o, w3.cell? ⟨w.heap.size, o, none⟩ = wr.cell? ⟨w.heap.size, o, none⟩) ∧ (∀ o, w3.cell? ⟨b, o, none⟩ = wr.cell? ⟨b, o, none⟩) ∧ w3.cell? ⟨w.heap.size + 1 + 1 + 1, 0, none⟩ = some (.slice (some ⟨g, 0, none⟩) k c) ∧ w3.frozen? ⟨w.heap.size + 1 + 1 + 1, 0, none⟩ = false) := fun X w3 hX hgr => by
    have hsX := hX.size
    have far : ∀ q, q < wr.heap.size -> q ≠ g -> ∀ o, w3.cell? ⟨q, o, none⟩ = wr.cell? ⟨q, o, none⟩ := fun q h2 h3 o => (hgr.cell_far _ (by show q < X.heap.size; omega) (fun e => by
     have e2 : some q = some g := e
     injection e2 with e2
     omega)).trans (hX.cell (by exact h2))
    refine ⟨fun o => far _ (by omega) (by omega) o, fun o => far _ hbr (by omega) o, (far _ hz3 (by omega) 0).trans x3, ?_⟩
    exact (hgr.frozen_far _ (by show w.heap.size + 1 + 1 + 1 < X.heap.size; omega) (fun e => by
     have e2 : some (w.heap.size + 1 + 1 + 1) = some g := e
     injection e2 with e2
     omega)).trans ((hX.frozen (by exact hz3)).trans f3)
   clear hcs hok hCR hT
   have hm1 : k + 1 <= maxLen := by unfold maxLen; omega
   have hm2 : (k + 1) * 168 <= 140737488355328 := by omega
   have hrf : Below wr.heap.size wr wr := Below.refl _ _
   have hkn : (k : Int) < (n : Int) := by omega
   have hk0 : (0 : Int) <= (k : Int) := by omega
   clear hV
   generalize E k = e at *
   go_wp2_with fail
   go_region_law ((first
     | (refine step_append_lies _ (by rfl) _ _ _ (by rfl) (w.heap.size + 2) 43 i0 _ 10 168 Tryz.underlying23 hi hz0 hz1 hz2 rfl (by decide) (.slice (some ⟨g, 0, none⟩) k c) k (encV E T k) (by rfl) (HO.out _ (by first | exact hb1.alloc hb1.size _ | exact (hb1.alloc hb1.size _).drew | exact (hb1.drew.alloc hb1.size _) | exact ((hb1.alloc hb1.size _).drew).drew)) ⟨w1.heap.size, 0, none⟩ 1 1 (evL e t) (by rfl) (by rfl) (fun j u hj => evL_cells w1 e t _ j u hj) (evL_one e t) (by decide) hm1 hm2 (by simp; have := hb1.size; omega) (w1.heap.size + 1) (by simp) ?_; intro gg cc w3 hown3 hgrow hat hlt3; obtain ⟨-, -, F3, Z3⟩ := HF.out _ w3 (by first | exact hb1.alloc hb1.size _ | exact (hb1.alloc hb1.size _).drew | exact (hb1.drew.alloc hb1.size _) | exact ((hb1.alloc hb1.size _).drew).drew) hgrow)
     | (go_simp; go_at_call 44; refine (Hcp.out _ (by first | with_reducible exact hrf | with_reducible exact hrf.drew | with_reducible exact hrf.drew.drew | with_reducible exact hrf.drew.drew.drew | with_reducible exact hrf.drew.drew.drew.drew)).mono ?_; rintro x w1 ⟨t, rfl, hq1, ht1, hb1⟩; have q1v := (hb1.cell (by exact hz3)).trans x3; have qva : ∀ Z, (w1.alloc Z).cell? ⟨w.heap.size + 1 + 1 + 1, 0, none⟩ = some (.slice (some ⟨g, 0, none⟩) k c) := fun Z => (((Below.refl _ _).alloc (Nat.le_refl _) _).cell (by show w.heap.size + 1 + 1 + 1 < w1.heap.size; have := hb1.size; omega)).trans q1v; dsimp only)))
   all_goals
    obtain ⟨z1, z2, z4, z5, z6⟩ := HZ.out w1 _ w3 t gg cc hb1 hq1.out ht1 (by first | exact (Below.refl _ _).alloc (Nat.le_refl _) _ | exact ((Below.refl _ _).alloc (Nat.le_refl _) _).drew) hown3 hgrow (hat.imp (fun q => q) (fun q => by simp; omega))
    have Y1 : Hid (_) := z1
    have Y2 : Hid (_) := z2
    have Y6 : Hid (_) := z6
    clear z1 z2 z6 hown3 hgrow
    go_wp2
    go_roundw
    case rel => exact ⟨k + 1, by omega, by go_num, gg, cc, _, Y1, Y2, z4, z5, Y6⟩
    case measure => simp [intOf]; omega
  ·have hkn : k = n := by omega
   subst hkn
   have hbz : Below w.heap.size w (wr.setCell ⟨w.heap.size + 1, 0, none⟩ (.slice (some ⟨g, 0, none⟩) k c)) := hbel.setCell (by exact Nat.le_add_right _ _) _
   have hVz : Hid (RowV Q (wr.setCell ⟨w.heap.size + 1, 0, none⟩ (.slice (some ⟨g, 0, none⟩) k c)) (w.heap.size + 2) (.slice (some ⟨g, 0, none⟩) k c) k E T) := by
    refine ⟨own_kept hV.out.own (fun q hq => Below.heap_setCell _ _ _ _ (by
     have : some g = some q := hq
     injection this with this
     show q ≠ w.heap.size + 1
     omega)), fun i hi => ?_, hV.out.low, hV.out.ord, hV.out.apart⟩
    have q := hV.out.q i hi
    have l := hV.out.low i hi
    exact hQ.s q (Or.inl (by omega))
   clear hV HC HR
   go_wp2
   refine bodyPost_ret (v := .agg #[.slice (some ⟨g, 0, none⟩) k c]) (by simp [results, Tryz.results43, go_sem, x1]) rfl ⟨_, T, rfl, hVz, hbz⟩
end Go.Proofs.YtpmebojkkjlkgaaGreat
