import Derived.Test.YtgocjlpbokhoeaaStoM
import Derived.Deep.RegionWith
namespace Go.Proofs.Ytgocjlpbokhoeaa
open Go.RowKit
set_option maxRecDepth 100000 in
set_option maxHeartbeats 1000000 in
theorem links_any {a : Option Addr} {n cap : Nat} {G : Nat → Grp} {N : Nat} (hn : n ≤ 1048576) (hN : N ≤ n) (hF : Front G N) : ∀ (i : Nat), i < N → ∀ (w : World), SlT w a n cap G →
    Calls Try.prog 24 #[.agg #[.slice a n cap], .int .i64 (i : Int)] w fun e w' => e = .returned (.int .i64 ((lnk G (i + 1) i : Nat) : Int)) ∧ Below w.heap.size w w' := by
  intro i
  induction i using Nat.strongRecOn with
  | _ i ih =>
    intro hi w h
    have hb0 : ∀ o, Below w.heap.size w (w.alloc o) := fun o => (Below.refl _ _).alloc (Nat.le_refl _) _
    have hs := h
    rcases h.cells with h0 | ⟨b, off, rfl, hb, hc⟩
    · omega
    obtain ⟨sa, sc, c1, _, _⟩ := hc i (by omega)
    have hle : n ≤ 2 ^ 63 - 1 := by omega
    have c1' : ∀ o, (w.alloc o).cell? ⟨b, off + i * 2, none⟩ = some (.int .i64 (G i).par) := fun o => ((hb0 o).cell (by exact hb)).trans c1
    have hpar := hF i hi
    have Hih : Hid (_) := ih
    clear hc ih
    by_cases hp : (G i).par < 0
    · have hv : Hid (lnk G (i + 1) i = 0) := by unfold Hid lnk; rw [if_pos hp]
      go_enter Try.func24, Try.ntmps24
      go_wp2
      go_ret
      exact ⟨ret_int (by rw [hv.out]; rfl), hb0 _⟩
    · obtain ⟨q, hq⟩ : ∃ q : Nat, (G i).par = (q : Int) := ⟨(G i).par.toNat, by omega⟩
      have hqi : q < i := by omega
      have hv : Hid (lnk G (i + 1) i = 1 + lnk G (q + 1) q) := by
        unfold Hid
        rw [lnk, if_neg hp, hq, show ((q : Int)).toNat = q from rfl, lnk_fuel hF i q (by omega) hqi]
      have hl := lnk_le G (q + 1) q
      have hwrap : Hid (IntKind.i64.wrap (1 + ((lnk G (q + 1) q : Nat) : Int)) = 1 + ((lnk G (q + 1) q : Nat) : Int)) := by unfold Hid; rw [IntKind.wrap_i64]; omega
      rw [hq] at c1'
      clear hp hpar c1
      go_enter Try.func24, Try.ntmps24
      go_wp2_with fail
      go_region_with (go_at_call 24; refine (Hih.out q hqi (by omega) _ (hs.below (by first | exact hb0 _ | exact (hb0 _).drew | exact (hb0 _).drew.drew | exact (hb0 _).drew.drew.drew))).mono ?_; rintro e w1 ⟨rfl, hb1'⟩; have hb1 : Below w.heap.size w w1 := Below.trans (by first | exact hb0 _ | exact (hb0 _).drew | exact (hb0 _).drew.drew | exact (hb0 _).drew.drew.drew) (hb1'.mono (by simp)))
      all_goals
        go_wp2
        go_ret
        exact ⟨ret_int (by rw [hv.out, hwrap.out]; omega), hb1⟩
theorem expF_ok {G : Nat → Grp} {N : Nat} (hF : Front G N) (h : ∀ j, j < N → AllOk (G j).sets) : ∀ f i, i < N → AllOk (expF G f i)
  | 0, _, _ => fun x hx => by cases hx
  | f + 1, i, hi => by
    unfold expF
    have := hF i hi
    split
    · exact h i hi
    · exact patL_ok (expF_ok hF h f _ (by omega)) (h i hi) _ (Nat.le_refl _)
set_option maxRecDepth 100000 in
set_option maxHeartbeats 1000000 in
theorem expand_any {a : Option Addr} {n cap : Nat} {G : Nat → Grp} {N : Nat} (hn : n ≤ 1048576) (hN : N ≤ n) (hF : Front G N) (hS : ∀ j, j < N → (G j).sets.length ≤ 600) (hE : ∀ j, j + 1 < N → (expF G (j + 1) j).length ≤ 300) : ∀ (i : Nat), i < N → ∀ (w : World), SlT w a n cap G →
    Calls Try.prog 18 #[.agg #[.slice a n cap], .int .i64 (i : Int)] w fun e w' => ∃ v, e = .returned v ∧ OwnE w' w.heap.size v (expF G (i + 1) i) ∧ Below w.heap.size w w' := by
  intro i
  induction i using Nat.strongRecOn with
  | _ i ih =>
    intro hi w h
    have hb0 : ∀ o, Below w.heap.size w (w.alloc o) := fun o => (Below.refl _ _).alloc (Nat.le_refl _) _
    have hb00 : ∀ o o2, Below w.heap.size w ((w.alloc o).alloc o2) := fun o o2 => ((Below.refl _ _).alloc (Nat.le_refl _) _).alloc (by simp) _
    have hs := h
    rcases h.cells with h0 | ⟨b, off, rfl, hb, hc⟩
    · omega
    have Hall : Hid (∀ j, j < N → AllOk (G j).sets) := fun j hj => by
      obtain ⟨_, _, _, _, hsl⟩ := hc j (by omega)
      exact hsl.ok
    obtain ⟨sa, sc, c1, c2, hsl⟩ := hc i (by omega)
    have hle : n ≤ 2 ^ 63 - 1 := by omega
    have c1' : ∀ o, (w.alloc o).cell? ⟨b, off + i * 2, none⟩ = some (.int .i64 (G i).par) := fun o => ((hb0 o).cell (by exact hb)).trans c1
    have c2' : ∀ o, (w.alloc o).cell? ⟨b, off + i * 2 + 1, none⟩ = some (.slice sa (G i).sets.length sc) := fun o => ((hb0 o).cell (by exact hb)).trans c2
    have hpar := hF i hi
    have hsl6 := hS i hi
    have Hih : Hid (_) := ih
    clear hc ih c1 c2
    by_cases hp : (G i).par < 0
    · have hv : Hid (expF G (i + 1) i = (G i).sets) := by unfold Hid expF; rw [if_pos hp]
      go_enter Try.func18, Try.ntmps18
      go_wp2_with fail
      refine (copy_sl _ (by omega) (hsl.below (hb00 _ _))).mono ?_
      rintro e w1 ⟨v, rfl, ho, hb1⟩
      obtain ⟨ga, gc, rfl, _⟩ := ho.sl (Hall.out i hi).at
      go_wp2
      go_ret
      exact ⟨_, rfl, by rw [hv.out]; exact ho.base_le (hb00 _ _).size, (hb00 _ _).trans (hb1.mono (hb00 _ _).size)⟩
    · obtain ⟨q, hq⟩ : ∃ q : Nat, (G i).par = (q : Int) := ⟨(G i).par.toNat, by omega⟩
      have hqi : q < i := by omega
      have hv : Hid (expF G (i + 1) i = patL (expF G (q + 1) q) (G i).sets (G i).sets.length) := by
        unfold Hid
        rw [expF, if_neg hp, hq, show ((q : Int)).toNat = q from rfl, expF_fuel hF i q (by omega) hqi]
      have hl3 := hE q (by omega)
      have Hokq : Hid (AllOk (expF G (q + 1) q)) := expF_ok hF Hall.out (q + 1) q (by omega)
      have Hoki : Hid (AllOk (patL (expF G (q + 1) q) (G i).sets (G i).sets.length)) := patL_ok Hokq.out (Hall.out i hi) _ (Nat.le_refl _)
      rw [hq] at c1'
      have hbx : Hid (∀ wx o1 o2, Below (w.heap.size + 1 + 1) ((w.alloc o1).alloc (.cells #[.int .i64 (q : Int), .slice sa (G i).sets.length sc] o2)) wx → wx.cell? ⟨w.heap.size + 1, 1, none⟩ = some (.slice sa (G i).sets.length sc)) := fun wx o1 o2 hx => (hx.cell (by exact Nat.lt_succ_self _)).trans (World.cell?_alloc_at _ _ _ _ (by simp))
      clear hp hpar
      go_enter Try.func18, Try.ntmps18
      obtain ⟨wb, hwb⟩ : ∃ wb, wb = (w.alloc (.cells #[.slice (some ⟨b, off, none⟩) n cap] 25)).alloc (.cells #[.int .i64 (q : Int), .slice sa (G i).sets.length sc] 46) := ⟨_, rfl⟩
      have hsb : wb.heap.size = w.heap.size + 1 + 1 := by rw [hwb]; simp
      have hwwb : Below w.heap.size w wb := by rw [hwb]; exact hb00 _ _
      have hx0 : wb.cell? ⟨w.heap.size, 0, none⟩ = some (.slice (some ⟨b, off, none⟩) n cap) := by rw [hwb, World.cell?_alloc_past _ _ _ (by simp)]; exact World.cell?_alloc_at _ _ _ _ rfl
      have hx1 : wb.cell? ⟨w.heap.size + 1, 0, none⟩ = some (.int .i64 (q : Int)) := by rw [hwb]; exact World.cell?_alloc_at _ _ _ _ (by simp)
      have hx2 : wb.cell? ⟨w.heap.size + 1, 1, none⟩ = some (.slice sa (G i).sets.length sc) := by rw [hwb]; exact World.cell?_alloc_at _ _ _ _ (by simp)
      go_wp2_with fail
      rw [← hwb]
      clear hwb hbx
      go_region_with (first
        | (go_at_call 18; refine (Hih.out q hqi (by omega) _ (hs.below (by first | exact hwwb | exact (hwwb).drew | exact (hwwb).drew.drew | exact (hwwb).drew.drew.drew))).mono ?_; rintro e w1 ⟨v1, rfl, ho1, hb1'⟩; have hb1 : Below wb.heap.size wb w1 := Below.trans (by first | exact Below.refl wb.heap.size wb | exact (Below.refl wb.heap.size wb).drew | exact (Below.refl wb.heap.size wb).drew.drew | exact (Below.refl wb.heap.size wb).drew.drew.drew) hb1'; obtain ⟨ga, gc, e1, hsl1⟩ := ho1.sl Hokq.out.at; subst e1; have hx21 := (hb1.cell (by show w.heap.size + 1 < _; omega)).trans hx2; have hw1 : Below w.heap.size w w1 := hwwb.trans (hb1.mono hwwb.size))
        | (go_at_call 41; refine (l4Patch_sl _ (by omega) (by omega) (hsl1.below (by first | exact Below.refl w1.heap.size w1 | exact (Below.refl w1.heap.size w1).drew | exact (Below.refl w1.heap.size w1).drew.drew | exact (Below.refl w1.heap.size w1).drew.drew.drew)) (hsl.below (by first | exact hw1 | exact (hw1).drew | exact (hw1).drew.drew | exact (hw1).drew.drew.drew))).mono ?_; rintro e w2 ⟨v2, rfl, ho2, hb2'⟩; have hb2 : Below w1.heap.size w1 w2 := Below.trans (by first | exact Below.refl w1.heap.size w1 | exact (Below.refl w1.heap.size w1).drew | exact (Below.refl w1.heap.size w1).drew.drew | exact (Below.refl w1.heap.size w1).drew.drew.drew) hb2'; obtain ⟨ga2, gc2, e2, _⟩ := ho2.sl Hoki.out.at; subst e2))
      all_goals
        have h12 := hb1.trans (hb2.mono hb1.size)
        have hbw := hwwb.trans (h12.mono hwwb.size)
        go_wp2
        go_ret
        exact ⟨_, rfl, by rw [hv.out]; exact OwnE.base_le ho2 (by have := hwwb.size; have := hb1.size; first | omega | (simp; omega)), hbw⟩
end Go.Proofs.Ytgocjlpbokhoeaa
