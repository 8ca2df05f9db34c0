import Derived.Test.YtlopjfhdhkonbaaLawA
import Derived.Test.YtlopjfhdhkonbaaMkA
namespace Go.Proofs.Ytlopjfhdhkonbaa
open Go.RowKit

set_option maxHeartbeats 400000 in
theorem toSw_any (b off n cap : Nat) (S : Nat → ByteArray) (w : World) (hr : n * 16 ≤ 140737488351232) (hb : b < w.heap.size)
    (hc : ∀ i, i < n → w.cell? ⟨b, off + i, none⟩ = some (.string (S i))) :
    Calls Try.prog 52 #[.slice (some ⟨b, off, none⟩) n cap] w fun e w' =>
      e = .returned (.slice (some ⟨w.heap.size, 0, none⟩) n n) ∧ (∀ i, i < n → w'.cell? ⟨w.heap.size, i, none⟩ = some (.string (S i))) ∧ (∀ i, i < n → w'.frozen? ⟨w.heap.size, i, none⟩ = false) ∧ w.heap.size < w'.heap.size ∧ Below w.heap.size w w' := by
  have hmk := make_str n hr w
  go_enter Try.func52, Try.ntmps52
  go_wp2
  clear hmk
  go_loopw [4] (fun i wr => ∃ k : Nat, k ≤ n ∧ i = .int .i64 k ∧ Hid (∀ i, i < k → wr.cell? ⟨w.heap.size, i, none⟩ = some (.string (S i))) ∧ Hid (∀ i, i < n → (∃ v, wr.cell? ⟨w.heap.size, i, none⟩ = some v) ∧ wr.frozen? ⟨w.heap.size, i, none⟩ = false) ∧ w.heap.size < wr.heap.size ∧ Below w.heap.size w wr) (fun i _ => n - (intOf i).toNat)
  case atStart => exact ⟨0, Nat.zero_le _, rfl, fun i hi => absurd hi (Nat.not_lt_zero _), fun i hi => ⟨cell_made _ _ _ _ (by rw [mkS_size]; exact hi), World.frozen?_alloc_at _ _ _ _ rfl⟩, by simp, (Below.refl _ _).alloc (Nat.le_refl _) _⟩
  case round =>
    obtain ⟨k, hk, rfl, hdone, hfree, hsz, hbel⟩ := hrel
    by_cases hlt : k < n
    · have hck : wr.cell? ⟨b, off + k, none⟩ = some (.string (S k)) := (hbel.cell (by exact hb)).trans (hc k hlt)
      obtain ⟨⟨v0, hv0⟩, hf0⟩ := hfree.out k hlt
      go_wp2
      go_roundw
      case rel => exact ⟨k + 1, by omega, by go_num, set_done (f := fun i => .string (S i)) hdone.out ⟨v0, hv0⟩, set_free hfree.out, by simpa [World.setCell] using hsz, hbel.setCell (Nat.le_refl _) _⟩
      case measure => simp [intOf]; omega
    · go_wp2
      go_ret
      exact ⟨rfl, fun i hi => hdone.out i (by omega), fun i hi => (hfree.out i hi).2, hsz, hbel⟩

theorem toSw_sl {a : Option Addr} {n cap : Nat} {S : Nat → ByteArray} (w : World) (hr : n * 16 ≤ 140737488351232) (h : SlS w a n cap S) :
    Calls Try.prog 52 #[.slice a n cap] w fun e w' =>
      e = .returned (.slice (some ⟨w.heap.size, 0, none⟩) n n) ∧ SlS w' (some ⟨w.heap.size, 0, none⟩) n n S ∧ Wr0 w' w.heap.size (some ⟨w.heap.size, 0, none⟩) n ∧ Below w.heap.size w w' := by
  rcases h.cells with rfl | ⟨b, off, rfl, hb, hc⟩
  · refine (toS_zero a cap w).mono ?_
    rintro e w' ⟨rfl, hsz, hbel⟩
    exact ⟨rfl, ⟨Nat.le_refl _, by decide, h.size, Or.inl rfl⟩, Or.inl rfl, hbel⟩
  · refine (toSw_any b off n cap S w hr hb hc).mono ?_
    rintro e w' ⟨rfl, hcl, hfz, hsz, hbel⟩
    exact ⟨rfl, ⟨Nat.le_refl _, by unfold maxLen; omega, h.size, Or.inr ⟨_, 0, rfl, hsz, fun i hi => by rw [Nat.zero_add]; exact hcl i hi⟩⟩, Or.inr ⟨_, 0, rfl, Nat.le_refl _, hsz, fun i hi => by rw [Nat.zero_add]; exact ⟨⟨_, hcl i hi⟩, hfz i hi⟩⟩, hbel⟩
set_option maxHeartbeats 400000 in
theorem toGw_any (b off n cap : Nat) (M : Nat → ByteArray) (L : Nat → Int) (w : World) (hr : n * 24 ≤ 140737488351232) (hb : b < w.heap.size)
    (hc : ∀ i, i < n → w.cell? ⟨b, off + i * 2, none⟩ = some (.string (M i)))
    (hl : ∀ i, i < n → w.cell? ⟨b, off + i * 2 + 1, none⟩ = some (.int .i64 (L i))) :
    Calls Try.prog 53 #[.slice (some ⟨b, off, none⟩) n cap] w fun e w' =>
      e = .returned (.slice (some ⟨w.heap.size, 0, none⟩) n n) ∧ (∀ i, i < n → w'.cell? ⟨w.heap.size, i * 2, none⟩ = some (.string (M i)) ∧ w'.cell? ⟨w.heap.size, i * 2 + 1, none⟩ = some (.int .i64 (L i))) ∧ (∀ i, i < n * 2 → (∃ v, w'.cell? ⟨w.heap.size, i, none⟩ = some v) ∧ w'.frozen? ⟨w.heap.size, i, none⟩ = false) ∧ w.heap.size < w'.heap.size ∧ Below w.heap.size w w' := by
  have hmk := make_gr n hr w
  go_enter Try.func53, Try.ntmps53
  go_wp2
  clear hmk
  go_loopw [4] (fun i wr => ∃ k : Nat, k ≤ n ∧ i = .int .i64 k ∧ Hid (∀ i, i < k → wr.cell? ⟨w.heap.size, i * 2, none⟩ = some (.string (M i)) ∧ wr.cell? ⟨w.heap.size, i * 2 + 1, none⟩ = some (.int .i64 (L i))) ∧ Hid (∀ i, i < n * 2 → (∃ v, wr.cell? ⟨w.heap.size, i, none⟩ = some v) ∧ wr.frozen? ⟨w.heap.size, i, none⟩ = false) ∧ w.heap.size < wr.heap.size ∧ Below w.heap.size w wr) (fun i _ => n - (intOf i).toNat)
  case atStart => exact ⟨0, Nat.zero_le _, rfl, fun i hi => absurd hi (Nat.not_lt_zero _), fun i hi => ⟨cell_made _ _ _ _ (by rw [mkG_size]; exact hi), World.frozen?_alloc_at _ _ _ _ rfl⟩, by simp, (Below.refl _ _).alloc (Nat.le_refl _) _⟩
  case round =>
    obtain ⟨k, hk, rfl, hdone, hfree, hsz, hbel⟩ := hrel
    by_cases hlt : k < n
    · have hck : wr.cell? ⟨b, off + k * 2, none⟩ = some (.string (M k)) := (hbel.cell (by exact hb)).trans (hc k hlt)
      have hlk : wr.cell? ⟨b, off + k * 2 + 1, none⟩ = some (.int .i64 (L k)) := (hbel.cell (by exact hb)).trans (hl k hlt)
      go_wp2_with fail
      refine (toG1_any (M k) (L k) wr).mono ?_
      rintro e w1 ⟨rfl, hb1⟩
      have hfree1 : ∀ i, i < n * 2 → (∃ v, w1.cell? ⟨w.heap.size, i, none⟩ = some v) ∧ w1.frozen? ⟨w.heap.size, i, none⟩ = false := fun i hi => by
        obtain ⟨⟨v, hv⟩, hf⟩ := hfree.out i hi
        exact ⟨⟨v, (hb1.cell (by exact hsz)).trans hv⟩, (hb1.frozen (by exact hsz)).trans hf⟩
      have hdone1 : Hid (∀ i, i < k → w1.cell? ⟨w.heap.size, i * 2, none⟩ = some (.string (M i)) ∧ w1.cell? ⟨w.heap.size, i * 2 + 1, none⟩ = some (.int .i64 (L i))) := fun i hi =>
        ⟨(hb1.cell (by exact hsz)).trans (hdone.out i hi).1, (hb1.cell (by exact hsz)).trans (hdone.out i hi).2⟩
      obtain ⟨⟨v0, hv0⟩, hf0⟩ := hfree1 (k * 2) (by omega)
      obtain ⟨⟨v1, hv1⟩, hf1⟩ := hfree1 (k * 2 + 1) (by omega)
      have HF : Hid (_) := hfree1
      have hsz1 : w.heap.size < w1.heap.size := Nat.lt_of_lt_of_le hsz hb1.size
      clear hfree1
      go_wp2
      go_roundw
      case rel => exact ⟨k + 1, by omega, by go_num, set2_done (f := fun i => .string (M i)) (g := fun i => .int .i64 (L i)) hdone1.out HF.out hlt, set_free (set_free HF.out), by simpa [World.setCell] using hsz1, ((hbel.trans (hb1.mono hbel.size)).setCell (Nat.le_refl _) _).setCell (Nat.le_refl _) _⟩
      case measure => simp [intOf]; omega
    · go_wp2
      go_ret
      exact ⟨rfl, fun i hi => hdone.out i (by omega), hfree.out, hsz, hbel⟩

theorem toGw_sl {a : Option Addr} {n cap : Nat} {M : Nat → ByteArray} {L : Nat → Int} (w : World) (hr : n * 24 ≤ 140737488351232) (h : SlG w a n cap M L) :
    Calls Try.prog 53 #[.slice a n cap] w fun e w' =>
      e = .returned (.slice (some ⟨w.heap.size, 0, none⟩) n n) ∧ SlG w' (some ⟨w.heap.size, 0, none⟩) n n M L ∧ Wr0 w' w.heap.size (some ⟨w.heap.size, 0, none⟩) (n * 2) ∧ Below w.heap.size w w' := by
  rcases h.cells with rfl | ⟨b, off, rfl, hb, hc, hl⟩
  · refine (toG_zero a cap w).mono ?_
    rintro e w' ⟨rfl, hsz, hbel⟩
    exact ⟨rfl, ⟨Nat.le_refl _, by decide, h.size, Or.inl rfl⟩, Or.inl rfl, hbel⟩
  · refine (toGw_any b off n cap M L w hr hb hc hl).mono ?_
    rintro e w' ⟨rfl, hcl, hfz, hsz, hbel⟩
    exact ⟨rfl, ⟨Nat.le_refl _, by unfold maxLen; omega, h.size, Or.inr ⟨_, 0, rfl, hsz, fun i hi => by rw [Nat.zero_add]; exact (hcl i hi).1, fun i hi => by rw [Nat.zero_add]; exact (hcl i hi).2⟩⟩, Or.inr ⟨_, 0, rfl, Nat.le_refl _, hsz, fun i hi => by rw [Nat.zero_add]; exact hfz i hi⟩, hbel⟩
section
variable (id sd ty key val : ByteArray) (st : Bool) (tm : Int) (pa : Option Addr) (np cp : Nat) (aa : Option Addr) (na ca : Nat) (ga : Option Addr) (ng cg : Nat) (Pv Av M : Nat → ByteArray) (L : Nat → Int) (w : World)

set_option maxHeartbeats 2000000 in
theorem toEvw_fresh (hrp : np * 16 ≤ 140737488351232) (hra : na * 16 ≤ 140737488351232) (hrg : ng * 24 ≤ 140737488351232)
    (hp : SlS w pa np cp Pv) (ha : SlS w aa na ca Av) (hg : SlG w ga ng cg M L) :
    Calls Try.prog 36 #[evV id sd ty key val st tm pa np cp aa na ca ga ng cg] w fun e w' =>
      ∃ bp ba bg : Nat, e = .returned (evV id sd ty key val st tm (some ⟨bp, 0, none⟩) np np (some ⟨ba, 0, none⟩) na na (some ⟨bg, 0, none⟩) ng ng) ∧
        SlS w' (some ⟨bp, 0, none⟩) np np Pv ∧ SlS w' (some ⟨ba, 0, none⟩) na na Av ∧ SlG w' (some ⟨bg, 0, none⟩) ng ng M L ∧ Below w.heap.size w w' ∧ w.heap.size ≤ bp ∧ w.heap.size ≤ ba ∧ w.heap.size ≤ bg ∧ Wr0 w' w.heap.size (some ⟨bp, 0, none⟩) np ∧ Wr0 w' w.heap.size (some ⟨ba, 0, none⟩) na ∧ Wr0 w' w.heap.size (some ⟨bg, 0, none⟩) (ng * 2) := by
  go_enter Try.func36, Try.ntmps36
  go_wp2_with fail
  refine (toSw_sl _ hrp (hp.below (TE.start rfl).below)).mono ?_
  rintro e w1 ⟨rfl, hp1, vp1, hb1⟩
  have h1 := (TE.start rfl).mono hb1
  have a0 := h1.a0
  have a2 := h1.a2
  have f2 := h1.f2
  go_wp2_with fail
  have h1s := h1.set 6 (by simp) (.slice (some ⟨w.heap.size + 1 + 1 + 1, 0, none⟩) np np)
  refine (toSw_sl _ hra (ha.below h1s.below)).mono ?_
  rintro e w2 ⟨rfl, ha2, va2, hb2⟩
  have h2 := h1s.mono hb2
  clear a0 a2 f2
  have a0 := h2.a0
  have a2 := h2.a2
  have f2 := h2.f2
  go_wp2_with fail
  have h2s := (h2.set 7 (by simp) (.slice (some ⟨w1.heap.size, 0, none⟩) na na)).set 8 (by simp) (.string val)
  refine (toGw_sl _ hrg (hg.below h2s.below)).mono ?_
  rintro e w3 ⟨rfl, hg3, vg3, hb3⟩
  have h3 := h2s.mono hb3
  clear a0 a2 f2
  have a2 := h3.a2
  have f2 := h3.f2
  have f1 := h3.f1
  have b1 := h3.a1
  obtain ⟨x0, y0⟩ := b1 0 (by decide)
  obtain ⟨x1, y1⟩ := b1 1 (by decide)
  obtain ⟨x2, y2⟩ := b1 2 (by decide)
  obtain ⟨x3, y3⟩ := b1 3 (by decide)
  obtain ⟨x4, y4⟩ := b1 4 (by decide)
  obtain ⟨x5, y5⟩ := b1 5 (by decide)
  obtain ⟨x6, y6⟩ := b1 6 (by decide)
  obtain ⟨x7, y7⟩ := b1 7 (by decide)
  obtain ⟨x8, y8⟩ := b1 8 (by decide)
  obtain ⟨x9, y9⟩ := b1 9 (by decide)
  clear b1
  have hz1 := h1.size
  have hz2 := h2.size
  have hp1' : SlS w1 (some ⟨w.heap.size + 1 + 1 + 1, 0, none⟩) np np Pv := by simpa using hp1
  have ha2' : SlS w2 (some ⟨w1.heap.size, 0, none⟩) na na Av := by simpa [World.setCell] using ha2
  have hg3' : SlG w3 (some ⟨w2.heap.size, 0, none⟩) ng ng M L := by simpa [World.setCell] using hg3
  have hp3 := (((hp1'.set (by omega) _).below hb2).set (C := w.heap.size + 1 + 1) (j := 7) (by omega) (.slice (some ⟨w1.heap.size, 0, none⟩) na na)).set (C := w.heap.size + 1 + 1) (j := 8) (by omega) (.string val) |>.below hb3
  have ha3 := ((ha2'.set (C := w.heap.size + 1 + 1) (j := 7) (by omega) (.slice (some ⟨w1.heap.size, 0, none⟩) na na)).set (C := w.heap.size + 1 + 1) (j := 8) (by omega) (.string val)).below hb3
  have vp3 : Wr0 w3 w.heap.size (some ⟨w.heap.size + 1 + 1 + 1, 0, none⟩) np := by
    have := (((vp1.low (lo' := w.heap.size) (by simp; omega)).set (C := w.heap.size + 1 + 1) (j := 6) (.slice (some ⟨w.heap.size + 1 + 1 + 1, 0, none⟩) np np)).below hb2)
    have := ((this.set (C := w.heap.size + 1 + 1) (j := 7) (.slice (some ⟨w1.heap.size, 0, none⟩) na na)).set (C := w.heap.size + 1 + 1) (j := 8) (.string val)).below hb3
    simpa using this
  have va3 : Wr0 w3 w.heap.size (some ⟨w1.heap.size, 0, none⟩) na := by
    have h := (va2.low (lo' := w.heap.size) (by simp [World.setCell]; omega))
    have := ((h.set (C := w.heap.size + 1 + 1) (j := 7) (.slice (some ⟨w1.heap.size, 0, none⟩) na na)).set (C := w.heap.size + 1 + 1) (j := 8) (.string val)).below hb3
    simpa [World.setCell] using this
  have vg4 : Wr0 w3 w.heap.size (some ⟨w2.heap.size, 0, none⟩) (ng * 2) := by
    have := vg3.low (lo' := w.heap.size) (by simp [World.setCell]; omega)
    simpa [World.setCell] using this
  clear hp1 ha2 hg3 hp ha hg hp1' ha2' h1s h2s hb1 hb2 hb3
  go_wp2
  refine bodyPost_ret (v := evV id sd ty key val st tm (some ⟨w.heap.size + 1 + 1 + 1, 0, none⟩) np np (some ⟨w1.heap.size, 0, none⟩) na na (some ⟨w2.heap.size, 0, none⟩) ng ng)
    (by simp [results, Try.results36, go_sem, y0, y1, y2, y3, y4, y5, y6, y7, y8, y9]) rfl ⟨_, _, _, rfl, ?_, ?_, ?_, ?_, by omega, by omega, by omega, ?_, ?_, ?_⟩
  · iterate 11 (refine SlS.set ?_ (by omega) _)
    exact hp3
  · iterate 11 (refine SlS.set ?_ (by omega) _)
    exact ha3
  · iterate 11 (refine SlG.set ?_ (by omega) _)
    exact hg3'
  · iterate 10 (refine Below.setCell ?_ (Nat.le_add_right _ _) _)
    refine Below.setCell ?_ (Nat.le_add_right _ 2) _
    exact h3.below
  · iterate 11 (refine Wr0.set ?_ _)
    exact vp3
  · iterate 11 (refine Wr0.set ?_ _)
    exact va3
  · iterate 11 (refine Wr0.set ?_ _)
    exact vg4
end
end Go.Proofs.Ytlopjfhdhkonbaa
