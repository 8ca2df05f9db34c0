import Derived.Test.YtjmhdjjkfglbgabCovT
import Derived.Test.YtjmhdjjkfglbgabCdM
namespace Go.Proofs.Ytjmhdjjkfglbgab
open Go.RowKit

/-- n cells at a, in a block from lo on, may be written. -/
def Wr0 (w : World) (lo : Nat) (a : Option Addr) (n : Nat) : Prop :=
  n = 0 ∨ ∃ b off, a = some ⟨b, off, none⟩ ∧ lo ≤ b ∧ b < w.heap.size ∧ ∀ i, i < n → (∃ v, w.cell? ⟨b, off + i, none⟩ = some v) ∧ w.frozen? ⟨b, off + i, none⟩ = false
theorem Wr0.low {w : World} {lo lo' n : Nat} {a : Option Addr} (h : Wr0 w lo a n) (hl : lo' ≤ lo) : Wr0 w lo' a n :=
  h.imp id fun ⟨b, off, e, q1, q3, hc⟩ => ⟨b, off, e, by omega, q3, hc⟩
theorem Wr0.below {w w' : World} {lo n : Nat} {a : Option Addr} (h : Wr0 w lo a n) (hb : Below w.heap.size w w') : Wr0 w' lo a n :=
  h.imp id fun ⟨b, off, e, h1, h3, hc⟩ => ⟨b, off, e, h1, Nat.lt_of_lt_of_le h3 hb.size, fun i hi => ⟨(hc i hi).1.imp fun _ hv => (hb.cell (by exact h3)).trans hv, (hb.frozen (by exact h3)).trans (hc i hi).2⟩⟩
theorem Wr0.set {w : World} {lo n C j : Nat} {a : Option Addr} (h : Wr0 w lo a n) (x : Value) : Wr0 (w.setCell ⟨C, j, none⟩ x) lo a n :=
  h.imp id fun ⟨b, off, e, h1, h3, hc⟩ => ⟨b, off, e, h1, by simpa [World.setCell] using h3, fun i hi => ⟨by
    by_cases e2 : (⟨b, off + i, none⟩ : Addr) = ⟨C, j, none⟩
    · rw [e2]; exact ⟨x, set_same (by rw [← e2]; exact (hc i hi).1)⟩
    · rw [World.cell?_setCell_other _ _ _ _ (fun e' => e2 e'.symm)]; exact (hc i hi).1, by rw [World.frozen?_setCell]; exact (hc i hi).2⟩⟩
theorem Wr0.wr {w : World} {lo n : Nat} {a : Option Addr} (h : Wr0 w lo a n) : Wr w lo w.heap.size a n :=
  h.imp id fun ⟨b, off, e, h1, h3, hc⟩ => ⟨b, off, e, h1, h3, h3, hc⟩

/-- at (B, o) lies a slice of the n numbers X, in a block of its own above B; it may be written. -/
def RowNewW (w : World) (B o n : Nat) (X : Nat → Int) : Prop := ∃ b, B < b ∧ w.cell? ⟨B, o, none⟩ = some (.slice (some ⟨b, 0, none⟩) n n) ∧ SlI w (some ⟨b, 0, none⟩) n n X ∧ Wr0 w (B + 1) (some ⟨b, 0, none⟩) n
theorem RowNewW.below {w w' : World} {B o n : Nat} {X : Nat → Int} (h : RowNewW w B o n X) (hb : Below w.heap.size w w') (hlt : B < w.heap.size) : RowNewW w' B o n X := by
  obtain ⟨b, h1, h2, h3, h4⟩ := h
  exact ⟨b, h1, (hb.cell (by exact hlt)).trans h2, h3.below hb, h4.below hb⟩
theorem RowNewW.put {w : World} {B o o' n : Nat} {X : Nat → Int} (h : RowNewW w B o n X) (ho : o ≠ o') (x : Value) : RowNewW (w.setCell ⟨B, o', none⟩ x) B o n X := by
  obtain ⟨b, h1, h2, h3, h4⟩ := h
  exact ⟨b, h1, by rw [set_far ho]; exact h2, h3.set (by omega) _, h4.set _⟩
theorem RowNewW.set {w : World} {B o n C j : Nat} {X : Nat → Int} (h : RowNewW w B o n X) (hC : C < B) (x : Value) : RowNewW (w.setCell ⟨C, j, none⟩ x) B o n X := by
  obtain ⟨b, h1, h2, h3, h4⟩ := h
  exact ⟨b, h1, by rw [far_block (by omega)]; exact h2, h3.set (by omega) _, h4.set _⟩
theorem RowNewW.plain {w : World} {B o n : Nat} {X : Nat → Int} (h : RowNewW w B o n X) : RowNew w B o n X := by
  obtain ⟨b, h1, h2, h3, _⟩ := h
  exact ⟨b, h1, h2, h3⟩
theorem rowsW_of {w : World} {B n : Nat} {rn : Nat → Nat} {X : Nat → Nat → Int} (h : ∀ i, i < n → RowNewW w B i (rn i) (X i)) : RowsW w B 0 n w.heap.size rn := fun i hi => by
  obtain ⟨b, _, h2, h3, h4⟩ := h i hi
  exact ⟨_, _, by rw [Nat.zero_add]; exact h2, h3.le, h3.max, h4.wr⟩

set_option maxHeartbeats 400000 in
theorem toIw_any (b off n cap : Nat) (X : Nat → Int) (w : World) (hr : n * 8 ≤ 140737488351232) (hb : b < w.heap.size)
    (hc : ∀ i, i < n → w.cell? ⟨b, off + i, none⟩ = some (.int .i64 (X i))) :
    Calls Try.prog 40 #[.slice (some ⟨b, off, none⟩) n cap] w fun e w' =>
      e = .returned (.slice (some ⟨w.heap.size, 0, none⟩) n n) ∧ (∀ i, i < n → w'.cell? ⟨w.heap.size, i, none⟩ = some (.int .i64 (X i))) ∧ (∀ i, i < n → w'.frozen? ⟨w.heap.size, i, none⟩ = false) ∧ w.heap.size < w'.heap.size ∧ Below w.heap.size w w' := by
  have hmk := make_int n hr w
  go_enter Try.func40, Try.ntmps40
  go_wp2
  clear hmk
  go_loopw [4] (fun i wr => ∃ k : Nat, k ≤ n ∧ i = .int .i64 k ∧ Hid (∀ i, i < k → wr.cell? ⟨w.heap.size, i, none⟩ = some (.int .i64 (X i))) ∧ Hid (∀ i, i < n → (∃ v, wr.cell? ⟨w.heap.size, i, none⟩ = some v) ∧ wr.frozen? ⟨w.heap.size, i, none⟩ = false) ∧ w.heap.size < wr.heap.size ∧ Below w.heap.size w wr) (fun i _ => n - (intOf i).toNat)
  case atStart => exact ⟨0, Nat.zero_le _, rfl, fun i hi => absurd hi (Nat.not_lt_zero _), fun i hi => ⟨cell_made _ _ _ _ (by rw [mkI_size]; exact hi), World.frozen?_alloc_at _ _ _ _ rfl⟩, by simp, (Below.refl _ _).alloc (Nat.le_refl _) _⟩
  case round =>
    obtain ⟨k, hk, rfl, hdone, hfree, hsz, hbel⟩ := hrel
    by_cases hlt : k < n
    · have hck : wr.cell? ⟨b, off + k, none⟩ = some (.int .i64 (X k)) := (hbel.cell (by exact hb)).trans (hc k hlt)
      obtain ⟨⟨v0, hv0⟩, hf0⟩ := hfree.out k hlt
      go_wp2
      go_roundw
      case rel => exact ⟨k + 1, by omega, by go_num, set_done (f := fun i => .int .i64 (X i)) hdone.out ⟨v0, hv0⟩, set_free hfree.out, by simpa [World.setCell] using hsz, hbel.setCell (Nat.le_refl _) _⟩
      case measure => simp [intOf]; omega
    · go_wp2
      go_ret
      exact ⟨rfl, fun i hi => hdone.out i (by omega), fun i hi => (hfree.out i hi).2, hsz, hbel⟩

theorem toIw_sl {a : Option Addr} {n cap : Nat} {X : Nat → Int} (w : World) (hr : n * 8 ≤ 140737488351232) (h : SlI w a n cap X) :
    Calls Try.prog 40 #[.slice a n cap] w fun e w' =>
      e = .returned (.slice (some ⟨w.heap.size, 0, none⟩) n n) ∧ SlI w' (some ⟨w.heap.size, 0, none⟩) n n X ∧ Wr0 w' w.heap.size (some ⟨w.heap.size, 0, none⟩) n ∧ Below w.heap.size w w' := by
  rcases h.cells with rfl | ⟨b, off, rfl, hb, hc⟩
  · refine (toI_zero a cap w).mono ?_
    rintro e w' ⟨rfl, hsz, hbel⟩
    exact ⟨rfl, ⟨Nat.le_refl _, by decide, Or.inl rfl⟩, Or.inl rfl, hbel⟩
  · refine (toIw_any b off n cap X w hr hb hc).mono ?_
    rintro e w' ⟨rfl, hcl, hfz, hsz, hbel⟩
    exact ⟨rfl, ⟨Nat.le_refl _, by unfold maxLen; omega, Or.inr ⟨_, 0, rfl, hsz, fun i hi => by rw [Nat.zero_add]; exact hcl i hi⟩⟩, Or.inr ⟨_, 0, rfl, Nat.le_refl _, hsz, fun i hi => by rw [Nat.zero_add]; exact ⟨⟨_, hcl i hi⟩, hfz i hi⟩⟩, hbel⟩

set_option maxHeartbeats 400000 in
theorem toPw_any (b off n cap : Nat) (C Q : Nat → Int) (w : World) (hr : n * 16 ≤ 140737488351232) (hb : b < w.heap.size)
    (hc : ∀ i, i < n → w.cell? ⟨b, off + i * 2, none⟩ = some (.int .i64 (C i)))
    (hl : ∀ i, i < n → w.cell? ⟨b, off + i * 2 + 1, none⟩ = some (.int .i64 (Q i))) :
    Calls Try.prog 39 #[.slice (some ⟨b, off, none⟩) n cap] w fun e w' =>
      e = .returned (.slice (some ⟨w.heap.size, 0, none⟩) n n) ∧ (∀ i, i < n → w'.cell? ⟨w.heap.size, i * 2, none⟩ = some (.int .i64 (C i)) ∧ w'.cell? ⟨w.heap.size, i * 2 + 1, none⟩ = some (.int .i64 (Q i))) ∧ (∀ i, i < n * 2 → (∃ v, w'.cell? ⟨w.heap.size, i, none⟩ = some v) ∧ w'.frozen? ⟨w.heap.size, i, none⟩ = false) ∧ w.heap.size < w'.heap.size ∧ Below w.heap.size w w' := by
  have hmk := make_sp n hr w
  go_enter Try.func39, Try.ntmps39
  go_wp2
  clear hmk
  go_loopw [4] (fun i wr => ∃ k : Nat, k ≤ n ∧ i = .int .i64 k ∧ Hid (∀ i, i < k → wr.cell? ⟨w.heap.size, i * 2, none⟩ = some (.int .i64 (C i)) ∧ wr.cell? ⟨w.heap.size, i * 2 + 1, none⟩ = some (.int .i64 (Q i))) ∧ Hid (∀ i, i < n * 2 → (∃ v, wr.cell? ⟨w.heap.size, i, none⟩ = some v) ∧ wr.frozen? ⟨w.heap.size, i, none⟩ = false) ∧ w.heap.size < wr.heap.size ∧ Below w.heap.size w wr) (fun i _ => n - (intOf i).toNat)
  case atStart => exact ⟨0, Nat.zero_le _, rfl, fun i hi => absurd hi (Nat.not_lt_zero _), fun i hi => ⟨cell_made _ _ _ _ (by rw [mkP_size]; exact hi), World.frozen?_alloc_at _ _ _ _ rfl⟩, by simp, (Below.refl _ _).alloc (Nat.le_refl _) _⟩
  case round =>
    obtain ⟨k, hk, rfl, hdone, hfree, hsz, hbel⟩ := hrel
    by_cases hlt : k < n
    · have hck : wr.cell? ⟨b, off + k * 2, none⟩ = some (.int .i64 (C k)) := (hbel.cell (by exact hb)).trans (hc k hlt)
      have hlk : wr.cell? ⟨b, off + k * 2 + 1, none⟩ = some (.int .i64 (Q k)) := (hbel.cell (by exact hb)).trans (hl k hlt)
      go_wp2_with fail
      refine (toP1_any (C k) (Q k) wr).mono ?_
      rintro e w1 ⟨rfl, hb1⟩
      have hfree1 : ∀ i, i < n * 2 → (∃ v, w1.cell? ⟨w.heap.size, i, none⟩ = some v) ∧ w1.frozen? ⟨w.heap.size, i, none⟩ = false := fun i hi => by
        obtain ⟨⟨v, hv⟩, hf⟩ := hfree.out i hi
        exact ⟨⟨v, (hb1.cell (by exact hsz)).trans hv⟩, (hb1.frozen (by exact hsz)).trans hf⟩
      have hdone1 : Hid (∀ i, i < k → w1.cell? ⟨w.heap.size, i * 2, none⟩ = some (.int .i64 (C i)) ∧ w1.cell? ⟨w.heap.size, i * 2 + 1, none⟩ = some (.int .i64 (Q i))) := fun i hi =>
        ⟨(hb1.cell (by exact hsz)).trans (hdone.out i hi).1, (hb1.cell (by exact hsz)).trans (hdone.out i hi).2⟩
      obtain ⟨⟨v0, hv0⟩, hf0⟩ := hfree1 (k * 2) (by omega)
      obtain ⟨⟨v1, hv1⟩, hf1⟩ := hfree1 (k * 2 + 1) (by omega)
      have HF : Hid (_) := hfree1
      have hsz1 : w.heap.size < w1.heap.size := Nat.lt_of_lt_of_le hsz hb1.size
      clear hfree1
      go_wp2
      go_roundw
      case rel => exact ⟨k + 1, by omega, by go_num, setP_done (f := fun i => .int .i64 (C i)) (g := fun i => .int .i64 (Q i)) hdone1.out HF.out hlt, set_free (set_free HF.out), by simpa [World.setCell] using hsz1, ((hbel.trans (hb1.mono hbel.size)).setCell (Nat.le_refl _) _).setCell (Nat.le_refl _) _⟩
      case measure => simp [intOf]; omega
    · go_wp2
      go_ret
      exact ⟨rfl, fun i hi => hdone.out i (by omega), hfree.out, hsz, hbel⟩

theorem toPw_sl {a : Option Addr} {n cap : Nat} {C Q : Nat → Int} (w : World) (hr : n * 16 ≤ 140737488351232) (h : SlP w a n cap C Q) :
    Calls Try.prog 39 #[.slice a n cap] w fun e w' =>
      e = .returned (.slice (some ⟨w.heap.size, 0, none⟩) n n) ∧ SlP w' (some ⟨w.heap.size, 0, none⟩) n n C Q ∧ Wr0 w' w.heap.size (some ⟨w.heap.size, 0, none⟩) (n * 2) ∧ w.heap.size < w'.heap.size ∧ Below w.heap.size w w' := by
  rcases h.cells with rfl | ⟨b, off, rfl, hb, hc, hl⟩
  · refine (toP_zero a cap w).mono ?_
    rintro e w' ⟨rfl, hsz, hbel⟩
    exact ⟨rfl, ⟨Nat.le_refl _, by decide, Or.inl rfl⟩, Or.inl rfl, hsz, hbel⟩
  · refine (toPw_any b off n cap C Q w hr hb hc hl).mono ?_
    rintro e w' ⟨rfl, hcl, hfz, hsz, hbel⟩
    exact ⟨rfl, ⟨Nat.le_refl _, by unfold maxLen; omega, Or.inr ⟨_, 0, rfl, hsz, fun i hi => by rw [Nat.zero_add]; exact (hcl i hi).1, fun i hi => by rw [Nat.zero_add]; exact (hcl i hi).2⟩⟩, Or.inr ⟨_, 0, rfl, Nat.le_refl _, hsz, fun i hi => by rw [Nat.zero_add]; exact hfz i hi⟩, hsz, hbel⟩

set_option maxHeartbeats 1000000 in
theorem toLw_any (b off n cap : Nat) (rn : Nat → Nat) (X : Nat → Nat → Int) (w : World) (hr : n * 24 ≤ 140737488351232) (hR : ∀ i, i < n → rn i * 8 ≤ 140737488351232) (hb : b < w.heap.size) (hc : ∀ i, i < n → RowAt w b (off + i) (rn i) (X i)) :
    Calls Try.prog 14 #[.slice (some ⟨b, off, none⟩) n cap] w fun e w' =>
      e = .returned (.slice (some ⟨w.heap.size, 0, none⟩) n n) ∧ (∀ i, i < n → RowNewW w' w.heap.size i (rn i) (X i)) ∧ w.heap.size < w'.heap.size ∧ Below w.heap.size w w' := by
  have hmk := make_ints n hr w
  go_enter Try.func14, Try.ntmps14
  go_wp2
  clear hmk
  go_loopw [4] (fun i wr => ∃ k : Nat, k ≤ n ∧ i = .int .i64 k ∧ Hid (∀ i, i < k → RowNewW wr w.heap.size i (rn i) (X i)) ∧ Free wr w.heap.size n ∧ w.heap.size < wr.heap.size ∧ Below w.heap.size w wr) (fun i _ => n - (intOf i).toNat)
  case atStart => exact ⟨0, Nat.zero_le _, rfl, fun i hi => absurd hi (Nat.not_lt_zero _), fun i hi => ⟨cell_made _ _ _ _ (by rw [mkL_size]; exact hi), World.frozen?_alloc_at _ _ _ _ rfl⟩, by simp, (Below.refl _ _).alloc (Nat.le_refl _) _⟩
  case round =>
    obtain ⟨k, hk, rfl, hdone, hfree, hsz, hbel⟩ := hrel
    by_cases hlt : k < n
    · obtain ⟨ra, rc, hck, hs⟩ := (hc k hlt).below hbel hb
      have hrk := hR k hlt
      clear hc hR
      go_wp2_with fail
      refine (toIw_sl _ hrk hs).mono ?_
      rintro e w1 ⟨rfl, hs1, hw1, hb1⟩
      have hfree1 : Free w1 w.heap.size n := fun i hi => by
        obtain ⟨⟨v, hv⟩, hf⟩ := hfree i hi
        exact ⟨⟨v, (hb1.cell (by exact hsz)).trans hv⟩, (hb1.frozen (by exact hsz)).trans hf⟩
      have hdone1 : Hid (∀ i, i < k → RowNewW w1 w.heap.size i (rn i) (X i)) := fun i hi => (hdone.out i hi).below hb1 hsz
      obtain ⟨⟨x0, y0⟩, z0⟩ := hfree1 k hlt
      have hsz1 : w.heap.size < w1.heap.size := Nat.lt_of_lt_of_le hsz hb1.size
      have hbel1 := hbel.trans (hb1.mono hbel.size)
      clear hfree hdone hbel hb1 hck
      go_wp2
      go_roundw
      case rel => exact ⟨k + 1, by omega, by go_num, fun i hi => by
        by_cases ek : i = k
        · subst ek
          exact ⟨wr.heap.size, hsz, set_same ⟨x0, y0⟩, hs1.set (by omega) _, (hw1.low (by omega)).set _⟩
        · exact (hdone1.out i (by omega)).put ek _, set_free hfree1, by simpa [World.setCell] using hsz1, hbel1.setCell (Nat.le_refl _) _⟩
      case measure => simp [intOf]; omega
    · go_wp2
      go_ret
      exact ⟨rfl, fun i hi => hdone.out i (by omega), hsz, hbel⟩

theorem toLw_new {a : Option Addr} {n cap : Nat} {rn : Nat → Nat} {X : Nat → Nat → Int} (w : World) (hr : n * 24 ≤ 140737488351232) (hR : ∀ i, i < n → rn i * 8 ≤ 140737488351232) (h : SlL w a n cap rn X) :
    Calls Try.prog 14 #[.slice a n cap] w fun e w' =>
      e = .returned (.slice (some ⟨w.heap.size, 0, none⟩) n n) ∧ (∀ i, i < n → RowNewW w' w.heap.size i (rn i) (X i)) ∧ w.heap.size < w'.heap.size ∧ Below w.heap.size w w' := by
  rcases h.cells with rfl | ⟨b, off, rfl, hb, hc⟩
  · refine (toL_zero a cap w).mono ?_
    rintro e w' ⟨rfl, hsz, hbel⟩
    exact ⟨rfl, fun i hi => absurd hi (Nat.not_lt_zero _), hsz, hbel⟩
  · exact toLw_any b off n cap rn X w hr hR hb hc

set_option maxHeartbeats 1000000 in
theorem toCw_sl {sa : Option Addr} {ns cs : Nat} {ra : Option Addr} {nr cr : Nat} {C Q : Nat → Int} {rn : Nat → Nat} {X : Nat → Nat → Int} (w : World)
    (hrs : ns * 16 ≤ 140737488351232) (hrr : nr * 24 ≤ 140737488351232) (hR : ∀ i, i < nr → rn i * 8 ≤ 140737488351232) (hp : SlP w sa ns cs C Q) (hl : SlL w ra nr cr rn X) :
    Calls Try.prog 13 #[.agg #[.slice sa ns cs, .slice ra nr cr]] w fun e w' =>
      ∃ bs br : Nat, e = .returned (.agg #[.slice (some ⟨bs, 0, none⟩) ns ns, .slice (some ⟨br, 0, none⟩) nr nr]) ∧
        SlP w' (some ⟨bs, 0, none⟩) ns ns C Q ∧ Wr0 w' w.heap.size (some ⟨bs, 0, none⟩) (ns * 2) ∧ (∀ i, i < nr → RowNewW w' br i (rn i) (X i)) ∧ Below w.heap.size w w' ∧ w.heap.size ≤ bs ∧ bs < br ∧ br < w'.heap.size := by
  go_enter Try.func13, Try.ntmps13
  go_wp2_with fail
  refine (toPw_sl _ hrs (hp.below (TB.start (m := 2) rfl).below)).mono ?_
  rintro e w1 ⟨rfl, hp1, hv1, hz0', hb1⟩
  have h1 := (TB.start (m := 2) rfl).mono hb1
  have a0 := h1.a0
  have a2 := h1.a2
  have f2 := h1.f2
  go_wp2_with fail
  have h1s := h1.set 0 (by simp) (.slice (some ⟨w.heap.size + 1 + 1 + 1, 0, none⟩) ns ns)
  refine (toLw_new _ hrr hR (hl.below h1s.below)).mono ?_
  rintro e w2 ⟨rfl, hl2, hz2', hb2⟩
  have h2 := h1s.mono hb2
  clear a0 a2 f2
  have a2 := h2.a2
  have f2 := h2.f2
  have f1 := h2.f1
  obtain ⟨x0, y0⟩ := h2.a1 0 (by decide)
  obtain ⟨x1, y1⟩ := h2.a1 1 (by decide)
  have hz1 := h1.size
  have hz2 := h2.size
  have hp1' : SlP w1 (some ⟨w.heap.size + 1 + 1 + 1, 0, none⟩) ns ns C Q := by simpa using hp1
  have hl2' : Hid (∀ i, i < nr → RowNewW w2 w1.heap.size i (rn i) (X i)) := by unfold Hid; simpa [World.setCell] using hl2
  have hz3 : w1.heap.size < w2.heap.size := by simpa [World.setCell] using hz2'
  have hz0 : w.heap.size + 1 + 1 + 1 < w1.heap.size := by simpa using hz0'
  have hv3 := (((hv1.low (lo' := w.heap.size) (by simp; omega)).set (C := w.heap.size + 1 + 1) (j := 0) (.slice (some ⟨w.heap.size + 1 + 1 + 1, 0, none⟩) ns ns)).below hb2)
  simp only [World.size_alloc] at hv3
  have hp3 := (hp1'.set (C := w.heap.size + 1 + 1) (j := 0) (by omega) (.slice (some ⟨w.heap.size + 1 + 1 + 1, 0, none⟩) ns ns)).below hb2
  clear hp1 hl2 hp hl hp1' h1s hb1 hb2 hz2' hR
  go_wp2
  refine bodyPost_ret (v := .agg #[.slice (some ⟨w.heap.size + 1 + 1 + 1, 0, none⟩) ns ns, .slice (some ⟨w1.heap.size, 0, none⟩) nr nr])
    (by simp [results, Try.results13, go_sem, y0, y1]) rfl ⟨_, _, rfl, ?_, ((hv3.set _).set _).set _, ?_, ?_, by omega, by omega, by simpa [World.setCell] using hz3⟩
  · iterate 3 (refine SlP.set ?_ (by omega) _)
    exact hp3
  · intro i hi
    iterate 3 (refine RowNewW.set ?_ (by omega) _)
    exact hl2'.out i hi
  · iterate 2 (refine Below.setCell ?_ (Nat.le_add_right _ _) _)
    refine Below.setCell ?_ (Nat.le_add_right _ 2) _
    exact h2.below
end Go.Proofs.Ytjmhdjjkfglbgab
