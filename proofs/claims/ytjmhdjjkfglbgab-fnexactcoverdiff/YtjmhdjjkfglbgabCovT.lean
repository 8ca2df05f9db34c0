import Derived.Test.YtjmhdjjkfglbgabCov
import Derived.Test.YtjmhdjjkfglbgabProg
namespace Go.Proofs.Ytjmhdjjkfglbgab
open Go.RowKit

/-- n cells with 0. -/
def mkI (n : Nat) : Array Value := madeCells #[.int .i64 0] n
theorem mkI_size (n : Nat) : (mkI n).size = n := size_madeCells _ _
theorem Try.infoInt : (Try.prog.info? 3).map (fun i => (i.zero, i.size, i.bytes)) = some (some (.int .i64 0), 1, 8) := by kernel_rfl

theorem make_int (n : Nat) (h : n * 8 ≤ 140737488351232) (W : World) :
    (Instr.makeSlice 40 (.int .i64 (n : Int)) (.int .i64 (n : Int))).run Try.prog W = .ok (.slice (some ⟨W.heap.size, 0, none⟩) n n) (W.alloc (.cells (mkI n) 3)) := by
  obtain ⟨i0, hi, hz0, hz1, hz2⟩ := info_parts Try.infoInt
  have := run_make (P := Try.prog) W 40 3 i0 (.int .i64 0) Try.underlying40 hi hz0 .i64 .i64 (n : Int) (n : Int) (by omega) (by omega) (by rw [hz2]; omega) (by omega)
  rw [this, hz1]
  simp [mkI, Value.cells]

set_option maxHeartbeats 400000 in
theorem toI_any (b off n cap : Nat) (X : Nat → Int) (w : World) (hr : n * 8 ≤ 140737488351232) (hb : b < w.heap.size)
    (hc : ∀ i, i < n → w.cell? ⟨b, off + i, none⟩ = some (.int .i64 (X i))) :
    Calls Try.prog 40 #[.slice (some ⟨b, off, none⟩) n cap] w fun e w' =>
      e = .returned (.slice (some ⟨w.heap.size, 0, none⟩) n n) ∧ (∀ i, i < n → w'.cell? ⟨w.heap.size, i, none⟩ = some (.int .i64 (X i))) ∧ w.heap.size < w'.heap.size ∧ Below w.heap.size w w' := by
  have hmk := make_int n hr w
  go_enter Try.func40, Try.ntmps40
  go_wp2
  clear hmk
  go_loopw [4] (fun i wr => ∃ k : Nat, k ≤ n ∧ i = .int .i64 k ∧ Hid (∀ i, i < k → wr.cell? ⟨w.heap.size, i, none⟩ = some (.int .i64 (X i))) ∧ Hid (∀ i, i < n → (∃ v, wr.cell? ⟨w.heap.size, i, none⟩ = some v) ∧ wr.frozen? ⟨w.heap.size, i, none⟩ = false) ∧ w.heap.size < wr.heap.size ∧ Below w.heap.size w wr) (fun i _ => n - (intOf i).toNat)
  case atStart => exact ⟨0, Nat.zero_le _, rfl, fun i hi => absurd hi (Nat.not_lt_zero _), fun i hi => ⟨cell_made _ _ _ _ (by rw [mkI_size]; exact hi), World.frozen?_alloc_at _ _ _ _ rfl⟩, by simp, (Below.refl _ _).alloc (Nat.le_refl _) _⟩
  case round =>
    obtain ⟨k, hk, rfl, hdone, hfree, hsz, hbel⟩ := hrel
    by_cases hlt : k < n
    · have hck : wr.cell? ⟨b, off + k, none⟩ = some (.int .i64 (X k)) := (hbel.cell (by exact hb)).trans (hc k hlt)
      obtain ⟨⟨v0, hv0⟩, hf0⟩ := hfree.out k hlt
      go_wp2
      go_roundw
      case rel => exact ⟨k + 1, by omega, by go_num, set_done (f := fun i => .int .i64 (X i)) hdone.out ⟨v0, hv0⟩, set_free hfree.out, by simpa [World.setCell] using hsz, hbel.setCell (Nat.le_refl _) _⟩
      case measure => simp [intOf]; omega
    · go_wp2
      go_ret
      exact ⟨rfl, fun i hi => hdone.out i (by omega), hsz, hbel⟩

theorem toI_zero (a : Option Addr) (cap : Nat) (w : World) :
    Calls Try.prog 40 #[.slice a 0 cap] w fun e w' =>
      e = .returned (.slice (some ⟨w.heap.size, 0, none⟩) 0 0) ∧ w.heap.size < w'.heap.size ∧ Below w.heap.size w w' := by
  have hmk := make_int 0 (by decide) w
  simp only [Int.ofNat_zero] at hmk
  go_enter Try.func40, Try.ntmps40
  go_wp2
  clear hmk
  refine wp_loop_rounds 1 ?_
  rw [rounds_succ]
  go_wp2
  go_ret
  exact ⟨rfl, by simp, (Below.refl _ _).alloc (Nat.le_refl _) _⟩

theorem toI_sl {a : Option Addr} {n cap : Nat} {X : Nat → Int} (w : World) (hr : n * 8 ≤ 140737488351232) (h : SlI w a n cap X) :
    Calls Try.prog 40 #[.slice a n cap] w fun e w' =>
      e = .returned (.slice (some ⟨w.heap.size, 0, none⟩) n n) ∧ SlI w' (some ⟨w.heap.size, 0, none⟩) n n X ∧ Below w.heap.size w w' := by
  rcases h.cells with rfl | ⟨b, off, rfl, hb, hc⟩
  · refine (toI_zero a cap w).mono ?_
    rintro e w' ⟨rfl, hsz, hbel⟩
    exact ⟨rfl, ⟨Nat.le_refl _, by decide, Or.inl rfl⟩, hbel⟩
  · refine (toI_any b off n cap X w hr hb hc).mono ?_
    rintro e w' ⟨rfl, hcl, hsz, hbel⟩
    exact ⟨rfl, ⟨Nat.le_refl _, by unfold maxLen; omega, Or.inr ⟨_, 0, rfl, hsz, fun i hi => by rw [Nat.zero_add]; exact hcl i hi⟩⟩, hbel⟩

/-! ### []Spot -/

def mkP (n : Nat) : Array Value := madeCells #[.int .i64 0, .int .i64 0] (n * 2)
theorem mkP_size (n : Nat) : (mkP n).size = n * 2 := size_madeCells _ _
theorem Try.infoSpot : (Try.prog.info? 74).map (fun i => (i.zero, i.size, i.bytes)) = some (some (.agg #[.int .i64 0, .int .i64 0]), 2, 16) := by kernel_rfl

theorem make_sp (n : Nat) (h : n * 16 ≤ 140737488351232) (W : World) :
    (Instr.makeSlice 42 (.int .i64 (n : Int)) (.int .i64 (n : Int))).run Try.prog W = .ok (.slice (some ⟨W.heap.size, 0, none⟩) n n) (W.alloc (.cells (mkP n) 74)) := by
  obtain ⟨i0, hi, hz0, hz1, hz2⟩ := info_parts Try.infoSpot
  have := run_make (P := Try.prog) W 42 74 i0 (.agg #[.int .i64 0, .int .i64 0]) Try.underlying42 hi hz0 .i64 .i64 (n : Int) (n : Int) (by omega) (by omega) (by rw [hz2]; omega) (by omega)
  rw [this, hz1]
  simp [mkP, Value.cells]

set_option maxHeartbeats 400000 in
theorem toP1_any (c q : Int) (w : World) :
    Calls Try.prog 54 #[.agg #[.int .i64 c, .int .i64 q]] w fun e w' => e = .returned (.agg #[.int .i64 c, .int .i64 q]) ∧ Below w.heap.size w w' := by
  go_enter Try.func54, Try.ntmps54
  go_wp2
  exact bodyPost_ret (v := .agg #[.int .i64 c, .int .i64 q]) (by simp [results, Try.results54, go_sem]) rfl ⟨rfl, by repeat' (first | exact Below.refl _ _ | exact Nat.le_refl _ | (refine Below.alloc ?_ ?_ _) | (simp; done) | (simp; omega))⟩

theorem setP_done {wr : World} {B k n : Nat} {f g : Nat → Value} (h : ∀ i, i < k → wr.cell? ⟨B, i * 2, none⟩ = some (f i) ∧ wr.cell? ⟨B, i * 2 + 1, none⟩ = some (g i))
    (hf : ∀ i, i < n * 2 → (∃ v, wr.cell? ⟨B, i, none⟩ = some v) ∧ wr.frozen? ⟨B, i, none⟩ = false) (hk : k < n) (i : Nat) (hi : i < k + 1) :
    ((wr.setCell ⟨B, k * 2, none⟩ (f k)).setCell ⟨B, k * 2 + 1, none⟩ (g k)).cell? ⟨B, i * 2, none⟩ = some (f i) ∧ ((wr.setCell ⟨B, k * 2, none⟩ (f k)).setCell ⟨B, k * 2 + 1, none⟩ (g k)).cell? ⟨B, i * 2 + 1, none⟩ = some (g i) := by
  by_cases e : i = k
  · subst e
    refine ⟨?_, set_same ?_⟩
    · rw [set_far (by omega)]; exact set_same (hf _ (by omega)).1
    · rw [set_far (by omega)]; exact (hf _ (by omega)).1
  · rw [set_far (by omega), set_far (by omega), set_far (by omega), set_far (by omega)]; exact h i (by omega)

set_option maxHeartbeats 400000 in
theorem toP_any (b off n cap : Nat) (C Q : Nat → Int) (w : World) (hr : n * 16 ≤ 140737488351232) (hb : b < w.heap.size)
    (hc : ∀ i, i < n → w.cell? ⟨b, off + i * 2, none⟩ = some (.int .i64 (C i)))
    (hl : ∀ i, i < n → w.cell? ⟨b, off + i * 2 + 1, none⟩ = some (.int .i64 (Q i))) :
    Calls Try.prog 39 #[.slice (some ⟨b, off, none⟩) n cap] w fun e w' =>
      e = .returned (.slice (some ⟨w.heap.size, 0, none⟩) n n) ∧ (∀ i, i < n → w'.cell? ⟨w.heap.size, i * 2, none⟩ = some (.int .i64 (C i)) ∧ w'.cell? ⟨w.heap.size, i * 2 + 1, none⟩ = some (.int .i64 (Q i))) ∧ w.heap.size < w'.heap.size ∧ Below w.heap.size w w' := by
  have hmk := make_sp n hr w
  go_enter Try.func39, Try.ntmps39
  go_wp2
  clear hmk
  go_loopw [4] (fun i wr => ∃ k : Nat, k ≤ n ∧ i = .int .i64 k ∧ Hid (∀ i, i < k → wr.cell? ⟨w.heap.size, i * 2, none⟩ = some (.int .i64 (C i)) ∧ wr.cell? ⟨w.heap.size, i * 2 + 1, none⟩ = some (.int .i64 (Q i))) ∧ Hid (∀ i, i < n * 2 → (∃ v, wr.cell? ⟨w.heap.size, i, none⟩ = some v) ∧ wr.frozen? ⟨w.heap.size, i, none⟩ = false) ∧ w.heap.size < wr.heap.size ∧ Below w.heap.size w wr) (fun i _ => n - (intOf i).toNat)
  case atStart => exact ⟨0, Nat.zero_le _, rfl, fun i hi => absurd hi (Nat.not_lt_zero _), fun i hi => ⟨cell_made _ _ _ _ (by rw [mkP_size]; exact hi), World.frozen?_alloc_at _ _ _ _ rfl⟩, by simp, (Below.refl _ _).alloc (Nat.le_refl _) _⟩
  case round =>
    obtain ⟨k, hk, rfl, hdone, hfree, hsz, hbel⟩ := hrel
    by_cases hlt : k < n
    · have hck : wr.cell? ⟨b, off + k * 2, none⟩ = some (.int .i64 (C k)) := (hbel.cell (by exact hb)).trans (hc k hlt)
      have hlk : wr.cell? ⟨b, off + k * 2 + 1, none⟩ = some (.int .i64 (Q k)) := (hbel.cell (by exact hb)).trans (hl k hlt)
      go_wp2_with fail
      refine (toP1_any (C k) (Q k) wr).mono ?_
      rintro e w1 ⟨rfl, hb1⟩
      have hfree1 : ∀ i, i < n * 2 → (∃ v, w1.cell? ⟨w.heap.size, i, none⟩ = some v) ∧ w1.frozen? ⟨w.heap.size, i, none⟩ = false := fun i hi => by
        obtain ⟨⟨v, hv⟩, hf⟩ := hfree.out i hi
        exact ⟨⟨v, (hb1.cell (by exact hsz)).trans hv⟩, (hb1.frozen (by exact hsz)).trans hf⟩
      have hdone1 : Hid (∀ i, i < k → w1.cell? ⟨w.heap.size, i * 2, none⟩ = some (.int .i64 (C i)) ∧ w1.cell? ⟨w.heap.size, i * 2 + 1, none⟩ = some (.int .i64 (Q i))) := fun i hi =>
        ⟨(hb1.cell (by exact hsz)).trans (hdone.out i hi).1, (hb1.cell (by exact hsz)).trans (hdone.out i hi).2⟩
      obtain ⟨⟨v0, hv0⟩, hf0⟩ := hfree1 (k * 2) (by omega)
      obtain ⟨⟨v1, hv1⟩, hf1⟩ := hfree1 (k * 2 + 1) (by omega)
      have HF : Hid (_) := hfree1
      have hsz1 : w.heap.size < w1.heap.size := Nat.lt_of_lt_of_le hsz hb1.size
      clear hfree1
      go_wp2
      go_roundw
      case rel => exact ⟨k + 1, by omega, by go_num, setP_done (f := fun i => .int .i64 (C i)) (g := fun i => .int .i64 (Q i)) hdone1.out HF.out hlt, set_free (set_free HF.out), by simpa [World.setCell] using hsz1, ((hbel.trans (hb1.mono hbel.size)).setCell (Nat.le_refl _) _).setCell (Nat.le_refl _) _⟩
      case measure => simp [intOf]; omega
    · go_wp2
      go_ret
      exact ⟨rfl, fun i hi => hdone.out i (by omega), hsz, hbel⟩

theorem toP_zero (a : Option Addr) (cap : Nat) (w : World) :
    Calls Try.prog 39 #[.slice a 0 cap] w fun e w' =>
      e = .returned (.slice (some ⟨w.heap.size, 0, none⟩) 0 0) ∧ w.heap.size < w'.heap.size ∧ Below w.heap.size w w' := by
  have hmk := make_sp 0 (by decide) w
  simp only [Int.ofNat_zero] at hmk
  go_enter Try.func39, Try.ntmps39
  go_wp2
  clear hmk
  refine wp_loop_rounds 1 ?_
  rw [rounds_succ]
  go_wp2
  go_ret
  exact ⟨rfl, by simp, (Below.refl _ _).alloc (Nat.le_refl _) _⟩

theorem toP_sl {a : Option Addr} {n cap : Nat} {C Q : Nat → Int} (w : World) (hr : n * 16 ≤ 140737488351232) (h : SlP w a n cap C Q) :
    Calls Try.prog 39 #[.slice a n cap] w fun e w' =>
      e = .returned (.slice (some ⟨w.heap.size, 0, none⟩) n n) ∧ SlP w' (some ⟨w.heap.size, 0, none⟩) n n C Q ∧ w.heap.size < w'.heap.size ∧ Below w.heap.size w w' := by
  rcases h.cells with rfl | ⟨b, off, rfl, hb, hc, hl⟩
  · refine (toP_zero a cap w).mono ?_
    rintro e w' ⟨rfl, hsz, hbel⟩
    exact ⟨rfl, ⟨Nat.le_refl _, by decide, Or.inl rfl⟩, hsz, hbel⟩
  · refine (toP_any b off n cap C Q w hr hb hc hl).mono ?_
    rintro e w' ⟨rfl, hcl, hsz, hbel⟩
    exact ⟨rfl, ⟨Nat.le_refl _, by unfold maxLen; omega, Or.inr ⟨_, 0, rfl, hsz, fun i hi => by rw [Nat.zero_add]; exact (hcl i hi).1, fun i hi => by rw [Nat.zero_add]; exact (hcl i hi).2⟩⟩, hsz, hbel⟩

/-! ### [][]int -/

def mkL (n : Nat) : Array Value := madeCells #[.slice none 0 0] n
theorem mkL_size (n : Nat) : (mkL n).size = n := size_madeCells _ _
theorem Try.infoInts : (Try.prog.info? 40).map (fun i => (i.zero, i.size, i.bytes)) = some (some (.slice none 0 0), 1, 24) := by kernel_rfl

theorem make_ints (n : Nat) (h : n * 24 ≤ 140737488351232) (W : World) :
    (Instr.makeSlice 35 (.int .i64 (n : Int)) (.int .i64 (n : Int))).run Try.prog W = .ok (.slice (some ⟨W.heap.size, 0, none⟩) n n) (W.alloc (.cells (mkL n) 40)) := by
  obtain ⟨i0, hi, hz0, hz1, hz2⟩ := info_parts Try.infoInts
  have := run_make (P := Try.prog) W 35 40 i0 (.slice none 0 0) Try.underlying35 hi hz0 .i64 .i64 (n : Int) (n : Int) (by omega) (by omega) (by rw [hz2]; omega) (by omega)
  rw [this, hz1]
  simp [mkL, Value.cells]

set_option maxHeartbeats 1000000 in
theorem toL_any (b off n cap : Nat) (rn : Nat → Nat) (X : Nat → Nat → Int) (w : World) (hr : n * 24 ≤ 140737488351232) (hR : ∀ i, i < n → rn i * 8 ≤ 140737488351232) (hb : b < w.heap.size) (hc : ∀ i, i < n → RowAt w b (off + i) (rn i) (X i)) :
    Calls Try.prog 14 #[.slice (some ⟨b, off, none⟩) n cap] w fun e w' =>
      e = .returned (.slice (some ⟨w.heap.size, 0, none⟩) n n) ∧ (∀ i, i < n → RowNew w' w.heap.size i (rn i) (X i)) ∧ w.heap.size < w'.heap.size ∧ Below w.heap.size w w' := by
  have hmk := make_ints n hr w
  go_enter Try.func14, Try.ntmps14
  go_wp2
  clear hmk
  go_loopw [4] (fun i wr => ∃ k : Nat, k ≤ n ∧ i = .int .i64 k ∧ Hid (∀ i, i < k → RowNew wr w.heap.size i (rn i) (X i)) ∧ Free wr w.heap.size n ∧ w.heap.size < wr.heap.size ∧ Below w.heap.size w wr) (fun i _ => n - (intOf i).toNat)
  case atStart => exact ⟨0, Nat.zero_le _, rfl, fun i hi => absurd hi (Nat.not_lt_zero _), fun i hi => ⟨cell_made _ _ _ _ (by rw [mkL_size]; exact hi), World.frozen?_alloc_at _ _ _ _ rfl⟩, by simp, (Below.refl _ _).alloc (Nat.le_refl _) _⟩
  case round =>
    obtain ⟨k, hk, rfl, hdone, hfree, hsz, hbel⟩ := hrel
    by_cases hlt : k < n
    · obtain ⟨ra, rc, hck, hs⟩ := (hc k hlt).below hbel hb
      have hrk := hR k hlt
      clear hc hR
      go_wp2_with fail
      refine (toI_sl _ hrk hs).mono ?_
      rintro e w1 ⟨rfl, hs1, hb1⟩
      have hfree1 : Free w1 w.heap.size n := fun i hi => by
        obtain ⟨⟨v, hv⟩, hf⟩ := hfree i hi
        exact ⟨⟨v, (hb1.cell (by exact hsz)).trans hv⟩, (hb1.frozen (by exact hsz)).trans hf⟩
      have hdone1 : Hid (∀ i, i < k → RowNew w1 w.heap.size i (rn i) (X i)) := fun i hi => (hdone.out i hi).below hb1 hsz
      obtain ⟨⟨x0, y0⟩, z0⟩ := hfree1 k hlt
      have hsz1 : w.heap.size < w1.heap.size := Nat.lt_of_lt_of_le hsz hb1.size
      have hbel1 := hbel.trans (hb1.mono hbel.size)
      clear hfree hdone hbel hb1 hck
      go_wp2
      go_roundw
      case rel => exact ⟨k + 1, by omega, by go_num, fun i hi => by
        by_cases ek : i = k
        · subst ek
          exact ⟨wr.heap.size, hsz, set_same ⟨x0, y0⟩, hs1.set (by omega) _⟩
        · exact (hdone1.out i (by omega)).put ek _, set_free hfree1, by simpa [World.setCell] using hsz1, hbel1.setCell (Nat.le_refl _) _⟩
      case measure => simp [intOf]; omega
    · go_wp2
      go_ret
      exact ⟨rfl, fun i hi => hdone.out i (by omega), hsz, hbel⟩

theorem toL_zero (a : Option Addr) (cap : Nat) (w : World) :
    Calls Try.prog 14 #[.slice a 0 cap] w fun e w' =>
      e = .returned (.slice (some ⟨w.heap.size, 0, none⟩) 0 0) ∧ w.heap.size < w'.heap.size ∧ Below w.heap.size w w' := by
  have hmk := make_ints 0 (by decide) w
  simp only [Int.ofNat_zero] at hmk
  go_enter Try.func14, Try.ntmps14
  go_wp2
  clear hmk
  refine wp_loop_rounds 1 ?_
  rw [rounds_succ]
  go_wp2
  go_ret
  exact ⟨rfl, by simp, (Below.refl _ _).alloc (Nat.le_refl _) _⟩

theorem toL_new {a : Option Addr} {n cap : Nat} {rn : Nat → Nat} {X : Nat → Nat → Int} (w : World) (hr : n * 24 ≤ 140737488351232) (hR : ∀ i, i < n → rn i * 8 ≤ 140737488351232) (h : SlL w a n cap rn X) :
    Calls Try.prog 14 #[.slice a n cap] w fun e w' =>
      e = .returned (.slice (some ⟨w.heap.size, 0, none⟩) n n) ∧ (∀ i, i < n → RowNew w' w.heap.size i (rn i) (X i)) ∧ w.heap.size < w'.heap.size ∧ Below w.heap.size w w' := by
  rcases h.cells with rfl | ⟨b, off, rfl, hb, hc⟩
  · refine (toL_zero a cap w).mono ?_
    rintro e w' ⟨rfl, hsz, hbel⟩
    exact ⟨rfl, fun i hi => absurd hi (Nat.not_lt_zero _), hsz, hbel⟩
  · exact toL_any b off n cap rn X w hr hR hb hc

theorem slL_of_new {w : World} {B n : Nat} {rn : Nat → Nat} {X : Nat → Nat → Int} (hn : n ≤ maxLen) (hB : B < w.heap.size) (h : ∀ i, i < n → RowNew w B i (rn i) (X i)) : SlL w (some ⟨B, 0, none⟩) n n rn X :=
  ⟨Nat.le_refl _, hn, Or.inr ⟨B, 0, rfl, hB, fun i hi => by rw [Nat.zero_add]; exact (h i hi).at⟩⟩

theorem toL_sl {a : Option Addr} {n cap : Nat} {rn : Nat → Nat} {X : Nat → Nat → Int} (w : World) (hr : n * 24 ≤ 140737488351232) (hR : ∀ i, i < n → rn i * 8 ≤ 140737488351232) (h : SlL w a n cap rn X) :
    Calls Try.prog 14 #[.slice a n cap] w fun e w' =>
      e = .returned (.slice (some ⟨w.heap.size, 0, none⟩) n n) ∧ SlL w' (some ⟨w.heap.size, 0, none⟩) n n rn X ∧ Below w.heap.size w w' := by
  refine (toL_new w hr hR h).mono ?_
  rintro e w' ⟨rfl, hcl, hsz, hbel⟩
  exact ⟨rfl, slL_of_new (by unfold maxLen; omega) hsz hcl, hbel⟩

/-! ### Cover -/

/-- block B holds c0, block B + 1 has m cells, block B + 1 + 1 holds c2. -/
structure TB (m : Nat) (w : World) (B : Nat) (c0 c2 : Array Value) (wx : World) : Prop where
  a0 : ∀ o, wx.cell? ⟨B, o, none⟩ = c0[o]?
  a1 : ∀ o, o < m → ∃ v, wx.cell? ⟨B + 1, o, none⟩ = some v
  a2 : ∀ o, wx.cell? ⟨B + 1 + 1, o, none⟩ = c2[o]?
  f1 : ∀ o, wx.frozen? ⟨B + 1, o, none⟩ = false
  f2 : ∀ o, wx.frozen? ⟨B + 1 + 1, o, none⟩ = false
  size : B + 1 + 1 < wx.heap.size
  hB : B = w.heap.size
  below : Below w.heap.size w wx

theorem TB.mono {m : Nat} {w wx wy : World} {B : Nat} {c0 c2 : Array Value} (h : TB m w B c0 c2 wx) (hb : Below wx.heap.size wx wy) : TB m w B c0 c2 wy :=
  have hs := h.size
  ⟨fun o => (hb.cell (by show B < _; omega)).trans (h.a0 o), fun o ho => (h.a1 o ho).imp fun _ hv => (hb.cell (by show B + 1 < _; omega)).trans hv, fun o => (hb.cell (by exact hs)).trans (h.a2 o),
    fun o => (hb.frozen (by show B + 1 < _; omega)).trans (h.f1 o), fun o => (hb.frozen (by exact hs)).trans (h.f2 o), Nat.lt_of_lt_of_le hs hb.size, h.hB, h.below.trans (hb.mono h.below.size)⟩

theorem TB.set {m : Nat} {w wx : World} {B : Nat} {c0 c2 : Array Value} (h : TB m w B c0 c2 wx) (j : Nat) (hj : j < c2.size) (x : Value) : TB m w B c0 (c2.setIfInBounds j x) (wx.setCell ⟨B + 1 + 1, j, none⟩ x) := by
  refine ⟨fun o => by rw [far_block (by omega)]; exact h.a0 o, fun o ho => by rw [far_block (by omega)]; exact h.a1 o ho, fun o => ?_, fun o => by rw [World.frozen?_setCell]; exact h.f1 o, fun o => by rw [World.frozen?_setCell]; exact h.f2 o, by simpa [World.setCell] using h.size, h.hB, h.below.setCell (by have := h.hB; show _ ≤ B + 1 + 1; omega) _⟩
  by_cases e : o = j
  · subst e
    rw [set_same ⟨c2[o], by rw [h.a2]; exact Array.getElem?_eq_getElem hj⟩]
    simp [hj]
  · rw [set_far e, h.a2, Array.getElem?_setIfInBounds_ne (by omega)]

theorem TB.start {m : Nat} {w : World} {c0 c1 c2 : Array Value} {t0 t1 t2 : TypeId} (h : c1.size = m) : TB m w w.heap.size c0 c2 (((w.alloc (.cells c0 t0)).alloc (.cells c1 t1)).alloc (.cells c2 t2)) := by
  refine ⟨fun o => ?_, fun o ho => ⟨c1[o], ?_⟩, fun o => World.cell?_alloc_at _ _ _ _ (by simp), fun o => ?_, fun o => World.frozen?_alloc_at _ _ _ _ (by simp), by simp, rfl, (((Below.refl _ _).alloc (Nat.le_refl _) _).alloc (by simp) _).alloc (by simp; omega) _⟩
  · rw [World.cell?_alloc_past _ _ _ (by simp; omega), World.cell?_alloc_past _ _ _ (by simp), World.cell?_alloc_at _ _ _ _ rfl]
  · rw [World.cell?_alloc_past _ _ _ (by simp), World.cell?_alloc_at _ _ _ _ (by simp)]
    exact Array.getElem?_eq_getElem (by omega)
  · rw [World.frozen?_alloc_past _ _ _ (by simp)]
    exact World.frozen?_alloc_at _ _ _ _ (by simp)

set_option maxHeartbeats 1000000 in
theorem toC_sl {sa : Option Addr} {ns cs : Nat} {ra : Option Addr} {nr cr : Nat} {C Q : Nat → Int} {rn : Nat → Nat} {X : Nat → Nat → Int} (w : World)
    (hrs : ns * 16 ≤ 140737488351232) (hrr : nr * 24 ≤ 140737488351232) (hR : ∀ i, i < nr → rn i * 8 ≤ 140737488351232) (hp : SlP w sa ns cs C Q) (hl : SlL w ra nr cr rn X) :
    Calls Try.prog 13 #[.agg #[.slice sa ns cs, .slice ra nr cr]] w fun e w' =>
      ∃ bs br : Nat, e = .returned (.agg #[.slice (some ⟨bs, 0, none⟩) ns ns, .slice (some ⟨br, 0, none⟩) nr nr]) ∧
        SlP w' (some ⟨bs, 0, none⟩) ns ns C Q ∧ (∀ i, i < nr → RowNew w' br i (rn i) (X i)) ∧ Below w.heap.size w w' ∧ w.heap.size ≤ bs ∧ bs < br ∧ br < w'.heap.size := by
  go_enter Try.func13, Try.ntmps13
  go_wp2_with fail
  refine (toP_sl _ hrs (hp.below (TB.start (m := 2) rfl).below)).mono ?_
  rintro e w1 ⟨rfl, hp1, hz0', hb1⟩
  have h1 := (TB.start (m := 2) rfl).mono hb1
  have a0 := h1.a0
  have a2 := h1.a2
  have f2 := h1.f2
  go_wp2_with fail
  have h1s := h1.set 0 (by simp) (.slice (some ⟨w.heap.size + 1 + 1 + 1, 0, none⟩) ns ns)
  refine (toL_new _ hrr hR (hl.below h1s.below)).mono ?_
  rintro e w2 ⟨rfl, hl2, hz2', hb2⟩
  have h2 := h1s.mono hb2
  clear a0 a2 f2
  have a2 := h2.a2
  have f2 := h2.f2
  have f1 := h2.f1
  obtain ⟨x0, y0⟩ := h2.a1 0 (by decide)
  obtain ⟨x1, y1⟩ := h2.a1 1 (by decide)
  have hz1 := h1.size
  have hz2 := h2.size
  have hp1' : SlP w1 (some ⟨w.heap.size + 1 + 1 + 1, 0, none⟩) ns ns C Q := by simpa using hp1
  have hl2' : Hid (∀ i, i < nr → RowNew w2 w1.heap.size i (rn i) (X i)) := by unfold Hid; simpa [World.setCell] using hl2
  have hz3 : w1.heap.size < w2.heap.size := by simpa [World.setCell] using hz2'
  have hz0 : w.heap.size + 1 + 1 + 1 < w1.heap.size := by simpa using hz0'
  have hp3 := (hp1'.set (C := w.heap.size + 1 + 1) (j := 0) (by omega) (.slice (some ⟨w.heap.size + 1 + 1 + 1, 0, none⟩) ns ns)).below hb2
  clear hp1 hl2 hp hl hp1' h1s hb1 hb2 hz2' hR
  go_wp2
  refine bodyPost_ret (v := .agg #[.slice (some ⟨w.heap.size + 1 + 1 + 1, 0, none⟩) ns ns, .slice (some ⟨w1.heap.size, 0, none⟩) nr nr])
    (by simp [results, Try.results13, go_sem, y0, y1]) rfl ⟨_, _, rfl, ?_, ?_, ?_, by omega, by omega, by simpa [World.setCell] using hz3⟩
  · iterate 3 (refine SlP.set ?_ (by omega) _)
    exact hp3
  · intro i hi
    iterate 3 (refine RowNew.set ?_ (by omega) _)
    exact hl2'.out i hi
  · iterate 2 (refine Below.setCell ?_ (Nat.le_add_right _ _) _)
    refine Below.setCell ?_ (Nat.le_add_right _ 2) _
    exact h2.below
end Go.Proofs.Ytjmhdjjkfglbgab
