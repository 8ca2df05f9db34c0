import Derived.Test.YtpdnocfefmobjaaToS
namespace Go.Proofs.Ytpdnocfefmobjaa
open Go.RowKit

/-- n grants' cells, all zero. -/
def mkG (n : Nat) : Array Value := madeCells #[.string ByteArray.empty, .int .i64 0] (n * 2)
theorem mkG_size (n : Nat) : (mkG n).size = n * 2 := size_madeCells _ _
theorem Try.infoGrant : (Try.prog.info? 69).map (fun i => (i.zero, i.size, i.bytes)) = some (some (.agg #[.string ByteArray.empty, .int .i64 0]), 2, 24) := by kernel_rfl

theorem make_gr (n : Nat) (h : n * 24 ≤ 140737488351232) (W : World) :
    (Instr.makeSlice 37 (.int .i64 (n : Int)) (.int .i64 (n : Int))).run Try.prog W = .ok (.slice (some ⟨W.heap.size, 0, none⟩) n n) (W.alloc (.cells (mkG n) 69)) := by
  obtain ⟨i0, hi, hz0, hz1, hz2⟩ := info_parts Try.infoGrant
  have := run_make (P := Try.prog) W 37 69 i0 (.agg #[.string ByteArray.empty, .int .i64 0]) Try.underlying37 hi hz0 .i64 .i64 (n : Int) (n : Int) (by omega) (by omega) (by rw [hz2]; omega) (by omega)
  rw [this, hz1]
  simp [mkG, Value.cells]

set_option maxHeartbeats 400000 in
theorem toG1_any (s : ByteArray) (lv : Int) (w : World) :
    Calls Try.prog 37 #[.agg #[.string s, .int .i64 lv]] w fun e w' => e = .returned (.agg #[.string s, .int .i64 lv]) ∧ Below w.heap.size w w' := by
  go_enter Try.func37, Try.ntmps37
  go_wp2
  exact bodyPost_ret (v := .agg #[.string s, .int .i64 lv]) (by simp [results, Try.results37, go_sem]) rfl ⟨rfl, by repeat' (first | exact Below.refl _ _ | exact Nat.le_refl _ | (refine Below.alloc ?_ ?_ _) | (simp; done) | (simp; omega))⟩

theorem set2_done {wr : World} {B k n : Nat} {f g : Nat → Value} (h : ∀ i, i < k → wr.cell? ⟨B, i * 2, none⟩ = some (f i) ∧ wr.cell? ⟨B, i * 2 + 1, none⟩ = some (g i))
    (hf : ∀ i, i < n * 2 → (∃ v, wr.cell? ⟨B, i, none⟩ = some v) ∧ wr.frozen? ⟨B, i, none⟩ = false) (hk : k < n) (i : Nat) (hi : i < k + 1) :
    ((wr.setCell ⟨B, k * 2, none⟩ (f k)).setCell ⟨B, k * 2 + 1, none⟩ (g k)).cell? ⟨B, i * 2, none⟩ = some (f i) ∧ ((wr.setCell ⟨B, k * 2, none⟩ (f k)).setCell ⟨B, k * 2 + 1, none⟩ (g k)).cell? ⟨B, i * 2 + 1, none⟩ = some (g i) := by
  by_cases e : i = k
  · subst e
    refine ⟨?_, set_same ?_⟩
    · rw [set_far (by omega)]; exact set_same (hf _ (by omega)).1
    · rw [set_far (by omega)]; exact (hf _ (by omega)).1
  · rw [set_far (by omega), set_far (by omega), set_far (by omega), set_far (by omega)]; exact h i (by omega)

set_option maxHeartbeats 400000 in
theorem toG_any (b off n cap : Nat) (M : Nat → ByteArray) (L : Nat → Int) (w : World) (hr : n * 24 ≤ 140737488351232) (hb : b < w.heap.size)
    (hc : ∀ i, i < n → w.cell? ⟨b, off + i * 2, none⟩ = some (.string (M i)))
    (hl : ∀ i, i < n → w.cell? ⟨b, off + i * 2 + 1, none⟩ = some (.int .i64 (L i))) :
    Calls Try.prog 23 #[.slice (some ⟨b, off, none⟩) n cap] w fun e w' =>
      e = .returned (.slice (some ⟨w.heap.size, 0, none⟩) n n) ∧ (∀ i, i < n → w'.cell? ⟨w.heap.size, i * 2, none⟩ = some (.string (M i)) ∧ w'.cell? ⟨w.heap.size, i * 2 + 1, none⟩ = some (.int .i64 (L i))) ∧ w.heap.size < w'.heap.size ∧ Below w.heap.size w w' := by
  have hmk := make_gr n hr w
  go_enter Try.func23, Try.ntmps23
  go_wp2
  clear hmk
  go_loopw [4] (fun i wr => ∃ k : Nat, k ≤ n ∧ i = .int .i64 k ∧ Hid (∀ i, i < k → wr.cell? ⟨w.heap.size, i * 2, none⟩ = some (.string (M i)) ∧ wr.cell? ⟨w.heap.size, i * 2 + 1, none⟩ = some (.int .i64 (L i))) ∧ Hid (∀ i, i < n * 2 → (∃ v, wr.cell? ⟨w.heap.size, i, none⟩ = some v) ∧ wr.frozen? ⟨w.heap.size, i, none⟩ = false) ∧ w.heap.size < wr.heap.size ∧ Below w.heap.size w wr) (fun i _ => n - (intOf i).toNat)
  case atStart => exact ⟨0, Nat.zero_le _, rfl, fun i hi => absurd hi (Nat.not_lt_zero _), fun i hi => ⟨cell_made _ _ _ _ (by rw [mkG_size]; exact hi), World.frozen?_alloc_at _ _ _ _ rfl⟩, by simp, (Below.refl _ _).alloc (Nat.le_refl _) _⟩
  case round =>
    obtain ⟨k, hk, rfl, hdone, hfree, hsz, hbel⟩ := hrel
    by_cases hlt : k < n
    · have hck : wr.cell? ⟨b, off + k * 2, none⟩ = some (.string (M k)) := (hbel.cell (by exact hb)).trans (hc k hlt)
      have hlk : wr.cell? ⟨b, off + k * 2 + 1, none⟩ = some (.int .i64 (L k)) := (hbel.cell (by exact hb)).trans (hl k hlt)
      go_wp2_with fail
      refine (toG1_any (M k) (L k) wr).mono ?_
      rintro e w1 ⟨rfl, hb1⟩
      have hfree1 : ∀ i, i < n * 2 → (∃ v, w1.cell? ⟨w.heap.size, i, none⟩ = some v) ∧ w1.frozen? ⟨w.heap.size, i, none⟩ = false := fun i hi => by
        obtain ⟨⟨v, hv⟩, hf⟩ := hfree.out i hi
        exact ⟨⟨v, (hb1.cell (by exact hsz)).trans hv⟩, (hb1.frozen (by exact hsz)).trans hf⟩
      have hdone1 : Hid (∀ i, i < k → w1.cell? ⟨w.heap.size, i * 2, none⟩ = some (.string (M i)) ∧ w1.cell? ⟨w.heap.size, i * 2 + 1, none⟩ = some (.int .i64 (L i))) := fun i hi =>
        ⟨(hb1.cell (by exact hsz)).trans (hdone.out i hi).1, (hb1.cell (by exact hsz)).trans (hdone.out i hi).2⟩
      obtain ⟨⟨v0, hv0⟩, hf0⟩ := hfree1 (k * 2) (by omega)
      obtain ⟨⟨v1, hv1⟩, hf1⟩ := hfree1 (k * 2 + 1) (by omega)
      have HF : Hid (_) := hfree1
      have hsz1 : w.heap.size < w1.heap.size := Nat.lt_of_lt_of_le hsz hb1.size
      clear hfree1
      go_wp2
      go_roundw
      case rel => exact ⟨k + 1, by omega, by go_num, set2_done (f := fun i => .string (M i)) (g := fun i => .int .i64 (L i)) hdone1.out HF.out hlt, set_free (set_free HF.out), by simpa [World.setCell] using hsz1, ((hbel.trans (hb1.mono hbel.size)).setCell (Nat.le_refl _) _).setCell (Nat.le_refl _) _⟩
      case measure => simp [intOf]; omega
    · go_wp2
      go_ret
      exact ⟨rfl, fun i hi => hdone.out i (by omega), hsz, hbel⟩

theorem toG_zero (a : Option Addr) (cap : Nat) (w : World) :
    Calls Try.prog 23 #[.slice a 0 cap] w fun e w' =>
      e = .returned (.slice (some ⟨w.heap.size, 0, none⟩) 0 0) ∧ w.heap.size < w'.heap.size ∧ Below w.heap.size w w' := by
  have hmk := make_gr 0 (by decide) w
  simp only [Int.ofNat_zero] at hmk
  go_enter Try.func23, Try.ntmps23
  go_wp2
  clear hmk
  refine wp_loop_rounds 1 ?_
  rw [rounds_succ]
  go_wp2
  go_ret
  exact ⟨rfl, by simp, (Below.refl _ _).alloc (Nat.le_refl _) _⟩

theorem toG_sl {a : Option Addr} {n cap : Nat} {M : Nat → ByteArray} {L : Nat → Int} (w : World) (hr : n * 24 ≤ 140737488351232) (h : SlG w a n cap M L) :
    Calls Try.prog 23 #[.slice a n cap] w fun e w' =>
      e = .returned (.slice (some ⟨w.heap.size, 0, none⟩) n n) ∧ SlG w' (some ⟨w.heap.size, 0, none⟩) n n M L ∧ Below w.heap.size w w' := by
  rcases h.cells with rfl | ⟨b, off, rfl, hb, hc, hl⟩
  · refine (toG_zero a cap w).mono ?_
    rintro e w' ⟨rfl, hsz, hbel⟩
    exact ⟨rfl, ⟨Nat.le_refl _, by decide, h.size, Or.inl rfl⟩, hbel⟩
  · refine (toG_any b off n cap M L w hr hb hc hl).mono ?_
    rintro e w' ⟨rfl, hcl, hsz, hbel⟩
    exact ⟨rfl, ⟨Nat.le_refl _, by unfold maxLen; omega, h.size, Or.inr ⟨_, 0, rfl, hsz, fun i hi => by rw [Nat.zero_add]; exact (hcl i hi).1, fun i hi => by rw [Nat.zero_add]; exact (hcl i hi).2⟩⟩, hbel⟩
end Go.Proofs.Ytpdnocfefmobjaa
