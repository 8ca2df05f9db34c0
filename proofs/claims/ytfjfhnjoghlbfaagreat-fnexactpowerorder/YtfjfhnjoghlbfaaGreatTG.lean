import Derived.Test.YtfjfhnjoghlbfaaGreatSl
import Derived.Test.YtfjfhnjoghlbfaaGreatProg
namespace Go.Proofs.YtfjfhnjoghlbfaaGreat
open Go.RowKit

/-- n cells with the zero text. -/
def mkS (n : Nat) : Array Value := madeCells #[.string ByteArray.empty] n
theorem mkS_size (n : Nat) : (mkS n).size = n := size_madeCells _ _
theorem Tryz.infoStr : (Tryz.prog.info? 9).map (fun i => (i.zero, i.size, i.bytes)) = some (some (.string ByteArray.empty), 1, 16) := by kernel_rfl

theorem make_str (n : Nat) (h : n * 16 ≤ 140737488351232) (W : World) :
    (Instr.makeSlice 25 (.int .i64 (n : Int)) (.int .i64 (n : Int))).run Tryz.prog W = .ok (.slice (some ⟨W.heap.size, 0, none⟩) n n) (W.alloc (.cells (mkS n) 9)) := by
  obtain ⟨i0, hi, hz0, hz1, hz2⟩ := info_parts Tryz.infoStr
  have := run_make (P := Tryz.prog) W 25 9 i0 (.string ByteArray.empty) Tryz.underlying25 hi hz0 .i64 .i64 (n : Int) (n : Int) (by omega) (by omega) (by rw [hz2]; omega) (by omega)
  rw [this, hz1]
  simp [mkS, Value.cells]

set_option maxHeartbeats 400000 in
theorem toS_any (b off n cap : Nat) (S : Nat → ByteArray) (w : World) (hr : n * 16 ≤ 140737488351232) (hb : b < w.heap.size)
    (hc : ∀ i, i < n → w.cell? ⟨b, off + i, none⟩ = some (.string (S i))) :
    Calls Tryz.prog 8 #[.slice (some ⟨b, off, none⟩) n cap] w fun e w' =>
      e = .returned (.slice (some ⟨w.heap.size, 0, none⟩) n n) ∧ (∀ i, i < n → w'.cell? ⟨w.heap.size, i, none⟩ = some (.string (S i))) ∧ w.heap.size < w'.heap.size ∧ Below w.heap.size w w' := by
  have hmk := make_str n hr w
  go_enter Tryz.func8, Tryz.ntmps8
  go_wp2
  clear hmk
  go_loopw [4] (fun i wr => ∃ k : Nat, k ≤ n ∧ i = .int .i64 k ∧ Hid (∀ i, i < k → wr.cell? ⟨w.heap.size, i, none⟩ = some (.string (S i))) ∧ Hid (∀ i, i < n → (∃ v, wr.cell? ⟨w.heap.size, i, none⟩ = some v) ∧ wr.frozen? ⟨w.heap.size, i, none⟩ = false) ∧ w.heap.size < wr.heap.size ∧ Below w.heap.size w wr) (fun i _ => n - (intOf i).toNat)
  case atStart => exact ⟨0, Nat.zero_le _, rfl, fun i hi => absurd hi (Nat.not_lt_zero _), fun i hi => ⟨cell_made _ _ _ _ (by rw [mkS_size]; exact hi), World.frozen?_alloc_at _ _ _ _ rfl⟩, by simp, (Below.refl _ _).alloc (Nat.le_refl _) _⟩
  case round =>
    obtain ⟨k, hk, rfl, hdone, hfree, hsz, hbel⟩ := hrel
    by_cases hlt : k < n
    · have hck : wr.cell? ⟨b, off + k, none⟩ = some (.string (S k)) := (hbel.cell (by exact hb)).trans (hc k hlt)
      obtain ⟨⟨v0, hv0⟩, hf0⟩ := hfree.out k hlt
      go_wp2
      go_roundw
      case rel => exact ⟨k + 1, by omega, by go_num, set_done (f := fun i => .string (S i)) hdone.out ⟨v0, hv0⟩, set_free hfree.out, by simpa [World.setCell] using hsz, hbel.setCell (Nat.le_refl _) _⟩
      case measure => simp [intOf]; omega
    · go_wp2
      go_ret
      exact ⟨rfl, fun i hi => hdone.out i (by omega), hsz, hbel⟩

theorem toS_zero (a : Option Addr) (cap : Nat) (w : World) :
    Calls Tryz.prog 8 #[.slice a 0 cap] w fun e w' =>
      e = .returned (.slice (some ⟨w.heap.size, 0, none⟩) 0 0) ∧ w.heap.size < w'.heap.size ∧ Below w.heap.size w w' := by
  have hmk := make_str 0 (by decide) w
  simp only [Int.ofNat_zero] at hmk
  go_enter Tryz.func8, Tryz.ntmps8
  go_wp2
  clear hmk
  refine wp_loop_rounds 1 ?_
  rw [rounds_succ]
  go_wp2
  go_ret
  exact ⟨rfl, by simp, (Below.refl _ _).alloc (Nat.le_refl _) _⟩

theorem toS_sl {a : Option Addr} {n cap : Nat} {S : Nat → ByteArray} (w : World) (hr : n * 16 ≤ 140737488351232) (h : SlS w a n cap S) :
    Calls Tryz.prog 8 #[.slice a n cap] w fun e w' =>
      e = .returned (.slice (some ⟨w.heap.size, 0, none⟩) n n) ∧ SlS w' (some ⟨w.heap.size, 0, none⟩) n n S ∧ Below w.heap.size w w' := by
  rcases h.cells with rfl | ⟨b, off, rfl, hb, hc⟩
  · refine (toS_zero a cap w).mono ?_
    rintro e w' ⟨rfl, hsz, hbel⟩
    exact ⟨rfl, ⟨Nat.le_refl _, by decide, h.size, Or.inl rfl⟩, hbel⟩
  · refine (toS_any b off n cap S w hr hb hc).mono ?_
    rintro e w' ⟨rfl, hcl, hsz, hbel⟩
    exact ⟨rfl, ⟨Nat.le_refl _, by unfold maxLen; omega, h.size, Or.inr ⟨_, 0, rfl, hsz, fun i hi => by rw [Nat.zero_add]; exact hcl i hi⟩⟩, hbel⟩
end Go.Proofs.YtfjfhnjoghlbfaaGreat
namespace Go.Proofs.YtfjfhnjoghlbfaaGreat
open Go.RowKit

/-- n grants' cells, all zero. -/
def mkG (n : Nat) : Array Value := madeCells #[.string ByteArray.empty, .int .i64 0] (n * 2)
theorem mkG_size (n : Nat) : (mkG n).size = n * 2 := size_madeCells _ _
theorem Tryz.infoGrant : (Tryz.prog.info? 111).map (fun i => (i.zero, i.size, i.bytes)) = some (some (.agg #[.string ByteArray.empty, .int .i64 0]), 2, 24) := by kernel_rfl

theorem make_gr (n : Nat) (h : n * 24 ≤ 140737488351232) (W : World) :
    (Instr.makeSlice 66 (.int .i64 (n : Int)) (.int .i64 (n : Int))).run Tryz.prog W = .ok (.slice (some ⟨W.heap.size, 0, none⟩) n n) (W.alloc (.cells (mkG n) 111)) := by
  obtain ⟨i0, hi, hz0, hz1, hz2⟩ := info_parts Tryz.infoGrant
  have := run_make (P := Tryz.prog) W 66 111 i0 (.agg #[.string ByteArray.empty, .int .i64 0]) Tryz.underlying66 hi hz0 .i64 .i64 (n : Int) (n : Int) (by omega) (by omega) (by rw [hz2]; omega) (by omega)
  rw [this, hz1]
  simp [mkG, Value.cells]

set_option maxHeartbeats 400000 in
theorem toG1_any (s : ByteArray) (lv : Int) (w : World) :
    Calls Tryz.prog 78 #[.agg #[.string s, .int .i64 lv]] w fun e w' => e = .returned (.agg #[.string s, .int .i64 lv]) ∧ Below w.heap.size w w' := by
  go_enter Tryz.func78, Tryz.ntmps78
  go_wp2
  exact bodyPost_ret (v := .agg #[.string s, .int .i64 lv]) (by simp [results, Tryz.results78, go_sem]) rfl ⟨rfl, by repeat' (first | exact Below.refl _ _ | exact Nat.le_refl _ | (refine Below.alloc ?_ ?_ _) | (simp; done) | (simp; omega))⟩

theorem set2_done {wr : World} {B k n : Nat} {f g : Nat → Value} (h : ∀ i, i < k → wr.cell? ⟨B, i * 2, none⟩ = some (f i) ∧ wr.cell? ⟨B, i * 2 + 1, none⟩ = some (g i))
    (hf : ∀ i, i < n * 2 → (∃ v, wr.cell? ⟨B, i, none⟩ = some v) ∧ wr.frozen? ⟨B, i, none⟩ = false) (hk : k < n) (i : Nat) (hi : i < k + 1) :
    ((wr.setCell ⟨B, k * 2, none⟩ (f k)).setCell ⟨B, k * 2 + 1, none⟩ (g k)).cell? ⟨B, i * 2, none⟩ = some (f i) ∧ ((wr.setCell ⟨B, k * 2, none⟩ (f k)).setCell ⟨B, k * 2 + 1, none⟩ (g k)).cell? ⟨B, i * 2 + 1, none⟩ = some (g i) := by
  by_cases e : i = k
  · subst e
    refine ⟨?_, set_same ?_⟩
    · rw [set_far (by omega)]; exact set_same (hf _ (by omega)).1
    · rw [set_far (by omega)]; exact (hf _ (by omega)).1
  · rw [set_far (by omega), set_far (by omega), set_far (by omega), set_far (by omega)]; exact h i (by omega)

set_option maxHeartbeats 400000 in
theorem toG_any (b off n cap : Nat) (M : Nat → ByteArray) (L : Nat → Int) (w : World) (hr : n * 24 ≤ 140737488351232) (hb : b < w.heap.size)
    (hc : ∀ i, i < n → w.cell? ⟨b, off + i * 2, none⟩ = some (.string (M i)))
    (hl : ∀ i, i < n → w.cell? ⟨b, off + i * 2 + 1, none⟩ = some (.int .i64 (L i))) :
    Calls Tryz.prog 55 #[.slice (some ⟨b, off, none⟩) n cap] w fun e w' =>
      e = .returned (.slice (some ⟨w.heap.size, 0, none⟩) n n) ∧ (∀ i, i < n → w'.cell? ⟨w.heap.size, i * 2, none⟩ = some (.string (M i)) ∧ w'.cell? ⟨w.heap.size, i * 2 + 1, none⟩ = some (.int .i64 (L i))) ∧ w.heap.size < w'.heap.size ∧ Below w.heap.size w w' := by
  have hmk := make_gr n hr w
  go_enter Tryz.func55, Tryz.ntmps55
  go_wp2
  clear hmk
  go_loopw [4] (fun i wr => ∃ k : Nat, k ≤ n ∧ i = .int .i64 k ∧ Hid (∀ i, i < k → wr.cell? ⟨w.heap.size, i * 2, none⟩ = some (.string (M i)) ∧ wr.cell? ⟨w.heap.size, i * 2 + 1, none⟩ = some (.int .i64 (L i))) ∧ Hid (∀ i, i < n * 2 → (∃ v, wr.cell? ⟨w.heap.size, i, none⟩ = some v) ∧ wr.frozen? ⟨w.heap.size, i, none⟩ = false) ∧ w.heap.size < wr.heap.size ∧ Below w.heap.size w wr) (fun i _ => n - (intOf i).toNat)
  case atStart => exact ⟨0, Nat.zero_le _, rfl, fun i hi => absurd hi (Nat.not_lt_zero _), fun i hi => ⟨cell_made _ _ _ _ (by rw [mkG_size]; exact hi), World.frozen?_alloc_at _ _ _ _ rfl⟩, by simp, (Below.refl _ _).alloc (Nat.le_refl _) _⟩
  case round =>
    obtain ⟨k, hk, rfl, hdone, hfree, hsz, hbel⟩ := hrel
    by_cases hlt : k < n
    · have hck : wr.cell? ⟨b, off + k * 2, none⟩ = some (.string (M k)) := (hbel.cell (by exact hb)).trans (hc k hlt)
      have hlk : wr.cell? ⟨b, off + k * 2 + 1, none⟩ = some (.int .i64 (L k)) := (hbel.cell (by exact hb)).trans (hl k hlt)
      go_wp2_with fail
      refine (toG1_any (M k) (L k) wr).mono ?_
      rintro e w1 ⟨rfl, hb1⟩
      have hfree1 : ∀ i, i < n * 2 → (∃ v, w1.cell? ⟨w.heap.size, i, none⟩ = some v) ∧ w1.frozen? ⟨w.heap.size, i, none⟩ = false := fun i hi => by
        obtain ⟨⟨v, hv⟩, hf⟩ := hfree.out i hi
        exact ⟨⟨v, (hb1.cell (by exact hsz)).trans hv⟩, (hb1.frozen (by exact hsz)).trans hf⟩
      have hdone1 : Hid (∀ i, i < k → w1.cell? ⟨w.heap.size, i * 2, none⟩ = some (.string (M i)) ∧ w1.cell? ⟨w.heap.size, i * 2 + 1, none⟩ = some (.int .i64 (L i))) := fun i hi =>
        ⟨(hb1.cell (by exact hsz)).trans (hdone.out i hi).1, (hb1.cell (by exact hsz)).trans (hdone.out i hi).2⟩
      obtain ⟨⟨v0, hv0⟩, hf0⟩ := hfree1 (k * 2) (by omega)
      obtain ⟨⟨v1, hv1⟩, hf1⟩ := hfree1 (k * 2 + 1) (by omega)
      have HF : Hid (_) := hfree1
      have hsz1 : w.heap.size < w1.heap.size := Nat.lt_of_lt_of_le hsz hb1.size
      clear hfree1
      go_wp2
      go_roundw
      case rel => exact ⟨k + 1, by omega, by go_num, set2_done (f := fun i => .string (M i)) (g := fun i => .int .i64 (L i)) hdone1.out HF.out hlt, set_free (set_free HF.out), by simpa [World.setCell] using hsz1, ((hbel.trans (hb1.mono hbel.size)).setCell (Nat.le_refl _) _).setCell (Nat.le_refl _) _⟩
      case measure => simp [intOf]; omega
    · go_wp2
      go_ret
      exact ⟨rfl, fun i hi => hdone.out i (by omega), hsz, hbel⟩

theorem toG_zero (a : Option Addr) (cap : Nat) (w : World) :
    Calls Tryz.prog 55 #[.slice a 0 cap] w fun e w' =>
      e = .returned (.slice (some ⟨w.heap.size, 0, none⟩) 0 0) ∧ w.heap.size < w'.heap.size ∧ Below w.heap.size w w' := by
  have hmk := make_gr 0 (by decide) w
  simp only [Int.ofNat_zero] at hmk
  go_enter Tryz.func55, Tryz.ntmps55
  go_wp2
  clear hmk
  refine wp_loop_rounds 1 ?_
  rw [rounds_succ]
  go_wp2
  go_ret
  exact ⟨rfl, by simp, (Below.refl _ _).alloc (Nat.le_refl _) _⟩

theorem toG_sl {a : Option Addr} {n cap : Nat} {M : Nat → ByteArray} {L : Nat → Int} (w : World) (hr : n * 24 ≤ 140737488351232) (h : SlG w a n cap M L) :
    Calls Tryz.prog 55 #[.slice a n cap] w fun e w' =>
      e = .returned (.slice (some ⟨w.heap.size, 0, none⟩) n n) ∧ SlG w' (some ⟨w.heap.size, 0, none⟩) n n M L ∧ Below w.heap.size w w' := by
  rcases h.cells with rfl | ⟨b, off, rfl, hb, hc, hl⟩
  · refine (toG_zero a cap w).mono ?_
    rintro e w' ⟨rfl, hsz, hbel⟩
    exact ⟨rfl, ⟨Nat.le_refl _, by decide, h.size, Or.inl rfl⟩, hbel⟩
  · refine (toG_any b off n cap M L w hr hb hc hl).mono ?_
    rintro e w' ⟨rfl, hcl, hsz, hbel⟩
    exact ⟨rfl, ⟨Nat.le_refl _, by unfold maxLen; omega, h.size, Or.inr ⟨_, 0, rfl, hsz, fun i hi => by rw [Nat.zero_add]; exact (hcl i hi).1, fun i hi => by rw [Nat.zero_add]; exact (hcl i hi).2⟩⟩, hbel⟩
end Go.Proofs.YtfjfhnjoghlbfaaGreat
namespace Go.Proofs.YtfjfhnjoghlbfaaGreat
open Go.RowKit

/-! ### szStringS -/

theorem szS_zero (a : Option Addr) (cap : Nat) (l : Int) (w : World) (h0 : 0 ≤ l) (h1 : l ≤ 1048576) :
    Calls Tryz.prog 5 #[.slice a 0 cap, .int .i64 l] w fun e w' => e = .returned (.int .i64 l) ∧ w' = w := by
  go_enter Tryz.func5, Tryz.ntmps5
  go_wp2
  refine wp_loop_rounds 1 ?_
  rw [rounds_succ]
  go_wp2
  go_ret
  exact ⟨rfl, rfl⟩

set_option maxHeartbeats 400000 in
theorem szS_any (b off n cap : Nat) (S : Nat → ByteArray) (l : Int) (w : World) (h0 : 0 ≤ l) (h1 : l ≤ 1048576) (hn : n ≤ maxLen)
    (hs : ∀ i, i < n → (S i).size ≤ maxLen)
    (hc : ∀ i, i < n → w.cell? ⟨b, off + i, none⟩ = some (.string (S i))) :
    Calls Tryz.prog 5 #[.slice (some ⟨b, off, none⟩) n cap, .int .i64 l] w fun e w' => ∃ r : Int, e = .returned (.int .i64 r) ∧ -1 ≤ r ∧ r ≤ l ∧ w' = w := by
  unfold maxLen at hn
  by_cases hneg : l - n < 0
  · go_enter Tryz.func5, Tryz.ntmps5
    go_wp2
    go_ret
    exact ⟨-1, rfl, by omega, by omega, rfl⟩
  · go_enter Tryz.func5, Tryz.ntmps5
    go_wp2
    go_loop [1, 5] (fun s1 i => ∃ (k : Nat) (r : Int), k ≤ n ∧ i = .int .i64 k ∧ s1 = .int .i64 r ∧ 0 ≤ r ∧ r ≤ l) (fun _ i => n - (intOf i).toNat)
    case atStart => exact ⟨0, _, Nat.zero_le _, rfl, rfl, by omega, by omega⟩
    case round =>
      obtain ⟨k, r, hk, rfl, rfl, hr0, hr1⟩ := hrel
      by_cases hlt : k < n
      · have hck := hc k hlt
        have hlen := hs k hlt
        unfold maxLen at hlen
        by_cases hn2 : r - ((S k).size : Int) < 0
        · go_wp2
          go_ret
          exact ⟨-1, rfl, by omega, by omega, rfl⟩
        · go_wp2
          go_round
          case rel => exact ⟨k + 1, _, by omega, by go_num, rfl, by omega, by omega⟩
          case measure => simp [intOf]; omega
      · go_wp2
        go_ret
        exact ⟨r, rfl, by omega, by omega, rfl⟩

theorem szS_sl {a : Option Addr} {n cap : Nat} {S : Nat → ByteArray} (l : Int) (w : World) (h0 : 0 ≤ l) (h1 : l ≤ 1048576) (h : SlS w a n cap S) :
    Calls Tryz.prog 5 #[.slice a n cap, .int .i64 l] w fun e w' => ∃ r : Int, e = .returned (.int .i64 r) ∧ -1 ≤ r ∧ r ≤ l ∧ w' = w := by
  rcases h.cells with rfl | ⟨b, off, rfl, hb, hc⟩
  · refine (szS_zero a cap l w h0 h1).mono ?_
    rintro e w' ⟨rfl, rfl⟩
    exact ⟨l, rfl, by omega, by omega, rfl⟩
  · exact szS_any b off n cap S l w h0 h1 (Nat.le_trans h.le h.max) h.size hc

/-! ### szGrantS -/

theorem szG1_any (s : ByteArray) (lv l : Int) (w : World) (h0 : 0 ≤ l) (h1 : l ≤ 1048576) (hs : s.size ≤ maxLen) :
    Calls Tryz.prog 73 #[.agg #[.string s, .int .i64 lv], .int .i64 l] w fun e w' => ∃ r : Int, e = .returned (.int .i64 r) ∧ -1 ≤ r ∧ r ≤ l ∧ w' = w.alloc (.cells #[.string s, .int .i64 lv] 113) := by
  unfold maxLen at hs
  by_cases hneg : l - s.size < 0
  · go_enter Tryz.func73, Tryz.ntmps73
    go_wp2
    go_ret
    exact ⟨-1, rfl, by omega, by omega, rfl⟩
  · go_enter Tryz.func73, Tryz.ntmps73
    go_wp2
    go_ret
    exact ⟨_, rfl, by omega, by omega, rfl⟩

theorem szG_zero (a : Option Addr) (cap : Nat) (l : Int) (w : World) (h0 : 0 ≤ l) (h1 : l ≤ 1048576) :
    Calls Tryz.prog 49 #[.slice a 0 cap, .int .i64 l] w fun e w' => e = .returned (.int .i64 l) ∧ w' = w := by
  go_enter Tryz.func49, Tryz.ntmps49
  go_wp2
  refine wp_loop_rounds 1 ?_
  rw [rounds_succ]
  go_wp2
  go_ret
  exact ⟨rfl, rfl⟩

set_option maxHeartbeats 400000 in
theorem szG_any (b off n cap : Nat) (M : Nat → ByteArray) (L : Nat → Int) (l : Int) (w : World) (h0 : 0 ≤ l) (h1 : l ≤ 1048576) (hn : n ≤ maxLen) (hb : b < w.heap.size)
    (hs : ∀ i, i < n → (M i).size ≤ maxLen)
    (hc : ∀ i, i < n → w.cell? ⟨b, off + i * 2, none⟩ = some (.string (M i)))
    (hl : ∀ i, i < n → w.cell? ⟨b, off + i * 2 + 1, none⟩ = some (.int .i64 (L i))) :
    Calls Tryz.prog 49 #[.slice (some ⟨b, off, none⟩) n cap, .int .i64 l] w fun e w' => ∃ r : Int, e = .returned (.int .i64 r) ∧ -1 ≤ r ∧ r ≤ l ∧ Below w.heap.size w w' := by
  unfold maxLen at hn
  by_cases hneg : l - n < 0
  · go_enter Tryz.func49, Tryz.ntmps49
    go_wp2
    go_ret
    exact ⟨-1, rfl, by omega, by omega, Below.refl _ _⟩
  · go_enter Tryz.func49, Tryz.ntmps49
    go_wp2
    go_loopw [1, 5] (fun s1 i wr => ∃ (k : Nat) (r : Int), k ≤ n ∧ i = .int .i64 k ∧ s1 = .int .i64 r ∧ 0 ≤ r ∧ r ≤ l ∧ Below w.heap.size w wr) (fun _ i _ => n - (intOf i).toNat)
    case atStart => exact ⟨0, _, Nat.zero_le _, rfl, rfl, by omega, by omega, Below.refl _ _⟩
    case round =>
      obtain ⟨k, r, hk, rfl, rfl, hr0, hr1, hbel⟩ := hrel
      by_cases hlt : k < n
      · have hck : wr.cell? ⟨b, off + k * 2, none⟩ = some (.string (M k)) := (hbel.cell (by exact hb)).trans (hc k hlt)
        have hlk : wr.cell? ⟨b, off + k * 2 + 1, none⟩ = some (.int .i64 (L k)) := (hbel.cell (by exact hb)).trans (hl k hlt)
        have hlen := hs k hlt
        go_wp2_with (go_at_call 73; refine (szG1_any _ _ _ _ (by assumption) (by omega) hlen).mono ?_; rintro e w' ⟨r', rfl, hr2, hr3, rfl⟩)
        · go_ret
          exact ⟨-1, rfl, by omega, by omega, hbel.alloc hbel.size _⟩
        · go_roundw
          case rel => exact ⟨k + 1, r', by omega, by go_num, rfl, by assumption, by omega, hbel.alloc hbel.size _⟩
          case measure => simp [intOf]; omega
      · go_wp2
        go_ret
        exact ⟨r, rfl, by omega, by omega, hbel⟩

theorem szG_sl {a : Option Addr} {n cap : Nat} {M : Nat → ByteArray} {L : Nat → Int} (l : Int) (w : World) (h0 : 0 ≤ l) (h1 : l ≤ 1048576) (h : SlG w a n cap M L) :
    Calls Tryz.prog 49 #[.slice a n cap, .int .i64 l] w fun e w' => ∃ r : Int, e = .returned (.int .i64 r) ∧ -1 ≤ r ∧ r ≤ l ∧ Below w.heap.size w w' := by
  rcases h.cells with rfl | ⟨b, off, rfl, hb, hc, hl⟩
  · refine (szG_zero a cap l w h0 h1).mono ?_
    rintro e w' ⟨rfl, rfl⟩
    exact ⟨l, rfl, by omega, by omega, Below.refl _ _⟩
  · exact szG_any b off n cap M L l w h0 h1 (Nat.le_trans h.le h.max) hb h.size hc hl
end Go.Proofs.YtfjfhnjoghlbfaaGreat
