import Derived.Test.YtlopjfhdhkonbaaSl
import Derived.Test.YtlopjfhdhkonbaaProg
import Derived.Deep.RegionWith
import Derived.Test.YtlopjfhdhkonbaaRm
namespace Go.Proofs.Ytlopjfhdhkonbaa
open Go.RowKit

theorem eqS_zero (a a' : Option Addr) (cap cap' : Nat) (w : World) :
    Calls Try.prog 57 #[.slice a 0 cap, .slice a' 0 cap'] w fun e w' => e = .returned (.bool true) ∧ w' = w := by
  go_enter Try.func57, Try.ntmps57
  go_wp2
  refine wp_loop_rounds 1 ?_
  rw [rounds_succ]
  go_wp2
  go_ret
  exact ⟨rfl, rfl⟩

set_option maxHeartbeats 400000 in
theorem eqS_any (b off cap b' off' cap' n : Nat) (S : Nat → ByteArray) (w : World) (hn : n ≤ maxLen)
    (hc : ∀ i, i < n → w.cell? ⟨b, off + i, none⟩ = some (.string (S i))) (hc' : ∀ i, i < n → w.cell? ⟨b', off' + i, none⟩ = some (.string (S i))) :
    Calls Try.prog 57 #[.slice (some ⟨b, off, none⟩) n cap, .slice (some ⟨b', off', none⟩) n cap'] w fun e w' => e = .returned (.bool true) ∧ Dr w w' := by
  unfold maxLen at hn
  go_enter Try.func57, Try.ntmps57
  go_wp2
  go_loopw [5] (fun i wr => ∃ k : Nat, k ≤ n ∧ i = .int .i64 k ∧ Dr w wr) (fun i _ => n - (intOf i).toNat)
  case atStart => exact ⟨0, Nat.zero_le _, rfl, Dr.refl _⟩
  case round =>
    obtain ⟨k, hk, rfl, hdr⟩ := hrel
    by_cases hlt : k < n
    · have hck : wr.cell? ⟨b, off + k, none⟩ = some (.string (S k)) := (hdr.cell _).trans (hc k hlt)
      have hck' : wr.cell? ⟨b', off' + k, none⟩ = some (.string (S k)) := (hdr.cell _).trans (hc' k hlt)
      go_wp2_with fail
      go_quiet (fail)
      go_wp2
      go_roundw
      case rel => exact ⟨k + 1, by omega, by go_num, hdr.drewN _⟩
      case measure => simp [intOf]; omega
    · go_wp2
      go_ret
      exact ⟨rfl, hdr⟩

theorem eqS_sl {a a' : Option Addr} {n cap cap' : Nat} {S : Nat → ByteArray} (w : World) (h : SlS w a n cap S) (h' : SlS w a' n cap' S) :
    Calls Try.prog 57 #[.slice a n cap, .slice a' n cap'] w fun e w' => e = .returned (.bool true) ∧ Dr w w' := by
  rcases h.cells with rfl | ⟨b, off, rfl, hb, hc⟩
  · refine (eqS_zero a a' cap cap' w).mono ?_
    rintro e w' ⟨rfl, rfl⟩
    exact ⟨rfl, Dr.refl _⟩
  · rcases h'.cells with rfl | ⟨b', off', rfl, hb', hc'⟩
    · refine (eqS_zero _ a' cap cap' w).mono ?_
      rintro e w' ⟨rfl, rfl⟩
      exact ⟨rfl, Dr.refl _⟩
    · exact eqS_any b off cap b' off' cap' n S w (Nat.le_trans h.le h.max) hc hc'

theorem eqG1_any (s : ByteArray) (lv : Int) (w : World) :
    Calls Try.prog 68 #[.agg #[.string s, .int .i64 lv], .agg #[.string s, .int .i64 lv]] w fun e w' =>
      e = .returned (.bool true) ∧ Below w.heap.size w w' := by
  go_enter Try.func68, Try.ntmps68
  go_wp2
  go_ret
  exact ⟨rfl, ((Below.refl _ _).alloc (Nat.le_refl _) _).alloc (by simp) _⟩

theorem eqG_zero (a a' : Option Addr) (cap cap' : Nat) (w : World) :
    Calls Try.prog 58 #[.slice a 0 cap, .slice a' 0 cap'] w fun e w' => e = .returned (.bool true) ∧ w' = w := by
  go_enter Try.func58, Try.ntmps58
  go_wp2
  refine wp_loop_rounds 1 ?_
  rw [rounds_succ]
  go_wp2
  go_ret
  exact ⟨rfl, rfl⟩

set_option maxHeartbeats 1000000 in
theorem eqG_any (b off cap b' off' cap' n : Nat) (M : Nat → ByteArray) (L : Nat → Int) (w : World) (hn : n ≤ maxLen) (hb : b < w.heap.size) (hb' : b' < w.heap.size)
    (hc : ∀ i, i < n → w.cell? ⟨b, off + i * 2, none⟩ = some (.string (M i))) (hl : ∀ i, i < n → w.cell? ⟨b, off + i * 2 + 1, none⟩ = some (.int .i64 (L i)))
    (hc' : ∀ i, i < n → w.cell? ⟨b', off' + i * 2, none⟩ = some (.string (M i))) (hl' : ∀ i, i < n → w.cell? ⟨b', off' + i * 2 + 1, none⟩ = some (.int .i64 (L i))) :
    Calls Try.prog 58 #[.slice (some ⟨b, off, none⟩) n cap, .slice (some ⟨b', off', none⟩) n cap'] w fun e w' => e = .returned (.bool true) ∧ Below w.heap.size w w' := by
  unfold maxLen at hn
  go_enter Try.func58, Try.ntmps58
  go_wp2
  go_loopw [5] (fun i wr => ∃ k : Nat, k ≤ n ∧ i = .int .i64 k ∧ Below w.heap.size w wr) (fun i _ => n - (intOf i).toNat)
  case atStart => exact ⟨0, Nat.zero_le _, rfl, Below.refl _ _⟩
  case round =>
    obtain ⟨k, hk, rfl, hbel⟩ := hrel
    by_cases hlt : k < n
    · have hck : wr.cell? ⟨b, off + k * 2, none⟩ = some (.string (M k)) := (hbel.cell (by exact hb)).trans (hc k hlt)
      have hlk : wr.cell? ⟨b, off + k * 2 + 1, none⟩ = some (.int .i64 (L k)) := (hbel.cell (by exact hb)).trans (hl k hlt)
      have hck' : wr.cell? ⟨b', off' + k * 2, none⟩ = some (.string (M k)) := (hbel.cell (by exact hb')).trans (hc' k hlt)
      have hlk' : wr.cell? ⟨b', off' + k * 2 + 1, none⟩ = some (.int .i64 (L k)) := (hbel.cell (by exact hb')).trans (hl' k hlt)
      go_wp2_with fail
      go_region_with (go_at_call 68; refine (eqG1_any _ _ _).mono ?_; rintro e w1 ⟨rfl, hb1⟩)
      all_goals
        go_wp2
        go_roundw
        case rel => exact ⟨k + 1, by omega, by go_num, Below.trans (by first | exact hbel | exact hbel.drew | exact hbel.drew.drew) (hb1.mono (by exact hbel.size))⟩
        case measure => simp [intOf]; omega
    · go_wp2
      go_ret
      exact ⟨rfl, hbel⟩

theorem eqG_sl {a a' : Option Addr} {n cap cap' : Nat} {M : Nat → ByteArray} {L : Nat → Int} (w : World) (h : SlG w a n cap M L) (h' : SlG w a' n cap' M L) :
    Calls Try.prog 58 #[.slice a n cap, .slice a' n cap'] w fun e w' => e = .returned (.bool true) ∧ Below w.heap.size w w' := by
  rcases h.cells with rfl | ⟨b, off, rfl, hb, hc, hl⟩
  · refine (eqG_zero a a' cap cap' w).mono ?_
    rintro e w' ⟨rfl, rfl⟩
    exact ⟨rfl, Below.refl _ _⟩
  · rcases h'.cells with rfl | ⟨b', off', rfl, hb', hc', hl'⟩
    · refine (eqG_zero _ a' cap cap' w).mono ?_
      rintro e w' ⟨rfl, rfl⟩
      exact ⟨rfl, Below.refl _ _⟩
    · exact eqG_any b off cap b' off' cap' n M L w (Nat.le_trans h.le h.max) hb hb' hc hl hc' hl'
end Go.Proofs.Ytlopjfhdhkonbaa
namespace Go.Proofs.Ytlopjfhdhkonbaa
open Go.RowKit

/-- n cells with the zero text. -/
def mkS (n : Nat) : Array Value := madeCells #[.string ByteArray.empty] n
theorem mkS_size (n : Nat) : (mkS n).size = n := size_madeCells _ _
theorem Try.infoStr : (Try.prog.info? 9).map (fun i => (i.zero, i.size, i.bytes)) = some (some (.string ByteArray.empty), 1, 16) := by kernel_rfl

theorem make_str (n : Nat) (h : n * 16 ≤ 140737488351232) (W : World) :
    (Instr.makeSlice 46 (.int .i64 (n : Int)) (.int .i64 (n : Int))).run Try.prog W = .ok (.slice (some ⟨W.heap.size, 0, none⟩) n n) (W.alloc (.cells (mkS n) 9)) := by
  obtain ⟨i0, hi, hz0, hz1, hz2⟩ := info_parts Try.infoStr
  have := run_make (P := Try.prog) W 46 9 i0 (.string ByteArray.empty) Try.underlying46 hi hz0 .i64 .i64 (n : Int) (n : Int) (by omega) (by omega) (by rw [hz2]; omega) (by omega)
  rw [this, hz1]
  simp [mkS, Value.cells]

set_option maxHeartbeats 400000 in
theorem toS_any (b off n cap : Nat) (S : Nat → ByteArray) (w : World) (hr : n * 16 ≤ 140737488351232) (hb : b < w.heap.size)
    (hc : ∀ i, i < n → w.cell? ⟨b, off + i, none⟩ = some (.string (S i))) :
    Calls Try.prog 52 #[.slice (some ⟨b, off, none⟩) n cap] w fun e w' =>
      e = .returned (.slice (some ⟨w.heap.size, 0, none⟩) n n) ∧ (∀ i, i < n → w'.cell? ⟨w.heap.size, i, none⟩ = some (.string (S i))) ∧ w.heap.size < w'.heap.size ∧ Below w.heap.size w w' := by
  have hmk := make_str n hr w
  go_enter Try.func52, Try.ntmps52
  go_wp2
  clear hmk
  go_loopw [4] (fun i wr => ∃ k : Nat, k ≤ n ∧ i = .int .i64 k ∧ Hid (∀ i, i < k → wr.cell? ⟨w.heap.size, i, none⟩ = some (.string (S i))) ∧ Hid (∀ i, i < n → (∃ v, wr.cell? ⟨w.heap.size, i, none⟩ = some v) ∧ wr.frozen? ⟨w.heap.size, i, none⟩ = false) ∧ w.heap.size < wr.heap.size ∧ Below w.heap.size w wr) (fun i _ => n - (intOf i).toNat)
  case atStart => exact ⟨0, Nat.zero_le _, rfl, fun i hi => absurd hi (Nat.not_lt_zero _), fun i hi => ⟨cell_made _ _ _ _ (by rw [mkS_size]; exact hi), World.frozen?_alloc_at _ _ _ _ rfl⟩, by simp, (Below.refl _ _).alloc (Nat.le_refl _) _⟩
  case round =>
    obtain ⟨k, hk, rfl, hdone, hfree, hsz, hbel⟩ := hrel
    by_cases hlt : k < n
    · have hck : wr.cell? ⟨b, off + k, none⟩ = some (.string (S k)) := (hbel.cell (by exact hb)).trans (hc k hlt)
      obtain ⟨⟨v0, hv0⟩, hf0⟩ := hfree.out k hlt
      go_wp2
      go_roundw
      case rel => exact ⟨k + 1, by omega, by go_num, set_done (f := fun i => .string (S i)) hdone.out ⟨v0, hv0⟩, set_free hfree.out, by simpa [World.setCell] using hsz, hbel.setCell (Nat.le_refl _) _⟩
      case measure => simp [intOf]; omega
    · go_wp2
      go_ret
      exact ⟨rfl, fun i hi => hdone.out i (by omega), hsz, hbel⟩

theorem toS_zero (a : Option Addr) (cap : Nat) (w : World) :
    Calls Try.prog 52 #[.slice a 0 cap] w fun e w' =>
      e = .returned (.slice (some ⟨w.heap.size, 0, none⟩) 0 0) ∧ w.heap.size < w'.heap.size ∧ Below w.heap.size w w' := by
  have hmk := make_str 0 (by decide) w
  simp only [Int.ofNat_zero] at hmk
  go_enter Try.func52, Try.ntmps52
  go_wp2
  clear hmk
  refine wp_loop_rounds 1 ?_
  rw [rounds_succ]
  go_wp2
  go_ret
  exact ⟨rfl, by simp, (Below.refl _ _).alloc (Nat.le_refl _) _⟩

theorem toS_sl {a : Option Addr} {n cap : Nat} {S : Nat → ByteArray} (w : World) (hr : n * 16 ≤ 140737488351232) (h : SlS w a n cap S) :
    Calls Try.prog 52 #[.slice a n cap] w fun e w' =>
      e = .returned (.slice (some ⟨w.heap.size, 0, none⟩) n n) ∧ SlS w' (some ⟨w.heap.size, 0, none⟩) n n S ∧ Below w.heap.size w w' := by
  rcases h.cells with rfl | ⟨b, off, rfl, hb, hc⟩
  · refine (toS_zero a cap w).mono ?_
    rintro e w' ⟨rfl, hsz, hbel⟩
    exact ⟨rfl, ⟨Nat.le_refl _, by decide, h.size, Or.inl rfl⟩, hbel⟩
  · refine (toS_any b off n cap S w hr hb hc).mono ?_
    rintro e w' ⟨rfl, hcl, hsz, hbel⟩
    exact ⟨rfl, ⟨Nat.le_refl _, by unfold maxLen; omega, h.size, Or.inr ⟨_, 0, rfl, hsz, fun i hi => by rw [Nat.zero_add]; exact hcl i hi⟩⟩, hbel⟩
end Go.Proofs.Ytlopjfhdhkonbaa
namespace Go.Proofs.Ytlopjfhdhkonbaa
open Go.RowKit

/-- n grants' cells, all zero. -/
def mkG (n : Nat) : Array Value := madeCells #[.string ByteArray.empty, .int .i64 0] (n * 2)
theorem mkG_size (n : Nat) : (mkG n).size = n * 2 := size_madeCells _ _
theorem Try.infoGrant : (Try.prog.info? 98).map (fun i => (i.zero, i.size, i.bytes)) = some (some (.agg #[.string ByteArray.empty, .int .i64 0]), 2, 24) := by kernel_rfl

theorem make_gr (n : Nat) (h : n * 24 ≤ 140737488351232) (W : World) :
    (Instr.makeSlice 48 (.int .i64 (n : Int)) (.int .i64 (n : Int))).run Try.prog W = .ok (.slice (some ⟨W.heap.size, 0, none⟩) n n) (W.alloc (.cells (mkG n) 98)) := by
  obtain ⟨i0, hi, hz0, hz1, hz2⟩ := info_parts Try.infoGrant
  have := run_make (P := Try.prog) W 48 98 i0 (.agg #[.string ByteArray.empty, .int .i64 0]) Try.underlying48 hi hz0 .i64 .i64 (n : Int) (n : Int) (by omega) (by omega) (by rw [hz2]; omega) (by omega)
  rw [this, hz1]
  simp [mkG, Value.cells]

set_option maxHeartbeats 400000 in
theorem toG1_any (s : ByteArray) (lv : Int) (w : World) :
    Calls Try.prog 63 #[.agg #[.string s, .int .i64 lv]] w fun e w' => e = .returned (.agg #[.string s, .int .i64 lv]) ∧ Below w.heap.size w w' := by
  go_enter Try.func63, Try.ntmps63
  go_wp2
  exact bodyPost_ret (v := .agg #[.string s, .int .i64 lv]) (by simp [results, Try.results63, go_sem]) rfl ⟨rfl, by repeat' (first | exact Below.refl _ _ | exact Nat.le_refl _ | (refine Below.alloc ?_ ?_ _) | (simp; done) | (simp; omega))⟩

theorem set2_done {wr : World} {B k n : Nat} {f g : Nat → Value} (h : ∀ i, i < k → wr.cell? ⟨B, i * 2, none⟩ = some (f i) ∧ wr.cell? ⟨B, i * 2 + 1, none⟩ = some (g i))
    (hf : ∀ i, i < n * 2 → (∃ v, wr.cell? ⟨B, i, none⟩ = some v) ∧ wr.frozen? ⟨B, i, none⟩ = false) (hk : k < n) (i : Nat) (hi : i < k + 1) :
    ((wr.setCell ⟨B, k * 2, none⟩ (f k)).setCell ⟨B, k * 2 + 1, none⟩ (g k)).cell? ⟨B, i * 2, none⟩ = some (f i) ∧ ((wr.setCell ⟨B, k * 2, none⟩ (f k)).setCell ⟨B, k * 2 + 1, none⟩ (g k)).cell? ⟨B, i * 2 + 1, none⟩ = some (g i) := by
  by_cases e : i = k
  · subst e
    refine ⟨?_, set_same ?_⟩
    · rw [set_far (by omega)]; exact set_same (hf _ (by omega)).1
    · rw [set_far (by omega)]; exact (hf _ (by omega)).1
  · rw [set_far (by omega), set_far (by omega), set_far (by omega), set_far (by omega)]; exact h i (by omega)

set_option maxHeartbeats 400000 in
theorem toG_any (b off n cap : Nat) (M : Nat → ByteArray) (L : Nat → Int) (w : World) (hr : n * 24 ≤ 140737488351232) (hb : b < w.heap.size)
    (hc : ∀ i, i < n → w.cell? ⟨b, off + i * 2, none⟩ = some (.string (M i)))
    (hl : ∀ i, i < n → w.cell? ⟨b, off + i * 2 + 1, none⟩ = some (.int .i64 (L i))) :
    Calls Try.prog 53 #[.slice (some ⟨b, off, none⟩) n cap] w fun e w' =>
      e = .returned (.slice (some ⟨w.heap.size, 0, none⟩) n n) ∧ (∀ i, i < n → w'.cell? ⟨w.heap.size, i * 2, none⟩ = some (.string (M i)) ∧ w'.cell? ⟨w.heap.size, i * 2 + 1, none⟩ = some (.int .i64 (L i))) ∧ w.heap.size < w'.heap.size ∧ Below w.heap.size w w' := by
  have hmk := make_gr n hr w
  go_enter Try.func53, Try.ntmps53
  go_wp2
  clear hmk
  go_loopw [4] (fun i wr => ∃ k : Nat, k ≤ n ∧ i = .int .i64 k ∧ Hid (∀ i, i < k → wr.cell? ⟨w.heap.size, i * 2, none⟩ = some (.string (M i)) ∧ wr.cell? ⟨w.heap.size, i * 2 + 1, none⟩ = some (.int .i64 (L i))) ∧ Hid (∀ i, i < n * 2 → (∃ v, wr.cell? ⟨w.heap.size, i, none⟩ = some v) ∧ wr.frozen? ⟨w.heap.size, i, none⟩ = false) ∧ w.heap.size < wr.heap.size ∧ Below w.heap.size w wr) (fun i _ => n - (intOf i).toNat)
  case atStart => exact ⟨0, Nat.zero_le _, rfl, fun i hi => absurd hi (Nat.not_lt_zero _), fun i hi => ⟨cell_made _ _ _ _ (by rw [mkG_size]; exact hi), World.frozen?_alloc_at _ _ _ _ rfl⟩, by simp, (Below.refl _ _).alloc (Nat.le_refl _) _⟩
  case round =>
    obtain ⟨k, hk, rfl, hdone, hfree, hsz, hbel⟩ := hrel
    by_cases hlt : k < n
    · have hck : wr.cell? ⟨b, off + k * 2, none⟩ = some (.string (M k)) := (hbel.cell (by exact hb)).trans (hc k hlt)
      have hlk : wr.cell? ⟨b, off + k * 2 + 1, none⟩ = some (.int .i64 (L k)) := (hbel.cell (by exact hb)).trans (hl k hlt)
      go_wp2_with fail
      refine (toG1_any (M k) (L k) wr).mono ?_
      rintro e w1 ⟨rfl, hb1⟩
      have hfree1 : ∀ i, i < n * 2 → (∃ v, w1.cell? ⟨w.heap.size, i, none⟩ = some v) ∧ w1.frozen? ⟨w.heap.size, i, none⟩ = false := fun i hi => by
        obtain ⟨⟨v, hv⟩, hf⟩ := hfree.out i hi
        exact ⟨⟨v, (hb1.cell (by exact hsz)).trans hv⟩, (hb1.frozen (by exact hsz)).trans hf⟩
      have hdone1 : Hid (∀ i, i < k → w1.cell? ⟨w.heap.size, i * 2, none⟩ = some (.string (M i)) ∧ w1.cell? ⟨w.heap.size, i * 2 + 1, none⟩ = some (.int .i64 (L i))) := fun i hi =>
        ⟨(hb1.cell (by exact hsz)).trans (hdone.out i hi).1, (hb1.cell (by exact hsz)).trans (hdone.out i hi).2⟩
      obtain ⟨⟨v0, hv0⟩, hf0⟩ := hfree1 (k * 2) (by omega)
      obtain ⟨⟨v1, hv1⟩, hf1⟩ := hfree1 (k * 2 + 1) (by omega)
      have HF : Hid (_) := hfree1
      have hsz1 : w.heap.size < w1.heap.size := Nat.lt_of_lt_of_le hsz hb1.size
      clear hfree1
      go_wp2
      go_roundw
      case rel => exact ⟨k + 1, by omega, by go_num, set2_done (f := fun i => .string (M i)) (g := fun i => .int .i64 (L i)) hdone1.out HF.out hlt, set_free (set_free HF.out), by simpa [World.setCell] using hsz1, ((hbel.trans (hb1.mono hbel.size)).setCell (Nat.le_refl _) _).setCell (Nat.le_refl _) _⟩
      case measure => simp [intOf]; omega
    · go_wp2
      go_ret
      exact ⟨rfl, fun i hi => hdone.out i (by omega), hsz, hbel⟩

theorem toG_zero (a : Option Addr) (cap : Nat) (w : World) :
    Calls Try.prog 53 #[.slice a 0 cap] w fun e w' =>
      e = .returned (.slice (some ⟨w.heap.size, 0, none⟩) 0 0) ∧ w.heap.size < w'.heap.size ∧ Below w.heap.size w w' := by
  have hmk := make_gr 0 (by decide) w
  simp only [Int.ofNat_zero] at hmk
  go_enter Try.func53, Try.ntmps53
  go_wp2
  clear hmk
  refine wp_loop_rounds 1 ?_
  rw [rounds_succ]
  go_wp2
  go_ret
  exact ⟨rfl, by simp, (Below.refl _ _).alloc (Nat.le_refl _) _⟩

theorem toG_sl {a : Option Addr} {n cap : Nat} {M : Nat → ByteArray} {L : Nat → Int} (w : World) (hr : n * 24 ≤ 140737488351232) (h : SlG w a n cap M L) :
    Calls Try.prog 53 #[.slice a n cap] w fun e w' =>
      e = .returned (.slice (some ⟨w.heap.size, 0, none⟩) n n) ∧ SlG w' (some ⟨w.heap.size, 0, none⟩) n n M L ∧ Below w.heap.size w w' := by
  rcases h.cells with rfl | ⟨b, off, rfl, hb, hc, hl⟩
  · refine (toG_zero a cap w).mono ?_
    rintro e w' ⟨rfl, hsz, hbel⟩
    exact ⟨rfl, ⟨Nat.le_refl _, by decide, h.size, Or.inl rfl⟩, hbel⟩
  · refine (toG_any b off n cap M L w hr hb hc hl).mono ?_
    rintro e w' ⟨rfl, hcl, hsz, hbel⟩
    exact ⟨rfl, ⟨Nat.le_refl _, by unfold maxLen; omega, h.size, Or.inr ⟨_, 0, rfl, hsz, fun i hi => by rw [Nat.zero_add]; exact (hcl i hi).1, fun i hi => by rw [Nat.zero_add]; exact (hcl i hi).2⟩⟩, hbel⟩
end Go.Proofs.Ytlopjfhdhkonbaa
namespace Go.Proofs.Ytlopjfhdhkonbaa
open Go.RowKit

/-! ### szStringS -/

theorem szS_zero (a : Option Addr) (cap : Nat) (l : Int) (w : World) (h0 : 0 ≤ l) (h1 : l ≤ 1048576) :
    Calls Try.prog 47 #[.slice a 0 cap, .int .i64 l] w fun e w' => e = .returned (.int .i64 l) ∧ w' = w := by
  go_enter Try.func47, Try.ntmps47
  go_wp2
  refine wp_loop_rounds 1 ?_
  rw [rounds_succ]
  go_wp2
  go_ret
  exact ⟨rfl, rfl⟩

set_option maxHeartbeats 400000 in
theorem szS_any (b off n cap : Nat) (S : Nat → ByteArray) (l : Int) (w : World) (h0 : 0 ≤ l) (h1 : l ≤ 1048576) (hn : n ≤ maxLen)
    (hs : ∀ i, i < n → (S i).size ≤ maxLen)
    (hc : ∀ i, i < n → w.cell? ⟨b, off + i, none⟩ = some (.string (S i))) :
    Calls Try.prog 47 #[.slice (some ⟨b, off, none⟩) n cap, .int .i64 l] w fun e w' => ∃ r : Int, e = .returned (.int .i64 r) ∧ -1 ≤ r ∧ r ≤ l ∧ w' = w := by
  unfold maxLen at hn
  by_cases hneg : l - n < 0
  · go_enter Try.func47, Try.ntmps47
    go_wp2
    go_ret
    exact ⟨-1, rfl, by omega, by omega, rfl⟩
  · go_enter Try.func47, Try.ntmps47
    go_wp2
    go_loop [1, 5] (fun s1 i => ∃ (k : Nat) (r : Int), k ≤ n ∧ i = .int .i64 k ∧ s1 = .int .i64 r ∧ 0 ≤ r ∧ r ≤ l) (fun _ i => n - (intOf i).toNat)
    case atStart => exact ⟨0, _, Nat.zero_le _, rfl, rfl, by omega, by omega⟩
    case round =>
      obtain ⟨k, r, hk, rfl, rfl, hr0, hr1⟩ := hrel
      by_cases hlt : k < n
      · have hck := hc k hlt
        have hlen := hs k hlt
        unfold maxLen at hlen
        by_cases hn2 : r - ((S k).size : Int) < 0
        · go_wp2
          go_ret
          exact ⟨-1, rfl, by omega, by omega, rfl⟩
        · go_wp2
          go_round
          case rel => exact ⟨k + 1, _, by omega, by go_num, rfl, by omega, by omega⟩
          case measure => simp [intOf]; omega
      · go_wp2
        go_ret
        exact ⟨r, rfl, by omega, by omega, rfl⟩

theorem szS_sl {a : Option Addr} {n cap : Nat} {S : Nat → ByteArray} (l : Int) (w : World) (h0 : 0 ≤ l) (h1 : l ≤ 1048576) (h : SlS w a n cap S) :
    Calls Try.prog 47 #[.slice a n cap, .int .i64 l] w fun e w' => ∃ r : Int, e = .returned (.int .i64 r) ∧ -1 ≤ r ∧ r ≤ l ∧ w' = w := by
  rcases h.cells with rfl | ⟨b, off, rfl, hb, hc⟩
  · refine (szS_zero a cap l w h0 h1).mono ?_
    rintro e w' ⟨rfl, rfl⟩
    exact ⟨l, rfl, by omega, by omega, rfl⟩
  · exact szS_any b off n cap S l w h0 h1 (Nat.le_trans h.le h.max) h.size hc

/-! ### szGrantS -/

theorem szG1_any (s : ByteArray) (lv l : Int) (w : World) (h0 : 0 ≤ l) (h1 : l ≤ 1048576) (hs : s.size ≤ maxLen) :
    Calls Try.prog 59 #[.agg #[.string s, .int .i64 lv], .int .i64 l] w fun e w' => ∃ r : Int, e = .returned (.int .i64 r) ∧ -1 ≤ r ∧ r ≤ l ∧ w' = w.alloc (.cells #[.string s, .int .i64 lv] 100) := by
  unfold maxLen at hs
  by_cases hneg : l - s.size < 0
  · go_enter Try.func59, Try.ntmps59
    go_wp2
    go_ret
    exact ⟨-1, rfl, by omega, by omega, rfl⟩
  · go_enter Try.func59, Try.ntmps59
    go_wp2
    go_ret
    exact ⟨_, rfl, by omega, by omega, rfl⟩

theorem szG_zero (a : Option Addr) (cap : Nat) (l : Int) (w : World) (h0 : 0 ≤ l) (h1 : l ≤ 1048576) :
    Calls Try.prog 48 #[.slice a 0 cap, .int .i64 l] w fun e w' => e = .returned (.int .i64 l) ∧ w' = w := by
  go_enter Try.func48, Try.ntmps48
  go_wp2
  refine wp_loop_rounds 1 ?_
  rw [rounds_succ]
  go_wp2
  go_ret
  exact ⟨rfl, rfl⟩

set_option maxHeartbeats 400000 in
theorem szG_any (b off n cap : Nat) (M : Nat → ByteArray) (L : Nat → Int) (l : Int) (w : World) (h0 : 0 ≤ l) (h1 : l ≤ 1048576) (hn : n ≤ maxLen) (hb : b < w.heap.size)
    (hs : ∀ i, i < n → (M i).size ≤ maxLen)
    (hc : ∀ i, i < n → w.cell? ⟨b, off + i * 2, none⟩ = some (.string (M i)))
    (hl : ∀ i, i < n → w.cell? ⟨b, off + i * 2 + 1, none⟩ = some (.int .i64 (L i))) :
    Calls Try.prog 48 #[.slice (some ⟨b, off, none⟩) n cap, .int .i64 l] w fun e w' => ∃ r : Int, e = .returned (.int .i64 r) ∧ -1 ≤ r ∧ r ≤ l ∧ Below w.heap.size w w' := by
  unfold maxLen at hn
  by_cases hneg : l - n < 0
  · go_enter Try.func48, Try.ntmps48
    go_wp2
    go_ret
    exact ⟨-1, rfl, by omega, by omega, Below.refl _ _⟩
  · go_enter Try.func48, Try.ntmps48
    go_wp2
    go_loopw [1, 5] (fun s1 i wr => ∃ (k : Nat) (r : Int), k ≤ n ∧ i = .int .i64 k ∧ s1 = .int .i64 r ∧ 0 ≤ r ∧ r ≤ l ∧ Below w.heap.size w wr) (fun _ i _ => n - (intOf i).toNat)
    case atStart => exact ⟨0, _, Nat.zero_le _, rfl, rfl, by omega, by omega, Below.refl _ _⟩
    case round =>
      obtain ⟨k, r, hk, rfl, rfl, hr0, hr1, hbel⟩ := hrel
      by_cases hlt : k < n
      · have hck : wr.cell? ⟨b, off + k * 2, none⟩ = some (.string (M k)) := (hbel.cell (by exact hb)).trans (hc k hlt)
        have hlk : wr.cell? ⟨b, off + k * 2 + 1, none⟩ = some (.int .i64 (L k)) := (hbel.cell (by exact hb)).trans (hl k hlt)
        have hlen := hs k hlt
        go_wp2_with (go_at_call 59; refine (szG1_any _ _ _ _ (by assumption) (by omega) hlen).mono ?_; rintro e w' ⟨r', rfl, hr2, hr3, rfl⟩)
        · go_ret
          exact ⟨-1, rfl, by omega, by omega, hbel.alloc hbel.size _⟩
        · go_roundw
          case rel => exact ⟨k + 1, r', by omega, by go_num, rfl, by assumption, by omega, hbel.alloc hbel.size _⟩
          case measure => simp [intOf]; omega
      · go_wp2
        go_ret
        exact ⟨r, rfl, by omega, by omega, hbel⟩

theorem szG_sl {a : Option Addr} {n cap : Nat} {M : Nat → ByteArray} {L : Nat → Int} (l : Int) (w : World) (h0 : 0 ≤ l) (h1 : l ≤ 1048576) (h : SlG w a n cap M L) :
    Calls Try.prog 48 #[.slice a n cap, .int .i64 l] w fun e w' => ∃ r : Int, e = .returned (.int .i64 r) ∧ -1 ≤ r ∧ r ≤ l ∧ Below w.heap.size w w' := by
  rcases h.cells with rfl | ⟨b, off, rfl, hb, hc, hl⟩
  · refine (szG_zero a cap l w h0 h1).mono ?_
    rintro e w' ⟨rfl, rfl⟩
    exact ⟨l, rfl, by omega, by omega, Below.refl _ _⟩
  · exact szG_any b off n cap M L l w h0 h1 (Nat.le_trans h.le h.max) hb h.size hc hl
end Go.Proofs.Ytlopjfhdhkonbaa
namespace Go.Proofs.Ytlopjfhdhkonbaa
open Go.RowKit

section
variable (id sd ty key val : ByteArray) (st : Bool) (tm : Int) (pa : Option Addr) (np cp : Nat) (aa : Option Addr) (na ca : Nat) (ga : Option Addr) (ng cg : Nat) (Pv Av M : Nat → ByteArray) (L : Nat → Int) (w : World)

set_option maxHeartbeats 2000000 in
theorem szEv_any (hid : id.size ≤ maxLen) (hsd : sd.size ≤ maxLen) (hty : ty.size ≤ maxLen) (hkey : key.size ≤ maxLen) (hval : val.size ≤ maxLen)
    (hp : SlS w pa np cp Pv) (ha : SlS w aa na ca Av) (hg : SlG w ga ng cg M L) (l : Int) (h0 : 0 ≤ l) (h1 : l ≤ 1048576) :
    Calls Try.prog 31 #[evV id sd ty key val st tm pa np cp aa na ca ga ng cg, .int .i64 l] w fun e w' =>
      ∃ r : Int, e = .returned (.int .i64 r) ∧ -1 ≤ r ∧ r ≤ l ∧ Below w.heap.size w w' := by
  have hb0 : ∀ o, Below w.heap.size w (w.alloc o) := fun o => (Below.refl _ _).alloc (Nat.le_refl _) _
  unfold maxLen at hid hsd hty hkey hval
  go_enter Try.func31, Try.ntmps31
  go_wp2_with fail
  iterate 4 (· go_ret; exact ⟨-1, rfl, by omega, by omega, hb0 _⟩)
  refine (szS_sl _ _ (by omega) (by omega) (hp.below (hb0 _))).mono ?_
  rintro e w' ⟨r1, rfl, hr1, hr1', rfl⟩
  go_wp2_with fail
  · go_ret
    exact ⟨-1, rfl, by omega, by omega, hb0 _⟩
  refine (szS_sl _ _ (by omega) (by omega) (ha.below (hb0 _))).mono ?_
  rintro e w' ⟨r2, rfl, hr2, hr2', rfl⟩
  go_wp2_with fail
  · go_ret
    exact ⟨-1, rfl, by omega, by omega, hb0 _⟩
  · go_ret
    exact ⟨-1, rfl, by omega, by omega, hb0 _⟩
  refine (szG_sl _ _ (by omega) (by omega) (hg.below (hb0 _))).mono ?_
  rintro e w3 ⟨r3, rfl, hr3, hr3', hb3⟩
  go_wp2
  · go_ret
    exact ⟨-1, rfl, by omega, by omega, (hb0 _).trans (hb3.mono (by simp))⟩
  · go_ret
    exact ⟨r3, rfl, by omega, by omega, (hb0 _).trans (hb3.mono (by simp))⟩
end
end Go.Proofs.Ytlopjfhdhkonbaa
namespace Go.Proofs.Ytlopjfhdhkonbaa
open Go.RowKit

/-- In toEvent: block B (the argument's box) holds c0, block B + 1 (the result) ten cells, block B + 1 + 1 (the local) holds c2. -/
structure TE (w : World) (B : Nat) (c0 c2 : Array Value) (wx : World) : Prop where
  a0 : ∀ o, wx.cell? ⟨B, o, none⟩ = c0[o]?
  a1 : ∀ o, o < 10 → ∃ v, wx.cell? ⟨B + 1, o, none⟩ = some v
  a2 : ∀ o, wx.cell? ⟨B + 1 + 1, o, none⟩ = c2[o]?
  f1 : ∀ o, wx.frozen? ⟨B + 1, o, none⟩ = false
  f2 : ∀ o, wx.frozen? ⟨B + 1 + 1, o, none⟩ = false
  size : B + 1 + 1 < wx.heap.size
  hB : B = w.heap.size
  below : Below w.heap.size w wx

theorem TE.mono {w wx wy : World} {B : Nat} {c0 c2 : Array Value} (h : TE w B c0 c2 wx) (hb : Below wx.heap.size wx wy) : TE w B c0 c2 wy :=
  have hs := h.size
  ⟨fun o => (hb.cell (by show B < _; omega)).trans (h.a0 o), fun o ho => (h.a1 o ho).imp fun _ hv => (hb.cell (by show B + 1 < _; omega)).trans hv, fun o => (hb.cell (by exact hs)).trans (h.a2 o),
    fun o => (hb.frozen (by show B + 1 < _; omega)).trans (h.f1 o), fun o => (hb.frozen (by exact hs)).trans (h.f2 o), Nat.lt_of_lt_of_le hs hb.size, h.hB, h.below.trans (hb.mono h.below.size)⟩

theorem TE.set {w wx : World} {B : Nat} {c0 c2 : Array Value} (h : TE w B c0 c2 wx) (j : Nat) (hj : j < c2.size) (x : Value) : TE w B c0 (c2.setIfInBounds j x) (wx.setCell ⟨B + 1 + 1, j, none⟩ x) := by
  refine ⟨fun o => by rw [far_block (by omega)]; exact h.a0 o, fun o ho => by rw [far_block (by omega)]; exact h.a1 o ho, fun o => ?_, fun o => by rw [World.frozen?_setCell]; exact h.f1 o, fun o => by rw [World.frozen?_setCell]; exact h.f2 o, by simpa [World.setCell] using h.size, h.hB, h.below.setCell (by have := h.hB; show _ ≤ B + 1 + 1; omega) _⟩
  by_cases e : o = j
  · subst e
    rw [set_same ⟨c2[o], by rw [h.a2]; exact Array.getElem?_eq_getElem hj⟩]
    simp [hj]
  · rw [set_far e, h.a2, Array.getElem?_setIfInBounds_ne (by omega)]

theorem TE.start {w : World} {c0 c1 c2 : Array Value} {t0 t1 t2 : TypeId} (h : c1.size = 10) : TE w w.heap.size c0 c2 (((w.alloc (.cells c0 t0)).alloc (.cells c1 t1)).alloc (.cells c2 t2)) := by
  refine ⟨fun o => ?_, fun o ho => ⟨c1[o], ?_⟩, fun o => World.cell?_alloc_at _ _ _ _ (by simp), fun o => ?_, fun o => World.frozen?_alloc_at _ _ _ _ (by simp), by simp, rfl, (((Below.refl _ _).alloc (Nat.le_refl _) _).alloc (by simp) _).alloc (by simp; omega) _⟩
  · rw [World.cell?_alloc_past _ _ _ (by simp; omega), World.cell?_alloc_past _ _ _ (by simp), World.cell?_alloc_at _ _ _ _ rfl]
  · rw [World.cell?_alloc_past _ _ _ (by simp), World.cell?_alloc_at _ _ _ _ (by simp)]
    exact Array.getElem?_eq_getElem (by omega)
  · rw [World.frozen?_alloc_past _ _ _ (by simp)]
    exact World.frozen?_alloc_at _ _ _ _ (by simp)

theorem SlS.set {w : World} {b off n cap C j : Nat} {S : Nat → ByteArray} (h : SlS w (some ⟨b, off, none⟩) n cap S) (hC : C ≠ b) (x : Value) : SlS (w.setCell ⟨C, j, none⟩ x) (some ⟨b, off, none⟩) n cap S :=
  ⟨h.le, h.max, h.size, h.cells.imp id fun ⟨b', off', e, hlt, hc⟩ => ⟨b', off', e, by simpa [World.setCell] using hlt, fun i hi => by
    have e2 : b = b' := by injection e with e; injection e
    rw [far_block (by omega)]; exact hc i hi⟩⟩
theorem SlG.set {w : World} {b off n cap C j : Nat} {M : Nat → ByteArray} {L : Nat → Int} (h : SlG w (some ⟨b, off, none⟩) n cap M L) (hC : C ≠ b) (x : Value) : SlG (w.setCell ⟨C, j, none⟩ x) (some ⟨b, off, none⟩) n cap M L :=
  ⟨h.le, h.max, h.size, h.cells.imp id fun ⟨b', off', e, hlt, hc, hl⟩ => ⟨b', off', e, by simpa [World.setCell] using hlt, fun i hi => by
      have e2 : b = b' := by injection e with e; injection e
      rw [far_block (by omega)]; exact hc i hi, fun i hi => by
      have e2 : b = b' := by injection e with e; injection e
      rw [far_block (by omega)]; exact hl i hi⟩⟩

section
variable (id sd ty key val : ByteArray) (st : Bool) (tm : Int) (pa : Option Addr) (np cp : Nat) (aa : Option Addr) (na ca : Nat) (ga : Option Addr) (ng cg : Nat) (Pv Av M : Nat → ByteArray) (L : Nat → Int) (w : World)

set_option maxHeartbeats 2000000 in
theorem toEv_fresh (hrp : np * 16 ≤ 140737488351232) (hra : na * 16 ≤ 140737488351232) (hrg : ng * 24 ≤ 140737488351232)
    (hp : SlS w pa np cp Pv) (ha : SlS w aa na ca Av) (hg : SlG w ga ng cg M L) :
    Calls Try.prog 36 #[evV id sd ty key val st tm pa np cp aa na ca ga ng cg] w fun e w' =>
      ∃ bp ba bg : Nat, e = .returned (evV id sd ty key val st tm (some ⟨bp, 0, none⟩) np np (some ⟨ba, 0, none⟩) na na (some ⟨bg, 0, none⟩) ng ng) ∧
        SlS w' (some ⟨bp, 0, none⟩) np np Pv ∧ SlS w' (some ⟨ba, 0, none⟩) na na Av ∧ SlG w' (some ⟨bg, 0, none⟩) ng ng M L ∧ Below w.heap.size w w' ∧ w.heap.size ≤ bp ∧ w.heap.size ≤ ba ∧ w.heap.size ≤ bg := by
  go_enter Try.func36, Try.ntmps36
  go_wp2_with fail
  refine (toS_sl _ hrp (hp.below (TE.start rfl).below)).mono ?_
  rintro e w1 ⟨rfl, hp1, hb1⟩
  have h1 := (TE.start rfl).mono hb1
  have a0 := h1.a0
  have a2 := h1.a2
  have f2 := h1.f2
  go_wp2_with fail
  have h1s := h1.set 6 (by simp) (.slice (some ⟨w.heap.size + 1 + 1 + 1, 0, none⟩) np np)
  refine (toS_sl _ hra (ha.below h1s.below)).mono ?_
  rintro e w2 ⟨rfl, ha2, hb2⟩
  have h2 := h1s.mono hb2
  clear a0 a2 f2
  have a0 := h2.a0
  have a2 := h2.a2
  have f2 := h2.f2
  go_wp2_with fail
  have h2s := (h2.set 7 (by simp) (.slice (some ⟨w1.heap.size, 0, none⟩) na na)).set 8 (by simp) (.string val)
  refine (toG_sl _ hrg (hg.below h2s.below)).mono ?_
  rintro e w3 ⟨rfl, hg3, hb3⟩
  have h3 := h2s.mono hb3
  clear a0 a2 f2
  have a2 := h3.a2
  have f2 := h3.f2
  have f1 := h3.f1
  have b1 := h3.a1
  obtain ⟨x0, y0⟩ := b1 0 (by decide)
  obtain ⟨x1, y1⟩ := b1 1 (by decide)
  obtain ⟨x2, y2⟩ := b1 2 (by decide)
  obtain ⟨x3, y3⟩ := b1 3 (by decide)
  obtain ⟨x4, y4⟩ := b1 4 (by decide)
  obtain ⟨x5, y5⟩ := b1 5 (by decide)
  obtain ⟨x6, y6⟩ := b1 6 (by decide)
  obtain ⟨x7, y7⟩ := b1 7 (by decide)
  obtain ⟨x8, y8⟩ := b1 8 (by decide)
  obtain ⟨x9, y9⟩ := b1 9 (by decide)
  clear b1
  have hz1 := h1.size
  have hz2 := h2.size
  have hp1' : SlS w1 (some ⟨w.heap.size + 1 + 1 + 1, 0, none⟩) np np Pv := by simpa using hp1
  have ha2' : SlS w2 (some ⟨w1.heap.size, 0, none⟩) na na Av := by simpa [World.setCell] using ha2
  have hg3' : SlG w3 (some ⟨w2.heap.size, 0, none⟩) ng ng M L := by simpa [World.setCell] using hg3
  have hp3 := (((hp1'.set (by omega) _).below hb2).set (C := w.heap.size + 1 + 1) (j := 7) (by omega) (.slice (some ⟨w1.heap.size, 0, none⟩) na na)).set (C := w.heap.size + 1 + 1) (j := 8) (by omega) (.string val) |>.below hb3
  have ha3 := ((ha2'.set (C := w.heap.size + 1 + 1) (j := 7) (by omega) (.slice (some ⟨w1.heap.size, 0, none⟩) na na)).set (C := w.heap.size + 1 + 1) (j := 8) (by omega) (.string val)).below hb3
  clear hp1 ha2 hg3 hp ha hg hp1' ha2' h1s h2s hb1 hb2 hb3
  go_wp2
  refine bodyPost_ret (v := evV id sd ty key val st tm (some ⟨w.heap.size + 1 + 1 + 1, 0, none⟩) np np (some ⟨w1.heap.size, 0, none⟩) na na (some ⟨w2.heap.size, 0, none⟩) ng ng)
    (by simp [results, Try.results36, go_sem, y0, y1, y2, y3, y4, y5, y6, y7, y8, y9]) rfl ⟨_, _, _, rfl, ?_, ?_, ?_, ?_, by omega, by omega, by omega⟩
  · iterate 11 (refine SlS.set ?_ (by omega) _)
    exact hp3
  · iterate 11 (refine SlS.set ?_ (by omega) _)
    exact ha3
  · iterate 11 (refine SlG.set ?_ (by omega) _)
    exact hg3'
  · iterate 10 (refine Below.setCell ?_ (Nat.le_add_right _ _) _)
    refine Below.setCell ?_ (Nat.le_add_right _ 2) _
    exact h3.below

theorem toEv_any (hrp : np * 16 ≤ 140737488351232) (hra : na * 16 ≤ 140737488351232) (hrg : ng * 24 ≤ 140737488351232)
    (hp : SlS w pa np cp Pv) (ha : SlS w aa na ca Av) (hg : SlG w ga ng cg M L) :
    Calls Try.prog 36 #[evV id sd ty key val st tm pa np cp aa na ca ga ng cg] w fun e w' =>
      ∃ bp ba bg : Nat, e = .returned (evV id sd ty key val st tm (some ⟨bp, 0, none⟩) np np (some ⟨ba, 0, none⟩) na na (some ⟨bg, 0, none⟩) ng ng) ∧
        SlS w' (some ⟨bp, 0, none⟩) np np Pv ∧ SlS w' (some ⟨ba, 0, none⟩) na na Av ∧ SlG w' (some ⟨bg, 0, none⟩) ng ng M L ∧ Below w.heap.size w w' := by
  refine (toEv_fresh id sd ty key val st tm pa np cp aa na ca ga ng cg Pv Av M L w hrp hra hrg hp ha hg).mono ?_
  rintro e w' ⟨bp, ba, bg, h1, h2, h3, h4, h5, _⟩
  exact ⟨bp, ba, bg, h1, h2, h3, h4, h5⟩
end
end Go.Proofs.Ytlopjfhdhkonbaa
namespace Go.Proofs.Ytlopjfhdhkonbaa
open Go.RowKit

section
variable (id sd ty key val : ByteArray) (st : Bool) (tm : Int) (pa : Option Addr) (np cp : Nat) (aa : Option Addr) (na ca : Nat) (ga : Option Addr) (ng cg : Nat)
  (pa' : Option Addr) (cp' : Nat) (aa' : Option Addr) (ca' : Nat) (ga' : Option Addr) (cg' : Nat) (Pv Av M : Nat → ByteArray) (L : Nat → Int) (w : World)

set_option maxHeartbeats 2000000 in
theorem eqEv_any (hp : SlS w pa np cp Pv) (ha : SlS w aa na ca Av) (hg : SlG w ga ng cg M L) (hp' : SlS w pa' np cp' Pv) (ha' : SlS w aa' na ca' Av) (hg' : SlG w ga' ng cg' M L) :
    Calls Try.prog 41 #[evV id sd ty key val st tm pa np cp aa na ca ga ng cg, evV id sd ty key val st tm pa' np cp' aa' na ca' ga' ng cg'] w fun e w' =>
      e = .returned (.bool true) ∧ Below w.heap.size w w' := by
  have hb0 : ∀ o o2, Below w.heap.size w ((w.alloc o).alloc o2) := fun o o2 => ((Below.refl _ _).alloc (Nat.le_refl _) _).alloc (by simp) _
  go_enter Try.func41, Try.ntmps41
  go_wp2_with fail
  refine (eqS_sl _ (hp.below (hb0 _ _)) (hp'.below (hb0 _ _))).mono ?_
  rintro e w' ⟨rfl, q1, rfl⟩
  go_wp2_with fail
  refine (eqS_sl _ (ha.below ((hb0 _ _).trans (Dr.below ⟨_, rfl⟩ _))) (ha'.below ((hb0 _ _).trans (Dr.below ⟨_, rfl⟩ _)))).mono ?_
  rintro e w' ⟨rfl, q2, rfl⟩
  go_wp2_with fail
  refine (eqG_sl _ (hg.below ((hb0 _ _).trans (Dr.below ⟨_, rfl⟩ _))) (hg'.below ((hb0 _ _).trans (Dr.below ⟨_, rfl⟩ _)))).mono ?_
  rintro e w3 ⟨rfl, hb3⟩
  go_wp2
  go_ret
  exact ⟨rfl, ((hb0 _ _).trans (Dr.below ⟨_, rfl⟩ _)).trans (hb3.mono (by simp; omega))⟩
end
end Go.Proofs.Ytlopjfhdhkonbaa
namespace Go.Proofs.Ytlopjfhdhkonbaa
open Go.RowKit

/-! ### sizes -/

theorem szV_zero (a : Option Addr) (cap : Nat) (l : Int) (w : World) (h0 : 0 ≤ l) (h1 : l ≤ 1048576) :
    Calls Try.prog 13 #[.slice a 0 cap, .int .i64 l] w fun e w' => e = .returned (.int .i64 l) ∧ w' = w := by
  go_enter Try.func13, Try.ntmps13
  go_wp2
  refine wp_loop_rounds 1 ?_
  rw [rounds_succ]
  go_wp2
  go_ret
  exact ⟨rfl, rfl⟩

set_option maxHeartbeats 2000000 in
theorem szV_any (b off n cap : Nat) (E : Nat → Ev) (r0 : Int) (w : World) (h0 : 0 ≤ r0) (h1 : r0 ≤ 1048576) (hn : n ≤ maxLen) (hb : b < w.heap.size) (hc : ∀ i, i < n → EvAt w b (off + i * 10) (E i)) :
    Calls Try.prog 13 #[.slice (some ⟨b, off, none⟩) n cap, .int .i64 r0] w fun e w' => ∃ r : Int, e = .returned (.int .i64 r) ∧ -1 ≤ r ∧ r ≤ r0 ∧ Below w.heap.size w w' := by
  unfold maxLen at hn
  by_cases hneg : r0 - n < 0
  · go_enter Try.func13, Try.ntmps13
    go_wp2
    go_ret
    exact ⟨-1, rfl, by omega, by omega, Below.refl _ _⟩
  · go_enter Try.func13, Try.ntmps13
    go_wp2
    go_loopw [1, 5] (fun s1 i wr => ∃ (k : Nat) (r : Int), k ≤ n ∧ i = .int .i64 k ∧ s1 = .int .i64 r ∧ 0 ≤ r ∧ r ≤ r0 ∧ Below w.heap.size w wr) (fun _ i _ => n - (intOf i).toNat)
    case atStart => exact ⟨0, _, Nat.zero_le _, rfl, rfl, by omega, by omega, Below.refl _ _⟩
    case round =>
      obtain ⟨k, r, hk, rfl, rfl, hr0, hr1, hbel⟩ := hrel
      by_cases hlt : k < n
      · obtain ⟨pa, cp, aa, ca, ga, cg, hcs, hok⟩ := hc k hlt
        obtain ⟨c0, c1, c2, c3, c4, c5, c6, c7, c8, c9⟩ := hcs.below hbel hb
        have ho := hok.below hbel
        clear hcs hok hc
        go_wp2_with (go_at_call 31; refine (szEv_any _ _ _ _ _ _ _ pa _ cp aa _ ca ga _ cg (E k).Pv (E k).Av (E k).M (E k).L _ ho.hid ho.hsd ho.hty ho.hkey ho.hval ho.hp ho.ha ho.hg _ (by assumption) (by omega)).mono ?_; rintro e w' ⟨r', rfl, hr2, hr3, hb1⟩)
        · go_ret
          exact ⟨-1, rfl, by omega, by omega, hbel.trans (hb1.mono hbel.size)⟩
        · go_roundw
          case rel => exact ⟨k + 1, r', by omega, by go_num, rfl, by assumption, by omega, hbel.trans (hb1.mono hbel.size)⟩
          case measure => simp [intOf]; omega
      · go_wp2
        go_ret
        exact ⟨r, rfl, by omega, by omega, hbel⟩

theorem szV_sl {a : Option Addr} {n cap : Nat} {E : Nat → Ev} (r0 : Int) (w : World) (h0 : 0 ≤ r0) (h1 : r0 ≤ 1048576) (h : SlV w a n cap E) :
    Calls Try.prog 13 #[.slice a n cap, .int .i64 r0] w fun e w' => ∃ r : Int, e = .returned (.int .i64 r) ∧ -1 ≤ r ∧ r ≤ r0 ∧ Below w.heap.size w w' := by
  rcases h.cells with rfl | ⟨b, off, rfl, hb, hc⟩
  · refine (szV_zero a cap r0 w h0 h1).mono ?_
    rintro e w' ⟨rfl, rfl⟩
    exact ⟨r0, rfl, by omega, by omega, Below.refl _ _⟩
  · exact szV_any b off n cap E r0 w h0 h1 (Nat.le_trans h.le h.max) hb hc

set_option maxHeartbeats 1000000 in
theorem szR_sl {a : Option Addr} {n cap : Nat} {E : Nat → Ev} (r0 : Int) (w : World) (h0 : 0 ≤ r0) (h1 : r0 ≤ 1048576) (h : SlV w a n cap E) :
    Calls Try.prog 4 #[.agg #[.slice a n cap], .int .i64 r0] w fun e w' => ∃ r : Int, e = .returned (.int .i64 r) ∧ -1 ≤ r ∧ r ≤ r0 ∧ Below w.heap.size w w' := by
  have hb0 : ∀ o, Below w.heap.size w (w.alloc o) := fun o => (Below.refl _ _).alloc (Nat.le_refl _) _
  go_enter Try.func4, Try.ntmps4
  go_wp2_with (go_at_call 13; refine (szV_sl r0 _ h0 h1 (h.below (hb0 _))).mono ?_; rintro e w' ⟨r', rfl, hr2, hr3, hb1⟩)
  · go_ret
    exact ⟨-1, rfl, by omega, by omega, (hb0 _).trans (hb1.mono (by simp))⟩
  · go_ret
    exact ⟨r', rfl, by omega, by omega, (hb0 _).trans (hb1.mono (by simp))⟩

/-! ### the same twice -/

theorem eqV_zero (a a' : Option Addr) (cap cap' : Nat) (w : World) :
    Calls Try.prog 25 #[.slice a 0 cap, .slice a' 0 cap'] w fun e w' => e = .returned (.bool true) ∧ w' = w := by
  go_enter Try.func25, Try.ntmps25
  go_wp2
  refine wp_loop_rounds 1 ?_
  rw [rounds_succ]
  go_wp2
  go_ret
  exact ⟨rfl, rfl⟩

set_option maxHeartbeats 2000000 in
theorem eqV_any (b off cap b' off' cap' n : Nat) (E : Nat → Ev) (w : World) (hn : n ≤ maxLen) (hb : b < w.heap.size) (hb' : b' < w.heap.size) (hc : ∀ i, i < n → EvAt w b (off + i * 10) (E i)) (hc' : ∀ i, i < n → EvAt w b' (off' + i * 10) (E i)) :
    Calls Try.prog 25 #[.slice (some ⟨b, off, none⟩) n cap, .slice (some ⟨b', off', none⟩) n cap'] w fun e w' => e = .returned (.bool true) ∧ Below w.heap.size w w' := by
  unfold maxLen at hn
  go_enter Try.func25, Try.ntmps25
  go_wp2
  go_loopw [5] (fun i wr => ∃ k : Nat, k ≤ n ∧ i = .int .i64 k ∧ Below w.heap.size w wr) (fun i _ => n - (intOf i).toNat)
  case atStart => exact ⟨0, Nat.zero_le _, rfl, Below.refl _ _⟩
  case round =>
    obtain ⟨k, hk, rfl, hbel⟩ := hrel
    by_cases hlt : k < n
    · obtain ⟨pa, cp, aa, ca, ga, cg, hcs, hok⟩ := hc k hlt
      obtain ⟨c0, c1, c2, c3, c4, c5, c6, c7, c8, c9⟩ := hcs.below hbel hb
      have ho := hok.below hbel
      obtain ⟨pa', cp', aa', ca', ga', cg', hcs', hok'⟩ := hc' k hlt
      obtain ⟨d0, d1, d2, d3, d4, d5, d6, d7, d8, d9⟩ := hcs'.below hbel hb'
      have ho' := hok'.below hbel
      clear hcs hok hc hcs' hok' hc'
      have DB : ∀ w2, (w2 = wr ∨ w2 = wr.drew ∨ w2 = wr.drew.drew) → Below wr.heap.size wr w2 := by
        rintro w2 (rfl | rfl | rfl)
        · exact Below.refl _ _
        · exact (Below.refl _ _).drew
        · exact (Below.refl _ _).drew.drew
      go_wp2_with fail
      go_region_with (go_at_call 41; refine (eqEv_any _ _ _ _ _ _ _ pa _ cp aa _ ca ga _ cg pa' cp' aa' ca' ga' cg' (E k).Pv (E k).Av (E k).M (E k).L _ (ho.hp.below (DB _ (by simp))) (ho.ha.below (DB _ (by simp))) (ho.hg.below (DB _ (by simp))) (ho'.hp.below (DB _ (by simp))) (ho'.ha.below (DB _ (by simp))) (ho'.hg.below (DB _ (by simp)))).mono ?_; rintro e w1 ⟨rfl, hb1⟩)
      all_goals
        go_wp2
        go_roundw
        case rel => exact ⟨k + 1, by omega, by go_num, Below.trans (by first | exact hbel | exact hbel.drew | exact hbel.drew.drew) (hb1.mono (by exact hbel.size))⟩
        case measure => simp [intOf]; omega
    · go_wp2
      go_ret
      exact ⟨rfl, hbel⟩

theorem eqV_sl {a a' : Option Addr} {n cap cap' : Nat} {E : Nat → Ev} (w : World) (h : SlV w a n cap E) (h' : SlV w a' n cap' E) :
    Calls Try.prog 25 #[.slice a n cap, .slice a' n cap'] w fun e w' => e = .returned (.bool true) ∧ Below w.heap.size w w' := by
  rcases h.cells with rfl | ⟨b, off, rfl, hb, hc⟩
  · refine (eqV_zero a a' cap cap' w).mono ?_
    rintro e w' ⟨rfl, rfl⟩
    exact ⟨rfl, Below.refl _ _⟩
  · rcases h'.cells with rfl | ⟨b', off', rfl, hb', hc'⟩
    · refine (eqV_zero _ a' cap cap' w).mono ?_
      rintro e w' ⟨rfl, rfl⟩
      exact ⟨rfl, Below.refl _ _⟩
    · exact eqV_any b off cap b' off' cap' n E w (Nat.le_trans h.le h.max) hb hb' hc hc'

set_option maxHeartbeats 1000000 in
theorem eqR_sl {a a' : Option Addr} {n cap cap' : Nat} {E : Nat → Ev} (w : World) (h : SlV w a n cap E) (h' : SlV w a' n cap' E) :
    Calls Try.prog 9 #[.agg #[.slice a n cap], .agg #[.slice a' n cap']] w fun e w' => e = .returned (.bool true) ∧ Below w.heap.size w w' := by
  have hb0 : ∀ o o2, Below w.heap.size w ((w.alloc o).alloc o2) := fun o o2 => ((Below.refl _ _).alloc (Nat.le_refl _) _).alloc (by simp) _
  go_enter Try.func9, Try.ntmps9
  go_wp2_with fail
  refine (eqV_sl _ (h.below (hb0 _ _)) (h'.below (hb0 _ _))).mono ?_
  rintro e w3 ⟨rfl, hb3⟩
  go_wp2
  go_ret
  exact ⟨rfl, (hb0 _ _).trans (hb3.mono (by simp; omega))⟩
end Go.Proofs.Ytlopjfhdhkonbaa
namespace Go.Proofs.Ytlopjfhdhkonbaa
open Go.RowKit

section
variable (w : World) (B o : Nat) (e : Ev) (pa : Option Addr) (cp : Nat) (aa : Option Addr) (ca : Nat) (ga : Option Addr) (cg : Nat)
/-- an event stored into ten cells. -/
abbrev put10 : World :=
  ((((((((((w.setCell ⟨B, o, none⟩ (.string e.id)).setCell ⟨B, o + 1, none⟩ (.string e.sd)).setCell ⟨B, o + 2, none⟩ (.string e.ty)).setCell ⟨B, o + 3, none⟩ (.bool e.st)).setCell ⟨B, o + 4, none⟩ (.string e.key)).setCell ⟨B, o + 5, none⟩ (.int .i64 e.tm)).setCell ⟨B, o + 6, none⟩ (.slice pa e.np cp)).setCell ⟨B, o + 7, none⟩ (.slice aa e.na ca)).setCell ⟨B, o + 8, none⟩ (.string e.val)).setCell ⟨B, o + 9, none⟩ (.slice ga e.ng cg))
theorem put10_far (i : Nat) (h : i < o ∨ o + 10 ≤ i) : (put10 w B o e pa cp aa ca ga cg).cell? ⟨B, i, none⟩ = w.cell? ⟨B, i, none⟩ := by
  rw [set_far (by omega), set_far (by omega), set_far (by omega), set_far (by omega), set_far (by omega), set_far (by omega), set_far (by omega), set_far (by omega), set_far (by omega), set_far (by omega)]
theorem put10_block (C i : Nat) (h : B ≠ C) : (put10 w B o e pa cp aa ca ga cg).cell? ⟨C, i, none⟩ = w.cell? ⟨C, i, none⟩ := by
  rw [far_block h, far_block h, far_block h, far_block h, far_block h, far_block h, far_block h, far_block h, far_block h, far_block h]
theorem put10_frozen (x : Addr) : (put10 w B o e pa cp aa ca ga cg).frozen? x = w.frozen? x := by
  rw [World.frozen?_setCell, World.frozen?_setCell, World.frozen?_setCell, World.frozen?_setCell, World.frozen?_setCell, World.frozen?_setCell, World.frozen?_setCell, World.frozen?_setCell, World.frozen?_setCell, World.frozen?_setCell]
theorem put10_size : (put10 w B o e pa cp aa ca ga cg).heap.size = w.heap.size := by simp [World.setCell]
theorem put10_cells (hf : ∀ j, j < 10 → (∃ v, w.cell? ⟨B, o + j, none⟩ = some v) ∧ w.frozen? ⟨B, o + j, none⟩ = false) : EvCells (put10 w B o e pa cp aa ca ga cg) B o e pa cp aa ca ga cg :=
  ⟨by rw [set_far (by omega), set_far (by omega), set_far (by omega), set_far (by omega), set_far (by omega), set_far (by omega), set_far (by omega), set_far (by omega), set_far (by omega)]; refine set_same ?_; exact (hf 0 (by decide)).1,
    by rw [set_far (by omega), set_far (by omega), set_far (by omega), set_far (by omega), set_far (by omega), set_far (by omega), set_far (by omega), set_far (by omega)]; refine set_same ?_; rw [set_far (by omega)]; exact (hf 1 (by decide)).1,
    by rw [set_far (by omega), set_far (by omega), set_far (by omega), set_far (by omega), set_far (by omega), set_far (by omega), set_far (by omega)]; refine set_same ?_; rw [set_far (by omega), set_far (by omega)]; exact (hf 2 (by decide)).1,
    by rw [set_far (by omega), set_far (by omega), set_far (by omega), set_far (by omega), set_far (by omega), set_far (by omega)]; refine set_same ?_; rw [set_far (by omega), set_far (by omega), set_far (by omega)]; exact (hf 3 (by decide)).1,
    by rw [set_far (by omega), set_far (by omega), set_far (by omega), set_far (by omega), set_far (by omega)]; refine set_same ?_; rw [set_far (by omega), set_far (by omega), set_far (by omega), set_far (by omega)]; exact (hf 4 (by decide)).1,
    by rw [set_far (by omega), set_far (by omega), set_far (by omega), set_far (by omega)]; refine set_same ?_; rw [set_far (by omega), set_far (by omega), set_far (by omega), set_far (by omega), set_far (by omega)]; exact (hf 5 (by decide)).1,
    by rw [set_far (by omega), set_far (by omega), set_far (by omega)]; refine set_same ?_; rw [set_far (by omega), set_far (by omega), set_far (by omega), set_far (by omega), set_far (by omega), set_far (by omega)]; exact (hf 6 (by decide)).1,
    by rw [set_far (by omega), set_far (by omega)]; refine set_same ?_; rw [set_far (by omega), set_far (by omega), set_far (by omega), set_far (by omega), set_far (by omega), set_far (by omega), set_far (by omega)]; exact (hf 7 (by decide)).1,
    by rw [set_far (by omega)]; refine set_same ?_; rw [set_far (by omega), set_far (by omega), set_far (by omega), set_far (by omega), set_far (by omega), set_far (by omega), set_far (by omega), set_far (by omega)]; exact (hf 8 (by decide)).1,
    by refine set_same ?_; rw [set_far (by omega), set_far (by omega), set_far (by omega), set_far (by omega), set_far (by omega), set_far (by omega), set_far (by omega), set_far (by omega), set_far (by omega)]; exact (hf 9 (by decide)).1⟩
theorem put10_below {A0 : World} {C : Nat} (h : Below C A0 w) (hB : C ≤ B) : Below C A0 (put10 w B o e pa cp aa ca ga cg) :=
  (((((((((h.setCell hB _).setCell hB _).setCell hB _).setCell hB _).setCell hB _).setCell hB _).setCell hB _).setCell hB _).setCell hB _).setCell hB _
theorem put10_free {n : Nat} (h : Free w B n) : Free (put10 w B o e pa cp aa ca ga cg) B n :=
  set_free (set_free (set_free (set_free (set_free (set_free (set_free (set_free (set_free (set_free h)))))))))
theorem put10_slS {b off n cap : Nat} {S : Nat → ByteArray} (h : SlS w (some ⟨b, off, none⟩) n cap S) (hB : B ≠ b) : SlS (put10 w B o e pa cp aa ca ga cg) (some ⟨b, off, none⟩) n cap S :=
  (((((((((h.set hB _).set hB _).set hB _).set hB _).set hB _).set hB _).set hB _).set hB _).set hB _).set hB _
theorem put10_slG {b off n cap : Nat} {M : Nat → ByteArray} {L : Nat → Int} (h : SlG w (some ⟨b, off, none⟩) n cap M L) (hB : B ≠ b) : SlG (put10 w B o e pa cp aa ca ga cg) (some ⟨b, off, none⟩) n cap M L :=
  (((((((((h.set hB _).set hB _).set hB _).set hB _).set hB _).set hB _).set hB _).set hB _).set hB _).set hB _
end

/-- event e lies at (B, o), its lists in blocks above B. -/
def EvNew (w : World) (B o : Nat) (e : Ev) : Prop := ∃ bp ba bg, B < bp ∧ B < ba ∧ B < bg ∧ EvCells w B o e (some ⟨bp, 0, none⟩) e.np (some ⟨ba, 0, none⟩) e.na (some ⟨bg, 0, none⟩) e.ng ∧ EvOk w e (some ⟨bp, 0, none⟩) e.np (some ⟨ba, 0, none⟩) e.na (some ⟨bg, 0, none⟩) e.ng

theorem EvNew.below {w w' : World} {B o : Nat} {e : Ev} (h : EvNew w B o e) (hb : Below w.heap.size w w') (hlt : B < w.heap.size) : EvNew w' B o e := by
  obtain ⟨bp, ba, bg, h1, h2, h3, h4, h5⟩ := h
  exact ⟨bp, ba, bg, h1, h2, h3, h4.below hb hlt, h5.below hb⟩
theorem EvNew.at {w : World} {B o : Nat} {e : Ev} (h : EvNew w B o e) : EvAt w B o e := by
  obtain ⟨bp, ba, bg, _, _, _, h4, h5⟩ := h
  exact ⟨_, _, _, _, _, _, h4, h5⟩
theorem EvNew.put {w : World} {B o o' : Nat} {e e' : Ev} {pa aa ga : Option Addr} {cp ca cg : Nat} (h : EvNew w B o e) (ho : o + 10 ≤ o') : EvNew (put10 w B o' e' pa cp aa ca ga cg) B o e := by
  obtain ⟨bp, ba, bg, h1, h2, h3, h4, h5⟩ := h
  refine ⟨bp, ba, bg, h1, h2, h3, ?_, ⟨h5.hid, h5.hsd, h5.hty, h5.hkey, h5.hval, put10_slS _ _ _ _ _ _ _ _ _ _ h5.hp (by omega), put10_slS _ _ _ _ _ _ _ _ _ _ h5.ha (by omega), put10_slG _ _ _ _ _ _ _ _ _ _ h5.hg (by omega)⟩⟩
  exact ⟨(put10_far _ _ _ _ _ _ _ _ _ _ _ (by omega)).trans h4.c0, (put10_far _ _ _ _ _ _ _ _ _ _ _ (by omega)).trans h4.c1, (put10_far _ _ _ _ _ _ _ _ _ _ _ (by omega)).trans h4.c2, (put10_far _ _ _ _ _ _ _ _ _ _ _ (by omega)).trans h4.c3, (put10_far _ _ _ _ _ _ _ _ _ _ _ (by omega)).trans h4.c4, (put10_far _ _ _ _ _ _ _ _ _ _ _ (by omega)).trans h4.c5, (put10_far _ _ _ _ _ _ _ _ _ _ _ (by omega)).trans h4.c6, (put10_far _ _ _ _ _ _ _ _ _ _ _ (by omega)).trans h4.c7, (put10_far _ _ _ _ _ _ _ _ _ _ _ (by omega)).trans h4.c8, (put10_far _ _ _ _ _ _ _ _ _ _ _ (by omega)).trans h4.c9⟩

/-- n events' cells, all zero. -/
def mkV (n : Nat) : Array Value := madeCells #[.string ByteArray.empty, .string ByteArray.empty, .string ByteArray.empty, .bool false, .string ByteArray.empty, .int .i64 0, .slice none 0 0, .slice none 0 0, .string ByteArray.empty, .slice none 0 0] (n * 10)
theorem mkV_size (n : Nat) : (mkV n).size = n * 10 := size_madeCells _ _
theorem Try.infoEvent : (Try.prog.info? 50).map (fun i => (i.zero, i.size, i.bytes)) = some (some (.agg #[.string ByteArray.empty, .string ByteArray.empty, .string ByteArray.empty, .bool false, .string ByteArray.empty, .int .i64 0, .slice none 0 0, .slice none 0 0, .string ByteArray.empty, .slice none 0 0]), 10, 168) := by kernel_rfl

theorem make_ev (n : Nat) (h : n * 168 ≤ 140737488351232) (W : World) :
    (Instr.makeSlice 32 (.int .i64 (n : Int)) (.int .i64 (n : Int))).run Try.prog W = .ok (.slice (some ⟨W.heap.size, 0, none⟩) n n) (W.alloc (.cells (mkV n) 50)) := by
  obtain ⟨i0, hi, hz0, hz1, hz2⟩ := info_parts Try.infoEvent
  have := run_make (P := Try.prog) W 32 50 i0 _ Try.underlying32 hi hz0 .i64 .i64 (n : Int) (n : Int) (by omega) (by omega) (by rw [hz2]; omega) (by omega)
  rw [this, hz1]
  simp [mkV, Value.cells]

/-- the lists of an event are within the reach. -/
def EvReach (e : Ev) : Prop := e.np * 16 ≤ 140737488351232 ∧ e.na * 16 ≤ 140737488351232 ∧ e.ng * 24 ≤ 140737488351232

set_option maxHeartbeats 4000000 in
theorem toV_any (b off n cap : Nat) (E : Nat → Ev) (w : World) (hr : n * 168 ≤ 140737488351232) (hR : ∀ i, i < n → EvReach (E i)) (hb : b < w.heap.size) (hc : ∀ i, i < n → EvAt w b (off + i * 10) (E i)) :
    Calls Try.prog 19 #[.slice (some ⟨b, off, none⟩) n cap] w fun e w' =>
      e = .returned (.slice (some ⟨w.heap.size, 0, none⟩) n n) ∧ (∀ i, i < n → EvNew w' w.heap.size (i * 10) (E i)) ∧ w.heap.size < w'.heap.size ∧ Below w.heap.size w w' := by
  have hmk := make_ev n hr w
  go_enter Try.func19, Try.ntmps19
  go_wp2
  clear hmk
  go_loopw [4] (fun i wr => ∃ k : Nat, k ≤ n ∧ i = .int .i64 k ∧ Hid (∀ i, i < k → EvNew wr w.heap.size (i * 10) (E i)) ∧ Free wr w.heap.size (n * 10) ∧ w.heap.size < wr.heap.size ∧ Below w.heap.size w wr) (fun i _ => n - (intOf i).toNat)
  case atStart => exact ⟨0, Nat.zero_le _, rfl, fun i hi => absurd hi (Nat.not_lt_zero _), fun i hi => ⟨cell_made _ _ _ _ (by rw [mkV_size]; exact hi), World.frozen?_alloc_at _ _ _ _ rfl⟩, by simp, (Below.refl _ _).alloc (Nat.le_refl _) _⟩
  case round =>
    obtain ⟨k, hk, rfl, hdone, hfree, hsz, hbel⟩ := hrel
    by_cases hlt : k < n
    · obtain ⟨pa, cp, aa, ca, ga, cg, hcs, hok⟩ := hc k hlt
      obtain ⟨c0, c1, c2, c3, c4, c5, c6, c7, c8, c9⟩ := hcs.below hbel hb
      have ho := hok.below hbel
      obtain ⟨r1, r2, r3⟩ := hR k hlt
      clear hcs hok hc hR
      go_wp2_with fail
      refine (toEv_fresh _ _ _ _ _ _ _ pa _ cp aa _ ca ga _ cg (E k).Pv (E k).Av (E k).M (E k).L _ r1 r2 r3 ho.hp ho.ha ho.hg).mono ?_
      rintro e w1 ⟨bp, ba, bg, rfl, hp1, ha1, hg1, hb1, g1, g2, g3⟩
      have hfree1 : Free w1 w.heap.size (n * 10) := fun i hi => by
        obtain ⟨⟨v, hv⟩, hf⟩ := hfree i hi
        exact ⟨⟨v, (hb1.cell (by exact hsz)).trans hv⟩, (hb1.frozen (by exact hsz)).trans hf⟩
      have hf10 : ∀ j, j < 10 → (∃ v, w1.cell? ⟨w.heap.size, k * 10 + j, none⟩ = some v) ∧ w1.frozen? ⟨w.heap.size, k * 10 + j, none⟩ = false := fun j hj => hfree1 _ (by omega)
      have hdone1 : Hid (∀ i, i < k → EvNew w1 w.heap.size (i * 10) (E i)) := fun i hi => (hdone.out i hi).below hb1 hsz
      obtain ⟨⟨x0, y0⟩, z0⟩ := hf10 0 (by decide)
      obtain ⟨⟨x1, y1⟩, z1⟩ := hf10 1 (by decide)
      obtain ⟨⟨x2, y2⟩, z2⟩ := hf10 2 (by decide)
      obtain ⟨⟨x3, y3⟩, z3⟩ := hf10 3 (by decide)
      obtain ⟨⟨x4, y4⟩, z4⟩ := hf10 4 (by decide)
      obtain ⟨⟨x5, y5⟩, z5⟩ := hf10 5 (by decide)
      obtain ⟨⟨x6, y6⟩, z6⟩ := hf10 6 (by decide)
      obtain ⟨⟨x7, y7⟩, z7⟩ := hf10 7 (by decide)
      obtain ⟨⟨x8, y8⟩, z8⟩ := hf10 8 (by decide)
      obtain ⟨⟨x9, y9⟩, z9⟩ := hf10 9 (by decide)
      simp only [Nat.add_zero] at y0 z0
      have HF : Hid (_) := hf10
      have hsz1 : w.heap.size < w1.heap.size := Nat.lt_of_lt_of_le hsz hb1.size
      have hbel1 := hbel.trans (hb1.mono hbel.size)
      clear hf10 hfree hdone hbel hb1 c0 c1 c2 c3 c4 c5 c6 c7 c8 c9 r1 r2 r3
      go_wp2
      go_roundw
      case rel => exact ⟨k + 1, by omega, by go_num, fun i hi => by
        by_cases ek : i = k
        · subst ek
          exact ⟨bp, ba, bg, by omega, by omega, by omega, put10_cells _ _ _ _ _ _ _ _ _ _ HF.out, ⟨ho.hid, ho.hsd, ho.hty, ho.hkey, ho.hval, put10_slS _ _ _ _ _ _ _ _ _ _ hp1 (by omega), put10_slS _ _ _ _ _ _ _ _ _ _ ha1 (by omega), put10_slG _ _ _ _ _ _ _ _ _ _ hg1 (by omega)⟩⟩
        · exact (hdone1.out i (by omega)).put (by omega), put10_free _ _ _ _ _ _ _ _ _ _ hfree1, by rw [put10_size]; exact hsz1, put10_below _ _ _ _ _ _ _ _ _ _ hbel1 (Nat.le_refl _)⟩
      case measure => simp [intOf]; omega
    · go_wp2
      go_ret
      exact ⟨rfl, fun i hi => hdone.out i (by omega), hsz, hbel⟩

theorem toV_zero (a : Option Addr) (cap : Nat) (w : World) :
    Calls Try.prog 19 #[.slice a 0 cap] w fun e w' =>
      e = .returned (.slice (some ⟨w.heap.size, 0, none⟩) 0 0) ∧ w.heap.size < w'.heap.size ∧ Below w.heap.size w w' := by
  have hmk := make_ev 0 (by decide) w
  simp only [Int.ofNat_zero] at hmk
  go_enter Try.func19, Try.ntmps19
  go_wp2
  clear hmk
  refine wp_loop_rounds 1 ?_
  rw [rounds_succ]
  go_wp2
  go_ret
  exact ⟨rfl, by simp, (Below.refl _ _).alloc (Nat.le_refl _) _⟩

theorem toV_sl {a : Option Addr} {n cap : Nat} {E : Nat → Ev} (w : World) (hr : n * 168 ≤ 140737488351232) (hR : ∀ i, i < n → EvReach (E i)) (h : SlV w a n cap E) :
    Calls Try.prog 19 #[.slice a n cap] w fun e w' =>
      e = .returned (.slice (some ⟨w.heap.size, 0, none⟩) n n) ∧ SlV w' (some ⟨w.heap.size, 0, none⟩) n n E ∧ Below w.heap.size w w' := by
  rcases h.cells with rfl | ⟨b, off, rfl, hb, hc⟩
  · refine (toV_zero a cap w).mono ?_
    rintro e w' ⟨rfl, hsz, hbel⟩
    exact ⟨rfl, ⟨Nat.le_refl _, by decide, Or.inl rfl⟩, hbel⟩
  · refine (toV_any b off n cap E w hr hR hb hc).mono ?_
    rintro e w' ⟨rfl, hcl, hsz, hbel⟩
    exact ⟨rfl, ⟨Nat.le_refl _, by unfold maxLen; omega, Or.inr ⟨_, 0, rfl, hsz, fun i hi => by rw [Nat.zero_add]; exact (hcl i hi).at⟩⟩, hbel⟩

theorem EvNew.set {w : World} {b o C j : Nat} {e : Ev} (h : EvNew w b o e) (hC : C < b) (x : Value) : EvNew (w.setCell ⟨C, j, none⟩ x) b o e := by
  obtain ⟨bp, ba, bg, h1, h2, h3, h4, h5⟩ := h
  refine ⟨bp, ba, bg, h1, h2, h3, ⟨?_, ?_, ?_, ?_, ?_, ?_, ?_, ?_, ?_, ?_⟩, ⟨h5.hid, h5.hsd, h5.hty, h5.hkey, h5.hval, h5.hp.set (by omega) _, h5.ha.set (by omega) _, h5.hg.set (by omega) _⟩⟩
  · rw [far_block (by omega)]; exact h4.c0
  · rw [far_block (by omega)]; exact h4.c1
  · rw [far_block (by omega)]; exact h4.c2
  · rw [far_block (by omega)]; exact h4.c3
  · rw [far_block (by omega)]; exact h4.c4
  · rw [far_block (by omega)]; exact h4.c5
  · rw [far_block (by omega)]; exact h4.c6
  · rw [far_block (by omega)]; exact h4.c7
  · rw [far_block (by omega)]; exact h4.c8
  · rw [far_block (by omega)]; exact h4.c9

theorem toV_new {a : Option Addr} {n cap : Nat} {E : Nat → Ev} (w : World) (hr : n * 168 ≤ 140737488351232) (hR : ∀ i, i < n → EvReach (E i)) (h : SlV w a n cap E) :
    Calls Try.prog 19 #[.slice a n cap] w fun e w' =>
      e = .returned (.slice (some ⟨w.heap.size, 0, none⟩) n n) ∧ (∀ i, i < n → EvNew w' w.heap.size (i * 10) (E i)) ∧ w.heap.size < w'.heap.size ∧ Below w.heap.size w w' := by
  rcases h.cells with rfl | ⟨b, off, rfl, hb, hc⟩
  · refine (toV_zero a cap w).mono ?_
    rintro e w' ⟨rfl, hsz, hbel⟩
    exact ⟨rfl, fun i hi => absurd hi (Nat.not_lt_zero _), hsz, hbel⟩
  · exact toV_any b off n cap E w hr hR hb hc

set_option maxHeartbeats 1000000 in
theorem toR_sl {a : Option Addr} {n cap : Nat} {E : Nat → Ev} (w : World) (hr : n * 168 ≤ 140737488351232) (hR : ∀ i, i < n → EvReach (E i)) (h : SlV w a n cap E) :
    Calls Try.prog 6 #[.agg #[.slice a n cap]] w fun e w' =>
      ∃ b, e = .returned (.agg #[.slice (some ⟨b, 0, none⟩) n n]) ∧ SlV w' (some ⟨b, 0, none⟩) n n E ∧ Below w.heap.size w w' := by
  have hb0 : ∀ o o2 o3, Below w.heap.size w (((w.alloc o).alloc o2).alloc o3) := fun o o2 o3 => (((Below.refl _ _).alloc (Nat.le_refl _) _).alloc (by simp) _).alloc (by simp; omega) _
  go_enter Try.func6, Try.ntmps6
  go_wp2_with fail
  refine (toV_new _ hr hR (h.below (hb0 _ _ _))).mono ?_
  rintro e w1 ⟨rfl, hev, hsz1, hb1⟩
  have q1 : w1.cell? ⟨w.heap.size + 1, 0, none⟩ = some (.slice none 0 0) := (hb1.cell (by simp)).trans (by rw [World.cell?_alloc_past _ _ _ (by simp)]; exact World.cell?_alloc_at _ _ _ _ (by simp))
  have q2 : w1.cell? ⟨w.heap.size + 1 + 1, 0, none⟩ = some (.slice none 0 0) := (hb1.cell (by simp)).trans (World.cell?_alloc_at _ _ _ _ (by simp))
  have f1 : w1.frozen? ⟨w.heap.size + 1, 0, none⟩ = false := (hb1.frozen (by simp)).trans (by rw [World.frozen?_alloc_past _ _ _ (by simp)]; exact World.frozen?_alloc_at _ _ _ _ (by simp))
  have f2 : w1.frozen? ⟨w.heap.size + 1 + 1, 0, none⟩ = false := (hb1.frozen (by simp)).trans (World.frozen?_alloc_at _ _ _ _ (by simp))
  have hbel := (hb0 _ _ _).trans (hb1.mono (by simp; omega))
  simp only [World.size_alloc] at hev hsz1
  have HE : Hid (_) := hev
  clear hev hb1 hb0 h hR
  go_wp2
  refine bodyPost_ret (v := .agg #[.slice (some ⟨w.heap.size + 1 + 1 + 1, 0, none⟩) n n]) (by simp [results, Try.results6, go_sem, q1]) rfl ⟨_, rfl, ⟨Nat.le_refl _, by unfold maxLen; omega, ?_⟩, ?_⟩
  · by_cases h0 : n = 0
    · exact Or.inl h0
    · exact Or.inr ⟨_, 0, rfl, by simpa [World.setCell] using hsz1, fun i hi => by rw [Nat.zero_add]; exact (((HE.out i hi).set (by omega) _).set (by omega) _).at⟩
  · exact (hbel.setCell (Nat.le_add_right _ 2) _).setCell (Nat.le_add_right _ _) _
end Go.Proofs.Ytlopjfhdhkonbaa
