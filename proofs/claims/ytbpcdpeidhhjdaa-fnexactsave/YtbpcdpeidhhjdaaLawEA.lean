import Derived.Test.YtbpcdpeidhhjdaaProg
import Derived.Test.YtbpcdpeidhhjdaaEntA
namespace Go.Proofs.Ytbpcdpeidhhjdaa
open Go.RowKit

/-! ### sizes -/

set_option maxHeartbeats 400000 in
theorem szE1_any (x : Ent) (l : Int) (w : World) (h0 : 0 ≤ l) (h1 : l ≤ 1048576) (s1 : x.ty.size ≤ maxLen) (s2 : x.key.size ≤ maxLen) (s3 : x.id.size ≤ maxLen) :
    Calls Try.prog 16 #[entV x, .int .i64 l] w fun e w' => ∃ r : Int, e = .returned (.int .i64 r) ∧ -1 ≤ r ∧ r ≤ l ∧ Below w.heap.size w w' := by
  unfold maxLen at s1 s2 s3
  go_enter Try.func16, Try.ntmps16
  go_wp2
  iterate 3 (· go_ret; exact ⟨-1, rfl, by omega, by omega, (Below.refl _ _).alloc (Nat.le_refl _) _⟩)
  · go_ret
    exact ⟨_, rfl, by omega, by omega, (Below.refl _ _).alloc (Nat.le_refl _) _⟩

theorem szE_zero (a : Option Addr) (cap : Nat) (l : Int) (w : World) (h0 : 0 ≤ l) (h1 : l ≤ 1048576) :
    Calls Try.prog 5 #[.slice a 0 cap, .int .i64 l] w fun e w' => e = .returned (.int .i64 l) ∧ w' = w := by
  go_enter Try.func5, Try.ntmps5
  go_wp2
  refine wp_loop_rounds 1 ?_
  rw [rounds_succ]
  go_wp2
  go_ret
  exact ⟨rfl, rfl⟩

set_option maxHeartbeats 1000000 in
theorem szE_any (b off cap : Nat) (l : List Ent) (r0 : Int) (w : World) (h0 : 0 ≤ r0) (h1 : r0 ≤ 1048576) (hn : l.length ≤ maxLen) (hb : b < w.heap.size)
    (hs : ∀ i, i < l.length → (eAt l i).ty.size ≤ maxLen ∧ (eAt l i).key.size ≤ maxLen ∧ (eAt l i).id.size ≤ maxLen)
    (c1 : ∀ i, i < l.length → w.cell? ⟨b, off + i * 3, none⟩ = some (.string (eAt l i).ty)) (c2 : ∀ i, i < l.length → w.cell? ⟨b, off + i * 3 + 1, none⟩ = some (.string (eAt l i).key)) (c3 : ∀ i, i < l.length → w.cell? ⟨b, off + i * 3 + 2, none⟩ = some (.string (eAt l i).id)) :
    Calls Try.prog 5 #[.slice (some ⟨b, off, none⟩) l.length cap, .int .i64 r0] w fun e w' => ∃ r : Int, e = .returned (.int .i64 r) ∧ -1 ≤ r ∧ r ≤ r0 ∧ (r < 0 ∨ r + l.length ≤ r0) ∧ Below w.heap.size w w' := by
  unfold maxLen at hn
  by_cases hneg : r0 - l.length < 0
  · go_enter Try.func5, Try.ntmps5
    go_wp2
    go_ret
    exact ⟨-1, rfl, by omega, by omega, by omega, Below.refl _ _⟩
  · go_enter Try.func5, Try.ntmps5
    go_wp2
    go_loopw [1, 5] (fun s1 i wr => ∃ (k : Nat) (r : Int), k ≤ l.length ∧ i = .int .i64 k ∧ s1 = .int .i64 r ∧ 0 ≤ r ∧ r + l.length ≤ r0 ∧ Below w.heap.size w wr) (fun _ i _ => l.length - (intOf i).toNat)
    case atStart => exact ⟨0, _, Nat.zero_le _, rfl, rfl, by omega, by omega, Below.refl _ _⟩
    case round =>
      obtain ⟨k, r, hk, rfl, rfl, hr0, hr1, hbel⟩ := hrel
      by_cases hlt : k < l.length
      · have a1 : wr.cell? ⟨b, off + k * 3, none⟩ = some (.string (eAt l k).ty) := (hbel.cell (by exact hb)).trans (c1 k hlt)
        have a2 : wr.cell? ⟨b, off + k * 3 + 1, none⟩ = some (.string (eAt l k).key) := (hbel.cell (by exact hb)).trans (c2 k hlt)
        have a3 : wr.cell? ⟨b, off + k * 3 + 2, none⟩ = some (.string (eAt l k).id) := (hbel.cell (by exact hb)).trans (c3 k hlt)
        obtain ⟨s1, s2, s3⟩ := hs k hlt
        go_wp2_with (go_at_call 16; refine (szE1_any (eAt l k) _ _ (by assumption) (by omega) s1 s2 s3).mono ?_; rintro e w' ⟨r', rfl, hr2, hr3, hb1⟩)
        · go_ret
          exact ⟨-1, rfl, by omega, by omega, by omega, hbel.trans (hb1.mono hbel.size)⟩
        · go_roundw
          case rel => exact ⟨k + 1, r', by omega, by go_num, rfl, by assumption, by omega, hbel.trans (hb1.mono hbel.size)⟩
          case measure => simp [intOf]; omega
      · go_wp2
        go_ret
        exact ⟨r, rfl, by omega, by omega, by omega, hbel⟩

theorem szE_sl {a : Option Addr} {cap : Nat} {l : List Ent} (r0 : Int) (w : World) (h0 : 0 ≤ r0) (h1 : r0 ≤ 1048576) (h : SlE w a cap l) :
    Calls Try.prog 5 #[.slice a l.length cap, .int .i64 r0] w fun e w' => ∃ r : Int, e = .returned (.int .i64 r) ∧ -1 ≤ r ∧ r ≤ r0 ∧ (r < 0 ∨ r + l.length ≤ r0) ∧ Below w.heap.size w w' := by
  rcases h.cells with rfl | ⟨b, off, rfl, hb, c1, c2, c3⟩
  · refine (szE_zero a cap r0 w h0 h1).mono ?_
    rintro e w' ⟨rfl, rfl⟩
    exact ⟨r0, rfl, by omega, by omega, by simp, Below.refl _ _⟩
  · exact szE_any b off cap l r0 w h0 h1 (Nat.le_trans h.le h.max) hb h.size c1 c2 c3

/-! ### copies -/

/-- n entries' cells, all zero. -/
def mkE (n : Nat) : Array Value := madeCells #[.string ByteArray.empty, .string ByteArray.empty, .string ByteArray.empty] (n * 3)
theorem mkE_size (n : Nat) : (mkE n).size = n * 3 := size_madeCells _ _
theorem Try.infoEntry : (Try.prog.info? 53).map (fun i => (i.zero, i.size, i.bytes)) = some (some (.agg #[.string ByteArray.empty, .string ByteArray.empty, .string ByteArray.empty]), 3, 48) := by kernel_rfl

theorem make_ent (n : Nat) (h : n * 48 ≤ 140737488351232) (W : World) :
    (Instr.makeSlice 34 (.int .i64 (n : Int)) (.int .i64 (n : Int))).run Try.prog W = .ok (.slice (some ⟨W.heap.size, 0, none⟩) n n) (W.alloc (.cells (mkE n) 53)) := by
  obtain ⟨i0, hi, hz0, hz1, hz2⟩ := info_parts Try.infoEntry
  have := run_make (P := Try.prog) W 34 53 i0 (.agg #[.string ByteArray.empty, .string ByteArray.empty, .string ByteArray.empty]) Try.underlying34 hi hz0 .i64 .i64 (n : Int) (n : Int) (by omega) (by omega) (by rw [hz2]; omega) (by omega)
  rw [this, hz1]
  simp [mkE, Value.cells]

set_option maxHeartbeats 400000 in
theorem toE1_any (x : Ent) (w : World) :
    Calls Try.prog 25 #[entV x] w fun e w' => e = .returned (entV x) ∧ Below w.heap.size w w' := by
  go_enter Try.func25, Try.ntmps25
  go_wp2
  exact bodyPost_ret (v := entV x) (by simp [results, Try.results25, go_sem]) rfl ⟨rfl, by repeat' (first | exact Below.refl _ _ | exact Nat.le_refl _ | (refine Below.alloc ?_ ?_ _) | (simp; done) | (simp; omega))⟩

/-- the first k entries of l lie in block B. -/
def EntTo (wr : World) (B : Nat) (l : List Ent) (k : Nat) : Prop :=
  ∀ i, i < k → wr.cell? ⟨B, i * 3, none⟩ = some (.string (eAt l i).ty) ∧ wr.cell? ⟨B, i * 3 + 1, none⟩ = some (.string (eAt l i).key) ∧ wr.cell? ⟨B, i * 3 + 2, none⟩ = some (.string (eAt l i).id)

theorem EntTo.step {wr : World} {B k n : Nat} {l : List Ent} (h : EntTo wr B l k) (hf : Free wr B (n * 3)) (hk : k < n) :
    EntTo (((wr.setCell ⟨B, k * 3, none⟩ (.string (eAt l k).ty)).setCell ⟨B, k * 3 + 1, none⟩ (.string (eAt l k).key)).setCell ⟨B, k * 3 + 2, none⟩ (.string (eAt l k).id)) B l (k + 1) := by
  intro i hi
  by_cases e : i = k
  · subst e
    refine ⟨?_, ?_, set_same ?_⟩
    · rw [set_far (by omega), set_far (by omega)]; exact set_same (hf _ (by omega)).1
    · rw [set_far (by omega)]; refine set_same ?_; rw [set_far (by omega)]; exact (hf _ (by omega)).1
    · rw [set_far (by omega), set_far (by omega)]; exact (hf _ (by omega)).1
  · rw [set_far (by omega), set_far (by omega), set_far (by omega), set_far (by omega), set_far (by omega), set_far (by omega), set_far (by omega), set_far (by omega), set_far (by omega)]; exact h i (by omega)

set_option maxHeartbeats 1000000 in
theorem toE_any (b off cap : Nat) (l : List Ent) (w : World) (hr : l.length * 48 ≤ 140737488351232) (hb : b < w.heap.size)
    (c1 : ∀ i, i < l.length → w.cell? ⟨b, off + i * 3, none⟩ = some (.string (eAt l i).ty)) (c2 : ∀ i, i < l.length → w.cell? ⟨b, off + i * 3 + 1, none⟩ = some (.string (eAt l i).key)) (c3 : ∀ i, i < l.length → w.cell? ⟨b, off + i * 3 + 2, none⟩ = some (.string (eAt l i).id)) :
    Calls Try.prog 8 #[.slice (some ⟨b, off, none⟩) l.length cap] w fun e w' =>
      e = .returned (.slice (some ⟨w.heap.size, 0, none⟩) l.length l.length) ∧ EntTo w' w.heap.size l l.length ∧ Free w' w.heap.size (l.length * 3) ∧ w.heap.size < w'.heap.size ∧ Below w.heap.size w w' := by
  have hmk := make_ent l.length hr w
  go_enter Try.func8, Try.ntmps8
  go_wp2
  clear hmk
  go_loopw [4] (fun i wr => ∃ k : Nat, k ≤ l.length ∧ i = .int .i64 k ∧ EntTo wr w.heap.size l k ∧ Free wr w.heap.size (l.length * 3) ∧ w.heap.size < wr.heap.size ∧ Below w.heap.size w wr) (fun i _ => l.length - (intOf i).toNat)
  case atStart => exact ⟨0, Nat.zero_le _, rfl, fun i hi => absurd hi (Nat.not_lt_zero _), fun i hi => ⟨cell_made _ _ _ _ (by rw [mkE_size]; exact hi), World.frozen?_alloc_at _ _ _ _ rfl⟩, by simp, (Below.refl _ _).alloc (Nat.le_refl _) _⟩
  case round =>
    obtain ⟨k, hk, rfl, hdone, hfree, hsz, hbel⟩ := hrel
    by_cases hlt : k < l.length
    · have a1 : wr.cell? ⟨b, off + k * 3, none⟩ = some (.string (eAt l k).ty) := (hbel.cell (by exact hb)).trans (c1 k hlt)
      have a2 : wr.cell? ⟨b, off + k * 3 + 1, none⟩ = some (.string (eAt l k).key) := (hbel.cell (by exact hb)).trans (c2 k hlt)
      have a3 : wr.cell? ⟨b, off + k * 3 + 2, none⟩ = some (.string (eAt l k).id) := (hbel.cell (by exact hb)).trans (c3 k hlt)
      go_wp2_with fail
      refine (toE1_any (eAt l k) wr).mono ?_
      rintro e w1 ⟨rfl, hb1⟩
      have hfree1 : Free w1 w.heap.size (l.length * 3) := fun i hi => by
        obtain ⟨⟨v, hv⟩, hf⟩ := hfree i hi
        exact ⟨⟨v, (hb1.cell (by exact hsz)).trans hv⟩, (hb1.frozen (by exact hsz)).trans hf⟩
      have hdone1 : EntTo w1 w.heap.size l k := fun i hi =>
        ⟨(hb1.cell (by exact hsz)).trans (hdone i hi).1, (hb1.cell (by exact hsz)).trans (hdone i hi).2.1, (hb1.cell (by exact hsz)).trans (hdone i hi).2.2⟩
      obtain ⟨⟨v0, hv0⟩, hf0⟩ := hfree1 (k * 3) (by omega)
      obtain ⟨⟨v1, hv1⟩, hf1⟩ := hfree1 (k * 3 + 1) (by omega)
      obtain ⟨⟨v2, hv2⟩, hf2⟩ := hfree1 (k * 3 + 2) (by omega)
      have hsz1 : w.heap.size < w1.heap.size := Nat.lt_of_lt_of_le hsz hb1.size
      go_wp2
      go_roundw
      case rel => exact ⟨k + 1, by omega, by go_num, hdone1.step hfree1 hlt, set_free (set_free (set_free hfree1)), by simpa [World.setCell] using hsz1, (((hbel.trans (hb1.mono hbel.size)).setCell (Nat.le_refl _) _).setCell (Nat.le_refl _) _).setCell (Nat.le_refl _) _⟩
      case measure => simp [intOf]; omega
    · go_wp2
      go_ret
      exact ⟨rfl, fun i hi => hdone i (by omega), hfree, hsz, hbel⟩

theorem toE_zero (a : Option Addr) (cap : Nat) (w : World) :
    Calls Try.prog 8 #[.slice a 0 cap] w fun e w' =>
      e = .returned (.slice (some ⟨w.heap.size, 0, none⟩) 0 0) ∧ w.heap.size < w'.heap.size ∧ Below w.heap.size w w' := by
  have hmk := make_ent 0 (by decide) w
  simp only [Int.ofNat_zero] at hmk
  go_enter Try.func8, Try.ntmps8
  go_wp2
  clear hmk
  refine wp_loop_rounds 1 ?_
  rw [rounds_succ]
  go_wp2
  go_ret
  exact ⟨rfl, by simp, (Below.refl _ _).alloc (Nat.le_refl _) _⟩

theorem toE_sl {a : Option Addr} {cap : Nat} {l : List Ent} (w : World) (hr : l.length * 48 ≤ 140737488351232) (h : SlE w a cap l) :
    Calls Try.prog 8 #[.slice a l.length cap] w fun e w' =>
      e = .returned (.slice (some ⟨w.heap.size, 0, none⟩) l.length l.length) ∧ SlE w' (some ⟨w.heap.size, 0, none⟩) l.length l ∧ Below w.heap.size w w' := by
  rcases h.cells with rfl | ⟨b, off, rfl, hb, c1, c2, c3⟩
  · refine (toE_zero a cap w).mono ?_
    rintro e w' ⟨rfl, hsz, hbel⟩
    exact ⟨rfl, ⟨Nat.le_refl _, by decide, h.size, Or.inl rfl⟩, hbel⟩
  · refine (toE_any b off cap l w hr hb c1 c2 c3).mono ?_
    rintro e w' ⟨rfl, hcl, _, hsz, hbel⟩
    exact ⟨rfl, ⟨Nat.le_refl _, by unfold maxLen; omega, h.size, Or.inr ⟨_, 0, rfl, hsz, fun i hi => by rw [Nat.zero_add]; exact (hcl i hi).1, fun i hi => by rw [Nat.zero_add]; exact (hcl i hi).2.1, fun i hi => by rw [Nat.zero_add]; exact (hcl i hi).2.2⟩⟩, hbel⟩

/-! ### the same twice -/

theorem eqE1_any (x : Ent) (w : World) :
    Calls Try.prog 34 #[entV x, entV x] w fun e w' => e = .returned (.bool true) ∧ Below w.heap.size w w' := by
  go_enter Try.func34, Try.ntmps34
  go_wp2
  go_ret
  exact ⟨rfl, ((Below.refl _ _).alloc (Nat.le_refl _) _).alloc (by simp) _⟩

theorem eqE_zero (a a' : Option Addr) (cap cap' : Nat) (w : World) :
    Calls Try.prog 11 #[.slice a 0 cap, .slice a' 0 cap'] w fun e w' => e = .returned (.bool true) ∧ w' = w := by
  go_enter Try.func11, Try.ntmps11
  go_wp2
  refine wp_loop_rounds 1 ?_
  rw [rounds_succ]
  go_wp2
  go_ret
  exact ⟨rfl, rfl⟩

set_option maxHeartbeats 1000000 in
theorem eqE_any (b off cap b' off' cap' : Nat) (l : List Ent) (w : World) (hn : l.length ≤ maxLen) (hb : b < w.heap.size) (hb' : b' < w.heap.size)
    (c1 : ∀ i, i < l.length → w.cell? ⟨b, off + i * 3, none⟩ = some (.string (eAt l i).ty)) (c2 : ∀ i, i < l.length → w.cell? ⟨b, off + i * 3 + 1, none⟩ = some (.string (eAt l i).key)) (c3 : ∀ i, i < l.length → w.cell? ⟨b, off + i * 3 + 2, none⟩ = some (.string (eAt l i).id))
    (d1 : ∀ i, i < l.length → w.cell? ⟨b', off' + i * 3, none⟩ = some (.string (eAt l i).ty)) (d2 : ∀ i, i < l.length → w.cell? ⟨b', off' + i * 3 + 1, none⟩ = some (.string (eAt l i).key)) (d3 : ∀ i, i < l.length → w.cell? ⟨b', off' + i * 3 + 2, none⟩ = some (.string (eAt l i).id)) :
    Calls Try.prog 11 #[.slice (some ⟨b, off, none⟩) l.length cap, .slice (some ⟨b', off', none⟩) l.length cap'] w fun e w' => e = .returned (.bool true) ∧ Below w.heap.size w w' := by
  unfold maxLen at hn
  go_enter Try.func11, Try.ntmps11
  go_wp2
  go_loopw [5] (fun i wr => ∃ k : Nat, k ≤ l.length ∧ i = .int .i64 k ∧ Below w.heap.size w wr) (fun i _ => l.length - (intOf i).toNat)
  case atStart => exact ⟨0, Nat.zero_le _, rfl, Below.refl _ _⟩
  case round =>
    obtain ⟨k, hk, rfl, hbel⟩ := hrel
    by_cases hlt : k < l.length
    · have a1 : wr.cell? ⟨b, off + k * 3, none⟩ = some (.string (eAt l k).ty) := (hbel.cell (by exact hb)).trans (c1 k hlt)
      have a2 : wr.cell? ⟨b, off + k * 3 + 1, none⟩ = some (.string (eAt l k).key) := (hbel.cell (by exact hb)).trans (c2 k hlt)
      have a3 : wr.cell? ⟨b, off + k * 3 + 2, none⟩ = some (.string (eAt l k).id) := (hbel.cell (by exact hb)).trans (c3 k hlt)
      have b1 : wr.cell? ⟨b', off' + k * 3, none⟩ = some (.string (eAt l k).ty) := (hbel.cell (by exact hb')).trans (d1 k hlt)
      have b2 : wr.cell? ⟨b', off' + k * 3 + 1, none⟩ = some (.string (eAt l k).key) := (hbel.cell (by exact hb')).trans (d2 k hlt)
      have b3 : wr.cell? ⟨b', off' + k * 3 + 2, none⟩ = some (.string (eAt l k).id) := (hbel.cell (by exact hb')).trans (d3 k hlt)
      go_wp2_with fail
      go_region_with (go_at_call 34; refine (eqE1_any (eAt l k) _).mono ?_; rintro e w1 ⟨rfl, hb1⟩)
      all_goals
        go_wp2
        go_roundw
        case rel => exact ⟨k + 1, by omega, by go_num, Below.trans (by first | exact hbel | exact hbel.drew | exact hbel.drew.drew) (hb1.mono (by exact hbel.size))⟩
        case measure => simp [intOf]; omega
    · go_wp2
      go_ret
      exact ⟨rfl, hbel⟩

theorem eqE_sl {a a' : Option Addr} {cap cap' : Nat} {l : List Ent} (w : World) (h : SlE w a cap l) (h' : SlE w a' cap' l) :
    Calls Try.prog 11 #[.slice a l.length cap, .slice a' l.length cap'] w fun e w' => e = .returned (.bool true) ∧ Below w.heap.size w w' := by
  rcases h.cells with rfl | ⟨b, off, rfl, hb, c1, c2, c3⟩
  · refine (eqE_zero a a' cap cap' w).mono ?_
    rintro e w' ⟨rfl, rfl⟩
    exact ⟨rfl, Below.refl _ _⟩
  · rcases h'.cells with rfl | ⟨b', off', rfl, hb', d1, d2, d3⟩
    · refine (eqE_zero _ a' cap cap' w).mono ?_
      rintro e w' ⟨rfl, rfl⟩
      exact ⟨rfl, Below.refl _ _⟩
    · exact eqE_any b off cap b' off' cap' l w (Nat.le_trans h.le h.max) hb hb' c1 c2 c3 d1 d2 d3
end Go.Proofs.Ytbpcdpeidhhjdaa
/-
  Rows of entries that a call owns.
-/
namespace Go.Proofs.Ytbpcdpeidhhjdaa
open Go.RowKit

def encE (e : Ent) : List Value := [.string e.ty, .string e.key, .string e.id]
def encL (l : List Ent) : List Value := l.flatMap encE
theorem encL_len (l : List Ent) : (encL l).length = l.length * 3 := by
  induction l with
  | nil => rfl
  | cons x l ih => simp only [encL, List.flatMap_cons, List.length_append, List.length_cons] at ih ⊢; rw [ih]; simp [encE]; omega
theorem encL_snoc (l : List Ent) (e : Ent) : encL l ++ encE e = encL (l ++ [e]) := by simp [encL]
theorem encL_get (l : List Ent) (i : Nat) (h : i < l.length) : (encL l)[i * 3]? = some (.string (eAt l i).ty) ∧ (encL l)[i * 3 + 1]? = some (.string (eAt l i).key) ∧ (encL l)[i * 3 + 2]? = some (.string (eAt l i).id) := by
  induction l generalizing i with
  | nil => exact absurd h (Nat.not_lt_zero _)
  | cons x l ih =>
    cases i with
    | zero => simp [encL, encE, eAt]
    | succ i =>
      have := ih i (by simpa using h)
      have e1 : encL (x :: l) = .string x.ty :: .string x.key :: .string x.id :: encL l := by simp [encL, encE]
      have e2 : eAt (x :: l) (i + 1) = eAt l i := by simp [eAt]
      rw [e1, e2, show (i + 1) * 3 = i * 3 + 3 by omega]
      simpa using this

/-- the value v owns the entries l, among the blocks from base on. -/
def OwnE (w : World) (base : Nat) (v : Value) (l : List Ent) : Prop := w.ownsRow base 53 3 v l.length (encL l)

theorem ownsRow_below {w w' : World} {base e size n : Nat} {v : Value} {xs : List Value} (h : w.ownsRow base e size v n xs) (hb : Below w.heap.size w w') : w'.ownsRow base e size v n xs := by
  obtain ⟨h1, h2⟩ := h
  refine ⟨h1, ?_⟩
  rcases h2 with h2 | ⟨g, cap, cur, hv, hg, hh, r⟩
  · exact Or.inl h2
  · have hlt : g < w.heap.size := by
      rcases Nat.lt_or_ge g w.heap.size with h' | h'
      · exact h'
      · rw [Array.getElem?_eq_none h'] at hh; cases hh
    exact Or.inr ⟨g, cap, cur, hv, hg, by rw [hb.block g hlt]; exact hh, r⟩

theorem OwnE.below {w w' : World} {base : Nat} {v : Value} {l : List Ent} (h : OwnE w base v l) (hb : Below w.heap.size w w') : OwnE w' base v l := ownsRow_below h hb

theorem OwnE.sl {w : World} {base : Nat} {v : Value} {l : List Ent} (h : OwnE w base v l) (hs : ∀ i, i < l.length → (eAt l i).ty.size ≤ maxLen ∧ (eAt l i).key.size ≤ maxLen ∧ (eAt l i).id.size ≤ maxLen) :
    ∃ a cap, v = .slice a l.length cap ∧ SlE w a cap l := by
  obtain ⟨h1, h2⟩ := h
  rcases h2 with ⟨rfl, h0⟩ | ⟨g, cap, cur, rfl, hg, hh, hn, hc, hcs, hx⟩
  · have : l = [] := List.eq_nil_of_length_eq_zero h0
    subst this
    exact ⟨none, 0, rfl, ⟨Nat.le_refl _, by decide, hs, Or.inl rfl⟩⟩
  · refine ⟨_, cap, rfl, ⟨hn, hc, hs, ?_⟩⟩
    by_cases h0 : l = []
    · exact Or.inl h0
    · have hlt : g < w.heap.size := by
        rcases Nat.lt_or_ge g w.heap.size with h' | h'
        · exact h'
        · rw [Array.getElem?_eq_none h'] at hh; cases hh
      have hcell : ∀ j, j < l.length * 3 → w.cell? ⟨g, 0 + j, none⟩ = (encL l)[j]? := by
        intro j hj
        rw [← hx, List.getElem?_take, if_pos hj, Nat.zero_add]
        simp [World.cell?, hh]
      exact Or.inr ⟨g, 0, rfl, hlt, fun i hi => by rw [hcell _ (by omega)]; exact (encL_get l i hi).1, fun i hi => by rw [Nat.add_assoc, hcell _ (by omega)]; exact (encL_get l i hi).2.1, fun i hi => by rw [Nat.add_assoc, hcell _ (by omega)]; exact (encL_get l i hi).2.2⟩
end Go.Proofs.Ytbpcdpeidhhjdaa
