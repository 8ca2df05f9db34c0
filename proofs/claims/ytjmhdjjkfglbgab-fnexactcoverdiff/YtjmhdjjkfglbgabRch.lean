import Derived.Test.YtjmhdjjkfglbgabCov
import Derived.Test.YtjmhdjjkfglbgabProg
import Derived.Deep.RegionWith
namespace Go.Proofs.Ytjmhdjjkfglbgab
open Go.RowKit

/-- a row of n numbers X has at chain c at least q, q being 1 or more. -/
def inB (n : Nat) (X : Nat → Int) (c q : Int) : Bool := decide (1 ≤ q) && (decide (0 ≤ c) && (decide (c < n) && decide (q ≤ X c.toNat)))
/-- Reaches, of what lies in a cover. -/
def reachB (ns : Nat) (C Q : Nat → Int) (nr : Nat) (rn : Nat → Nat) (X : Nat → Nat → Int) (a b : Int) : Bool :=
  decide (0 ≤ a ∧ a < nr ∧ 0 ≤ b ∧ b < ns) && inB (rn a.toNat) (X a.toNat) (C b.toNat) (Q b.toNat)

theorem reachB_no {ns : Nat} {C Q : Nat → Int} {nr : Nat} {rn : Nat → Nat} {X : Nat → Nat → Int} {a b : Int} (h : ¬ (0 ≤ a ∧ a < nr ∧ 0 ≤ b ∧ b < ns)) : reachB ns C Q nr rn X a b = false := by
  unfold reachB; rw [decide_eq_false h]; rfl
theorem reachB_yes {ns : Nat} {C Q : Nat → Int} {nr : Nat} {rn : Nat → Nat} {X : Nat → Nat → Int} {i j : Nat} (hi : i < nr) (hj : j < ns) : reachB ns C Q nr rn X i j = inB (rn i) (X i) (C j) (Q j) := by
  unfold reachB; rw [decide_eq_true (by omega)]; simp

theorem SlP.at {w : World} {a : Option Addr} {n cap : Nat} {C Q : Nat → Int} (h : SlP w a n cap C Q) {j : Nat} (hj : j < n) :
    ∃ b off, a = some ⟨b, off, none⟩ ∧ b < w.heap.size ∧ w.cell? ⟨b, off + j * 2, none⟩ = some (.int .i64 (C j)) ∧ w.cell? ⟨b, off + j * 2 + 1, none⟩ = some (.int .i64 (Q j)) := by
  rcases h.cells with h0 | ⟨b, off, e, hb, hc, hl⟩
  · omega
  · exact ⟨b, off, e, hb, hc j hj, hl j hj⟩
theorem SlL.at {w : World} {a : Option Addr} {n cap : Nat} {rn : Nat → Nat} {X : Nat → Nat → Int} (h : SlL w a n cap rn X) {j : Nat} (hj : j < n) :
    ∃ b off, a = some ⟨b, off, none⟩ ∧ b < w.heap.size ∧ RowAt w b (off + j) (rn j) (X j) := by
  rcases h.cells with h0 | ⟨b, off, e, hb, hc⟩
  · omega
  · exact ⟨b, off, e, hb, hc j hj⟩
theorem SlI.at {w : World} {a : Option Addr} {n cap : Nat} {X : Nat → Int} (h : SlI w a n cap X) {j : Nat} (hj : j < n) :
    ∃ b off, a = some ⟨b, off, none⟩ ∧ b < w.heap.size ∧ w.cell? ⟨b, off + j, none⟩ = some (.int .i64 (X j)) := by
  rcases h.cells with h0 | ⟨b, off, e, hb, hc⟩
  · omega
  · exact ⟨b, off, e, hb, hc j hj⟩

theorem past1 {w : World} {b o : Nat} {v : Value} (hb : b < w.heap.size) (h : w.cell? ⟨b, o, none⟩ = some v) (x : Obj) : (w.alloc x).cell? ⟨b, o, none⟩ = some v := by
  rw [World.cell?_alloc_past _ _ _ (by exact hb)]; exact h

set_option maxHeartbeats 1000000 in
theorem inI_any (ra : Option Addr) (n rc : Nat) (X : Nat → Int) (c q : Int) (w : World) (h : SlI w ra n rc X) :
    Calls Try.prog 42 #[.slice ra n rc, .agg #[.int .i64 c, .int .i64 q]] w fun e w' => e = .returned (.bool (inB n X c q)) ∧ Below w.heap.size w w' := by
  have hn := Nat.le_trans h.le h.max
  unfold maxLen at hn
  have hb0 : ∀ o, Below w.heap.size w (w.alloc o) := fun o => (Below.refl _ _).alloc (Nat.le_refl _) _
  by_cases hc : 0 ≤ c ∧ c < n
  · obtain ⟨j, rfl⟩ : ∃ j : Nat, c = j := ⟨c.toNat, by omega⟩
    obtain ⟨b, off, rfl, hb, hj⟩ := h.at (j := j) (by omega)
    have hj1 := past1 hb hj
    have hin : Hid (inB n X j q = (decide (1 ≤ q) && decide (q ≤ X j))) := by
      unfold Hid
      unfold inB; rw [decide_eq_true (p := (0:Int) ≤ j) (by omega), decide_eq_true (p := (j:Int) < n) (by omega)]; simp
    by_cases hq : 1 ≤ q
    · have hqd := decide_eq_true hq
      have hv : Hid (decide (q ≤ X j) = inB n X j q) := by unfold Hid; rw [hin.out, hqd]; rfl
      go_enter Try.func42, Try.ntmps42
      go_wp2_with fail
      go_quiet (fail)
      go_wp2
      go_ret
      exact ⟨ret_bool hv.out, (hb0 _).trans (Dr.below ⟨_, rfl⟩ _)⟩
    · have hqd := decide_eq_false hq
      have hv : Hid (false = inB n X j q) := by unfold Hid; rw [hin.out, hqd]; rfl
      go_enter Try.func42, Try.ntmps42
      go_wp2_with fail
      go_quiet (fail)
      go_wp2
      go_ret
      exact ⟨ret_bool hv.out, (hb0 _).trans (Dr.below ⟨_, rfl⟩ _)⟩
  · have hin : Hid (inB n X c q = false) := by
      unfold Hid
      unfold inB
      by_cases h1 : 0 ≤ c
      · rw [decide_eq_false (p := c < (n : Int)) (by omega)]; simp
      · rw [decide_eq_false (p := (0:Int) ≤ c) (by omega)]; simp
    go_enter Try.func42, Try.ntmps42
    go_wp2
    all_goals
      go_ret
      exact ⟨ret_bool hin.out.symm, hb0 _⟩

set_option maxHeartbeats 2000000 in
theorem rchS_any (sa : Option Addr) (ns cs : Nat) (ra : Option Addr) (nr cr : Nat) (C Q : Nat → Int) (rn : Nat → Nat) (X : Nat → Nat → Int) (a b : Int) (w : World) (hp : SlP w sa ns cs C Q) (hl : SlL w ra nr cr rn X) :
    Calls Try.prog 53 #[.agg #[.slice sa ns cs, .slice ra nr cr], .int .i64 a, .int .i64 b] w fun e w' => e = .returned (.bool (reachB ns C Q nr rn X a b)) ∧ Below w.heap.size w w' := by
  have hb0 : ∀ o, Below w.heap.size w (w.alloc o) := fun o => (Below.refl _ _).alloc (Nat.le_refl _) _
  by_cases hc : 0 ≤ a ∧ a < nr ∧ 0 ≤ b ∧ b < ns
  · obtain ⟨i, rfl⟩ : ∃ i : Nat, a = i := ⟨a.toNat, by omega⟩
    obtain ⟨j, rfl⟩ : ∃ j : Nat, b = j := ⟨b.toNat, by omega⟩
    have hin : Hid (_) := reachB_yes (C := C) (Q := Q) (rn := rn) (X := X) (i := i) (j := j) (nr := nr) (ns := ns) (by omega) (by omega)
    obtain ⟨bp, op, rfl, hbp, hp0, hp1⟩ := hp.at (j := j) (by omega)
    obtain ⟨bl, ol, rfl, hbl, rr, rc, hl0, hs⟩ := hl.at (j := i) (by omega)
    have q0 := past1 hbp hp0
    have q1 := past1 hbp hp1
    have q2 := past1 hbl hl0
    have p2 := fun o o2 => past1 (w := w.alloc o) (by simp; omega) (q2 o) o2
    have hb2 : ∀ o o2, Below w.heap.size w ((w.alloc o).alloc o2) := fun o o2 => (hb0 o).alloc (by simp) _
    have hi : (i : Int) < nr := hc.2.1
    have hj : (j : Int) < ns := hc.2.2.2
    clear hp hl hp0 hp1 hl0 hc
    generalize C j = c at q0 hin
    generalize Q j = q at q1 hin
    by_cases h1 : 1 ≤ q
    · have d1 := decide_eq_true h1
      by_cases h2 : 0 ≤ c
      · have d2 := decide_eq_true h2
        by_cases h3 : c < rn i
        · have d3 := decide_eq_true h3
          obtain ⟨k, rfl⟩ : ∃ k : Nat, c = k := ⟨c.toNat, by omega⟩
          obtain ⟨b3, o3, rfl, hb3, hk⟩ := hs.at (j := k) (by omega)
          have t1 := fun o o2 => past1 (w := w.alloc o) (by simp; omega) (past1 hb3 hk o) o2
          have hv : Hid (decide (q ≤ X i k) = reachB ns C Q nr rn X i j) := by unfold Hid; rw [hin.out]; unfold inB; rw [d1, d2, d3]; simp
          clear hs
          go_enter Try.func53, Try.ntmps53
          go_wp2_with fail
          go_quiet (fail)
          go_wp2
          go_ret
          exact ⟨ret_bool hv.out, (hb2 _ _).trans (Dr.below ⟨_, rfl⟩ _)⟩
        · have d3 := decide_eq_false h3
          have hv : Hid (false = reachB ns C Q nr rn X i j) := by unfold Hid; rw [hin.out]; unfold inB; rw [d1, d2, d3]; rfl
          go_enter Try.func53, Try.ntmps53
          go_wp2_with fail
          go_quiet (fail)
          go_wp2
          go_ret
          exact ⟨ret_bool hv.out, (hb2 _ _).trans (Dr.below ⟨_, rfl⟩ _)⟩
      · have d2 := decide_eq_false h2
        have hv : Hid (false = reachB ns C Q nr rn X i j) := by unfold Hid; rw [hin.out]; unfold inB; rw [d1, d2]; rfl
        go_enter Try.func53, Try.ntmps53
        go_wp2_with fail
        go_quiet (fail)
        go_wp2
        go_ret
        exact ⟨ret_bool hv.out, (hb2 _ _).trans (Dr.below ⟨_, rfl⟩ _)⟩
    · have d1 := decide_eq_false h1
      have hv : Hid (false = reachB ns C Q nr rn X i j) := by unfold Hid; rw [hin.out]; unfold inB; rw [d1]; rfl
      go_enter Try.func53, Try.ntmps53
      go_wp2_with fail
      go_quiet (fail)
      go_wp2
      go_ret
      exact ⟨ret_bool hv.out, (hb2 _ _).trans (Dr.below ⟨_, rfl⟩ _)⟩
  · have hin : Hid (_) := reachB_no (C := C) (Q := Q) (rn := rn) (X := X) hc
    go_enter Try.func53, Try.ntmps53
    go_wp2
    all_goals
      go_ret
      exact ⟨ret_bool hin.out.symm, hb0 _⟩
end Go.Proofs.Ytjmhdjjkfglbgab
