/-
  Rows of numbers that a call owns.
-/
import Derived.Test.YtepajkhgigfbpaaProg
import Derived.Test.YtepajkhgigfbpaaCov
import Derived.OwnWalk
import Derived.Deep.AppendLies
namespace Go.Proofs.Ytepajkhgigfbpaa
open Go.RowKit

theorem Try.infoIntO : (Try.prog.info? 3).map (fun i => (i.zero, i.size, i.bytes)) = some (some (.int .i64 0), 1, 8) := by kernel_rfl

theorem ownsRow_blwI {w w' : World} {base e size n : Nat} {v : Value} {xs : List Value} (h : w.ownsRow base e size v n xs) (hb : Below w.heap.size w w') : w'.ownsRow base e size v n xs := by
  obtain ⟨h1, h2⟩ := h
  refine ⟨h1, ?_⟩
  rcases h2 with h2 | ⟨g, cap, cur, hv, hg, hh, r⟩
  · exact Or.inl h2
  · have hlt : g < w.heap.size := by
      rcases Nat.lt_or_ge g w.heap.size with h' | h'
      · exact h'
      · rw [Array.getElem?_eq_none h'] at hh; cases hh
    exact Or.inr ⟨g, cap, cur, hv, hg, by rw [hb.block g hlt]; exact hh, r⟩

/-- the first n numbers as values. -/
def ints (X : Nat → Int) (n : Nat) : List Value := (List.range n).map fun i => .int .i64 (X i)
theorem ints_len (X : Nat → Int) (n : Nat) : (ints X n).length = n := by simp [ints]
theorem ints_get (X : Nat → Int) (n i : Nat) (h : i < n) : (ints X n)[i]? = some (.int .i64 (X i)) := by simp [ints, h]
theorem ints_snoc (X : Nat → Int) (n : Nat) : ints X n ++ [.int .i64 (X n)] = ints X (n + 1) := by simp [ints, List.range_succ]

/-- the value v owns the numbers X 0 .. X (n-1), among the blocks from base on. -/
def OwnI (w : World) (base : Nat) (v : Value) (n : Nat) (X : Nat → Int) : Prop := w.ownsRow base 3 1 v n (ints X n)

theorem OwnI.below {w w' : World} {base n : Nat} {v : Value} {X : Nat → Int} (h : OwnI w base v n X) (hb : Below w.heap.size w w') : OwnI w' base v n X := ownsRow_blwI h hb
theorem OwnI.snoc {w : World} {base n : Nat} {v : Value} {X : Nat → Int} {x : Int} (h : w.ownsRow base 3 1 v (n + 1) (ints X n ++ [.int .i64 x])) (hx : x = X n) : OwnI w base v (n + 1) X := by
  subst hx; rw [ints_snoc] at h; exact h
theorem OwnI.nil (w : World) (base : Nat) (X : Nat → Int) : OwnI w base (.slice none 0 0) 0 X := ⟨rfl, Or.inl ⟨rfl, rfl⟩⟩
theorem OwnI.new (w : World) (base : Nat) (hb : base ≤ w.heap.size) (X : Nat → Int) : OwnI (w.alloc (.cells #[] 3)) base (.slice (some ⟨w.heap.size, 0, none⟩) 0 0) 0 X :=
  ⟨rfl, Or.inr ⟨w.heap.size, 0, #[], rfl, hb, by show (w.heap.push _)[w.heap.size]? = _; simp, Nat.le_refl _, by decide, rfl, rfl⟩⟩
theorem OwnI.made (w : World) (base m : Nat) (cs : Array Value) (hm : m ≤ maxLen) (hc : cs.size = m) (hb : base ≤ w.heap.size) (X : Nat → Int) : OwnI (w.alloc (.cells cs 3)) base (.slice (some ⟨w.heap.size, 0, none⟩) 0 m) 0 X :=
  ⟨rfl, Or.inr ⟨w.heap.size, m, cs, rfl, hb, by show (w.heap.push _)[w.heap.size]? = _; simp, Nat.zero_le _, hm, by rw [hc, Nat.mul_one], by simp [ints]⟩⟩

theorem OwnI.cells {w : World} {base n : Nat} {v : Value} {X : Nat → Int} (h : OwnI w base v n X) :
    (v = .slice none 0 0 ∧ n = 0) ∨ ∃ g cap, v = .slice (some ⟨g, 0, none⟩) n cap ∧ base ≤ g ∧ g < w.heap.size ∧ n ≤ cap ∧ cap ≤ maxLen ∧ ∀ i, i < n → w.cell? ⟨g, 0 + i, none⟩ = some (.int .i64 (X i)) := by
  obtain ⟨h1, h2⟩ := h
  rcases h2 with ⟨rfl, h0⟩ | ⟨g, cap, cur, rfl, hg, hh, hn, hc, hcs, hx⟩
  · exact Or.inl ⟨rfl, h0⟩
  · have hlt : g < w.heap.size := by
      rcases Nat.lt_or_ge g w.heap.size with h' | h'
      · exact h'
      · rw [Array.getElem?_eq_none h'] at hh; cases hh
    refine Or.inr ⟨g, cap, rfl, hg, hlt, hn, hc, fun j hj => ?_⟩
    rw [← ints_get X n j hj, ← hx, List.getElem?_take, if_pos (by omega), Nat.zero_add]
    simp [World.cell?, hh]

theorem OwnI.sl {w : World} {base n : Nat} {v : Value} {X : Nat → Int} (h : OwnI w base v n X) : ∃ a cap, v = .slice a n cap ∧ SlI w a n cap X := by
  rcases h.cells with ⟨rfl, rfl⟩ | ⟨g, cap, rfl, hg, hlt, hn, hc, hx⟩
  · exact ⟨none, 0, rfl, ⟨Nat.le_refl _, by decide, Or.inl rfl⟩⟩
  · exact ⟨_, cap, rfl, ⟨hn, hc, Or.inr ⟨g, 0, rfl, hlt, hx⟩⟩⟩

theorem one_cellsI (w1 : World) (x : Value) (t : TypeId) (j : Nat) (u : Value) (h : [x][j]? = some u) : (w1.alloc (.cells #[x] t)).cell? ((⟨w1.heap.size, 0, none⟩ : Addr).add j) = some u := by
  have hj : j < 1 := by
    rcases Nat.lt_or_ge j 1 with h' | h'
    · exact h'
    · rw [List.getElem?_eq_none (by simpa using h')] at h; cases h
  match j, hj, h with
  | 0, _, h => rw [show (⟨w1.heap.size, 0, none⟩ : Addr).add 0 = ⟨w1.heap.size, 0, none⟩ from rfl, World.cell?_alloc_at _ _ _ _ rfl]; exact h
theorem one_oneI (x : Int) (u : Value) (h : u ∈ [Value.int .i64 x]) : u.oneCell' = true := by
  simp only [List.mem_cons, List.not_mem_nil, or_false] at h
  subst h; rfl
end Go.Proofs.Ytepajkhgigfbpaa
