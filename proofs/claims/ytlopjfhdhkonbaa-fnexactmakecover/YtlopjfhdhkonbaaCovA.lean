import Derived.Test.YtlopjfhdhkonbaaBase
import Derived.Test.YtlopjfhdhkonbaaProg
import Derived.OwnWalk
import Derived.Deep.AppendLies
namespace Go.Proofs.Ytlopjfhdhkonbaa
open Go.RowKit

/-- the slice (a, n, cap) holds the numbers X 0 .. X (n-1). -/
structure SlI (w : World) (a : Option Addr) (n cap : Nat) (X : Nat → Int) : Prop where
  le : n ≤ cap
  max : cap ≤ maxLen
  cells : n = 0 ∨ ∃ b off, a = some ⟨b, off, none⟩ ∧ b < w.heap.size ∧ ∀ i, i < n → w.cell? ⟨b, off + i, none⟩ = some (.int .i64 (X i))

theorem SlI.below {w w' : World} {a : Option Addr} {n cap : Nat} {X : Nat → Int} (h : SlI w a n cap X) (hb : Below w.heap.size w w') : SlI w' a n cap X :=
  ⟨h.le, h.max, h.cells.imp id fun ⟨b, off, e, hlt, hc⟩ => ⟨b, off, e, Nat.lt_of_lt_of_le hlt hb.size, fun i hi => (hb.cell (by exact hlt)).trans (hc i hi)⟩⟩
theorem SlI.set {w : World} {b off n cap C j : Nat} {X : Nat → Int} (h : SlI w (some ⟨b, off, none⟩) n cap X) (hC : C ≠ b) (x : Value) : SlI (w.setCell ⟨C, j, none⟩ x) (some ⟨b, off, none⟩) n cap X :=
  ⟨h.le, h.max, h.cells.imp id fun ⟨b', off', e, hlt, hc⟩ => ⟨b', off', e, by simpa [World.setCell] using hlt, fun i hi => by
    have e2 : b = b' := by injection e with e; injection e
    rw [far_block (by omega)]; exact hc i hi⟩⟩

/-- the slice (a, n, cap) holds the pairs of numbers (C i, Q i). -/
structure SlP (w : World) (a : Option Addr) (n cap : Nat) (C Q : Nat → Int) : Prop where
  le : n ≤ cap
  max : cap ≤ maxLen
  cells : n = 0 ∨ ∃ b off, a = some ⟨b, off, none⟩ ∧ b < w.heap.size ∧ (∀ i, i < n → w.cell? ⟨b, off + i * 2, none⟩ = some (.int .i64 (C i))) ∧ ∀ i, i < n → w.cell? ⟨b, off + i * 2 + 1, none⟩ = some (.int .i64 (Q i))

theorem SlP.below {w w' : World} {a : Option Addr} {n cap : Nat} {C Q : Nat → Int} (h : SlP w a n cap C Q) (hb : Below w.heap.size w w') : SlP w' a n cap C Q :=
  ⟨h.le, h.max, h.cells.imp id fun ⟨b, off, e, hlt, hc, hl⟩ => ⟨b, off, e, Nat.lt_of_lt_of_le hlt hb.size, fun i hi => (hb.cell (by exact hlt)).trans (hc i hi), fun i hi => (hb.cell (by exact hlt)).trans (hl i hi)⟩⟩
theorem SlP.set {w : World} {b off n cap C j : Nat} {M L : Nat → Int} (h : SlP w (some ⟨b, off, none⟩) n cap M L) (hC : C ≠ b) (x : Value) : SlP (w.setCell ⟨C, j, none⟩ x) (some ⟨b, off, none⟩) n cap M L :=
  ⟨h.le, h.max, h.cells.imp id fun ⟨b', off', e, hlt, hc, hl⟩ => ⟨b', off', e, by simpa [World.setCell] using hlt, fun i hi => by
      have e2 : b = b' := by injection e with e; injection e
      rw [far_block (by omega)]; exact hc i hi, fun i hi => by
      have e2 : b = b' := by injection e with e; injection e
      rw [far_block (by omega)]; exact hl i hi⟩⟩

/-- at (B, o) lies a slice of the n numbers X. -/
def RowAt (w : World) (B o n : Nat) (X : Nat → Int) : Prop := ∃ ra rc, w.cell? ⟨B, o, none⟩ = some (.slice ra n rc) ∧ SlI w ra n rc X
theorem RowAt.below {w w' : World} {B o n : Nat} {X : Nat → Int} (h : RowAt w B o n X) (hb : Below w.heap.size w w') (hlt : B < w.heap.size) : RowAt w' B o n X := by
  obtain ⟨ra, rc, h1, h2⟩ := h
  exact ⟨ra, rc, (hb.cell (by exact hlt)).trans h1, h2.below hb⟩

/-- the slice (a, n, cap) holds n rows; row i has rn i numbers X i. -/
structure SlL (w : World) (a : Option Addr) (n cap : Nat) (rn : Nat → Nat) (X : Nat → Nat → Int) : Prop where
  le : n ≤ cap
  max : cap ≤ maxLen
  cells : n = 0 ∨ ∃ b off, a = some ⟨b, off, none⟩ ∧ b < w.heap.size ∧ ∀ i, i < n → RowAt w b (off + i) (rn i) (X i)

theorem SlL.below {w w' : World} {a : Option Addr} {n cap : Nat} {rn : Nat → Nat} {X : Nat → Nat → Int} (h : SlL w a n cap rn X) (hb : Below w.heap.size w w') : SlL w' a n cap rn X :=
  ⟨h.le, h.max, h.cells.imp id fun ⟨b, off, e, hlt, hc⟩ => ⟨b, off, e, Nat.lt_of_lt_of_le hlt hb.size, fun i hi => (hc i hi).below hb hlt⟩⟩

/-- at (B, o) lies a slice of the n numbers X, in a block of its own above B. -/
def RowNew (w : World) (B o n : Nat) (X : Nat → Int) : Prop := ∃ b, B < b ∧ w.cell? ⟨B, o, none⟩ = some (.slice (some ⟨b, 0, none⟩) n n) ∧ SlI w (some ⟨b, 0, none⟩) n n X
theorem RowNew.below {w w' : World} {B o n : Nat} {X : Nat → Int} (h : RowNew w B o n X) (hb : Below w.heap.size w w') (hlt : B < w.heap.size) : RowNew w' B o n X := by
  obtain ⟨b, h1, h2, h3⟩ := h
  exact ⟨b, h1, (hb.cell (by exact hlt)).trans h2, h3.below hb⟩
theorem RowNew.at {w : World} {B o n : Nat} {X : Nat → Int} (h : RowNew w B o n X) : RowAt w B o n X := by
  obtain ⟨b, _, h2, h3⟩ := h
  exact ⟨_, _, h2, h3⟩
theorem RowNew.put {w : World} {B o o' n : Nat} {X : Nat → Int} (h : RowNew w B o n X) (ho : o ≠ o') (x : Value) : RowNew (w.setCell ⟨B, o', none⟩ x) B o n X := by
  obtain ⟨b, h1, h2, h3⟩ := h
  exact ⟨b, h1, by rw [set_far ho]; exact h2, h3.set (by omega) _⟩
theorem RowNew.set {w : World} {B o n C j : Nat} {X : Nat → Int} (h : RowNew w B o n X) (hC : C < B) (x : Value) : RowNew (w.setCell ⟨C, j, none⟩ x) B o n X := by
  obtain ⟨b, h1, h2, h3⟩ := h
  exact ⟨b, h1, by rw [far_block (by omega)]; exact h2, h3.set (by omega) _⟩
end Go.Proofs.Ytlopjfhdhkonbaa
/-
  Rows of numbers that a call owns.
-/
namespace Go.Proofs.Ytlopjfhdhkonbaa
open Go.RowKit

theorem Try.infoIntO : (Try.prog.info? 3).map (fun i => (i.zero, i.size, i.bytes)) = some (some (.int .i64 0), 1, 8) := by kernel_rfl

theorem ownsRow_blwI {w w' : World} {base e size n : Nat} {v : Value} {xs : List Value} (h : w.ownsRow base e size v n xs) (hb : Below w.heap.size w w') : w'.ownsRow base e size v n xs := by
  obtain ⟨h1, h2⟩ := h
  refine ⟨h1, ?_⟩
  rcases h2 with h2 | ⟨g, cap, cur, hv, hg, hh, r⟩
  · exact Or.inl h2
  · have hlt : g < w.heap.size := by
      rcases Nat.lt_or_ge g w.heap.size with h' | h'
      · exact h'
      · rw [Array.getElem?_eq_none h'] at hh; cases hh
    exact Or.inr ⟨g, cap, cur, hv, hg, by rw [hb.block g hlt]; exact hh, r⟩

/-- the first n numbers as values. -/
def ints (X : Nat → Int) (n : Nat) : List Value := (List.range n).map fun i => .int .i64 (X i)
theorem ints_len (X : Nat → Int) (n : Nat) : (ints X n).length = n := by simp [ints]
theorem ints_get (X : Nat → Int) (n i : Nat) (h : i < n) : (ints X n)[i]? = some (.int .i64 (X i)) := by simp [ints, h]
theorem ints_snoc (X : Nat → Int) (n : Nat) : ints X n ++ [.int .i64 (X n)] = ints X (n + 1) := by simp [ints, List.range_succ]

/-- the value v owns the numbers X 0 .. X (n-1), among the blocks from base on. -/
def OwnI (w : World) (base : Nat) (v : Value) (n : Nat) (X : Nat → Int) : Prop := w.ownsRow base 3 1 v n (ints X n)

theorem OwnI.below {w w' : World} {base n : Nat} {v : Value} {X : Nat → Int} (h : OwnI w base v n X) (hb : Below w.heap.size w w') : OwnI w' base v n X := ownsRow_blwI h hb
theorem OwnI.snoc {w : World} {base n : Nat} {v : Value} {X : Nat → Int} {x : Int} (h : w.ownsRow base 3 1 v (n + 1) (ints X n ++ [.int .i64 x])) (hx : x = X n) : OwnI w base v (n + 1) X := by
  subst hx; rw [ints_snoc] at h; exact h
theorem OwnI.nil (w : World) (base : Nat) (X : Nat → Int) : OwnI w base (.slice none 0 0) 0 X := ⟨rfl, Or.inl ⟨rfl, rfl⟩⟩
theorem OwnI.new (w : World) (base : Nat) (hb : base ≤ w.heap.size) (X : Nat → Int) : OwnI (w.alloc (.cells #[] 3)) base (.slice (some ⟨w.heap.size, 0, none⟩) 0 0) 0 X :=
  ⟨rfl, Or.inr ⟨w.heap.size, 0, #[], rfl, hb, by show (w.heap.push _)[w.heap.size]? = _; simp, Nat.le_refl _, by decide, rfl, rfl⟩⟩
theorem OwnI.made (w : World) (base m : Nat) (cs : Array Value) (hm : m ≤ maxLen) (hc : cs.size = m) (hb : base ≤ w.heap.size) (X : Nat → Int) : OwnI (w.alloc (.cells cs 3)) base (.slice (some ⟨w.heap.size, 0, none⟩) 0 m) 0 X :=
  ⟨rfl, Or.inr ⟨w.heap.size, m, cs, rfl, hb, by show (w.heap.push _)[w.heap.size]? = _; simp, Nat.zero_le _, hm, by rw [hc, Nat.mul_one], by simp [ints]⟩⟩

theorem OwnI.cells {w : World} {base n : Nat} {v : Value} {X : Nat → Int} (h : OwnI w base v n X) :
    (v = .slice none 0 0 ∧ n = 0) ∨ ∃ g cap, v = .slice (some ⟨g, 0, none⟩) n cap ∧ base ≤ g ∧ g < w.heap.size ∧ n ≤ cap ∧ cap ≤ maxLen ∧ ∀ i, i < n → w.cell? ⟨g, 0 + i, none⟩ = some (.int .i64 (X i)) := by
  obtain ⟨h1, h2⟩ := h
  rcases h2 with ⟨rfl, h0⟩ | ⟨g, cap, cur, rfl, hg, hh, hn, hc, hcs, hx⟩
  · exact Or.inl ⟨rfl, h0⟩
  · have hlt : g < w.heap.size := by
      rcases Nat.lt_or_ge g w.heap.size with h' | h'
      · exact h'
      · rw [Array.getElem?_eq_none h'] at hh; cases hh
    refine Or.inr ⟨g, cap, rfl, hg, hlt, hn, hc, fun j hj => ?_⟩
    rw [← ints_get X n j hj, ← hx, List.getElem?_take, if_pos (by omega), Nat.zero_add]
    simp [World.cell?, hh]

theorem OwnI.sl {w : World} {base n : Nat} {v : Value} {X : Nat → Int} (h : OwnI w base v n X) : ∃ a cap, v = .slice a n cap ∧ SlI w a n cap X := by
  rcases h.cells with ⟨rfl, rfl⟩ | ⟨g, cap, rfl, hg, hlt, hn, hc, hx⟩
  · exact ⟨none, 0, rfl, ⟨Nat.le_refl _, by decide, Or.inl rfl⟩⟩
  · exact ⟨_, cap, rfl, ⟨hn, hc, Or.inr ⟨g, 0, rfl, hlt, hx⟩⟩⟩

theorem one_cellsI (w1 : World) (x : Value) (t : TypeId) (j : Nat) (u : Value) (h : [x][j]? = some u) : (w1.alloc (.cells #[x] t)).cell? ((⟨w1.heap.size, 0, none⟩ : Addr).add j) = some u := by
  have hj : j < 1 := by
    rcases Nat.lt_or_ge j 1 with h' | h'
    · exact h'
    · rw [List.getElem?_eq_none (by simpa using h')] at h; cases h
  match j, hj, h with
  | 0, _, h => rw [show (⟨w1.heap.size, 0, none⟩ : Addr).add 0 = ⟨w1.heap.size, 0, none⟩ from rfl, World.cell?_alloc_at _ _ _ _ rfl]; exact h
theorem one_oneI (x : Int) (u : Value) (h : u ∈ [Value.int .i64 x]) : u.oneCell' = true := by
  simp only [List.mem_cons, List.not_mem_nil, or_false] at h
  subst h; rfl
end Go.Proofs.Ytlopjfhdhkonbaa
