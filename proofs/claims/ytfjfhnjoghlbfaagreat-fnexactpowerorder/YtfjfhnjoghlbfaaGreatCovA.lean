import Derived.Test.YtfjfhnjoghlbfaaGreatBase
import Derived.Test.YtfjfhnjoghlbfaaGreatProg
import Derived.OwnWalk
import Derived.Deep.AppendLies
import Derived.Laws.OwnMore
namespace Go.Proofs.YtfjfhnjoghlbfaaGreat
open Go.RowKit

/-- the slice (a, n, cap) holds the numbers X 0 .. X (n-1). -/
structure SlI (w : World) (a : Option Addr) (n cap : Nat) (X : Nat → Int) : Prop where
  le : n ≤ cap
  max : cap ≤ maxLen
  cells : n = 0 ∨ ∃ b off, a = some ⟨b, off, none⟩ ∧ b < w.heap.size ∧ ∀ i, i < n → w.cell? ⟨b, off + i, none⟩ = some (.int .i64 (X i))

theorem SlI.below {w w' : World} {a : Option Addr} {n cap : Nat} {X : Nat → Int} (h : SlI w a n cap X) (hb : Below w.heap.size w w') : SlI w' a n cap X :=
  ⟨h.le, h.max, h.cells.imp id fun ⟨b, off, e, hlt, hc⟩ => ⟨b, off, e, Nat.lt_of_lt_of_le hlt hb.size, fun i hi => (hb.cell (by exact hlt)).trans (hc i hi)⟩⟩
theorem SlI.set {w : World} {b off n cap C j : Nat} {X : Nat → Int} (h : SlI w (some ⟨b, off, none⟩) n cap X) (hC : C ≠ b) (x : Value) : SlI (w.setCell ⟨C, j, none⟩ x) (some ⟨b, off, none⟩) n cap X :=
  ⟨h.le, h.max, h.cells.imp id fun ⟨b', off', e, hlt, hc⟩ => ⟨b', off', e, by simpa [World.setCell] using hlt, fun i hi => by
    have e2 : b = b' := by injection e with e; injection e
    rw [far_block (by omega)]; exact hc i hi⟩⟩

/-- the slice (a, n, cap) holds the pairs of numbers (C i, Q i). -/
structure SlP (w : World) (a : Option Addr) (n cap : Nat) (C Q : Nat → Int) : Prop where
  le : n ≤ cap
  max : cap ≤ maxLen
  cells : n = 0 ∨ ∃ b off, a = some ⟨b, off, none⟩ ∧ b < w.heap.size ∧ (∀ i, i < n → w.cell? ⟨b, off + i * 2, none⟩ = some (.int .i64 (C i))) ∧ ∀ i, i < n → w.cell? ⟨b, off + i * 2 + 1, none⟩ = some (.int .i64 (Q i))

theorem SlP.below {w w' : World} {a : Option Addr} {n cap : Nat} {C Q : Nat → Int} (h : SlP w a n cap C Q) (hb : Below w.heap.size w w') : SlP w' a n cap C Q :=
  ⟨h.le, h.max, h.cells.imp id fun ⟨b, off, e, hlt, hc, hl⟩ => ⟨b, off, e, Nat.lt_of_lt_of_le hlt hb.size, fun i hi => (hb.cell (by exact hlt)).trans (hc i hi), fun i hi => (hb.cell (by exact hlt)).trans (hl i hi)⟩⟩
theorem SlP.set {w : World} {b off n cap C j : Nat} {M L : Nat → Int} (h : SlP w (some ⟨b, off, none⟩) n cap M L) (hC : C ≠ b) (x : Value) : SlP (w.setCell ⟨C, j, none⟩ x) (some ⟨b, off, none⟩) n cap M L :=
  ⟨h.le, h.max, h.cells.imp id fun ⟨b', off', e, hlt, hc, hl⟩ => ⟨b', off', e, by simpa [World.setCell] using hlt, fun i hi => by
      have e2 : b = b' := by injection e with e; injection e
      rw [far_block (by omega)]; exact hc i hi, fun i hi => by
      have e2 : b = b' := by injection e with e; injection e
      rw [far_block (by omega)]; exact hl i hi⟩⟩

/-- at (B, o) lies a slice of the n numbers X. -/
def RowAt (w : World) (B o n : Nat) (X : Nat → Int) : Prop := ∃ ra rc, w.cell? ⟨B, o, none⟩ = some (.slice ra n rc) ∧ SlI w ra n rc X
theorem RowAt.below {w w' : World} {B o n : Nat} {X : Nat → Int} (h : RowAt w B o n X) (hb : Below w.heap.size w w') (hlt : B < w.heap.size) : RowAt w' B o n X := by
  obtain ⟨ra, rc, h1, h2⟩ := h
  exact ⟨ra, rc, (hb.cell (by exact hlt)).trans h1, h2.below hb⟩

/-- the slice (a, n, cap) holds n rows; row i has rn i numbers X i. -/
structure SlL (w : World) (a : Option Addr) (n cap : Nat) (rn : Nat → Nat) (X : Nat → Nat → Int) : Prop where
  le : n ≤ cap
  max : cap ≤ maxLen
  cells : n = 0 ∨ ∃ b off, a = some ⟨b, off, none⟩ ∧ b < w.heap.size ∧ ∀ i, i < n → RowAt w b (off + i) (rn i) (X i)

theorem SlL.below {w w' : World} {a : Option Addr} {n cap : Nat} {rn : Nat → Nat} {X : Nat → Nat → Int} (h : SlL w a n cap rn X) (hb : Below w.heap.size w w') : SlL w' a n cap rn X :=
  ⟨h.le, h.max, h.cells.imp id fun ⟨b, off, e, hlt, hc⟩ => ⟨b, off, e, Nat.lt_of_lt_of_le hlt hb.size, fun i hi => (hc i hi).below hb hlt⟩⟩

/-- at (B, o) lies a slice of the n numbers X, in a block of its own above B. -/
def RowNew (w : World) (B o n : Nat) (X : Nat → Int) : Prop := ∃ b, B < b ∧ w.cell? ⟨B, o, none⟩ = some (.slice (some ⟨b, 0, none⟩) n n) ∧ SlI w (some ⟨b, 0, none⟩) n n X
theorem RowNew.below {w w' : World} {B o n : Nat} {X : Nat → Int} (h : RowNew w B o n X) (hb : Below w.heap.size w w') (hlt : B < w.heap.size) : RowNew w' B o n X := by
  obtain ⟨b, h1, h2, h3⟩ := h
  exact ⟨b, h1, (hb.cell (by exact hlt)).trans h2, h3.below hb⟩
theorem RowNew.at {w : World} {B o n : Nat} {X : Nat → Int} (h : RowNew w B o n X) : RowAt w B o n X := by
  obtain ⟨b, _, h2, h3⟩ := h
  exact ⟨_, _, h2, h3⟩
theorem RowNew.put {w : World} {B o o' n : Nat} {X : Nat → Int} (h : RowNew w B o n X) (ho : o ≠ o') (x : Value) : RowNew (w.setCell ⟨B, o', none⟩ x) B o n X := by
  obtain ⟨b, h1, h2, h3⟩ := h
  exact ⟨b, h1, by rw [set_far ho]; exact h2, h3.set (by omega) _⟩
theorem RowNew.set {w : World} {B o n C j : Nat} {X : Nat → Int} (h : RowNew w B o n X) (hC : C < B) (x : Value) : RowNew (w.setCell ⟨C, j, none⟩ x) B o n X := by
  obtain ⟨b, h1, h2, h3⟩ := h
  exact ⟨b, h1, by rw [far_block (by omega)]; exact h2, h3.set (by omega) _⟩
end Go.Proofs.YtfjfhnjoghlbfaaGreat
/-
  Rows of numbers that a call owns.
-/
namespace Go.Proofs.YtfjfhnjoghlbfaaGreat
open Go.RowKit

theorem Tryz.infoIntO : (Tryz.prog.info? 3).map (fun i => (i.zero, i.size, i.bytes)) = some (some (.int .i64 0), 1, 8) := by kernel_rfl

theorem ownsRow_blwI {w w' : World} {base e size n : Nat} {v : Value} {xs : List Value} (h : w.ownsRow base e size v n xs) (hb : Below w.heap.size w w') : w'.ownsRow base e size v n xs := by
  obtain ⟨h1, h2⟩ := h
  refine ⟨h1, ?_⟩
  rcases h2 with h2 | ⟨g, cap, cur, hv, hg, hh, r⟩
  · exact Or.inl h2
  · have hlt : g < w.heap.size := by
      rcases Nat.lt_or_ge g w.heap.size with h' | h'
      · exact h'
      · rw [Array.getElem?_eq_none h'] at hh; cases hh
    exact Or.inr ⟨g, cap, cur, hv, hg, by rw [hb.block g hlt]; exact hh, r⟩

/-- the first n numbers as values. -/
def ints (X : Nat → Int) (n : Nat) : List Value := (List.range n).map fun i => .int .i64 (X i)
theorem ints_len (X : Nat → Int) (n : Nat) : (ints X n).length = n := by simp [ints]
theorem ints_get (X : Nat → Int) (n i : Nat) (h : i < n) : (ints X n)[i]? = some (.int .i64 (X i)) := by simp [ints, h]
theorem ints_snoc (X : Nat → Int) (n : Nat) : ints X n ++ [.int .i64 (X n)] = ints X (n + 1) := by simp [ints, List.range_succ]

/-- the value v owns the numbers X 0 .. X (n-1), among the blocks from base on. -/
def OwnI (w : World) (base : Nat) (v : Value) (n : Nat) (X : Nat → Int) : Prop := w.ownsRow base 3 1 v n (ints X n)

theorem OwnI.below {w w' : World} {base n : Nat} {v : Value} {X : Nat → Int} (h : OwnI w base v n X) (hb : Below w.heap.size w w') : OwnI w' base v n X := ownsRow_blwI h hb
theorem OwnI.snoc {w : World} {base n : Nat} {v : Value} {X : Nat → Int} {x : Int} (h : w.ownsRow base 3 1 v (n + 1) (ints X n ++ [.int .i64 x])) (hx : x = X n) : OwnI w base v (n + 1) X := by
  subst hx; rw [ints_snoc] at h; exact h
theorem OwnI.nil (w : World) (base : Nat) (X : Nat → Int) : OwnI w base (.slice none 0 0) 0 X := ⟨rfl, Or.inl ⟨rfl, rfl⟩⟩
theorem OwnI.new (w : World) (base : Nat) (hb : base ≤ w.heap.size) (X : Nat → Int) : OwnI (w.alloc (.cells #[] 3)) base (.slice (some ⟨w.heap.size, 0, none⟩) 0 0) 0 X :=
  ⟨rfl, Or.inr ⟨w.heap.size, 0, #[], rfl, hb, by show (w.heap.push _)[w.heap.size]? = _; simp, Nat.le_refl _, by decide, rfl, rfl⟩⟩
theorem OwnI.made (w : World) (base m : Nat) (cs : Array Value) (hm : m ≤ maxLen) (hc : cs.size = m) (hb : base ≤ w.heap.size) (X : Nat → Int) : OwnI (w.alloc (.cells cs 3)) base (.slice (some ⟨w.heap.size, 0, none⟩) 0 m) 0 X :=
  ⟨rfl, Or.inr ⟨w.heap.size, m, cs, rfl, hb, by show (w.heap.push _)[w.heap.size]? = _; simp, Nat.zero_le _, hm, by rw [hc, Nat.mul_one], by simp [ints]⟩⟩

theorem OwnI.cells {w : World} {base n : Nat} {v : Value} {X : Nat → Int} (h : OwnI w base v n X) :
    (v = .slice none 0 0 ∧ n = 0) ∨ ∃ g cap, v = .slice (some ⟨g, 0, none⟩) n cap ∧ base ≤ g ∧ g < w.heap.size ∧ n ≤ cap ∧ cap ≤ maxLen ∧ ∀ i, i < n → w.cell? ⟨g, 0 + i, none⟩ = some (.int .i64 (X i)) := by
  obtain ⟨h1, h2⟩ := h
  rcases h2 with ⟨rfl, h0⟩ | ⟨g, cap, cur, rfl, hg, hh, hn, hc, hcs, hx⟩
  · exact Or.inl ⟨rfl, h0⟩
  · have hlt : g < w.heap.size := by
      rcases Nat.lt_or_ge g w.heap.size with h' | h'
      · exact h'
      · rw [Array.getElem?_eq_none h'] at hh; cases hh
    refine Or.inr ⟨g, cap, rfl, hg, hlt, hn, hc, fun j hj => ?_⟩
    rw [← ints_get X n j hj, ← hx, List.getElem?_take, if_pos (by omega), Nat.zero_add]
    simp [World.cell?, hh]

theorem OwnI.sl {w : World} {base n : Nat} {v : Value} {X : Nat → Int} (h : OwnI w base v n X) : ∃ a cap, v = .slice a n cap ∧ SlI w a n cap X := by
  rcases h.cells with ⟨rfl, rfl⟩ | ⟨g, cap, rfl, hg, hlt, hn, hc, hx⟩
  · exact ⟨none, 0, rfl, ⟨Nat.le_refl _, by decide, Or.inl rfl⟩⟩
  · exact ⟨_, cap, rfl, ⟨hn, hc, Or.inr ⟨g, 0, rfl, hlt, hx⟩⟩⟩

theorem one_cellsI (w1 : World) (x : Value) (t : TypeId) (j : Nat) (u : Value) (h : [x][j]? = some u) : (w1.alloc (.cells #[x] t)).cell? ((⟨w1.heap.size, 0, none⟩ : Addr).add j) = some u := by
  have hj : j < 1 := by
    rcases Nat.lt_or_ge j 1 with h' | h'
    · exact h'
    · rw [List.getElem?_eq_none (by simpa using h')] at h; cases h
  match j, hj, h with
  | 0, _, h => rw [show (⟨w1.heap.size, 0, none⟩ : Addr).add 0 = ⟨w1.heap.size, 0, none⟩ from rfl, World.cell?_alloc_at _ _ _ _ rfl]; exact h
theorem one_oneI (x : Int) (u : Value) (h : u ∈ [Value.int .i64 x]) : u.oneCell' = true := by
  simp only [List.mem_cons, List.not_mem_nil, or_false] at h
  subst h; rfl
end Go.Proofs.YtfjfhnjoghlbfaaGreat
/-
  Worlds in which some blocks alone have turned.
-/
namespace Go.Proofs.YtfjfhnjoghlbfaaGreat
open Go.RowKit

/-- of the blocks that were there those of P alone have turned. -/
structure Kp (P : Nat → Prop) (w w' : World) : Prop where
  os : w'.os = w.os
  tape : w'.tape = w.tape
  output : w'.output = w.output
  size : w.heap.size ≤ w'.heap.size
  block : ∀ k, k < w.heap.size → ¬ P k → w'.heap[k]? = w.heap[k]?
theorem Kp.refl (P : Nat → Prop) (w : World) : Kp P w w := ⟨rfl, rfl, rfl, Nat.le_refl _, fun _ _ _ => rfl⟩
theorem Kp.trans {P : Nat → Prop} {a b c : World} (h : Kp P a b) (k : Kp P b c) : Kp P a c :=
  ⟨k.os.trans h.os, k.tape.trans h.tape, k.output.trans h.output, Nat.le_trans h.size k.size, fun i hi hP => (k.block i (Nat.lt_of_lt_of_le hi h.size) hP).trans (h.block i hi hP)⟩
/-- blocks that were not there do not count. -/
theorem Kp.transN {P Q : Nat → Prop} {a b c : World} (h : Kp P a b) (k : Kp Q b c) (hQ : ∀ i, i < a.heap.size → Q i → P i) : Kp P a c :=
  ⟨k.os.trans h.os, k.tape.trans h.tape, k.output.trans h.output, Nat.le_trans h.size k.size, fun i hi hP => (k.block i (Nat.lt_of_lt_of_le hi h.size) (fun q => hP (hQ i hi q))).trans (h.block i hi hP)⟩
theorem Kp.mono {P Q : Nat → Prop} {w w' : World} (h : Kp P w w') (hPQ : ∀ i, i < w.heap.size → P i → Q i) : Kp Q w w' :=
  ⟨h.os, h.tape, h.output, h.size, fun i hi hQ => h.block i hi (fun p => hQ (hPQ i hi p))⟩
theorem Kp.ofB {w w' : World} {P : Nat → Prop} (h : Below w.heap.size w w') : Kp P w w' := ⟨h.os, h.tape, h.output, h.size, fun k hk _ => h.block k hk⟩
theorem Kp.below {P : Nat → Prop} {w w' : World} {B : Nat} (h : Kp P w w') (hB : B ≤ w.heap.size) (hP : ∀ k, k < B → ¬ P k) : Below B w w' :=
  ⟨h.os, h.tape, h.output, h.size, fun k hk => h.block k (Nat.lt_of_lt_of_le hk hB) (hP k hk)⟩
theorem Kp.cell {P : Nat → Prop} {w w' : World} (h : Kp P w w') {p : Addr} (hp : p.block < w.heap.size) (hP : ¬ P p.block) : w'.cell? p = w.cell? p := World.cell?_of_block (w := w) (h.block p.block hp hP)
theorem Kp.frozen {P : Nat → Prop} {w w' : World} (h : Kp P w w') {p : Addr} (hp : p.block < w.heap.size) (hP : ¬ P p.block) : w'.frozen? p = w.frozen? p := World.frozen?_of_block (w := w) (h.block p.block hp hP)
theorem Kp.drew {P : Nat → Prop} {a w : World} (h : Kp P a w) : Kp P a w.drew := ⟨h.os, h.tape, h.output, h.size, h.block⟩
theorem Kp.alloc {P : Nat → Prop} {a w : World} (h : Kp P a w) (o : Obj) : Kp P a (w.alloc o) :=
  ⟨h.os, h.tape, h.output, by simp; have := h.size; omega, fun k hk hP => (Below.heap_alloc w o k (Nat.lt_of_lt_of_le hk h.size)).trans (h.block k hk hP)⟩
theorem Kp.setCell {P : Nat → Prop} {a w : World} (h : Kp P a w) {p : Addr} (hp : P p.block) (u : Value) : Kp P a (w.setCell p u) :=
  ⟨h.os, h.tape, h.output, by simpa [World.setCell] using h.size, fun k hk hP => (Below.heap_setCell w p u k (fun e => hP (e ▸ hp))).trans (h.block k hk hP)⟩
theorem Kp.grown {P : Nat → Prop} {a w w' : World} {row : Option Nat} (h : Kp P a w) (hg : w.grownBy w' row) (hr : ∀ k, row = some k → k < a.heap.size → P k) : Kp P a w' :=
  ⟨hg.os.trans h.os, hg.tape.trans h.tape, hg.output.trans h.output, Nat.le_trans h.size hg.size, fun k hk hP => (hg.block k (Nat.lt_of_lt_of_le hk h.size) (fun e => hP (hr k e.symm hk))).trans (h.block k hk hP)⟩
theorem ownsRow_kp {P : Nat → Prop} {w w' : World} {base e size n : Nat} {v : Value} {xs : List Value} (h : w.ownsRow base e size v n xs) (hk : Kp P w w') (hP : ∀ g, v.ownBlock = some g → ¬ P g) : w'.ownsRow base e size v n xs := by
  obtain ⟨h1, h2⟩ := h
  refine ⟨h1, ?_⟩
  rcases h2 with h2 | ⟨g, cap, cur, hv, hg, hh, r⟩
  · exact Or.inl h2
  · have hlt : g < w.heap.size := by
      rcases Nat.lt_or_ge g w.heap.size with h' | h'
      · exact h'
      · rw [Array.getElem?_eq_none h'] at hh; cases hh
    exact Or.inr ⟨g, cap, cur, hv, hg, by rw [hk.block g hlt (hP g (by rw [hv]; rfl))]; exact hh, r⟩
theorem OwnI.kp {P : Nat → Prop} {w w' : World} {base n : Nat} {v : Value} {X : Nat → Int} (h : OwnI w base v n X) (hk : Kp P w w') (hP : ∀ g, v.ownBlock = some g → ¬ P g) : OwnI w' base v n X := ownsRow_kp h hk hP
theorem OwnI.monoB {w : World} {base base' n : Nat} {v : Value} {X : Nat → Int} (h : OwnI w base v n X) (hb : base' ≤ base) : OwnI w base' v n X := by
  obtain ⟨h1, h2⟩ := h
  exact ⟨h1, h2.imp id fun ⟨g, cap, cur, e, hg, r⟩ => ⟨g, cap, cur, e, Nat.le_trans hb hg, r⟩⟩
theorem OwnI.congrX {w : World} {base n : Nat} {v : Value} {X Y : Nat → Int} (h : OwnI w base v n X) (he : ∀ i, i < n → X i = Y i) : OwnI w base v n Y := by
  have : ints X n = ints Y n := by
    unfold ints
    refine List.map_congr_left fun i hi => ?_
    rw [he i (List.mem_range.1 hi)]
  unfold OwnI at *
  rw [← this]
  exact h
/-- one number is written. -/
theorem OwnI.putK {w : World} {base g n cap c : Nat} {X : Nat → Int} {x : Int} (h : OwnI w base (.slice (some ⟨g, 0, none⟩) n cap) n X) : OwnI (w.setCell ⟨g, c, none⟩ (.int .i64 x)) base (.slice (some ⟨g, 0, none⟩) n cap) n (fun i => if i = c then x else X i) := by
  have h2 := (World.ownsRow.stored h c (.int .i64 x)).1
  have e : (ints X n).set c (.int .i64 x) = ints (fun i => if i = c then x else X i) n := by
    refine List.ext_getElem? fun k => ?_
    rw [List.getElem?_set]
    by_cases hk : c = k
    · subst hk
      by_cases hn : c < n
      · simp [ints, hn]
      · simp [ints, hn]
    · rw [if_neg hk]
      by_cases hn : k < n
      · rw [ints_get X n k hn, ints_get _ n k hn, if_neg (fun h => hk h.symm)]
      · rw [List.getElem?_eq_none (by rw [ints_len]; omega), List.getElem?_eq_none (by rw [ints_len]; omega)]
  rw [e] at h2
  exact h2
/-- the last one is left out. -/
theorem OwnI.less {w : World} {base g n cap m : Nat} {X : Nat → Int} (h : OwnI w base (.slice (some ⟨g, 0, none⟩) n cap) n X) (hm : m ≤ n) : OwnI w base (.slice (some ⟨g, 0, none⟩) m cap) m X := by
  obtain ⟨h1, h2⟩ := h
  rcases h2 with ⟨h2, _⟩ | ⟨g', cap', cur, hv, hg, hh, hn, hc, hs, hx⟩
  · cases h2
  injection hv with hv1 hv2 hv3
  injection hv1 with hv1
  injection hv1 with hv1 _
  subst hv1 hv3
  refine ⟨by simp [ints], Or.inr ⟨g, cap, cur, rfl, hg, hh, by omega, hc, hs, ?_⟩⟩
  have e1 : cur.toList.take (m * 1) = (cur.toList.take (n * 1)).take m := by rw [List.take_take, Nat.mul_one, Nat.mul_one, Nat.min_eq_left hm]
  rw [e1, hx]
  unfold ints
  rw [← List.map_take, List.take_range, Nat.min_eq_left hm]
theorem OwnI.frozenK {w : World} {base g n cap : Nat} {X : Nat → Int} (h : OwnI w base (.slice (some ⟨g, 0, none⟩) n cap) n X) (i : Nat) : w.frozen? ⟨g, i, none⟩ = false := by
  obtain ⟨h1, h2⟩ := h
  rcases h2 with ⟨h2, _⟩ | ⟨g', cap', cur, hv, hg, hh, hn, hc, hs, hx⟩
  · cases h2
  injection hv with hv1 hv2 hv3
  injection hv1 with hv1
  injection hv1 with hv1 _
  subst hv1
  simp [World.frozen?, hh]
end Go.Proofs.YtfjfhnjoghlbfaaGreat
