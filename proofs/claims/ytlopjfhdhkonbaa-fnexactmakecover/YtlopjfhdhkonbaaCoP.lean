/-
  Rows of spots and rows of rows of numbers that a call owns.
-/
import Derived.Test.YtlopjfhdhkonbaaCovA
import Derived.Test.YtlopjfhdhkonbaaOwnT
import Derived.Test.YtlopjfhdhkonbaaMkD
import Derived.Test.YtlopjfhdhkonbaaMcP
namespace Go.Proofs.Ytlopjfhdhkonbaa
open Go.RowKit

theorem rowCells {w : World} {base e size n : Nat} {v : Value} {xs : List Value} (h : w.ownsRow base e size v n xs) :
    (v = .slice none 0 0 ∧ n = 0) ∨ ∃ g cap, v = .slice (some ⟨g, 0, none⟩) n cap ∧ base ≤ g ∧ g < w.heap.size ∧ n ≤ cap ∧ cap ≤ maxLen ∧ (∀ j, j < n * size → w.cell? ⟨g, 0 + j, none⟩ = xs[j]?) ∧ ∀ j, w.frozen? ⟨g, j, none⟩ = false := by
  obtain ⟨h1, h2⟩ := h
  rcases h2 with ⟨rfl, h0⟩ | ⟨g, cap, cur, rfl, hg, hh, hn, hc, hcs, hx⟩
  · exact Or.inl ⟨rfl, h0⟩
  · have hlt : g < w.heap.size := (Array.getElem?_eq_some_iff.1 hh).1
    refine Or.inr ⟨g, cap, rfl, hg, hlt, hn, hc, fun j hj => ?_, fun j => ?_⟩
    · rw [← hx, List.getElem?_take, if_pos hj, Nat.zero_add]
      simp [World.cell?, hh]
    · simp [World.frozen?, hh]
theorem rowKept {w w' : World} {base e size n : Nat} {v : Value} {xs : List Value} (h : w.ownsRow base e size v n xs) (hk : ∀ g, v.ownBlock = some g → w'.heap[g]? = w.heap[g]?) : w'.ownsRow base e size v n xs := by
  obtain ⟨h1, h2⟩ := h
  refine ⟨h1, ?_⟩
  rcases h2 with h2 | ⟨g, cap, cur, rfl, hg, hh, r⟩
  · exact Or.inl h2
  · exact Or.inr ⟨g, cap, cur, rfl, hg, (hk g rfl).trans hh, r⟩
theorem rowGt {w : World} {base e size n : Nat} {v : Value} {xs : List Value} (h : w.ownsRow base e size v n xs) : ∀ g, v.ownBlock = some g → base ≤ g ∧ g < w.heap.size := fun g hg => by
  rcases rowCells h with ⟨q, _⟩ | ⟨g', cap', q, q1, q2, _⟩
  · rw [q] at hg; cases hg
  · rw [q] at hg
    have : some g' = some g := hg
    injection this with this
    omega
theorem rowLow {w : World} {base base' e size n : Nat} {v : Value} {xs : List Value} (h : w.ownsRow base e size v n xs) (hb : base' ≤ base) : w.ownsRow base' e size v n xs := by
  obtain ⟨h1, h2⟩ := h
  refine ⟨h1, ?_⟩
  rcases h2 with h2 | ⟨g, cap, cur, hv, hg, r⟩
  · exact Or.inl h2
  · exact Or.inr ⟨g, cap, cur, hv, Nat.le_trans hb hg, r⟩
theorem ownInj {g q n c : Nat} (h : (Value.slice (some ⟨g, 0, none⟩) n c).ownBlock = some q) : g = q := by
  have : some g = some q := h
  injection this

/-! ### spots -/

def spV (s : Sp) : List Value := [.int .i64 (s.c : Int), .int .i64 (s.q : Int)]
def encS (f : Nat → Sp) (n : Nat) : List Value := (List.range n).flatMap fun i => spV (f i)
theorem encS_snoc (f : Nat → Sp) (n : Nat) : encS f n ++ spV (f n) = encS f (n + 1) := by simp [encS, List.range_succ]
theorem encS_len (f : Nat → Sp) (n : Nat) : (encS f n).length = n * 2 := by
  induction n with
  | zero => rfl
  | succ n ih => rw [← encS_snoc, List.length_append, ih]; simp [spV]; omega
theorem encS_get (f : Nat → Sp) : ∀ n i r, i < n → r < 2 → (encS f n)[i * 2 + r]? = (spV (f i))[r]?
  | 0, _, _, h, _ => absurd h (Nat.not_lt_zero _)
  | n + 1, i, r, h, hr => by
    rw [← encS_snoc]
    by_cases e : i = n
    · subst e
      rw [List.getElem?_append_right (by rw [encS_len]; omega), encS_len]
      congr 1
      omega
    · rw [List.getElem?_append_left (by rw [encS_len]; omega)]
      exact encS_get f n i r (by omega) hr
theorem spV_one (s : Sp) (u : Value) (h : u ∈ spV s) : u.oneCell' = true := by
  unfold spV at h
  simp only [List.mem_cons, List.not_mem_nil, or_false] at h
  rcases h with rfl | rfl <;> rfl
theorem spV_cells (W : World) (s : Sp) (ty : TypeId) (j : Nat) (u : Value) (h : (spV s)[j]? = some u) : (W.alloc (.cells #[.int .i64 (s.c : Int), .int .i64 (s.q : Int)] ty)).cell? ((⟨W.heap.size, 0, none⟩ : Addr).add j) = some u := by
  rw [Addr.add_lit, Nat.zero_add, World.cell?_alloc_at _ _ _ _ rfl]
  rw [← h]
  unfold spV
  rw [List.getElem?_toArray]
/-- v owns the spots f 0 .. f (n-1). -/
def OwnS (w : World) (base : Nat) (v : Value) (n : Nat) (f : Nat → Sp) : Prop := w.ownsRow base 44 2 v n (encS f n)
theorem OwnS.sl {w : World} {base n : Nat} {v : Value} {f : Nat → Sp} (h : OwnS w base v n f) : ∃ a cap, v = .slice a n cap ∧ SlP w a n cap (fun i => ((f i).c : Int)) (fun i => ((f i).q : Int)) := by
  rcases rowCells h with ⟨rfl, rfl⟩ | ⟨g, cap, rfl, hg, hlt, hn, hc, hx, hf⟩
  · exact ⟨none, 0, rfl, ⟨Nat.le_refl _, by decide, Or.inl rfl⟩⟩
  · have hr : ∀ i r, i < n → r < 2 → w.cell? ⟨g, 0 + i * 2 + r, none⟩ = (spV (f i))[r]? := fun i r hi hr => by
      have := hx (i * 2 + r) (by omega)
      rw [← Nat.add_assoc] at this
      rw [this]
      exact encS_get f n i r hi hr
    exact ⟨_, cap, rfl, ⟨hn, hc, Or.inr ⟨g, 0, rfl, hlt, fun i hi => hr i 0 hi (by decide), fun i hi => hr i 1 hi (by decide)⟩⟩⟩
theorem OwnS.new (w : World) (base : Nat) (hb : base ≤ w.heap.size) (f : Nat → Sp) : OwnS (w.alloc (.cells #[] 44)) base (.slice (some ⟨w.heap.size, 0, none⟩) 0 0) 0 f :=
  ⟨rfl, Or.inr ⟨w.heap.size, 0, #[], rfl, hb, by show (w.heap.push _)[w.heap.size]? = _; simp, Nat.le_refl _, by decide, rfl, rfl⟩⟩
theorem OwnS.nil (w : World) (base : Nat) (f : Nat → Sp) : OwnS w base (.slice none 0 0) 0 f := ⟨rfl, Or.inl ⟨rfl, rfl⟩⟩

/-! ### rows -/

/-- where a row lies, and between which blocks. -/
structure Lr where
  a : Option Addr
  c : Nat
  lo : Nat
  hi : Nat
def IvR (a : Option Addr) (n lo hi : Nat) : Prop := n = 0 ∨ ∃ b off, a = some ⟨b, off, none⟩ ∧ lo ≤ b ∧ b < hi
theorem SlI.kept {w w' : World} {a : Option Addr} {n cap lo hi : Nat} {X : Nat → Int} (h : SlI w a n cap X) (hs : w.heap.size ≤ w'.heap.size) (hv : IvR a n lo hi) (hk : ∀ b, lo ≤ b → b < hi → w'.heap[b]? = w.heap[b]?) : SlI w' a n cap X := by
  refine ⟨h.le, h.max, ?_⟩
  rcases hv with h0 | ⟨b, off, rfl, h1, h2⟩
  · exact Or.inl h0
  · refine h.cells.imp id fun ⟨b', off', e, hlt, c1⟩ => ?_
    have e2 : b = b' := by injection e with e; injection e
    subst e2
    exact ⟨b, off', e, Nat.lt_of_lt_of_le hlt hs, fun i hi => (World.cell?_of_block (a := ⟨b, off' + i, none⟩) (hk b h1 h2)).trans (c1 i hi)⟩
theorem Wr0.keptR {w w' : World} {a : Option Addr} {n lo hi base : Nat} (h : Wr0 w base a n) (hs : w.heap.size ≤ w'.heap.size) (hv : IvR a n lo hi) (hk : ∀ b, lo ≤ b → b < hi → w'.heap[b]? = w.heap[b]?) : Wr0 w' base a n := by
  rcases hv with h0 | ⟨b, off, rfl, h1, h2⟩
  · exact Or.inl h0
  · refine h.imp id fun ⟨b', off', e, q1, q2, hc⟩ => ?_
    have e2 : b = b' := by injection e with e; injection e
    subst e2
    exact ⟨b, off', e, q1, Nat.lt_of_lt_of_le q2 hs, fun i hi => ⟨(hc i hi).1.imp fun _ hx => (World.cell?_of_block (a := ⟨b, off' + i, none⟩) (hk b h1 h2)).trans hx, (by simp [World.frozen?, hk b h1 h2] : w'.frozen? ⟨b, off' + i, none⟩ = w.frozen? ⟨b, off' + i, none⟩).trans (hc i hi).2⟩⟩
/-- a row lies between two blocks, and may be written. -/
structure QR (w : World) (n : Nat) (X : Nat → Int) (t : Lr) : Prop where
  sl : SlI w t.a n t.c X
  wr : Wr0 w t.lo t.a n
  iv : IvR t.a n t.lo t.hi
  hh : t.lo ≤ t.hi ∧ t.hi ≤ w.heap.size
theorem QR.kept {w w' : World} {n : Nat} {X : Nat → Int} {t : Lr} (h : QR w n X t) (hs : w.heap.size ≤ w'.heap.size) (hk : ∀ b, t.lo ≤ b → b < t.hi → w'.heap[b]? = w.heap[b]?) : QR w' n X t :=
  ⟨h.sl.kept hs h.iv hk, h.wr.keptR hs h.iv hk, h.iv, h.hh.1, Nat.le_trans h.hh.2 hs⟩
theorem QR.below {w w' : World} {n : Nat} {X : Nat → Int} {t : Lr} (h : QR w n X t) (hb : Below w.heap.size w w') : QR w' n X t :=
  h.kept hb.size fun b _ h2 => hb.block b (Nat.lt_of_lt_of_le h2 h.hh.2)
theorem QR.grown {w w' : World} {n : Nat} {X : Nat → Int} {t : Lr} {row : Option Nat} (h : QR w n X t) (hg : w.grownBy w' row) (hr : ∀ b, row = some b → b < t.lo ∨ t.hi ≤ b) : QR w' n X t :=
  h.kept hg.size fun b h1 h2 => hg.block b (Nat.lt_of_lt_of_le h2 h.hh.2) (fun e => by have := hr b e.symm; omega)
theorem OwnI.qr {w : World} {base n : Nat} {v : Value} {X : Nat → Int} (h : OwnI w base v n X) (hb : base ≤ w.heap.size) : ∃ a c, v = .slice a n c ∧ QR w n X ⟨a, c, base, w.heap.size⟩ := by
  rcases rowCells h with ⟨rfl, rfl⟩ | ⟨g, cap, rfl, hg, hlt, hn, hc, hx, hf⟩
  · exact ⟨none, 0, rfl, ⟨Nat.le_refl _, Nat.zero_le _, Or.inl rfl⟩, Or.inl rfl, Or.inl rfl, hb, Nat.le_refl _⟩
  · have hcl : ∀ i, i < n → w.cell? ⟨g, 0 + i, none⟩ = some (.int .i64 (X i)) := fun i hi => (hx i (by omega)).trans (ints_get X n i hi)
    exact ⟨_, cap, rfl, ⟨hn, hc, Or.inr ⟨g, 0, rfl, hlt, hcl⟩⟩, Or.inr ⟨g, 0, rfl, hg, hlt, fun i hi => ⟨⟨_, hcl i hi⟩, hf _⟩⟩, Or.inr ⟨g, 0, rfl, hg, hlt⟩, hb, Nat.le_refl _⟩
def encR (rn : Nat → Nat) (T : Nat → Lr) (n : Nat) : List Value := (List.range n).map fun i => .slice (T i).a (rn i) (T i).c
theorem encR_snoc (rn : Nat → Nat) (T : Nat → Lr) (n : Nat) : encR rn T n ++ [.slice (T n).a (rn n) (T n).c] = encR rn T (n + 1) := by simp [encR, List.range_succ]
theorem encR_get (rn : Nat → Nat) (T : Nat → Lr) (n i : Nat) (h : i < n) : (encR rn T n)[i]? = some (.slice (T i).a (rn i) (T i).c) := by simp [encR, h]
theorem encR_congr {rn : Nat → Nat} {T T' : Nat → Lr} {n : Nat} (h : ∀ i, i < n → T i = T' i) : encR rn T n = encR rn T' n := by
  unfold encR
  refine List.map_congr_left fun i hi => ?_
  rw [h i (List.mem_range.1 hi)]
/-- v owns n rows, apart from the row of them. -/
structure RowR (w : World) (base : Nat) (v : Value) (n : Nat) (rn : Nat → Nat) (X : Nat → Nat → Int) (T : Nat → Lr) : Prop where
  own : w.ownsRow base 52 1 v n (encR rn T n)
  q : ∀ i, i < n → QR w (rn i) (X i) (T i)
  low : ∀ i, i < n → base ≤ (T i).lo
  ord : ∀ i j, i < j → j < n → (T i).hi ≤ (T j).lo
  apart : ∀ g, v.ownBlock = some g → ∀ i, i < n → g < (T i).lo ∨ (T i).hi ≤ g
theorem RowR.kept {w w' : World} {base n : Nat} {v : Value} {rn : Nat → Nat} {X : Nat → Nat → Int} {T : Nat → Lr} (h : RowR w base v n rn X T) (hs : w.heap.size ≤ w'.heap.size) (h1 : ∀ g, v.ownBlock = some g → w'.heap[g]? = w.heap[g]?) (h2 : ∀ i, i < n → ∀ b, (T i).lo ≤ b → b < (T i).hi → w'.heap[b]? = w.heap[b]?) : RowR w' base v n rn X T :=
  ⟨rowKept h.own h1, fun i hi => (h.q i hi).kept hs (h2 i hi), h.low, h.ord, h.apart⟩
theorem RowR.below {w w' : World} {base n : Nat} {v : Value} {rn : Nat → Nat} {X : Nat → Nat → Int} {T : Nat → Lr} (h : RowR w base v n rn X T) (hb : Below w.heap.size w w') : RowR w' base v n rn X T :=
  h.kept hb.size (fun g hg => hb.block g (rowGt h.own g hg).2) fun i hi b _ h2 => hb.block b (Nat.lt_of_lt_of_le h2 (h.q i hi).hh.2)
theorem RowR.mkd {w w' : World} {base n lo hi : Nat} {v : Value} {rn : Nat → Nat} {X : Nat → Nat → Int} {T : Nat → Lr} (h : RowR w base v n rn X T) (hm : Mkd lo hi w w') (hd : hi ≤ base) : RowR w' base v n rn X T :=
  h.kept hm.size (fun g hg => hm.block g (rowGt h.own g hg).2 (Or.inr (Nat.le_trans hd (rowGt h.own g hg).1))) fun i hi' b h1 h2 => hm.block b (Nat.lt_of_lt_of_le h2 (h.q i hi').hh.2) (Or.inr (Nat.le_trans hd (Nat.le_trans (h.low i hi') h1)))
theorem RowR.setB {w : World} {base n C j : Nat} {v x : Value} {rn : Nat → Nat} {X : Nat → Nat → Int} {T : Nat → Lr} (h : RowR w base v n rn X T) (h1 : ∀ g, v.ownBlock = some g → g ≠ C) (h2 : ∀ i, i < n → C < (T i).lo ∨ (T i).hi ≤ C) : RowR (w.setCell ⟨C, j, none⟩ x) base v n rn X T :=
  h.kept (by simp [World.setCell]) (fun g hg => Below.heap_setCell _ _ _ _ (by exact h1 g hg)) fun i hi b q1 q2 => Below.heap_setCell _ _ _ _ (by show b ≠ C; have := h2 i hi; omega)
theorem RowR.grownX {w w' : World} {base n : Nat} {v : Value} {rn : Nat → Nat} {X : Nat → Nat → Int} {T : Nat → Lr} {row : Option Nat} (h : RowR w base v n rn X T) (hg : w.grownBy w' row) (h1 : ∀ g, v.ownBlock = some g → some g ≠ row) (h2 : ∀ i, i < n → ∀ b, row = some b → b < (T i).lo ∨ (T i).hi ≤ b) : RowR w' base v n rn X T :=
  h.kept hg.size (fun g q => hg.block g (rowGt h.own g q).2 (h1 g q)) fun i hi b q1 q2 => hg.block b (Nat.lt_of_lt_of_le q2 (h.q i hi).hh.2) (fun e => by have := h2 i hi b e.symm; omega)
theorem RowR.base_le {w : World} {base base' n : Nat} {v : Value} {rn : Nat → Nat} {X : Nat → Nat → Int} {T : Nat → Lr} (h : RowR w base v n rn X T) (hb : base' ≤ base) : RowR w base' v n rn X T :=
  ⟨rowLow h.own hb, h.q, fun i hi => Nat.le_trans hb (h.low i hi), h.ord, h.apart⟩
theorem RowR.cells {w : World} {base n : Nat} {v : Value} {rn : Nat → Nat} {X : Nat → Nat → Int} {T : Nat → Lr} (h : RowR w base v n rn X T) :
    (v = .slice none 0 0 ∧ n = 0) ∨ ∃ g cap, v = .slice (some ⟨g, 0, none⟩) n cap ∧ base ≤ g ∧ g < w.heap.size ∧ n ≤ cap ∧ cap ≤ maxLen ∧ (∀ i, i < n → w.cell? ⟨g, i, none⟩ = some (.slice (T i).a (rn i) (T i).c)) ∧ ∀ o, w.frozen? ⟨g, o, none⟩ = false := by
  rcases rowCells h.own with h0 | ⟨g, cap, hv, hg, hlt, hn, hc, hx, hf⟩
  · exact Or.inl h0
  · exact Or.inr ⟨g, cap, hv, hg, hlt, hn, hc, fun i hi => by have := hx i (by omega); rw [Nat.zero_add] at this; exact this.trans (encR_get rn T n i hi), hf⟩
theorem RowR.sl {w : World} {base n : Nat} {v : Value} {rn : Nat → Nat} {X : Nat → Nat → Int} {T : Nat → Lr} (h : RowR w base v n rn X T) : ∃ a cap, v = .slice a n cap ∧ SlL w a n cap rn X := by
  rcases h.cells with ⟨rfl, rfl⟩ | ⟨g, cap, rfl, hg, hlt, hn, hc, hx, hf⟩
  · exact ⟨none, 0, rfl, ⟨Nat.le_refl _, by decide, Or.inl rfl⟩⟩
  · exact ⟨_, cap, rfl, ⟨hn, hc, Or.inr ⟨g, 0, rfl, hlt, fun i hi => by rw [Nat.zero_add]; exact ⟨_, _, hx i hi, (h.q i hi).sl⟩⟩⟩⟩
theorem RowR.nil (w : World) (base : Nat) (rn : Nat → Nat) (X : Nat → Nat → Int) (T : Nat → Lr) : RowR w base (.slice none 0 0) 0 rn X T :=
  ⟨⟨rfl, Or.inl ⟨rfl, rfl⟩⟩, fun _ hi => absurd hi (Nat.not_lt_zero _), fun _ hi => absurd hi (Nat.not_lt_zero _), fun _ _ _ hj => absurd hj (Nat.not_lt_zero _), fun _ _ _ hi => absurd hi (Nat.not_lt_zero _)⟩
theorem RowR.new (w : World) (base : Nat) (hb : base ≤ w.heap.size) (rn : Nat → Nat) (X : Nat → Nat → Int) (T : Nat → Lr) : RowR (w.alloc (.cells #[] 52)) base (.slice (some ⟨w.heap.size, 0, none⟩) 0 0) 0 rn X T :=
  ⟨⟨rfl, Or.inr ⟨w.heap.size, 0, #[], rfl, hb, by show (w.heap.push _)[w.heap.size]? = _; simp, Nat.le_refl _, by decide, rfl, rfl⟩⟩, fun _ hi => absurd hi (Nat.not_lt_zero _), fun _ hi => absurd hi (Nat.not_lt_zero _), fun _ _ _ hj => absurd hj (Nat.not_lt_zero _), fun _ _ _ hi => absurd hi (Nat.not_lt_zero _)⟩
def extR (T : Nat → Lr) (n : Nat) (t : Lr) : Nat → Lr := fun i => if i = n then t else T i
theorem RowR.snoc {w w' : World} {base n g cap : Nat} {v : Value} {rn : Nat → Nat} {X : Nat → Nat → Int} {T : Nat → Lr} {t : Lr} (h : RowR w base v n rn X T) (ht : QR w (rn n) (X n) t) (h1 : base ≤ t.lo) (h2 : ∀ i, i < n → (T i).hi ≤ t.lo) (h3 : ∀ g, v.ownBlock = some g → g < t.lo ∨ t.hi ≤ g)
    (hown : w'.ownsRow base 52 1 (.slice (some ⟨g, 0, none⟩) (n + 1) cap) (n + 1) (encR rn T n ++ [.slice t.a (rn n) t.c])) (hgr : w.grownBy w' v.ownBlock) (hg : v.ownBlock = some g ∨ w.heap.size ≤ g) : RowR w' base (.slice (some ⟨g, 0, none⟩) (n + 1) cap) (n + 1) rn X (extR T n t) := by
  have e1 : extR T n t n = t := if_pos rfl
  have e2 : ∀ i, i < n → extR T n t i = T i := fun i hi => if_neg (by omega)
  have e3 : encR rn T n = encR rn (extR T n t) n := encR_congr fun i hi => (e2 i hi).symm
  have hgi : ∀ i, i < n → g < (T i).lo ∨ (T i).hi ≤ g := fun i hi => by
    rcases hg with q | q
    · exact h.apart g q i hi
    · exact Or.inr (Nat.le_trans (h.q i hi).hh.2 q)
  have hgt : g < t.lo ∨ t.hi ≤ g := by
    rcases hg with q | q
    · exact h3 g q
    · exact Or.inr (Nat.le_trans ht.hh.2 q)
  refine ⟨?_, fun i hi => ?_, fun i hi => ?_, fun i j hij hj => ?_, fun g' hg' i hi => ?_⟩
  · rw [← encR_snoc, e1, ← e3]; exact hown
  · by_cases e : i = n
    · subst e; rw [e1]; exact ht.grown hgr h3
    · rw [e2 i (by omega)]; exact (h.q i (by omega)).grown hgr (fun b hb => h.apart b hb i (by omega))
  · by_cases e : i = n
    · subst e; rw [e1]; exact h1
    · rw [e2 i (by omega)]; exact h.low i (by omega)
  · by_cases e : j = n
    · subst e; rw [e1, e2 i hij]; exact h2 i hij
    · rw [e2 i (by omega), e2 j (by omega)]; exact h.ord i j hij (by omega)
  · have hgg : g = g' := ownInj hg'
    subst hgg
    by_cases e : i = n
    · subst e; rw [e1]; exact hgt
    · rw [e2 i (by omega)]; exact hgi i (by omega)
end Go.Proofs.Ytlopjfhdhkonbaa
