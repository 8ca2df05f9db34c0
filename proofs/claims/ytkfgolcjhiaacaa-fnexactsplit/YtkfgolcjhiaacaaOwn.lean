/-
  Rows of entries that a call owns.
-/
import Derived.Test.YtkfgolcjhiaacaaProg
import Derived.Test.YtkfgolcjhiaacaaEnt
import Derived.Test.YtkfgolcjhiaacaaLawE
namespace Go.Proofs.Ytkfgolcjhiaacaa
open Go.RowKit

def encE (e : Ent) : List Value := [.string e.ty, .string e.key, .string e.id]
def encL (l : List Ent) : List Value := l.flatMap encE
theorem encL_len (l : List Ent) : (encL l).length = l.length * 3 := by
  induction l with
  | nil => rfl
  | cons x l ih => simp only [encL, List.flatMap_cons, List.length_append, List.length_cons] at ih ⊢; rw [ih]; simp [encE]; omega
theorem encL_snoc (l : List Ent) (e : Ent) : encL l ++ encE e = encL (l ++ [e]) := by simp [encL]
theorem encL_get (l : List Ent) (i : Nat) (h : i < l.length) : (encL l)[i * 3]? = some (.string (eAt l i).ty) ∧ (encL l)[i * 3 + 1]? = some (.string (eAt l i).key) ∧ (encL l)[i * 3 + 2]? = some (.string (eAt l i).id) := by
  induction l generalizing i with
  | nil => exact absurd h (Nat.not_lt_zero _)
  | cons x l ih =>
    cases i with
    | zero => simp [encL, encE, eAt]
    | succ i =>
      have := ih i (by simpa using h)
      have e1 : encL (x :: l) = .string x.ty :: .string x.key :: .string x.id :: encL l := by simp [encL, encE]
      have e2 : eAt (x :: l) (i + 1) = eAt l i := by simp [eAt]
      rw [e1, e2, show (i + 1) * 3 = i * 3 + 3 by omega]
      simpa using this

/-- the value v owns the entries l, among the blocks from base on. -/
def OwnE (w : World) (base : Nat) (v : Value) (l : List Ent) : Prop := w.ownsRow base 41 3 v l.length (encL l)

theorem ownsRow_below {w w' : World} {base e size n : Nat} {v : Value} {xs : List Value} (h : w.ownsRow base e size v n xs) (hb : Below w.heap.size w w') : w'.ownsRow base e size v n xs := by
  obtain ⟨h1, h2⟩ := h
  refine ⟨h1, ?_⟩
  rcases h2 with h2 | ⟨g, cap, cur, hv, hg, hh, r⟩
  · exact Or.inl h2
  · have hlt : g < w.heap.size := by
      rcases Nat.lt_or_ge g w.heap.size with h' | h'
      · exact h'
      · rw [Array.getElem?_eq_none h'] at hh; cases hh
    exact Or.inr ⟨g, cap, cur, hv, hg, by rw [hb.block g hlt]; exact hh, r⟩

theorem OwnE.below {w w' : World} {base : Nat} {v : Value} {l : List Ent} (h : OwnE w base v l) (hb : Below w.heap.size w w') : OwnE w' base v l := ownsRow_below h hb

theorem OwnE.sl {w : World} {base : Nat} {v : Value} {l : List Ent} (h : OwnE w base v l) (hs : ∀ i, i < l.length → (eAt l i).ty.size ≤ maxLen ∧ (eAt l i).key.size ≤ maxLen ∧ (eAt l i).id.size ≤ maxLen) :
    ∃ a cap, v = .slice a l.length cap ∧ SlE w a cap l := by
  obtain ⟨h1, h2⟩ := h
  rcases h2 with ⟨rfl, h0⟩ | ⟨g, cap, cur, rfl, hg, hh, hn, hc, hcs, hx⟩
  · have : l = [] := List.eq_nil_of_length_eq_zero h0
    subst this
    exact ⟨none, 0, rfl, ⟨Nat.le_refl _, by decide, hs, Or.inl rfl⟩⟩
  · refine ⟨_, cap, rfl, ⟨hn, hc, hs, ?_⟩⟩
    by_cases h0 : l = []
    · exact Or.inl h0
    · have hlt : g < w.heap.size := by
        rcases Nat.lt_or_ge g w.heap.size with h' | h'
        · exact h'
        · rw [Array.getElem?_eq_none h'] at hh; cases hh
      have hcell : ∀ j, j < l.length * 3 → w.cell? ⟨g, 0 + j, none⟩ = (encL l)[j]? := by
        intro j hj
        rw [← hx, List.getElem?_take, if_pos hj, Nat.zero_add]
        simp [World.cell?, hh]
      exact Or.inr ⟨g, 0, rfl, hlt, fun i hi => by rw [hcell _ (by omega)]; exact (encL_get l i hi).1, fun i hi => by rw [Nat.add_assoc, hcell _ (by omega)]; exact (encL_get l i hi).2.1, fun i hi => by rw [Nat.add_assoc, hcell _ (by omega)]; exact (encL_get l i hi).2.2⟩
end Go.Proofs.Ytkfgolcjhiaacaa
