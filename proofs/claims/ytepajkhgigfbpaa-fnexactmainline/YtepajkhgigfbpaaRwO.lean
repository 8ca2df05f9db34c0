/-
  Rows of rows of numbers that a call owns.
-/
import Derived.Test.YtepajkhgigfbpaaOwnI
namespace Go.Proofs.Ytepajkhgigfbpaa
open Go.RowKit

/-- the slice's block is another than B. -/
def ApartI (a : Option Addr) (n B : Nat) : Prop := n = 0 ∨ ∃ b off, a = some ⟨b, off, none⟩ ∧ b ≠ B
theorem SlI.grown {w w' : World} {row : Option Nat} {a : Option Addr} {n cap : Nat} {X : Nat → Int} (h : SlI w a n cap X) (hg : w.grownBy w' row) (hA : ∀ q, row = some q → ApartI a n q) : SlI w' a n cap X := by
  refine ⟨h.le, h.max, ?_⟩
  rcases h.cells with h0 | ⟨b, off, e, hlt, hc⟩
  · exact Or.inl h0
  · by_cases hn : n = 0
    · exact Or.inl hn
    refine Or.inr ⟨b, off, e, Nat.lt_of_lt_of_le hlt hg.size, fun i hi => ?_⟩
    rw [World.cell?_of_block (a := ⟨b, off + i, none⟩) (hg.block b hlt (fun er => ?_))]
    · exact hc i hi
    · rcases hA b er.symm with h0 | ⟨b', off', e', hne⟩
      · exact hn h0
      · rw [e] at e'
        exact hne (by injection e' with e'; injection e' with e1 _ _; exact e1.symm)

/-- v owns, from base on, n slices; row i has the rn i numbers X i, in another block than v's. -/
def RowsOwn (w : World) (base : Nat) (v : Value) (n : Nat) (rn : Nat → Nat) (X : Nat → Nat → Int) : Prop :=
  ∃ R : Nat → Value, w.ownsRow base 54 1 v n ((List.range n).map R) ∧ ∀ i, i < n → ∃ a cap, R i = .slice a (rn i) cap ∧ SlI w a (rn i) cap (X i) ∧ ∀ q, v.ownBlock = some q → ApartI a (rn i) q

theorem RowsOwn.nil (w : World) (base : Nat) (rn : Nat → Nat) (X : Nat → Nat → Int) : RowsOwn w base (.slice none 0 0) 0 rn X :=
  ⟨fun _ => .slice none 0 0, ⟨rfl, Or.inl ⟨rfl, rfl⟩⟩, fun _ hi => absurd hi (Nat.not_lt_zero _)⟩
theorem RowsOwn.below {w w' : World} {base n : Nat} {v : Value} {rn : Nat → Nat} {X : Nat → Nat → Int} (h : RowsOwn w base v n rn X) (hb : Below w.heap.size w w') : RowsOwn w' base v n rn X := by
  obtain ⟨R, h1, h2⟩ := h
  refine ⟨R, ownsRow_blwI h1 hb, fun i hi => ?_⟩
  obtain ⟨a, cap, e, hs, hA⟩ := h2 i hi
  exact ⟨a, cap, e, hs.below hb, hA⟩

theorem RowsOwn.sl {w : World} {base n : Nat} {v : Value} {rn : Nat → Nat} {X : Nat → Nat → Int} (h : RowsOwn w base v n rn X) : ∃ a cap, v = .slice a n cap ∧ SlL w a n cap rn X := by
  obtain ⟨R, ⟨h1, h2⟩, h3⟩ := h
  rcases h2 with ⟨rfl, rfl⟩ | ⟨g, cap, cur, rfl, hg, hh, hn, hc, hcs, hx⟩
  · exact ⟨none, 0, rfl, ⟨Nat.le_refl _, by decide, Or.inl rfl⟩⟩
  · have hlt : g < w.heap.size := by
      rcases Nat.lt_or_ge g w.heap.size with h' | h'
      · exact h'
      · rw [Array.getElem?_eq_none h'] at hh; cases hh
    refine ⟨_, cap, rfl, ⟨hn, hc, Or.inr ⟨g, 0, rfl, hlt, fun i hi => ?_⟩⟩⟩
    obtain ⟨a, cp, e, hs, _⟩ := h3 i hi
    refine ⟨a, cp, ?_, hs⟩
    rw [← e, Nat.zero_add]
    have e1 : (cur.toList.take (n * 1))[i]? = some (R i) := by rw [hx]; simp [hi]
    rw [List.getElem?_take, if_pos (by omega)] at e1
    simp [World.cell?, hh]
    simpa using e1

/-- one row more. -/
theorem RowsOwn.snoc {w0 w2 w3 : World} {base n g cap' : Nat} {v : Value} {rn : Nat → Nat} {X : Nat → Nat → Int} {ra : Option Addr} {rc : Nat} {t : TypeId} (h : RowsOwn w0 base v n rn X) (hb : Below w0.heap.size w0 w2)
    (hr : OwnI w2 w0.heap.size (.slice ra (rn n) rc) (rn n) (X n))
    (R : Nat → Value) (hR : ∀ i, i < n → ∃ a cap, R i = .slice a (rn i) cap ∧ SlI w0 a (rn i) cap (X i) ∧ ∀ q, v.ownBlock = some q → ApartI a (rn i) q)
    (hvlt : ∀ q, v.ownBlock = some q → q < w0.heap.size)
    (hown : w3.ownsRow base 54 1 (.slice (some ⟨g, 0, none⟩) (n + 1) cap') (n + 1) ((List.range n).map R ++ [.slice ra (rn n) rc]))
    (hgrow : (w2.alloc (.cells #[.slice ra (rn n) rc] t)).grownBy w3 v.ownBlock) (hg : v.ownBlock = some g ∨ g = w2.heap.size + 1) : RowsOwn w3 base (.slice (some ⟨g, 0, none⟩) (n + 1) cap') (n + 1) rn X := by
  have hbA : Below w2.heap.size w2 (w2.alloc (.cells #[.slice ra (rn n) rc] t)) := (Below.refl _ _).alloc (Nat.le_refl _) _
  refine ⟨fun i => if i = n then .slice ra (rn n) rc else R i, ?_, fun i hi => ?_⟩
  · have : (List.range (n + 1)).map (fun i => if i = n then (.slice ra (rn n) rc : Value) else R i) = (List.range n).map R ++ [.slice ra (rn n) rc] := by
      rw [List.range_succ, List.map_append]
      congr 1
      · exact List.map_congr_left fun i hi => by rw [if_neg (by have := List.mem_range.1 hi; omega)]
      · simp
    rw [this]; exact hown
  · by_cases e : i = n
    · subst e
      refine ⟨ra, rc, by simp, ?_, fun q hq => ?_⟩
      · obtain ⟨a', cap'', e', hs⟩ := hr.sl
        injection e' with e1 _ e2
        subst e1 e2
        refine (hs.below hbA).grown hgrow fun q hq => ?_
        rcases hr.cells with ⟨_, h0⟩ | ⟨gr, cp, e3, hgr, _⟩
        · exact Or.inl h0
        · injection e3 with e4 _ _
          exact Or.inr ⟨gr, 0, e4, by have := hvlt q hq; omega⟩
      · have hq' : g = q := by simpa [Value.ownBlock] using hq
        subst hq'
        rcases hr.cells with ⟨_, h0⟩ | ⟨gr, cp, e3, hgr, hgl, _⟩
        · exact Or.inl h0
        · injection e3 with e4 _ _
          refine Or.inr ⟨gr, 0, e4, ?_⟩
          rcases hg with hg | hg
          · have := hvlt g hg; omega
          · omega
    · obtain ⟨a, cap, eR, hs, hA⟩ := hR i (by omega)
      refine ⟨a, cap, by simp [e, eR], ((hs.below hb).below hbA).grown hgrow hA, fun q hq => ?_⟩
      have hq' : g = q := by simpa [Value.ownBlock] using hq
      subst hq'
      rcases hg with hg | hg
      · exact hA g hg
      · rcases hs.cells with h0 | ⟨b, off, e3, hlt, _⟩
        · exact Or.inl h0
        · exact Or.inr ⟨b, off, e3, by have := hb.size; omega⟩
end Go.Proofs.Ytepajkhgigfbpaa
