/-
  New blocks and draws alone.
-/
import Derived.Test.YtepgmgkdhklfjaaGreatBase
import Derived.Sort.Grow
namespace Go.Proofs.YtepgmgkdhklfjaaGreat
open Go.RowKit

/-- w' is w with new blocks and draws. -/
def Grw (w w' : World) : Prop := Below w.heap.size w w' ∧ w.drawn ≤ w'.drawn
theorem Grw.below {w w' : World} (h : Grw w w') : Below w.heap.size w w' := h.1
theorem Grw.refl (w : World) : Grw w w := ⟨Below.refl _ _, Nat.le_refl _⟩
theorem Grw.trans {a b c : World} (h : Grw a b) (k : Grw b c) : Grw a c := ⟨h.1.trans (k.1.mono h.1.size), Nat.le_trans h.2 k.2⟩
theorem Grw.alloc {a b : World} (h : Grw a b) (o : Obj) : Grw a (b.alloc o) := ⟨h.1.alloc h.1.size o, h.2⟩
theorem Grw.drew {a b : World} (h : Grw a b) : Grw a b.drew := ⟨h.1.drew, Nat.le_succ_of_le h.2⟩
theorem Grw.drewN {a b : World} (h : Grw a b) (n : Nat) : Grw a (b.drewN n) := ⟨h.1.trans ⟨rfl, rfl, rfl, Nat.le_refl _, fun _ _ => rfl⟩, Nat.le_trans h.2 (Nat.le_add_right _ _)⟩
theorem Grw.setCell {a b : World} (h : Grw a b) {p : Addr} (hp : a.heap.size ≤ p.block) (u : Value) : Grw a (b.setCell p u) := ⟨h.1.setCell hp u, h.2⟩
theorem Grw.eq {w w' : World} (h : Grw w w') : ∃ q os, w' = Sort.grow (w.drewN q) os := by
  obtain ⟨⟨h1, h2, h3, h4, h5⟩, h6⟩ := h
  refine ⟨w'.drawn - w.drawn, w'.heap.extract w.heap.size w'.heap.size, ?_⟩
  have e1 : w'.heap = w.heap ++ w'.heap.extract w.heap.size w'.heap.size := by
    apply Array.ext_getElem?
    intro i
    rw [Array.getElem?_append]
    split
    · exact h5 i ‹_›
    · rw [Array.getElem?_extract]
      split
      · congr 1; omega
      · rw [Array.getElem?_eq_none]; omega
  have e2 : w'.drawn = w.drawn + (w'.drawn - w.drawn) := by omega
  obtain ⟨heap, tape, drawn, os, output⟩ := w'
  simp only [Sort.grow, World.drewN] at *
  subst h1 h2 h3
  congr 1
theorem grw_grow (w : World) (n : Nat) (os : Array Obj) : Grw w (Sort.grow (w.drewN n) os) :=
  ⟨⟨rfl, rfl, rfl, by simp [Sort.grow], fun k hk => by show (w.heap ++ os)[k]? = _; rw [Array.getElem?_append, if_pos hk]⟩, Nat.le_add_right _ _⟩
end Go.Proofs.YtepgmgkdhklfjaaGreat
