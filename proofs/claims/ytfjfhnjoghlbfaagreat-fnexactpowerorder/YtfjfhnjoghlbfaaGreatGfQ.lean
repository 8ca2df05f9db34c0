/-
  Places compared: by weight, time and id.
-/
import Derived.Test.YtfjfhnjoghlbfaaGreatTpA
import Derived.Test.YtfjfhnjoghlbfaaGreatCmA
import Derived.Lib.Bytealg
import Derived.Sort.Walk0
namespace Go.Proofs.YtfjfhnjoghlbfaaGreat
open Go.RowKit

theorem ba_eqG {s t : ByteArray} (h : s.data.toList = t.data.toList) : s = t := by
  obtain ⟨s⟩ := s; obtain ⟨t⟩ := t
  exact congrArg _ (Array.toList_inj.1 h)
theorem cmp_casesG : ∀ x y : List UInt8, (x < y ∧ Lib.compareBytes x y = -1) ∨ (x = y ∧ Lib.compareBytes x y = 0) ∨ (y < x ∧ Lib.compareBytes x y = 1)
  | [], [] => Or.inr (Or.inl ⟨rfl, rfl⟩)
  | [], b :: y => Or.inl ⟨by simp, rfl⟩
  | a :: x, [] => Or.inr (Or.inr ⟨by simp, rfl⟩)
  | a :: x, b :: y => by
    unfold Lib.compareBytes
    by_cases h1 : a < b
    · rw [if_pos h1]; exact Or.inl ⟨List.cons_lt_cons_iff.2 (Or.inl h1), rfl⟩
    · rw [if_neg h1]
      by_cases h2 : b < a
      · rw [if_pos h2]; exact Or.inr (Or.inr ⟨List.cons_lt_cons_iff.2 (Or.inl h2), rfl⟩)
      · rw [if_neg h2]
        have e : a = b := UInt8.le_antisymm (UInt8.not_lt.1 h2) (UInt8.not_lt.1 h1)
        subst e
        rcases cmp_casesG x y with ⟨h, e⟩ | ⟨rfl, e⟩ | ⟨h, e⟩
        · exact Or.inl ⟨List.cons_lt_cons_iff.2 (Or.inr ⟨rfl, h⟩), e⟩
        · exact Or.inr (Or.inl ⟨rfl, e⟩)
        · exact Or.inr (Or.inr ⟨List.cons_lt_cons_iff.2 (Or.inr ⟨rfl, h⟩), e⟩)


/-- two numbers compared. -/
def cC (x y : Int) : Int := if x < y then -1 else if y < x then 1 else 0
/-- the first that is not 0. -/
def or3 (x y z : Int) : Int := if x = 0 then (if y = 0 then z else y) else x
/-- two places compared. -/
def cmpG (E : Nat → Ev) (D : Nat → Int) (a b : Nat) : Int := or3 (cC (D b) (D a)) (cC (E a).tm (E b).tm) (cB (E a).id (E b).id)
theorem cC_cases (x y : Int) : (x < y ∧ cC x y = -1) ∨ (x = y ∧ cC x y = 0) ∨ (y < x ∧ cC x y = 1) := by
  unfold cC
  by_cases h1 : x < y
  · rw [if_pos h1]; exact Or.inl ⟨h1, rfl⟩
  · rw [if_neg h1]
    by_cases h2 : y < x
    · rw [if_pos h2]; exact Or.inr (Or.inr ⟨h2, rfl⟩)
    · rw [if_neg h2]; exact Or.inr (Or.inl ⟨by omega, rfl⟩)
theorem cmpG_lt (E : Nat → Ev) (D : Nat → Nat) (a b : Nat) : cmpG E (fun i => (D i : Int)) a b < 0 ↔ Bef E D a b := by
  unfold cmpG or3 Bef cB
  rcases cC_cases (D b : Int) (D a : Int) with ⟨h1, e1⟩ | ⟨h1, e1⟩ | ⟨h1, e1⟩
  · rw [e1, if_neg (by decide)]
    exact ⟨fun _ => Or.inl (by omega), fun _ => by decide⟩
  · rw [e1, if_pos rfl]
    rcases cC_cases (E a).tm (E b).tm with ⟨h2, e2⟩ | ⟨h2, e2⟩ | ⟨h2, e2⟩
    · rw [e2, if_neg (by decide)]
      exact ⟨fun _ => Or.inr ⟨by omega, Or.inl h2⟩, fun _ => by decide⟩
    · rw [e2, if_pos rfl]
      rcases cmp_casesG (E a).id.data.toList (E b).id.data.toList with ⟨h3, e3⟩ | ⟨h3, e3⟩ | ⟨h3, e3⟩
      · rw [e3]
        exact ⟨fun _ => Or.inr ⟨by omega, Or.inr ⟨h2, h3⟩⟩, fun _ => by decide⟩
      · rw [e3]
        refine ⟨fun h => absurd h (by decide), ?_⟩
        rintro (h | ⟨_, h | ⟨_, h⟩⟩)
        · omega
        · omega
        · rw [h3] at h; exact absurd h (List.lt_irrefl _)
      · rw [e3]
        refine ⟨fun h => absurd h (by decide), ?_⟩
        rintro (h | ⟨_, h | ⟨_, h⟩⟩)
        · omega
        · omega
        · exact absurd h (fun h' => List.lt_irrefl _ (List.lt_trans h' h3))
    · rw [e2, if_neg (by decide)]
      refine ⟨fun h => absurd h (by decide), ?_⟩
      rintro (h | ⟨_, h | ⟨_, h⟩⟩) <;> omega
  · rw [e1, if_neg (by decide)]
    refine ⟨fun h => absurd h (by decide), ?_⟩
    rintro (h | ⟨_, h⟩) <;> omega
end Go.Proofs.YtfjfhnjoghlbfaaGreat
