import Derived.Test.YtjfeloagimljoaaMkW
namespace Go.Proofs.Ytjfeloagimljoaa
open Go.RowKit

/-- the lists of an event as they lie: three slices. -/
structure Lst where
  pa : Option Addr
  np : Nat
  cp : Nat
  aa : Option Addr
  na : Nat
  ca : Nat
  ga : Option Addr
  ng : Nat
  cg : Nat

/-- where the lists of event i stand in the events' block. -/
def LstAt (w : World) (B o : Nat) (l : Lst) : Prop :=
  w.cell? ⟨B, o + 6, none⟩ = some (.slice l.pa l.np l.cp) ∧ w.cell? ⟨B, o + 7, none⟩ = some (.slice l.aa l.na l.ca) ∧ w.cell? ⟨B, o + 9, none⟩ = some (.slice l.ga l.ng l.cg)
def LstW (w : World) (B hi : Nat) (l : Lst) : Prop := Wr w (B + 1) hi l.pa l.np ∧ Wr w (B + 1) hi l.aa l.na ∧ Wr w (B + 1) hi l.ga (l.ng * 2)
def Lst.num (l : Lst) : Nat := 7 + l.np + l.na + l.ng * 2
def lsum (T : Nat → Lst) : Nat → Nat
  | 0 => 0
  | n + 1 => lsum T n + (T n).num
theorem lsum_le (T : Nat → Lst) : ∀ n k, k ≤ n → lsum T k ≤ lsum T n
  | 0, k, h => by have : k = 0 := by omega
                  subst this; exact Nat.le_refl _
  | n + 1, k, h => by
    by_cases e : k = n + 1
    · subst e; exact Nat.le_refl _
    · have := lsum_le T n k (by omega)
      rw [lsum]; omega
theorem lsum_at (T : Nat → Lst) (n k : Nat) (h : k < n) : lsum T k + (T k).num ≤ lsum T n := by
  have := lsum_le T n (k + 1) (by omega)
  rw [lsum] at this; exact this

/-- the lists of all events stand where they stood. -/
def LT (w : World) (B off n : Nat) (T : Nat → Lst) : Prop := ∀ i, i < n → LstAt w B (off + i * 10) (T i)
theorem LT.below {w w' : World} {B off n : Nat} {T : Nat → Lst} (h : LT w B off n T) (hB : B < w.heap.size) (hb : Below w.heap.size w w') : LT w' B off n T := fun i hi =>
  ⟨(hb.cell (by exact hB)).trans (h i hi).1, (hb.cell (by exact hB)).trans (h i hi).2.1, (hb.cell (by exact hB)).trans (h i hi).2.2⟩
theorem LT.set {w : World} {B off n j r : Nat} {T : Nat → Lst} {x : Value} (h : LT w B off n T) (hr : r < 6 ∨ r = 8) : LT (w.setCell ⟨B, off + j * 10 + r, none⟩ x) B off n T := fun i hi =>
  ⟨by rw [set_far (by omega)]; exact (h i hi).1, by rw [set_far (by omega)]; exact (h i hi).2.1, by rw [set_far (by omega)]; exact (h i hi).2.2⟩
theorem LT.mkd {w w' : World} {B off n hi : Nat} {T : Nat → Lst} (h : LT w B off n T) (hB : B < w.heap.size) (hm : Mkd (B + 1) hi w w') : LT w' B off n T := fun i hi =>
  ⟨(hm.cell hB (Or.inl (Nat.lt_succ_self _))).trans (h i hi).1, (hm.cell hB (Or.inl (Nat.lt_succ_self _))).trans (h i hi).2.1, (hm.cell hB (Or.inl (Nat.lt_succ_self _))).trans (h i hi).2.2⟩

end Go.Proofs.Ytjfeloagimljoaa
