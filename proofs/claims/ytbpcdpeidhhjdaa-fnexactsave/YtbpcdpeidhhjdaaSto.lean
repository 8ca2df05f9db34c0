/-
  Stores: groups told by index; plain functions; spec.l4Links, spec.l4Expand.
-/
import Derived.Test.YtbpcdpeidhhjdaaSetA
namespace Go.Proofs.Ytbpcdpeidhhjdaa
open Go.RowKit

structure Grp where
  par : Int
  sets : List Ent

/-- group g lies in the two cells from (b, o) on. -/
def GrpAt (w : World) (b o : Nat) (g : Grp) : Prop := ∃ sa sc, w.cell? ⟨b, o, none⟩ = some (.int .i64 g.par) ∧ w.cell? ⟨b, o + 1, none⟩ = some (.slice sa g.sets.length sc) ∧ SlE w sa sc g.sets
theorem GrpAt.below {w w' : World} {b o : Nat} {g : Grp} (h : GrpAt w b o g) (hb : Below w.heap.size w w') (hlt : b < w.heap.size) : GrpAt w' b o g := by
  obtain ⟨sa, sc, h1, h2, h3⟩ := h
  exact ⟨sa, sc, (hb.cell (by exact hlt)).trans h1, (hb.cell (by exact hlt)).trans h2, h3.below hb⟩
/-- the slice (a, n, cap) holds the groups G 0 .. G (n-1). -/
structure SlT (w : World) (a : Option Addr) (n cap : Nat) (G : Nat → Grp) : Prop where
  le : n ≤ cap
  max : cap ≤ maxLen
  cells : n = 0 ∨ ∃ b off, a = some ⟨b, off, none⟩ ∧ b < w.heap.size ∧ ∀ i, i < n → GrpAt w b (off + i * 2) (G i)
theorem SlT.below {w w' : World} {a : Option Addr} {n cap : Nat} {G : Nat → Grp} (h : SlT w a n cap G) (hb : Below w.heap.size w w') : SlT w' a n cap G :=
  ⟨h.le, h.max, h.cells.imp id fun ⟨b, off, e, hlt, hc⟩ => ⟨b, off, e, Nat.lt_of_lt_of_le hlt hb.size, fun i hi => (hc i hi).below hb hlt⟩⟩

/-- how many links a group has. -/
def lnk (G : Nat → Grp) : Nat → Nat → Nat
  | 0, _ => 0
  | f + 1, i => if (G i).par < 0 then 0 else 1 + lnk G f (G i).par.toNat
/-- the state of a group. -/
def expF (G : Nat → Grp) : Nat → Nat → List Ent
  | 0, _ => []
  | f + 1, i => if (G i).par < 0 then (G i).sets else patL (expF G f (G i).par.toNat) (G i).sets (G i).sets.length
/-- the Parents of the first n groups are in front of them. -/
def Front (G : Nat → Grp) (n : Nat) : Prop := ∀ j, j < n → -1 ≤ (G j).par ∧ (G j).par < j
theorem lnk_le (G : Nat → Grp) : ∀ f i, lnk G f i ≤ f
  | 0, _ => Nat.le_refl _
  | f + 1, i => by
    unfold lnk
    split
    · omega
    · have := lnk_le G f (G i).par.toNat; omega
theorem lnk_fuel {G : Nat → Grp} {n : Nat} (h : Front G n) : ∀ f i, i < n → i < f → lnk G f i = lnk G (i + 1) i
  | 0, _, _, h' => absurd h' (Nat.not_lt_zero _)
  | f + 1, i, hi, hf => by
    unfold lnk
    by_cases hp : (G i).par < 0
    · rw [if_pos hp, if_pos hp]
    · rw [if_neg hp, if_neg hp]
      have := h i hi
      have hlt : (G i).par.toNat < i := by omega
      rw [lnk_fuel h f _ (by omega) (by omega)]
      by_cases e : i = 0
      · omega
      · rw [lnk_fuel h i _ (by omega) hlt]
theorem expF_fuel {G : Nat → Grp} {n : Nat} (h : Front G n) : ∀ f i, i < n → i < f → expF G f i = expF G (i + 1) i
  | 0, _, _, h' => absurd h' (Nat.not_lt_zero _)
  | f + 1, i, hi, hf => by
    unfold expF
    by_cases hp : (G i).par < 0
    · rw [if_pos hp, if_pos hp]
    · rw [if_neg hp, if_neg hp]
      have := h i hi
      have hlt : (G i).par.toNat < i := by omega
      rw [expF_fuel h f _ (by omega) (by omega)]
      by_cases e : i = 0
      · omega
      · rw [expF_fuel h i _ (by omega) hlt]
end Go.Proofs.Ytbpcdpeidhhjdaa
