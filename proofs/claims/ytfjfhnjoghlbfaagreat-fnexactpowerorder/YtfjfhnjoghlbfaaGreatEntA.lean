import Derived.Test.YtfjfhnjoghlbfaaGreatBase
import Derived.Test.YtfjfhnjoghlbfaaGreatProg
/-
  Chapter 4's entries: plain functions, and lists of entries as they lie in memory.
-/
namespace Go.Proofs.YtfjfhnjoghlbfaaGreat
open Go.RowKit

structure Ent where
  ty : ByteArray
  key : ByteArray
  id : ByteArray

def Ent.none : Ent := ⟨ByteArray.empty, ByteArray.empty, ByteArray.empty⟩
def eAt (l : List Ent) (i : Nat) : Ent := l.getD i Ent.none

theorem eAt_get (l : List Ent) (i : Nat) (h : i < l.length) : eAt l i = l[i] := by simp [eAt, List.getD, h]
theorem eAt_mem (l : List Ent) (i : Nat) (h : i < l.length) : eAt l i ∈ l := by rw [eAt_get l i h]; exact List.getElem_mem h

/-- the slot of a stands before that of b. -/
def befB (a b : Ent) : Bool := if a.ty.toList == b.ty.toList then Op.bytesLess a.key.toList b.key.toList else Op.bytesLess a.ty.toList b.ty.toList
/-- the same slot. -/
def samB (a b : Ent) : Bool := a.ty.toList == b.ty.toList && a.key.toList == b.key.toList

/-- among the first n entries each stands before the next. -/
def ordTo (l : List Ent) : Nat → Bool
  | 0 => true
  | n + 1 => ordTo l n && (n == 0 || befB (eAt l (n - 1)) (eAt l n))
theorem ordTo_le (l : List Ent) : ∀ n k, k < n → ordTo l (k + 1) = false → ordTo l n = false
  | 0, _, h, _ => absurd h (Nat.not_lt_zero _)
  | n + 1, k, h, e => by
    by_cases hk : k = n
    · subst hk; exact e
    · unfold ordTo; rw [ordTo_le l n k (by omega) e]; rfl
def ordB (l : List Ent) : Bool := ordTo l l.length

/-- the first n entries have an Id. -/
def idsTo (l : List Ent) : Nat → Bool
  | 0 => true
  | n + 1 => idsTo l n && !(eAt l n).id.toList.isEmpty
theorem idsTo_le (l : List Ent) : ∀ n k, k < n → idsTo l (k + 1) = false → idsTo l n = false
  | 0, _, h, _ => absurd h (Nat.not_lt_zero _)
  | n + 1, k, h, e => by
    by_cases hk : k = n
    · subst hk; exact e
    · unfold idsTo; rw [idsTo_le l n k (by omega) e]; rfl

/-- entries are a state. -/
def stB (l : List Ent) : Bool := idsTo l l.length && (decide (l.length ≤ 300) && ordB l)
/-- entries are changes. -/
def chB (l : List Ent) : Bool := decide (l.length ≤ 600) && ordB l

/-- the place of the entry with e's slot, -1 where there is none. -/
def posI (l : List Ent) (e : Ent) : Int := if l.findIdx (fun x => samB x e) < l.length then ((l.findIdx (fun x => samB x e) : Nat) : Int) else -1
theorem posI_hit (l : List Ent) (e : Ent) (k : Nat) (hk : k < l.length) (h0 : ∀ i, i < k → samB (eAt l i) e = false) (h1 : samB (eAt l k) e = true) : posI l e = (k : Int) := by
  have : l.findIdx (fun x => samB x e) = k := by
    rw [List.findIdx_eq hk]
    refine ⟨by rw [← eAt_get l k hk]; exact h1, fun j hj => ?_⟩
    rw [← eAt_get l j (by omega)]; simp [h0 j hj]
  rw [posI, this, if_pos hk]
theorem posI_miss (l : List Ent) (e : Ent) (h0 : ∀ i, i < l.length → samB (eAt l i) e = false) : posI l e = -1 := by
  rw [posI, if_neg]
  intro h
  have := List.findIdx_getElem (w := h)
  rw [← eAt_get l _ h, h0 _ h] at this
  cases this

/-- the slice (a, length of l, cap) holds the entries l. -/
structure SlE (w : World) (a : Option Addr) (cap : Nat) (l : List Ent) : Prop where
  le : l.length ≤ cap
  max : cap ≤ maxLen
  size : ∀ i, i < l.length → (eAt l i).ty.size ≤ maxLen ∧ (eAt l i).key.size ≤ maxLen ∧ (eAt l i).id.size ≤ maxLen
  cells : l = [] ∨ ∃ b off, a = some ⟨b, off, none⟩ ∧ b < w.heap.size ∧
    (∀ i, i < l.length → w.cell? ⟨b, off + i * 3, none⟩ = some (.string (eAt l i).ty)) ∧ (∀ i, i < l.length → w.cell? ⟨b, off + i * 3 + 1, none⟩ = some (.string (eAt l i).key)) ∧ (∀ i, i < l.length → w.cell? ⟨b, off + i * 3 + 2, none⟩ = some (.string (eAt l i).id))

theorem SlE.below {w w' : World} {a : Option Addr} {cap : Nat} {l : List Ent} (h : SlE w a cap l) (hb : Below w.heap.size w w') : SlE w' a cap l := by
  refine ⟨h.le, h.max, h.size, ?_⟩
  rcases h.cells with h0 | ⟨b, off, e, hlt, h1, h2, h3⟩
  · exact Or.inl h0
  · exact Or.inr ⟨b, off, e, Nat.lt_of_lt_of_le hlt hb.size, fun i hi => (hb.cell (by exact hlt)).trans (h1 i hi), fun i hi => (hb.cell (by exact hlt)).trans (h2 i hi), fun i hi => (hb.cell (by exact hlt)).trans (h3 i hi)⟩
theorem SlE.set {w : World} {b off cap C j : Nat} {l : List Ent} (h : SlE w (some ⟨b, off, none⟩) cap l) (hC : C ≠ b) (x : Value) : SlE (w.setCell ⟨C, j, none⟩ x) (some ⟨b, off, none⟩) cap l := by
  refine ⟨h.le, h.max, h.size, ?_⟩
  rcases h.cells with h0 | ⟨b', off', e, hlt, h1, h2, h3⟩
  · exact Or.inl h0
  · have e2 : b = b' := by injection e with e; injection e
    exact Or.inr ⟨b', off', e, by simpa [World.setCell] using hlt, fun i hi => by rw [far_block (by omega)]; exact h1 i hi, fun i hi => by rw [far_block (by omega)]; exact h2 i hi, fun i hi => by rw [far_block (by omega)]; exact h3 i hi⟩

/-- an entry as a value. -/
abbrev entV (e : Ent) : Value := .agg #[.string e.ty, .string e.key, .string e.id]
end Go.Proofs.YtfjfhnjoghlbfaaGreat
namespace Go.Proofs.YtfjfhnjoghlbfaaGreat
open Go.RowKit
end Go.Proofs.YtfjfhnjoghlbfaaGreat
/-
  spec.l4Find.
-/
namespace Go.Proofs.YtfjfhnjoghlbfaaGreat
open Go.RowKit

/-- the Id at a slot, empty where there is none. -/
def findB (l : List Ent) (kind key : ByteArray) : ByteArray := if 0 ≤ posI l ⟨kind, key, ⟨#[]⟩⟩ then (eAt l (posI l ⟨kind, key, ⟨#[]⟩⟩).toNat).id else ⟨#[]⟩
theorem posI_bd (l : List Ent) (e : Ent) : -1 ≤ posI l e ∧ posI l e < l.length := by
  unfold posI
  split <;> omega

end Go.Proofs.YtfjfhnjoghlbfaaGreat
