import Derived.WalkKit
import Derived.WalkSpells
import Derived.WalkLawsBesides
import Derived.Deep.Draws
import Derived.Deep.LoopGhost
import Derived.Deep.QuietTactic
import Derived.BigQuiet
import Derived.Deep.RegionWith
namespace Go.Proofs.Ytgocjlpbokhoeaa
open Go.RowKit
theorem ret_bool {a b : Bool} (h : a = b) : Ending.returned (.bool a) = .returned (.bool b) := by rw [h]
theorem ret_int {k : IntKind} {a b : Int} (h : a = b) : Ending.returned (.int k a) = .returned (.int k b) := by rw [h]
theorem ret_str {a b : ByteArray} (h : a = b) : Ending.returned (.string a) = .returned (.string b) := by rw [h]
def Dr (w w' : World) : Prop := ∃ q, w' = w.drewN q
theorem Dr.refl (w : World) : Dr w w := ⟨0, rfl⟩
theorem Dr.drewN {w w' : World} (h : Dr w w') (n : Nat) : Dr w (w'.drewN n) := by
  obtain ⟨q, rfl⟩ := h; exact ⟨q + n, by rw [World.drewN_drewN]⟩
theorem Dr.cell {w w' : World} (h : Dr w w') (a : Addr) : w'.cell? a = w.cell? a := by obtain ⟨q, rfl⟩ := h; rfl
theorem Dr.below {w w' : World} (h : Dr w w') (B : Nat) : Below B w w' := by obtain ⟨q, rfl⟩ := h; exact ⟨rfl, rfl, rfl, Nat.le_refl _, fun _ _ => rfl⟩
theorem box_cells {w w1 : World} {cs : Array Value} {t : TypeId} (hb : Below (w.heap.size + 1) (w.alloc (.cells cs t)) w1) (o : Nat) : w1.cell? ⟨w.heap.size, o, none⟩ = cs[o]? :=
  (hb.cell (by exact Nat.lt_succ_self _)).trans (World.cell?_alloc_at _ _ _ _ rfl)
theorem set_same {wr : World} {B k : Nat} {x : Value} (hv : ∃ v, wr.cell? ⟨B, k, none⟩ = some v) : (wr.setCell ⟨B, k, none⟩ x).cell? ⟨B, k, none⟩ = some x := by
  obtain ⟨v, hv⟩ := hv; exact World.cell?_setCell_same _ _ _ hv
theorem set_far {wr : World} {B k i : Nat} {x : Value} (h : i ≠ k) : (wr.setCell ⟨B, k, none⟩ x).cell? ⟨B, i, none⟩ = wr.cell? ⟨B, i, none⟩ :=
  World.cell?_setCell_other _ _ _ _ (fun e => h (by injection e with _ e2; exact e2.symm))
theorem far_block {wr : World} {B k C i : Nat} {x : Value} (h : B ≠ C) : (wr.setCell ⟨B, k, none⟩ x).cell? ⟨C, i, none⟩ = wr.cell? ⟨C, i, none⟩ :=
  World.cell?_setCell_other _ _ _ _ (fun e => h (by injection e))
end Go.Proofs.Ytgocjlpbokhoeaa
namespace Go.Proofs.Ytgocjlpbokhoeaa
open Go.RowKit
structure Ent where
  ty : ByteArray
  key : ByteArray
  id : ByteArray
def Ent.none : Ent := ⟨ByteArray.empty, ByteArray.empty, ByteArray.empty⟩
def eAt (l : List Ent) (i : Nat) : Ent := l.getD i Ent.none
theorem eAt_get (l : List Ent) (i : Nat) (h : i < l.length) : eAt l i = l[i] := by simp [eAt, List.getD, h]
theorem eAt_mem (l : List Ent) (i : Nat) (h : i < l.length) : eAt l i ∈ l := by rw [eAt_get l i h]; exact List.getElem_mem h
def befB (a b : Ent) : Bool := if a.ty.toList == b.ty.toList then Op.bytesLess a.key.toList b.key.toList else Op.bytesLess a.ty.toList b.ty.toList
def samB (a b : Ent) : Bool := a.ty.toList == b.ty.toList && a.key.toList == b.key.toList
def ordTo (l : List Ent) : Nat → Bool
  | 0 => true
  | n + 1 => ordTo l n && (n == 0 || befB (eAt l (n - 1)) (eAt l n))
theorem ordTo_le (l : List Ent) : ∀ n k, k < n → ordTo l (k + 1) = false → ordTo l n = false
  | 0, _, h, _ => absurd h (Nat.not_lt_zero _)
  | n + 1, k, h, e => by
    by_cases hk : k = n
    · subst hk; exact e
    · unfold ordTo; rw [ordTo_le l n k (by omega) e]; rfl
def ordB (l : List Ent) : Bool := ordTo l l.length
def idsTo (l : List Ent) : Nat → Bool
  | 0 => true
  | n + 1 => idsTo l n && !(eAt l n).id.toList.isEmpty
theorem idsTo_le (l : List Ent) : ∀ n k, k < n → idsTo l (k + 1) = false → idsTo l n = false
  | 0, _, h, _ => absurd h (Nat.not_lt_zero _)
  | n + 1, k, h, e => by
    by_cases hk : k = n
    · subst hk; exact e
    · unfold idsTo; rw [idsTo_le l n k (by omega) e]; rfl
def stB (l : List Ent) : Bool := idsTo l l.length && (decide (l.length ≤ 300) && ordB l)
def chB (l : List Ent) : Bool := decide (l.length ≤ 600) && ordB l
def posI (l : List Ent) (e : Ent) : Int := if l.findIdx (fun x => samB x e) < l.length then ((l.findIdx (fun x => samB x e) : Nat) : Int) else -1
theorem posI_hit (l : List Ent) (e : Ent) (k : Nat) (hk : k < l.length) (h0 : ∀ i, i < k → samB (eAt l i) e = false) (h1 : samB (eAt l k) e = true) : posI l e = (k : Int) := by
  have : l.findIdx (fun x => samB x e) = k := by
    rw [List.findIdx_eq hk]
    refine ⟨by rw [← eAt_get l k hk]; exact h1, fun j hj => ?_⟩
    rw [← eAt_get l j (by omega)]; simp [h0 j hj]
  rw [posI, this, if_pos hk]
theorem posI_miss (l : List Ent) (e : Ent) (h0 : ∀ i, i < l.length → samB (eAt l i) e = false) : posI l e = -1 := by
  rw [posI, if_neg]
  intro h
  have := List.findIdx_getElem (w := h)
  rw [← eAt_get l _ h, h0 _ h] at this
  cases this
structure SlE (w : World) (a : Option Addr) (cap : Nat) (l : List Ent) : Prop where
  le : l.length ≤ cap
  max : cap ≤ maxLen
  size : ∀ i, i < l.length → (eAt l i).ty.size ≤ maxLen ∧ (eAt l i).key.size ≤ maxLen ∧ (eAt l i).id.size ≤ maxLen
  cells : l = [] ∨ ∃ b off, a = some ⟨b, off, none⟩ ∧ b < w.heap.size ∧
    (∀ i, i < l.length → w.cell? ⟨b, off + i * 3, none⟩ = some (.string (eAt l i).ty)) ∧ (∀ i, i < l.length → w.cell? ⟨b, off + i * 3 + 1, none⟩ = some (.string (eAt l i).key)) ∧ (∀ i, i < l.length → w.cell? ⟨b, off + i * 3 + 2, none⟩ = some (.string (eAt l i).id))
theorem SlE.below {w w' : World} {a : Option Addr} {cap : Nat} {l : List Ent} (h : SlE w a cap l) (hb : Below w.heap.size w w') : SlE w' a cap l := by
  refine ⟨h.le, h.max, h.size, ?_⟩
  rcases h.cells with h0 | ⟨b, off, e, hlt, h1, h2, h3⟩
  · exact Or.inl h0
  · exact Or.inr ⟨b, off, e, Nat.lt_of_lt_of_le hlt hb.size, fun i hi => (hb.cell (by exact hlt)).trans (h1 i hi), fun i hi => (hb.cell (by exact hlt)).trans (h2 i hi), fun i hi => (hb.cell (by exact hlt)).trans (h3 i hi)⟩
abbrev entV (e : Ent) : Value := .agg #[.string e.ty, .string e.key, .string e.id]
end Go.Proofs.Ytgocjlpbokhoeaa
