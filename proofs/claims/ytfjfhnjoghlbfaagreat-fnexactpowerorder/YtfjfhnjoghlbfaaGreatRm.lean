/-
  Rooms: events told by index, as they lie in memory; plain functions of chapter 2.
-/
import Derived.Test.YtfjfhnjoghlbfaaGreatSl
import Derived.Test.YtfjfhnjoghlbfaaGreatPureA
namespace Go.Proofs.YtfjfhnjoghlbfaaGreat
open Go.RowKit

structure Ev where
  id : ByteArray
  sd : ByteArray
  ty : ByteArray
  key : ByteArray
  val : ByteArray
  st : Bool
  tm : Int
  np : Nat
  na : Nat
  ng : Nat
  Pv : Nat → ByteArray
  Av : Nat → ByteArray
  M : Nat → ByteArray
  L : Nat → Int

/-- EventOk's code of an event. -/
def Ev.code (e : Ev) : Int := evCode e.id e.sd e.ty e.key e.val e.st e.tm e.np e.na e.ng e.Pv e.Av e.M e.L
/-- an event as a value, its lists at these slices. -/
abbrev Ev.val' (e : Ev) (pa : Option Addr) (cp : Nat) (aa : Option Addr) (ca : Nat) (ga : Option Addr) (cg : Nat) : Value :=
  evV e.id e.sd e.ty e.key e.val e.st e.tm pa e.np cp aa e.na ca ga e.ng cg

/-- what is known of the lists and texts of an event. -/
structure EvOk (w : World) (e : Ev) (pa : Option Addr) (cp : Nat) (aa : Option Addr) (ca : Nat) (ga : Option Addr) (cg : Nat) : Prop where
  hid : e.id.size ≤ maxLen
  hsd : e.sd.size ≤ maxLen
  hty : e.ty.size ≤ maxLen
  hkey : e.key.size ≤ maxLen
  hval : e.val.size ≤ maxLen
  hp : SlS w pa e.np cp e.Pv
  ha : SlS w aa e.na ca e.Av
  hg : SlG w ga e.ng cg e.M e.L

theorem EvOk.below {w w' : World} {e : Ev} {pa aa ga : Option Addr} {cp ca cg : Nat} (h : EvOk w e pa cp aa ca ga cg) (hb : Below w.heap.size w w') : EvOk w' e pa cp aa ca ga cg :=
  ⟨h.hid, h.hsd, h.hty, h.hkey, h.hval, h.hp.below hb, h.ha.below hb, h.hg.below hb⟩

/-- event e lies in the ten cells from (b, o) on, its lists at these slices. -/
structure EvCells (w : World) (b o : Nat) (e : Ev) (pa : Option Addr) (cp : Nat) (aa : Option Addr) (ca : Nat) (ga : Option Addr) (cg : Nat) : Prop where
  c0 : w.cell? ⟨b, o, none⟩ = some (.string e.id)
  c1 : w.cell? ⟨b, o + 1, none⟩ = some (.string e.sd)
  c2 : w.cell? ⟨b, o + 2, none⟩ = some (.string e.ty)
  c3 : w.cell? ⟨b, o + 3, none⟩ = some (.bool e.st)
  c4 : w.cell? ⟨b, o + 4, none⟩ = some (.string e.key)
  c5 : w.cell? ⟨b, o + 5, none⟩ = some (.int .i64 e.tm)
  c6 : w.cell? ⟨b, o + 6, none⟩ = some (.slice pa e.np cp)
  c7 : w.cell? ⟨b, o + 7, none⟩ = some (.slice aa e.na ca)
  c8 : w.cell? ⟨b, o + 8, none⟩ = some (.string e.val)
  c9 : w.cell? ⟨b, o + 9, none⟩ = some (.slice ga e.ng cg)

theorem EvCells.below {w w' : World} {b o B : Nat} {e : Ev} {pa aa ga : Option Addr} {cp ca cg : Nat} (h : EvCells w b o e pa cp aa ca ga cg) (hb : Below B w w') (hlt : b < B) : EvCells w' b o e pa cp aa ca ga cg :=
  ⟨(hb.cell (by exact hlt)).trans h.c0, (hb.cell (by exact hlt)).trans h.c1, (hb.cell (by exact hlt)).trans h.c2, (hb.cell (by exact hlt)).trans h.c3, (hb.cell (by exact hlt)).trans h.c4, (hb.cell (by exact hlt)).trans h.c5, (hb.cell (by exact hlt)).trans h.c6, (hb.cell (by exact hlt)).trans h.c7, (hb.cell (by exact hlt)).trans h.c8, (hb.cell (by exact hlt)).trans h.c9⟩

/-- event e lies there, whatever slices its lists have. -/
def EvAt (w : World) (b o : Nat) (e : Ev) : Prop := ∃ pa cp aa ca ga cg, EvCells w b o e pa cp aa ca ga cg ∧ EvOk w e pa cp aa ca ga cg

theorem EvAt.below {w w' : World} {b o : Nat} {e : Ev} (h : EvAt w b o e) (hb : Below w.heap.size w w') (hlt : b < w.heap.size) : EvAt w' b o e := by
  obtain ⟨pa, cp, aa, ca, ga, cg, h1, h2⟩ := h
  exact ⟨pa, cp, aa, ca, ga, cg, h1.below hb hlt, h2.below hb⟩

/-- the slice (a, n, cap) holds the events E 0 .. E (n-1). -/
structure SlV (w : World) (a : Option Addr) (n cap : Nat) (E : Nat → Ev) : Prop where
  le : n ≤ cap
  max : cap ≤ maxLen
  cells : n = 0 ∨ ∃ b off, a = some ⟨b, off, none⟩ ∧ b < w.heap.size ∧ ∀ i, i < n → EvAt w b (off + i * 10) (E i)

theorem SlV.below {w w' : World} {a : Option Addr} {n cap : Nat} {E : Nat → Ev} (h : SlV w a n cap E) (hb : Below w.heap.size w w') : SlV w' a n cap E := by
  refine ⟨h.le, h.max, ?_⟩
  rcases h.cells with h0 | ⟨b, off, e, hlt, hc⟩
  · exact Or.inl h0
  · exact Or.inr ⟨b, off, e, Nat.lt_of_lt_of_le hlt hb.size, fun i hi => (hc i hi).below hb hlt⟩

/-- its first k events. -/
theorem SlV.take {w : World} {a : Option Addr} {n cap k : Nat} {E : Nat → Ev} (h : SlV w a n cap E) (hk : k ≤ n) : SlV w a k cap E := by
  refine ⟨Nat.le_trans hk h.le, h.max, ?_⟩
  rcases h.cells with h0 | ⟨b, off, e, hlt, hc⟩
  · exact Or.inl (by omega)
  · exact Or.inr ⟨b, off, e, hlt, fun i hi => hc i (by omega)⟩

/-- the place of the event with an id among the first n, -1 where there is none. -/
def posV (E : Nat → Ev) : Nat → ByteArray → Int
  | 0, _ => -1
  | n + 1, s => if 0 ≤ posV E n s then posV E n s else if (E n).id.toList == s.toList then (n : Int) else -1
theorem posV_bd (E : Nat → Ev) (s : ByteArray) : ∀ n, -1 ≤ posV E n s ∧ posV E n s < n
  | 0 => by simp [posV]
  | n + 1 => by
    have := posV_bd E s n
    unfold posV
    split
    · omega
    · split <;> omega
theorem posV_miss (E : Nat → Ev) (s : ByteArray) : ∀ n, (∀ i, i < n → ((E i).id.toList == s.toList) = false) → posV E n s = -1
  | 0, _ => rfl
  | n + 1, h => by
    unfold posV
    rw [posV_miss E s n (fun i hi => h i (by omega)), if_neg (by omega), h n (by omega)]
    simp
theorem posV_stay (E : Nat → Ev) (s : ByteArray) (k : Nat) (hk : 0 ≤ posV E k s) : ∀ n, k ≤ n → posV E n s = posV E k s
  | 0, h => by have : k = 0 := by omega
               subst this; rfl
  | n + 1, h => by
    by_cases e : k = n + 1
    · subst e; rfl
    · have := posV_stay E s k hk n (by omega)
      rw [posV, this, if_pos hk]
theorem posV_hit (E : Nat → Ev) (s : ByteArray) (n k : Nat) (hk : k < n) (h0 : ∀ i, i < k → ((E i).id.toList == s.toList) = false) (h1 : ((E k).id.toList == s.toList) = true) : posV E n s = (k : Int) := by
  have e : posV E (k + 1) s = (k : Int) := by rw [posV, posV_miss E s k h0, if_neg (by omega), h1]; simp
  rw [posV_stay E s (k + 1) (by omega) n (by omega), e]

/-- the first m ids are all in the room. -/
def thereTo (E : Nat → Ev) (n : Nat) (S : Nat → ByteArray) : Nat → Bool
  | 0 => true
  | m + 1 => thereTo E n S m && decide (0 ≤ posV E n (S m))
theorem thereTo_le (E : Nat → Ev) (n : Nat) (S : Nat → ByteArray) : ∀ m k, k < m → thereTo E n S (k + 1) = false → thereTo E n S m = false
  | 0, _, h, _ => absurd h (Nat.not_lt_zero _)
  | m + 1, k, h, e => by
    by_cases hk : k = m
    · subst hk; exact e
    · unfold thereTo; rw [thereTo_le E n S m k (by omega) e]; rfl
def thereB (E : Nat → Ev) (n : Nat) (S : Nat → ByteArray) (m : Nat) : Bool := decide (m ≤ 300) && thereTo E n S m

/-- Insert's code at the room of the first n events. -/
def insCode (E : Nat → Ev) (n : Nat) (e : Ev) : Int :=
  if e.code ≠ 0 then e.code
  else if 0 ≤ posV E n e.id then 6
  else if thereB E n e.Pv e.np = false ∨ thereB E n e.Av e.na = false then 7
  else if n = 0 ∧ (e.ty.toList == [99, 114, 101, 97, 116, 101]) = false then 8
  else if 0 < n ∧ ((e.ty.toList == [99, 114, 101, 97, 116, 101]) = true ∨ e.np = 0 ∨ e.na = 0) then 8
  else if 300 ≤ n then 9
  else 0

/-- the first n events come from the empty room by inserting. -/
def roomTo (E : Nat → Ev) : Nat → Bool
  | 0 => true
  | n + 1 => roomTo E n && decide (insCode E n (E n) = 0)
theorem roomTo_le (E : Nat → Ev) : ∀ n k, k < n → roomTo E (k + 1) = false → roomTo E n = false
  | 0, _, h, _ => absurd h (Nat.not_lt_zero _)
  | n + 1, k, h, e => by
    by_cases hk : k = n
    · subst hk; exact e
    · unfold roomTo; rw [roomTo_le E n k (by omega) e]; rfl
end Go.Proofs.YtfjfhnjoghlbfaaGreat
