import Derived.Test.YtfjfhnjoghlbfaaGreatBase
namespace Go.Proofs.YtfjfhnjoghlbfaaGreat
open Go.RowKit

/-- the slice (a, n, cap) holds the texts S 0 .. S (n-1). -/
structure SlS (w : World) (a : Option Addr) (n cap : Nat) (S : Nat → ByteArray) : Prop where
  le : n ≤ cap
  max : cap ≤ maxLen
  size : ∀ i, i < n → (S i).size ≤ maxLen
  cells : n = 0 ∨ ∃ b off, a = some ⟨b, off, none⟩ ∧ b < w.heap.size ∧ ∀ i, i < n → w.cell? ⟨b, off + i, none⟩ = some (.string (S i))

theorem SlS.below {w w' : World} {a : Option Addr} {n cap : Nat} {S : Nat → ByteArray} (h : SlS w a n cap S) (hb : Below w.heap.size w w') : SlS w' a n cap S :=
  ⟨h.le, h.max, h.size, h.cells.imp id fun ⟨b, off, e, hlt, hc⟩ => ⟨b, off, e, Nat.lt_of_lt_of_le hlt hb.size, fun i hi => (hb.cell (by exact hlt)).trans (hc i hi)⟩⟩

/-- the slice (a, n, cap) holds the grants (M i, L i). -/
structure SlG (w : World) (a : Option Addr) (n cap : Nat) (M : Nat → ByteArray) (L : Nat → Int) : Prop where
  le : n ≤ cap
  max : cap ≤ maxLen
  size : ∀ i, i < n → (M i).size ≤ maxLen
  cells : n = 0 ∨ ∃ b off, a = some ⟨b, off, none⟩ ∧ b < w.heap.size ∧ (∀ i, i < n → w.cell? ⟨b, off + i * 2, none⟩ = some (.string (M i))) ∧ ∀ i, i < n → w.cell? ⟨b, off + i * 2 + 1, none⟩ = some (.int .i64 (L i))

theorem SlG.below {w w' : World} {a : Option Addr} {n cap : Nat} {M : Nat → ByteArray} {L : Nat → Int} (h : SlG w a n cap M L) (hb : Below w.heap.size w w') : SlG w' a n cap M L :=
  ⟨h.le, h.max, h.size, h.cells.imp id fun ⟨b, off, e, hlt, hc, hl⟩ => ⟨b, off, e, Nat.lt_of_lt_of_le hlt hb.size, fun i hi => (hb.cell (by exact hlt)).trans (hc i hi), fun i hi => (hb.cell (by exact hlt)).trans (hl i hi)⟩⟩

/-- an event as a value. -/
abbrev evV (id sd ty key val : ByteArray) (st : Bool) (tm : Int) (pa : Option Addr) (np cp : Nat) (aa : Option Addr) (na ca : Nat) (ga : Option Addr) (ng cg : Nat) : Value :=
  .agg #[.string id, .string sd, .string ty, .bool st, .string key, .int .i64 tm, .slice pa np cp, .slice aa na ca, .string val, .slice ga ng cg]
end Go.Proofs.YtfjfhnjoghlbfaaGreat
