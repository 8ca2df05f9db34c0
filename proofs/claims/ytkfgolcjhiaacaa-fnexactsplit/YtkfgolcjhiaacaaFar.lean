/-
  Slices whose blocks lie outside of what is marked.
-/
import Derived.Test.YtkfgolcjhiaacaaMkD
namespace Go.Proofs.Ytkfgolcjhiaacaa
open Go.RowKit

/-- the slice's block is below base. -/
def LowS (a : Option Addr) (n base : Nat) : Prop := n = 0 ∨ ∃ b off, a = some ⟨b, off, none⟩ ∧ b < base
/-- the slice's block is not one of lo .. hi. -/
def FarS (a : Option Addr) (n lo hi : Nat) : Prop := n = 0 ∨ ∃ b off, a = some ⟨b, off, none⟩ ∧ (b < lo ∨ hi ≤ b)
theorem LowS.far {a : Option Addr} {n base lo hi : Nat} (h : LowS a n base) (hb : base ≤ lo) : FarS a n lo hi :=
  h.imp id fun ⟨b, off, e, hlt⟩ => ⟨b, off, e, Or.inl (by omega)⟩
theorem Wr0.far {w : World} {a : Option Addr} {n base lo hi : Nat} (h : Wr0 w base a n) (hb : hi ≤ base) : FarS a n lo hi :=
  h.imp id fun ⟨b, off, e, hlt, _⟩ => ⟨b, off, e, Or.inr (by omega)⟩
theorem Wr0.mkd {w w' : World} {a : Option Addr} {n base lo hi : Nat} (h : Wr0 w base a n) (hm : Mkd lo hi w w') : Wr0 w' base a n :=
  h.imp id fun ⟨b, off, e, h1, h3, hc⟩ => ⟨b, off, e, h1, Nat.lt_of_lt_of_le h3 hm.size, fun i hi => ⟨hm.there _ h3 (hc i hi).1, (hm.frz _ h3).trans (hc i hi).2⟩⟩
end Go.Proofs.Ytkfgolcjhiaacaa
