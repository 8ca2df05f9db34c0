/-
  spec.l4Find.
-/
import Derived.Test.YtfobcmememaejaaStS
namespace Go.Proofs.Ytfobcmememaejaa
open Go.RowKit

/-- the Id at a slot, empty where there is none. -/
def findB (l : List Ent) (kind key : ByteArray) : ByteArray := if 0 ≤ posI l ⟨kind, key, ⟨#[]⟩⟩ then (eAt l (posI l ⟨kind, key, ⟨#[]⟩⟩).toNat).id else ⟨#[]⟩
theorem posI_bd (l : List Ent) (e : Ent) : -1 ≤ posI l e ∧ posI l e < l.length := by
  unfold posI
  split <;> omega

end Go.Proofs.Ytfobcmememaejaa
