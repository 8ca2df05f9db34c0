/-
  spec.Find.
-/
import Derived.Test.YtidlbmjiobnlnaaFndS
namespace Go.Proofs.Ytidlbmjiobnlnaa
open Go.RowKit

/-- Find's two answers. -/
def fdV (l : List Ent) (kind key : ByteArray) : ByteArray := if stB l then findB l kind key else ⟨#[]⟩
def fdOk (l : List Ent) (kind key : ByteArray) : Bool := stB l && !((findB l kind key).toList == [])

end Go.Proofs.Ytidlbmjiobnlnaa
