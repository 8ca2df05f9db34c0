/-
  spec.Find.
-/
import Derived.Test.YtfobcmememaejaaFndS
namespace Go.Proofs.Ytfobcmememaejaa
open Go.RowKit

/-- Find's two answers. -/
def fdV (l : List Ent) (kind key : ByteArray) : ByteArray := if stB l then findB l kind key else ⟨#[]⟩
def fdOk (l : List Ent) (kind key : ByteArray) : Bool := stB l && !((findB l kind key).toList == [])

end Go.Proofs.Ytfobcmememaejaa
