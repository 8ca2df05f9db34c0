/-
  spec.Patch.
-/
import Derived.Test.YtidlbmjiobnlnaaPtL
import Derived.Test.YtidlbmjiobnlnaaChgS
namespace Go.Proofs.Ytidlbmjiobnlnaa
open Go.RowKit

/-- Patch says true. -/
def paOk (l ch : List Ent) : Bool := (stB l && chB ch) && decide ((patL l ch ch.length).length ≤ 300)
def paV (l ch : List Ent) : List Ent := if paOk l ch then patL l ch ch.length else []

end Go.Proofs.Ytidlbmjiobnlnaa
