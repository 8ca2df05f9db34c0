/-
  spec.Patch.
-/
import Derived.Test.YtfobcmememaejaaPtL
import Derived.Test.YtfobcmememaejaaChgS
namespace Go.Proofs.Ytfobcmememaejaa
open Go.RowKit

/-- Patch says true. -/
def paOk (l ch : List Ent) : Bool := (stB l && chB ch) && decide ((patL l ch ch.length).length ≤ 300)
def paV (l ch : List Ent) : List Ent := if paOk l ch then patL l ch ch.length else []

end Go.Proofs.Ytfobcmememaejaa
