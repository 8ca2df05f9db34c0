/-
  spec.l4Delta.
-/
import Derived.Test.YtidlbmjiobnlnaaDlP
import Derived.Test.YtidlbmjiobnlnaaChgS
namespace Go.Proofs.Ytidlbmjiobnlnaa
open Go.RowKit
end Go.Proofs.Ytidlbmjiobnlnaa
