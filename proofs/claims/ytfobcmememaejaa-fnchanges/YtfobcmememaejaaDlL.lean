/-
  spec.l4Delta.
-/
import Derived.Test.YtfobcmememaejaaDlP
import Derived.Test.YtfobcmememaejaaChgS
namespace Go.Proofs.Ytfobcmememaejaa
open Go.RowKit
end Go.Proofs.Ytfobcmememaejaa
