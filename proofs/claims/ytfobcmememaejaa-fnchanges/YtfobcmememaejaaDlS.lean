/-
  spec.Delta.
-/
import Derived.Test.YtfobcmememaejaaDlL
namespace Go.Proofs.Ytfobcmememaejaa
open Go.RowKit

/-- Delta says true. -/
def deOk (a b : List Ent) : Bool := stB a && stB b
def deV (a b : List Ent) : List Ent := if deOk a b then dl2 a b b.length else []

end Go.Proofs.Ytfobcmememaejaa
