/-
  spec.Delta.
-/
import Derived.Test.YtbpcdpeidhhjdaaDlL
namespace Go.Proofs.Ytbpcdpeidhhjdaa
open Go.RowKit

/-- Delta says true. -/
def deOk (a b : List Ent) : Bool := stB a && stB b
def deV (a b : List Ent) : List Ent := if deOk a b then dl2 a b b.length else []

end Go.Proofs.Ytbpcdpeidhhjdaa
