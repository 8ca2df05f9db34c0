/-
  spec.l4Changes.
-/
import Derived.Test.YtfobcmememaejaaStS
import Derived.Test.YtfobcmememaejaaOwn
namespace Go.Proofs.Ytfobcmememaejaa
open Go.RowKit

theorem newE (w W : World) (hW : w.heap.size ≤ W.heap.size) : OwnE (W.alloc (.cells #[] 32)) w.heap.size (.slice (some ⟨W.heap.size, 0, none⟩) 0 0) [] :=
  ⟨rfl, Or.inr ⟨W.heap.size, 0, #[], rfl, hW, by show (W.heap.push _)[W.heap.size]? = _; simp, Nat.le_refl _, by decide, rfl, rfl⟩⟩

end Go.Proofs.Ytfobcmememaejaa
