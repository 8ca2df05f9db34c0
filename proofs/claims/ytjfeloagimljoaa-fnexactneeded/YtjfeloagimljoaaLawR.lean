import Derived.Test.YtjfeloagimljoaaRm
import Derived.Test.YtjfeloagimljoaaEqEv
namespace Go.Proofs.Ytjfeloagimljoaa
open Go.RowKit

/-! ### sizes -/
/-! ### the same twice -/
end Go.Proofs.Ytjfeloagimljoaa
