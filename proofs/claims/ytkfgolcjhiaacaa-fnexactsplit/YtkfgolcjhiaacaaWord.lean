import Derived.Test.YtkfgolcjhiaacaaProg
import Derived.Test.YtkfgolcjhiaacaaPure1
import Derived.Test.YtkfgolcjhiaacaaBase
namespace Go.Proofs.Ytkfgolcjhiaacaa
open Go.RowKit
end Go.Proofs.Ytkfgolcjhiaacaa
