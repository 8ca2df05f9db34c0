import Derived.Test.YtlopjfhdhkonbaaCdJ
import Derived.Test.YtlopjfhdhkonbaaGrA
namespace Go.Proofs.Ytlopjfhdhkonbaa
open Go.RowKit

theorem Try.infoIntsR : (Try.prog.info? 52).map (fun i => (i.zero, i.size, i.bytes)) = some (some (.slice none 0 0), 1, 24) := by kernel_rfl

end Go.Proofs.Ytlopjfhdhkonbaa
