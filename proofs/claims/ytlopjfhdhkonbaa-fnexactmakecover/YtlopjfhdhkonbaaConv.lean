import Derived.Test.YtlopjfhdhkonbaaBase
import Derived.Test.YtlopjfhdhkonbaaProg
import Derived.Laws.BytesArg
namespace Go.Proofs.Ytlopjfhdhkonbaa
open Go.RowKit

theorem strOfNums_one (n : Nat) : strOfNums [(n : Int)] = ⟨#[UInt8.ofNat n]⟩ := by
  simp [strOfNums]

theorem conv_one (W : World) (B n : Nat) (hc : W.cell? ⟨B, 0, none⟩ = some (.int .u8 (n : Int))) :
    (convert 96 9 (.slice (some ⟨B, 0, none⟩) 1 1)).run Try.prog W = .ok (.string ⟨#[UInt8.ofNat n]⟩) W := by
  rw [run_convert_bytes_arg W 96 5 Try.underlying96 Try.underlying5 B 0 1 1 [(n : Int)] rfl (fun i hi => by
    have : i = 0 := by omega
    subst this; exact hc) 9 Try.underlying9, strOfNums_one n]

end Go.Proofs.Ytlopjfhdhkonbaa
