/-
  spec.l4Patch.
-/
import Derived.Test.YtepgmgkdhklfjaaGreatSetA
import Derived.Test.YtepgmgkdhklfjaaGreatCopyS
namespace Go.Proofs.YtepgmgkdhklfjaaGreat
open Go.RowKit

/-! ### Patch -/

/-- a state behind the first k changes. -/
def patL (l ch : List Ent) : Nat → List Ent
  | 0 => l
  | k + 1 => setL (patL l ch k) (eAt ch k) false
theorem patL_len (l ch : List Ent) : ∀ k, (patL l ch k).length ≤ l.length + k
  | 0 => Nat.le_refl _
  | k + 1 => by have := patL_len l ch k; have := setL_len (patL l ch k) (eAt ch k) false; unfold patL; omega
theorem patL_ok {l ch : List Ent} (h : AllOk l) (hc : AllOk ch) : ∀ k, k ≤ ch.length → AllOk (patL l ch k)
  | 0, _ => h
  | k + 1, hk => (patL_ok h hc k (by omega)).set (hc.at k (by omega))

end Go.Proofs.YtepgmgkdhklfjaaGreat
