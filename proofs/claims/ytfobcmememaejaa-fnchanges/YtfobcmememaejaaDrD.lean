/-
  spec.DrawDelta.
-/
import Derived.Test.YtfobcmememaejaaDrP
namespace Go.Proofs.Ytfobcmememaejaa
open Go.RowKit

/-- two lists are drawn, and nothing that was there is written. -/
def DdPost (w : World) (e : Ending) (w' : World) : Prop := ∃ xa xc la ya yc lb, e = .returned (.tuple #[.slice xa (List.length la) xc, .slice ya (List.length lb) yc]) ∧ SlE w' xa xc la ∧ SlE w' ya yc lb ∧ List.length la ≤ 8 ∧ List.length lb ≤ 20 ∧ Below w.heap.size w w'

set_option maxHeartbeats 1000000 in
theorem drawDelta_any (hslot : SlotC) {a : Option Addr} {n cap : Nat} (w : World) (hle : n ≤ cap) (hmax : cap ≤ maxLen) (h : BytesIn w a n) : Calls Try.prog 4 #[.slice a n cap] w (DdPost w) := by
  have HS : Hid SlotC := hslot
  clear hslot
  go_enter Try.func4, Try.ntmps4
  go_wp2_with fail
  refine (open_any w hle hmax h).mono ?_
  rintro e w1 ⟨p, rfl, hr, hp, hb1⟩
  go_wp2_with fail
  refine (pair_any HS.out p _ hr).mono ?_
  rintro e w2 ⟨xa, xc, la, ya, yc, lb, rfl, h1, h2, h3, h4, hd⟩
  have hbw : Below w.heap.size w w2 := hb1.grown hd.2 (by exact hb1.size) (fun q hq => by injection hq with hq; omega)
  have Hfin : Hid (DdPost w (.returned (.tuple #[.slice xa la.length xc, .slice ya lb.length yc])) w2) := ⟨xa, xc, la, ya, yc, lb, rfl, h1, h2, h3, h4, hbw⟩
  clear h1 h2 hd hbw hb1
  go_wp2
  exact bodyPost_ret (v := .tuple #[.slice xa la.length xc, .slice ya lb.length yc]) (by simp [results, Try.results4, go_sem]) rfl Hfin.out
end Go.Proofs.Ytfobcmememaejaa
