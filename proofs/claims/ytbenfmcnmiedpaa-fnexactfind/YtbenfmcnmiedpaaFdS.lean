/-
  spec.Find.
-/
import Derived.Test.YtbenfmcnmiedpaaFndS
namespace Go.Proofs.Ytbenfmcnmiedpaa
open Go.RowKit

/-- Find's two answers. -/
def fdV (l : List Ent) (kind key : ByteArray) : ByteArray := if stB l then findB l kind key else ⟨#[]⟩
def fdOk (l : List Ent) (kind key : ByteArray) : Bool := stB l && !((findB l kind key).toList == [])

set_option maxHeartbeats 1000000 in
theorem findS_sl {a : Option Addr} {cap : Nat} {l : List Ent} (kind key : ByteArray) (w : World) (h : SlE w a cap l) :
    Calls Try.prog 14 #[.slice a l.length cap, .string kind, .string key] w fun e w' => e = .returned (.tuple #[.string (fdV l kind key), .bool (fdOk l kind key)]) ∧ Below w.heap.size w w' := by
  go_enter Try.func14, Try.ntmps14
  go_wp2_with fail
  refine (stateS_sl _ h).mono ?_
  rintro e w1 ⟨rfl, hb1⟩
  cases hst : stB l
  case false =>
    have hv : Hid (fdV l kind key = ⟨#[]⟩ ∧ fdOk l kind key = false) := ⟨by simp [fdV, hst], by simp [fdOk, hst]⟩
    go_wp2
    refine bodyPost_ret (v := .tuple #[.string ⟨#[]⟩, .bool false]) (by simp [results, Try.results14, go_sem]) rfl ⟨by rw [hv.out.1, hv.out.2], hb1⟩
  case true =>
    have hv : Hid (fdV l kind key = findB l kind key ∧ fdOk l kind key = !((findB l kind key).toList == [])) := ⟨by simp [fdV, hst], by simp [fdOk, hst]⟩
    go_wp2_with fail
    refine (l4Find_sl kind key _ (h.below hb1)).mono ?_
    rintro e w2 ⟨rfl, hb2⟩
    have hbw := hb1.trans (hb2.mono hb1.size)
    generalize findB l kind key = id at *
    cases he : (id.toList == [])
    · rw [he] at hv
      go_wp2
      refine bodyPost_ret (v := .tuple #[.string id, .bool true]) (by simp [results, Try.results14, go_sem]) rfl ⟨by rw [hv.out.1, hv.out.2]; rfl, hbw⟩
    · rw [he] at hv
      go_wp2
      refine bodyPost_ret (v := .tuple #[.string id, .bool false]) (by simp [results, Try.results14, go_sem]) rfl ⟨by rw [hv.out.1, hv.out.2]; rfl, hbw⟩
end Go.Proofs.Ytbenfmcnmiedpaa
