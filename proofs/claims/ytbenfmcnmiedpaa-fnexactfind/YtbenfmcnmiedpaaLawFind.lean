/-
  FnExactFind, where impl.Find answers as it should.
-/
import Derived.Test.YtbenfmcnmiedpaaLawE
import Derived.Test.YtbenfmcnmiedpaaFdS
namespace Go.Proofs.Ytbenfmcnmiedpaa
open Go.RowKit

set_option maxRecDepth 100000 in
set_option maxHeartbeats 2000000 in
theorem lawFind_of {a : Option Addr} {cap : Nat} {l : List Ent} (kind key : ByteArray) (w : World) (hk : kind.size ≤ maxLen) (hk2 : key.size ≤ maxLen) (hr : l.length * 48 ≤ 140737488351232) (h : SlE w a cap l)
    (him0 : ∀ W a' cap', SlE W a' cap' l → Calls Try.prog 15 #[.slice a' l.length cap', .string kind, .string key] W fun e w' => e = .returned (.tuple #[.string (fdV l kind key), .bool (fdOk l kind key)]) ∧ Below W.heap.size W w') :
    Calls Try.prog 4 #[.slice a l.length cap, .string kind, .string key] w fun e w' => e = .returned (.bool true) ∧ Below w.heap.size w w' := by
  have hsp : Hid (∀ W a' cap', SlE W a' cap' l → Calls Try.prog 14 #[.slice a' l.length cap', .string kind, .string key] W fun e w' => e = .returned (.tuple #[.string (fdV l kind key), .bool (fdOk l kind key)]) ∧ Below W.heap.size W w') := fun W a' cap' hW => findS_sl kind key W hW
  have him : Hid (_) := him0
  clear him0
  generalize fdV l kind key = V at *
  generalize fdOk l kind key = qq at *
  unfold maxLen at hk hk2
  by_cases h1 : 1048576 < kind.size
  · go_enter Try.func4, Try.ntmps4
    go_wp2
    go_ret
    exact ⟨rfl, Below.refl _ _⟩
  by_cases h2 : 1048576 < key.size
  · go_enter Try.func4, Try.ntmps4
    go_wp2
    go_ret
    exact ⟨rfl, Below.refl _ _⟩
  go_enter Try.func4, Try.ntmps4
  go_wp2_with fail
  refine (szE_sl _ _ (by decide) (by decide) h).mono ?_
  rintro e w1 ⟨r, rfl, hr0, hr0', _, hw1⟩
  by_cases hneg : r < 0
  · go_wp2
    go_ret
    exact ⟨rfl, hw1⟩
  go_wp2_with fail
  refine (toE_sl _ hr (h.below hw1)).mono ?_
  rintro e w2 ⟨rfl, hi2, hb2⟩
  have hw2 := hw1.trans (hb2.mono hw1.size)
  go_wp2_with fail
  refine (hsp.out _ _ _ hi2).mono ?_
  rintro e w3 ⟨rfl, hb3⟩
  have hw3 := hw2.trans (hb3.mono hw2.size)
  go_wp2_with fail
  refine (toE_sl _ hr (h.below hw3)).mono ?_
  rintro e w4 ⟨rfl, hi4, hb4⟩
  have hw4 := hw3.trans (hb4.mono hw3.size)
  go_wp2_with fail
  refine (him.out _ _ _ hi4).mono ?_
  rintro e w5 ⟨rfl, hb5⟩
  have hw5 := hw4.trans (hb5.mono hw4.size)
  go_wp2_with fail
  refine (toE_sl _ hr (h.below hw5)).mono ?_
  rintro e w6 ⟨rfl, hi6, hb6⟩
  have h46 := hb5.trans (hb6.mono hb5.size)
  go_wp2_with fail
  refine (eqE_sl _ (hi4.below h46) hi6).mono ?_
  rintro e w7 ⟨rfl, hb7⟩
  have hw6 := hw5.trans (hb6.mono hw5.size)
  go_wp2
  go_ret
  exact ⟨rfl, hw6.trans (hb7.mono hw6.size)⟩
end Go.Proofs.Ytbenfmcnmiedpaa
