/-
  impl.layerAt.
-/
import Derived.Test.YtbenfmcnmiedpabLyT
import Derived.Test.YtbenfmcnmiedpabLkS
namespace Go.Proofs.Ytbenfmcnmiedpab
open Go.RowKit

/-- what layerAt answers. -/
def LaPost (w : World) (G : Nat → Grp) (n : Nat) (g : Int) (e : Ending) (w' : World) : Prop := Below w.heap.size w w' ∧
  ((exOk G n g = true ∧ ∃ (q : Nat) (p : Option Addr), g = (q : Int) ∧ q < n ∧ stoTo G n = true ∧ e = .returned (.tuple #[.pointer p, .bool true]) ∧ LayAt w' none (.pointer p) (csF G q)) ∨
   (exOk G n g = false ∧ e = .returned (.tuple #[.pointer none, .bool false])))

set_option maxRecDepth 100000 in
set_option maxHeartbeats 1000000 in
theorem layerAt_sl {a : Option Addr} {n cap : Nat} {G : Nat → Grp} (g : Int) (w : World) (h : SlT w a n cap G) :
    Calls Try.prog 26 #[.agg #[.slice a n cap], .int .i64 g] w (LaPost w G n g) := by
  have hb0 : ∀ o, Below w.heap.size w (w.alloc o) := fun o => (Below.refl _ _).alloc (Nat.le_refl _) _
  go_enter Try.func26, Try.ntmps26
  go_wp2_with fail
  refine (layersOf_sl _ (h.below (hb0 _))).mono ?_
  rintro e w1 ⟨hb1, hp⟩
  have hw1 := (hb0 (.cells #[.slice a n cap] 30)).trans (hb1.mono (by simp))
  clear hb1
  rcases hp with ⟨ht, la, lc, X, rfl, hsq, hX⟩ | ⟨hf, rfl⟩
  · have HX : Hid (∀ i, i < n → LayAt w1 none (X i) (csF G i)) := hX
    have Hto : Hid (stoTo G n = true) := (stoB_parts ht).2
    have hn1 := (stoB_parts ht).1
    have Hex : Hid (exOk G n g = (decide (0 ≤ g) && decide (g < n))) := by unfold Hid exOk; rw [ht, Bool.true_and]
    clear hX ht
    go_wp2_with fail
    refine (hasPl_any la n lc g _).mono ?_
    rintro e w2 ⟨rfl, rfl⟩
    by_cases hpl : (decide (0 ≤ g) && decide (g < (n : Int))) = true
    · rw [hpl]
      rw [hpl] at Hex
      rw [Bool.and_eq_true, decide_eq_true_eq, decide_eq_true_eq] at hpl
      obtain ⟨q, rfl⟩ : ∃ q : Nat, g = (q : Int) := ⟨g.toNat, by omega⟩
      have hqn : q < n := by omega
      have hLq := HX.out q hqn
      obtain ⟨p, hp⟩ := hLq.ptr
      rw [hp] at hLq
      have HL : Hid (LayAt w2 none (.pointer p) (csF G q)) := hLq
      rcases hsq.cells with h0 | ⟨rb, ro, rfl, hrb, hrc⟩
      · omega
      have hr0 := hrc q hqn
      rw [hp] at hr0
      clear hrc hp hLq HX hpl
      go_wp2
      exact bodyPost_ret (v := .tuple #[.pointer p, .bool true]) (by simp [results, Try.results26, go_sem]) rfl ⟨hw1, Or.inl ⟨Hex.out, q, p, rfl, hqn, Hto.out, rfl, HL.out⟩⟩
    · have hpf : (decide (0 ≤ g) && decide (g < (n : Int))) = false := by cases hq : (decide (0 ≤ g) && decide (g < (n : Int))) <;> simp_all
      rw [hpf]
      rw [hpf] at Hex
      clear hpl hpf HX hsq
      go_wp2
      exact bodyPost_ret (v := .tuple #[.pointer none, .bool false]) (by simp [results, Try.results26, go_sem]) rfl ⟨hw1, Or.inr ⟨Hex.out, rfl⟩⟩
  · have Hex : Hid (exOk G n g = false) := by unfold Hid exOk; rw [hf, Bool.false_and]
    clear hf
    go_wp2
    exact bodyPost_ret (v := .tuple #[.pointer none, .bool false]) (by simp [results, Try.results26, go_sem]) rfl ⟨hw1, Or.inr ⟨Hex.out, rfl⟩⟩
end Go.Proofs.Ytbenfmcnmiedpab
