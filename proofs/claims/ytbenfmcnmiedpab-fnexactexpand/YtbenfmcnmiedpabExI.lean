/-
  impl.Expand.
-/
import Derived.Test.YtbenfmcnmiedpabLaI
import Derived.Test.YtbenfmcnmiedpabStaI
import Derived.Test.YtbenfmcnmiedpabAnE
namespace Go.Proofs.Ytbenfmcnmiedpab
open Go.RowKit

set_option maxRecDepth 100000 in
set_option maxHeartbeats 1000000 in
theorem expI_ans {a : Option Addr} {n cap : Nat} {G : Nat → Grp} (g : Int) (w : World) (h : SlT w a n cap G) :
    Calls Try.prog 12 #[.agg #[.slice a n cap], .int .i64 g] w (AnsE (exV G n g) (exOk G n g) w) := by
  have hb0 : ∀ o, Below w.heap.size w (w.alloc o) := fun o => (Below.refl _ _).alloc (Nat.le_refl _) _
  have Hok : Hid (∀ i, i < n → AllOk (G i).sets) := h.oksets
  have Hans : Hid (∀ W v, Below w.heap.size w W → OwnE W w.heap.size v (exV G n g) → AnsE (exV G n g) (exOk G n g) w (.returned (.tuple #[v, .bool (exOk G n g)])) W) := fun W v hW ho => ansE_of _ hW ho (exV_ok Hok.out g)
  go_enter Try.func12, Try.ntmps12
  go_wp2_with fail
  refine (layerAt_sl g _ (h.below (hb0 _))).mono ?_
  rintro e w1 ⟨hb1, hp⟩
  have hw1 := (hb0 (.cells #[.slice a n cap] 30)).trans (hb1.mono (by simp))
  clear hb1
  rcases hp with ⟨ht, q, p, rfl, hqn, hto, rfl, hL⟩ | ⟨hf, rfl⟩
  · have hok := cs_ok hto Hok.out q hqn
    have hbd := cs_bd hto q hqn
    have hfa := (cs_facts (stoTo_front hto) q hqn).2
    have hv : exV G n (q : Int) = stOf (csF G q) := by unfold exV; rw [ht, if_pos rfl, Int.toNat_natCast, hfa]
    rw [hv] at Hans
    rw [ht] at Hans
    have Hv : Hid (exV G n (q : Int) = stOf (csF G q) ∧ exOk G n (q : Int) = true) := ⟨hv, ht⟩
    have Hst : Hid (Calls Try.prog 30 #[.pointer p] w1 fun e w' => ∃ v, e = .returned v ∧ OwnE w' w1.heap.size v (stOf (csF G q)) ∧ Below w1.heap.size w1 w') := state_any w1 hL hok (by omega)
    have Hal : Hid (AllOk (stOf (csF G q))) := (stOf_ok hok).2.2
    clear hok hbd hfa hv hL hto ht
    generalize stOf (csF G q) = sl at *
    go_wp2_with fail
    refine (Hst.out).mono ?_
    rintro e w2 ⟨v, rfl, ho, hb2⟩
    obtain ⟨ga, gc, rfl, _⟩ := ho.sl Hal.out.at
    have hw2 := hw1.trans (hb2.mono hw1.size)
    have hfin : Hid (AnsE (exV G n (q : Int)) (exOk G n (q : Int)) w (.returned (.tuple #[.slice ga sl.length gc, .bool true])) w2) := by
      unfold Hid
      rw [Hv.out.1, Hv.out.2]
      exact Hans.out w2 _ hw2 (ho.base_le hw1.size)
    clear Hans
    go_wp2
    exact bodyPost_ret (v := .tuple #[.slice ga sl.length gc, .bool true]) (by simp [results, Try.results12, go_sem]) rfl hfin.out
  · have hv : exV G n g = [] := by unfold exV; rw [hf]; rfl
    rw [hv, hf] at Hans
    have hfin : Hid (AnsE (exV G n g) (exOk G n g) w (.returned (.tuple #[.slice none 0 0, .bool false])) w1) := by
      unfold Hid
      rw [hv, hf]
      exact Hans.out w1 (.slice none 0 0) hw1 ⟨rfl, Or.inl ⟨rfl, rfl⟩⟩
    clear hf hv Hans
    go_wp2
    exact bodyPost_ret (v := .tuple #[.slice none 0 0, .bool false]) (by simp [results, Try.results12, go_sem]) rfl hfin.out
end Go.Proofs.Ytbenfmcnmiedpab
