/-
  spec.Patch.
-/
import Derived.Test.YtbenfmcnmiedpaaPtL
import Derived.Test.YtbenfmcnmiedpaaChgS
namespace Go.Proofs.Ytbenfmcnmiedpaa
open Go.RowKit

/-- Patch says true. -/
def paOk (l ch : List Ent) : Bool := (stB l && chB ch) && decide ((patL l ch ch.length).length ≤ 300)
def paV (l ch : List Ent) : List Ent := if paOk l ch then patL l ch ch.length else []

set_option maxHeartbeats 1000000 in
theorem patchS_sl {a : Option Addr} {cap : Nat} {l : List Ent} {ca : Option Addr} {cc : Nat} {ch : List Ent} (w : World) (h : SlE w a cap l) (hc : SlE w ca cc ch) :
    Calls Try.prog 22 #[.slice a l.length cap, .slice ca ch.length cc] w fun e w' => ∃ v, e = .returned (.tuple #[v, .bool (paOk l ch)]) ∧ OwnE w' w.heap.size v (paV l ch) ∧ Below w.heap.size w w' := by
  have hnew := newE w
  go_enter Try.func22, Try.ntmps22
  go_wp2_with fail
  refine (stateS_sl _ h).mono ?_
  rintro e w1 ⟨rfl, hb1⟩
  cases hst : stB l
  case false =>
    have hv : Hid (paOk l ch = false ∧ paV l ch = []) := by
      have : paOk l ch = false := by simp [paOk, hst]
      exact ⟨this, by simp [paV, this]⟩
    go_wp2
    refine bodyPost_ret (v := .tuple #[.slice (some ⟨w1.heap.size, 0, none⟩) 0 0, .bool false]) (by simp [results, Try.results22, go_sem]) rfl ⟨_, by rw [hv.out.1], by rw [hv.out.2]; exact hnew _ hb1.size, hb1.alloc hb1.size _⟩
  case true =>
    go_wp2_with fail
    refine (changes_sl _ (hc.below hb1)).mono ?_
    rintro e w2 ⟨rfl, hb2⟩
    have hw2 := hb1.trans (hb2.mono hb1.size)
    cases hch : chB ch
    case false =>
      have hv : Hid (paOk l ch = false ∧ paV l ch = []) := by
        have : paOk l ch = false := by simp [paOk, hch]
        exact ⟨this, by simp [paV, this]⟩
      go_wp2
      refine bodyPost_ret (v := .tuple #[.slice (some ⟨w2.heap.size, 0, none⟩) 0 0, .bool false]) (by simp [results, Try.results22, go_sem]) rfl ⟨_, by rw [hv.out.1], by rw [hv.out.2]; exact hnew _ hw2.size, hw2.alloc hw2.size _⟩
    case true =>
      have hl300 := st_len hst
      have hc600 := ch_len hch
      have hok := patL_ok h.ok hc.ok ch.length (Nat.le_refl _)
      have hpl := patL_len l ch ch.length
      have hv0 : Hid (paOk l ch = decide ((patL l ch ch.length).length ≤ 300)) := by unfold Hid paOk; rw [hst, hch]; rfl
      have hPV : Hid (paV l ch = if paOk l ch then patL l ch ch.length else []) := rfl
      go_wp2_with fail
      refine (l4Patch_sl _ (by omega) (by omega) (h.below hw2) (hc.below hw2)).mono ?_
      rintro e w3 ⟨v, rfl, ho, hb3⟩
      obtain ⟨ga, gc, rfl, _⟩ := ho.sl hok.at
      have hw3 := hw2.trans (hb3.mono hw2.size)
      clear hok
      generalize patL l ch ch.length = sl at *
      by_cases hl : sl.length ≤ 300
      · have hv : Hid (paOk l ch = true ∧ paV l ch = sl) := by
          have : paOk l ch = true := by rw [hv0.out]; exact decide_eq_true hl
          exact ⟨this, by rw [hPV.out, this]; rfl⟩
        have hg : ¬ (300 < sl.length) := by omega
        go_wp2
        refine bodyPost_ret (v := .tuple #[.slice ga sl.length gc, .bool true]) (by simp [results, Try.results22, go_sem]) rfl ⟨_, by rw [hv.out.1], by rw [hv.out.2]; exact ho.base_le hw2.size, hw3⟩
      · have hv : Hid (paOk l ch = false ∧ paV l ch = []) := by
          have : paOk l ch = false := by rw [hv0.out]; exact decide_eq_false hl
          exact ⟨this, by rw [hPV.out, this]; rfl⟩
        have hg : 300 < sl.length := by omega
        go_wp2
        refine bodyPost_ret (v := .tuple #[.slice (some ⟨w3.heap.size, 0, none⟩) 0 0, .bool false]) (by simp [results, Try.results22, go_sem]) rfl ⟨_, by rw [hv.out.1], by rw [hv.out.2]; exact hnew _ hw3.size, hw3.alloc hw3.size _⟩
end Go.Proofs.Ytbenfmcnmiedpaa
