/-
  spec.Delta.
-/
import Derived.Test.YtbenfmcnmiedpaaDlL
namespace Go.Proofs.Ytbenfmcnmiedpaa
open Go.RowKit

/-- Delta says true. -/
def deOk (a b : List Ent) : Bool := stB a && stB b
def deV (a b : List Ent) : List Ent := if deOk a b then dl2 a b b.length else []

set_option maxHeartbeats 1000000 in
theorem deltaS_sl {xa : Option Addr} {xc : Nat} {a : List Ent} {ya : Option Addr} {yc : Nat} {b : List Ent} (w : World) (h : SlE w xa xc a) (hb : SlE w ya yc b) :
    Calls Try.prog 24 #[.slice xa a.length xc, .slice ya b.length yc] w fun e w' => ∃ v, e = .returned (.tuple #[v, .bool (deOk a b)]) ∧ OwnE w' w.heap.size v (deV a b) ∧ Below w.heap.size w w' := by
  have hnew := newE w
  go_enter Try.func24, Try.ntmps24
  go_wp2_with fail
  refine (stateS_sl _ h).mono ?_
  rintro e w1 ⟨rfl, hb1⟩
  cases hst : stB a
  case false =>
    have hv : Hid (deOk a b = false ∧ deV a b = []) := by
      have : deOk a b = false := by simp [deOk, hst]
      exact ⟨this, by simp [deV, this]⟩
    go_wp2
    refine bodyPost_ret (v := .tuple #[.slice (some ⟨w1.heap.size, 0, none⟩) 0 0, .bool false]) (by simp [results, Try.results24, go_sem]) rfl ⟨_, by rw [hv.out.1], by rw [hv.out.2]; exact hnew _ hb1.size, hb1.alloc hb1.size _⟩
  case true =>
    go_wp2_with fail
    refine (stateS_sl _ (hb.below hb1)).mono ?_
    rintro e w2 ⟨rfl, hb2⟩
    have hw2 := hb1.trans (hb2.mono hb1.size)
    cases hch : stB b
    case false =>
      have hv : Hid (deOk a b = false ∧ deV a b = []) := by
        have : deOk a b = false := by simp [deOk, hch]
        exact ⟨this, by simp [deV, this]⟩
      go_wp2
      refine bodyPost_ret (v := .tuple #[.slice (some ⟨w2.heap.size, 0, none⟩) 0 0, .bool false]) (by simp [results, Try.results24, go_sem]) rfl ⟨_, by rw [hv.out.1], by rw [hv.out.2]; exact hnew _ hw2.size, hw2.alloc hw2.size _⟩
    case true =>
      have hl300 := st_len hst
      have hc300 := st_len hch
      have hok := dl2_ok h.ok hb.ok b.length (Nat.le_refl _)
      have hv : Hid (deOk a b = true ∧ deV a b = dl2 a b b.length) := by
        have : deOk a b = true := by simp [deOk, hst, hch]
        exact ⟨this, by simp [deV, this]⟩
      go_wp2_with fail
      refine (l4Delta_sl _ (by omega) (by omega) (h.below hw2) (hb.below hw2)).mono ?_
      rintro e w3 ⟨v, rfl, ho, hb3⟩
      obtain ⟨ga, gc, rfl, _⟩ := ho.sl hok.at
      have hw3 := hw2.trans (hb3.mono hw2.size)
      clear hok
      generalize dl2 a b b.length = sl at *
      go_wp2
      refine bodyPost_ret (v := .tuple #[.slice ga sl.length gc, .bool true]) (by simp [results, Try.results24, go_sem]) rfl ⟨_, by rw [hv.out.1], by rw [hv.out.2]; exact ho.base_le hw2.size, hw3⟩
end Go.Proofs.Ytbenfmcnmiedpaa
