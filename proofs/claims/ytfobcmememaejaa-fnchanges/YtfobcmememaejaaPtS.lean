/-
  spec.Put.
-/
import Derived.Test.YtfobcmememaejaaSetL
namespace Go.Proofs.Ytfobcmememaejaa
open Go.RowKit

/-! ### Put -/

/-- Put says true. -/
def putOk (l : List Ent) (e : Ent) : Bool := (stB l && !(e.id.toList == [])) && decide ((setL l e false).length ≤ 300)
def putV (l : List Ent) (e : Ent) : List Ent := if putOk l e then setL l e false else []

set_option maxHeartbeats 1000000 in
theorem putS_sl {a : Option Addr} {cap : Nat} {l : List Ent} (e0 : Ent) (w : World) (h : SlE w a cap l) (he : e0.ty.size ≤ maxLen ∧ e0.key.size ≤ maxLen ∧ e0.id.size ≤ maxLen) :
    Calls Try.prog 10 #[.slice a l.length cap, entV e0] w fun e w' => ∃ v, e = .returned (.tuple #[v, .bool (putOk l e0)]) ∧ OwnE w' w.heap.size v (putV l e0) ∧ Below w.heap.size w w' := by
  have hb0 : ∀ o, Below w.heap.size w (w.alloc o) := fun o => (Below.refl _ _).alloc (Nat.le_refl _) _
  go_enter Try.func10, Try.ntmps10
  go_wp2_with fail
  refine (stateS_sl _ (h.below (hb0 _))).mono ?_
  rintro e w1 ⟨rfl, hb1⟩
  have hB1 := hb1.mono (B' := w.heap.size + 1) (by simp)
  have hw1 := (hb0 _).trans (hb1.mono (by simp))
  have hcx := box_cells hB1
  have hnew : ∀ W : World, w.heap.size ≤ W.heap.size → OwnE (W.alloc (.cells #[] 32)) w.heap.size (.slice (some ⟨W.heap.size, 0, none⟩) 0 0) [] := fun W hW =>
    ⟨rfl, Or.inr ⟨W.heap.size, 0, #[], rfl, hW, by show (W.heap.push _)[W.heap.size]? = _; simp, Nat.le_refl _, by decide, rfl, rfl⟩⟩
  clear hb1
  cases hst : stB l
  case false =>
    have hv : Hid (putOk l e0 = false ∧ putV l e0 = []) := by
      have : putOk l e0 = false := by simp [putOk, hst]
      exact ⟨this, by simp [putV, this]⟩
    go_wp2
    refine bodyPost_ret (v := .tuple #[.slice (some ⟨w1.heap.size, 0, none⟩) 0 0, .bool false]) (by simp [results, Try.results10, go_sem]) rfl ⟨_, by rw [hv.out.1], by rw [hv.out.2]; exact hnew _ hw1.size, hw1.alloc hw1.size _⟩
  case true =>
    cases he0 : (e0.id.toList == [])
    case true =>
      have hv : Hid (putOk l e0 = false ∧ putV l e0 = []) := by
        have : putOk l e0 = false := by simp [putOk, he0]
        exact ⟨this, by simp [putV, this]⟩
      go_wp2
      refine bodyPost_ret (v := .tuple #[.slice (some ⟨w1.heap.size, 0, none⟩) 0 0, .bool false]) (by simp [results, Try.results10, go_sem]) rfl ⟨_, by rw [hv.out.1], by rw [hv.out.2]; exact hnew _ hw1.size, hw1.alloc hw1.size _⟩
    case false =>
      have hl300 := st_len hst
      have hset := h.ok.set (keep := false) he
      have hv0 : Hid (putOk l e0 = decide ((setL l e0 false).length ≤ 300)) := by unfold Hid putOk; rw [hst, he0]; rfl
      have hlen0 := setL_len l e0 false
      go_wp2_with fail
      refine (set_sl e0 false _ (by omega) (h.below hw1)).mono ?_
      rintro e w2 ⟨v, rfl, ho, hb2⟩
      obtain ⟨ga, gc, rfl, hsl⟩ := ho.sl hset.at
      have hw2 := hw1.trans (hb2.mono hw1.size)
      have Hset : Hid (AllOk (setL l e0 false)) := hset
      have hPV : Hid (putV l e0 = if putOk l e0 then setL l e0 false else []) := rfl
      clear hset
      generalize setL l e0 false = sl at *
      by_cases hl : sl.length ≤ 300
      · have hv : Hid (putOk l e0 = true ∧ putV l e0 = sl) := by
          have : putOk l e0 = true := by rw [hv0.out]; exact decide_eq_true hl
          exact ⟨this, by rw [hPV.out, this]; rfl⟩
        have hg : ¬ (300 < sl.length) := by omega
        go_wp2
        refine bodyPost_ret (v := .tuple #[.slice ga sl.length gc, .bool true]) (by simp [results, Try.results10, go_sem]) rfl ⟨_, by rw [hv.out.1], by rw [hv.out.2]; exact ho.base_le hw1.size, hw2⟩
      · have hv : Hid (putOk l e0 = false ∧ putV l e0 = []) := by
          have : putOk l e0 = false := by rw [hv0.out]; exact decide_eq_false hl
          exact ⟨this, by rw [hPV.out, this]; rfl⟩
        have hg : 300 < sl.length := by omega
        go_wp2
        refine bodyPost_ret (v := .tuple #[.slice (some ⟨w2.heap.size, 0, none⟩) 0 0, .bool false]) (by simp [results, Try.results10, go_sem]) rfl ⟨_, by rw [hv.out.1], by rw [hv.out.2]; exact hnew _ hw2.size, hw2.alloc hw2.size _⟩
end Go.Proofs.Ytfobcmememaejaa
