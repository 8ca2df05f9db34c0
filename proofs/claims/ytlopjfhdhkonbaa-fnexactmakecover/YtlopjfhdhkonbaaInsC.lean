import Derived.Test.YtlopjfhdhkonbaaBeg
import Derived.Test.YtlopjfhdhkonbaaEvA
namespace Go.Proofs.Ytlopjfhdhkonbaa
open Go.RowKit Go.Maps Go.ChangeMaps

set_option maxRecDepth 100000 in
set_option maxHeartbeats 4000000 in
theorem insC_any (m n : Nat) (Kn : ByteArray → Bool) (V : ByteArray → Int) (size : Nat) (e : Ev) (pa : Option Addr) (cp : Nat) (aa : Option Addr) (ca : Nat) (ga : Option Addr) (cg : Nat) (w : World)
    (hm : MapAt w m n Kn V) (he : EvOk w e pa cp aa ca ga cg) :
    Calls Try.prog 37 #[.map (some m), .int .i64 size, e.val' pa cp aa ca ga cg] w fun x w' => x = .returned (.int .i64 (insC Kn size e)) ∧ Below w.heap.size w w' := by
  have hb0 : Below w.heap.size w (w.alloc (.cells (evCs e pa cp aa ca ga cg) 50)) := (Below.refl _ _).alloc (Nat.le_refl _) _
  go_enter Try.func37, Try.ntmps37
  go_wp2_with fail
  refine (evI_any e.id e.sd e.ty e.key e.val e.st e.tm pa e.np cp aa e.na ca ga e.ng cg e.Pv e.Av e.M e.L _ he.hid he.hsd he.hty he.hkey he.hval (he.hp.below hb0) (he.ha.below hb0) (he.hg.below hb0)).mono ?_
  rintro x w1 ⟨rfl, hb1⟩
  have hB1 : Below (w.heap.size + 1) (w.alloc (.cells (evCs e pa cp aa ca ga cg) 50)) w1 := hb1.mono (by simp)
  have hw1 := hb0.trans (hB1.mono (by omega))
  have hcl := box_cells hB1
  clear hb1
  by_cases hc : e.code = 0
  · obtain ⟨h10, h10'⟩ := code_refs hc
    have hc0 : evCode e.id e.sd e.ty e.key e.val e.st e.tm e.np e.na e.ng e.Pv e.Av e.M e.L = 0 := hc
    go_wp2_with fail
    have hb1a : Below w1.heap.size w1 (w1.alloc (.cells #[.string e.id] 9)) := (Below.refl _ _).alloc (Nat.le_refl _) _
    have hsl : SlS (w1.alloc (.cells #[.string e.id] 9)) (some ⟨w1.heap.size, 0, none⟩) 1 1 (fun _ => e.id) :=
      ⟨Nat.le_refl _, by decide, fun _ _ => he.hid, Or.inr ⟨_, 0, rfl, by simp, fun i hi => by
        have : i = 0 := by omega
        subst this; exact World.cell?_alloc_at _ _ _ _ rfl⟩⟩
    refine (knows_sl _ ((hm.below hw1).below hb1a) (by decide) hsl).mono ?_
    rintro x w2 ⟨rfl, hb2⟩
    have hk1 : allTo Kn (fun _ => e.id) 1 = Kn e.id := by simp [allTo]
    rw [hk1]
    have hb12 := hb1a.trans (hb2.mono hb1a.size)
    have hB2 := hB1.trans (hb12.mono (by simpa using hB1.size))
    have hw2 := hb0.trans (hB2.mono (by omega))
    clear hcl hB1 hw1 hb1a hsl hb2 hb12 hk1 hc0
    have hcl := box_cells hB2
    cases h6 : Kn e.id
    case true =>
      have hv : Hid (6 = insC Kn size e) := (insC6 hc h6).symm
      go_wp2
      go_ret
      exact ⟨ret_int hv.out, hw2⟩
    go_wp2_with fail
    refine (knows_sl _ (hm.below hw2) (by omega) (he.hp.below hw2)).mono ?_
    rintro x w3 ⟨rfl, hb3⟩
    have hB3 := hB2.trans (hb3.mono (by simpa using hB2.size))
    have hw3 := hb0.trans (hB3.mono (by omega))
    clear hcl hB2 hw2 hb3
    have hcl := box_cells hB3
    cases h7 : allTo Kn e.Pv e.np
    case false =>
      have hv : Hid (7 = insC Kn size e) := (insC7 hc h6 (Or.inl h7)).symm
      go_wp2
      go_ret
      exact ⟨ret_int hv.out, hw3⟩
    go_wp2_with fail
    refine (knows_sl _ (hm.below hw3) (by omega) (he.ha.below hw3)).mono ?_
    rintro x w4 ⟨rfl, hb4⟩
    have hB4 := hB3.trans (hb4.mono (by simpa using hB3.size))
    have hw4 := hb0.trans (hB4.mono (by omega))
    clear hcl hB3 hw3 hb4
    have hcl := box_cells hB4
    cases h7' : allTo Kn e.Av e.na
    case false =>
      have hv : Hid (7 = insC Kn size e) := (insC7 hc h6 (Or.inr h7')).symm
      go_wp2
      go_ret
      exact ⟨ret_int hv.out, hw4⟩
    go_wp2_with fail
    refine (beg_any size e pa cp aa ca ga cg _ h10).mono ?_
    rintro x w5 ⟨rfl, hb5⟩
    have hB5 := hB4.trans (hb5.mono (by simpa using hB4.size))
    have hw5 := hb0.trans (hB5.mono (by omega))
    clear hcl hB4 hw4 hb5
    cases h8 : begB size e
    case false =>
      have hv : Hid (8 = insC Kn size e) := (insC8 hc h6 h7 h7' h8).symm
      go_wp2
      go_ret
      exact ⟨ret_int hv.out, hw5⟩
    by_cases h9 : 300 ≤ size
    · have hv : Hid (9 = insC Kn size e) := (insC9 hc h6 h7 h7' h8 h9).symm
      go_wp2
      go_ret
      exact ⟨ret_int hv.out, hw5⟩
    · have hv : Hid (0 = insC Kn size e) := (insC0 hc h6 h7 h7' h8 h9).symm
      go_wp2
      go_ret
      exact ⟨ret_int hv.out, hw5⟩
  · have hc1 : ((evCode e.id e.sd e.ty e.key e.val e.st e.tm e.np e.na e.ng e.Pv e.Av e.M e.L) == 0) = false := by rw [beq_eq_false_iff_ne]; exact hc
    have hv : Hid (evCode e.id e.sd e.ty e.key e.val e.st e.tm e.np e.na e.ng e.Pv e.Av e.M e.L = insC Kn size e) := (insC1 hc).symm
    go_wp2
    go_ret
    exact ⟨ret_int hv.out, hw1⟩
end Go.Proofs.Ytlopjfhdhkonbaa
