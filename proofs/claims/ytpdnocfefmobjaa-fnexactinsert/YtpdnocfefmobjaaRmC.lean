import Derived.Test.YtpdnocfefmobjaaRmS
namespace Go.Proofs.Ytpdnocfefmobjaa
open Go.RowKit

section
variable {ar : Option Addr} {n cr : Nat} {E : Nat → Ev} (e : Ev) {pa aa ga : Option Addr} {cp ca cg : Nat} (w : World)

theorem ins1 (h : e.code ≠ 0) : insCode E n e = e.code := by rw [insCode, if_pos h]
theorem ins6 (h : e.code = 0) (h6 : 0 ≤ posV E n e.id) : insCode E n e = 6 := by rw [insCode, if_neg (by simp [h]), if_pos h6]
theorem ins7 (h : e.code = 0) (h6 : posV E n e.id < 0) (h7 : thereB E n e.Pv e.np = false ∨ thereB E n e.Av e.na = false) : insCode E n e = 7 := by rw [insCode, if_neg (by simp [h]), if_neg (by omega : ¬ 0 ≤ posV E n e.id), if_pos h7]
theorem ins8 (h : e.code = 0) (h6 : posV E n e.id < 0) (h7 : ¬ (thereB E n e.Pv e.np = false ∨ thereB E n e.Av e.na = false)) (h8 : (n = 0 ∧ (e.ty.toList == [99, 114, 101, 97, 116, 101]) = false) ∨ (0 < n ∧ ((e.ty.toList == [99, 114, 101, 97, 116, 101]) = true ∨ e.np = 0 ∨ e.na = 0))) : insCode E n e = 8 := by
  rw [insCode, if_neg (by simp [h]), if_neg (by omega : ¬ 0 ≤ posV E n e.id), if_neg h7]
  rcases h8 with h8 | h8
  · rw [if_pos h8]
  · rw [if_neg (by omega), if_pos h8]
theorem ins90 (h : e.code = 0) (h6 : posV E n e.id < 0) (h7 : ¬ (thereB E n e.Pv e.np = false ∨ thereB E n e.Av e.na = false)) (h8 : ¬ (n = 0 ∧ (e.ty.toList == [99, 114, 101, 97, 116, 101]) = false)) (h8' : ¬ (0 < n ∧ ((e.ty.toList == [99, 114, 101, 97, 116, 101]) = true ∨ e.np = 0 ∨ e.na = 0))) :
    insCode E n e = if 300 ≤ n then 9 else 0 := by
  rw [insCode, if_neg (by simp [h]), if_neg (by omega : ¬ 0 ≤ posV E n e.id), if_neg h7, if_neg h8, if_neg h8']

/-- the two boxes of l2Code. -/
abbrev boxes (w : World) (ar : Option Addr) (n cr : Nat) (e : Ev) (pa : Option Addr) (cp : Nat) (aa : Option Addr) (ca : Nat) (ga : Option Addr) (cg : Nat) : World :=
  (w.alloc (.cells #[.slice ar n cr] 33)).alloc (.cells #[.string e.id, .string e.sd, .string e.ty, .bool e.st, .string e.key, .int .i64 e.tm, .slice pa e.np cp, .slice aa e.na ca, .string e.val, .slice ga e.ng cg] 39)

theorem boxes_cells {wx : World} (hb : Below (w.heap.size + 2) (boxes w ar n cr e pa cp aa ca ga cg) wx) :
    wx.cell? ⟨w.heap.size, 0, none⟩ = some (.slice ar n cr) ∧ ∀ o, wx.cell? ⟨w.heap.size + 1, o, none⟩ = (#[.string e.id, .string e.sd, .string e.ty, .bool e.st, .string e.key, .int .i64 e.tm, .slice pa e.np cp, .slice aa e.na ca, .string e.val, .slice ga e.ng cg] : Array Value)[o]? :=
  ⟨(hb.cell (by show w.heap.size < _; omega)).trans (by simp), fun o => (hb.cell (by show w.heap.size + 1 < _; omega)).trans (by rw [World.cell?_alloc_at _ _ _ _ (by simp)])⟩

set_option maxHeartbeats 4000000 in
theorem l2Code_any (h : SlV w ar n cr E) (he : EvOk w e pa cp aa ca ga cg) :
    Calls Try.prog 19 #[.agg #[.slice ar n cr], e.val' pa cp aa ca ga cg] w fun x w' => x = .returned (.int .i64 (insCode E n e)) ∧ Below w.heap.size w w' := by
  have hb0 : Below w.heap.size w (boxes w ar n cr e pa cp aa ca ga cg) := ((Below.refl _ _).alloc (Nat.le_refl _) _).alloc (by simp) _
  go_enter Try.func19, Try.ntmps19
  go_wp2_with fail
  refine (evS_any e.id e.sd e.ty e.key e.val e.st e.tm pa e.np cp aa e.na ca ga e.ng cg e.Pv e.Av e.M e.L _ he.hid he.hsd he.hty he.hkey he.hval (he.hp.below hb0) (he.ha.below hb0) (he.hg.below hb0)).mono ?_
  rintro x w1 ⟨rfl, hb1⟩
  have hB1 : Below (w.heap.size + 2) (boxes w ar n cr e pa cp aa ca ga cg) w1 := hb1.mono (by simp)
  have hw1 := hb0.trans (hB1.mono (by omega))
  obtain ⟨hr1, he1⟩ := boxes_cells e w hB1
  clear hb1
  have hcode : Hid (evCode e.id e.sd e.ty e.key e.val e.st e.tm e.np e.na e.ng e.Pv e.Av e.M e.L = e.code) := rfl
  by_cases hc : e.code = 0
  · have hc0 : evCode e.id e.sd e.ty e.key e.val e.st e.tm e.np e.na e.ng e.Pv e.Av e.M e.L = 0 := hc
    go_wp2_with fail
    have hs1 : w.heap.size + 2 ≤ w1.heap.size := by simpa using hB1.size
    refine (l2At_sl e.id _ (h.below hw1)).mono ?_
    rintro x w' ⟨rfl, rfl⟩
    have hB2 : Below (w.heap.size + 2) (boxes w ar n cr e pa cp aa ca ga cg) (w1.alloc (.cells #[.slice ar n cr] 33)) := hB1.alloc hs1 _
    have hw2 := hb0.trans (hB2.mono (by omega))
    generalize w1.alloc (.cells #[.slice ar n cr] 33) = w2 at *
    clear hr1 he1 hB1 hw1 hs1
    obtain ⟨hr2, he2⟩ := boxes_cells e w hB2
    by_cases h66 : 0 ≤ posV E n e.id
    · go_wp2
      go_ret
      exact ⟨ret_int (ins6 e hc h66).symm, hw2⟩
    have h6 : posV E n e.id < 0 := by omega
    clear h66
    go_wp2_with fail
    refine (there_sl _ (h.below hw2) (he.hp.below hw2)).mono ?_
    rintro x w3 ⟨rfl, hb3⟩
    have hs2 : w.heap.size + 2 ≤ w2.heap.size := by simpa using hB2.size
    have hB3 := hB2.trans (hb3.mono hs2)
    have hw3 := hb0.trans (hB3.mono (by omega))
    clear hb3 hr2 he2 hs2
    obtain ⟨hr3, he3⟩ := boxes_cells e w hB3
    cases h7 : thereB E n e.Pv e.np
    · go_wp2
      go_ret
      exact ⟨ret_int (ins7 e hc h6 (Or.inl h7)).symm, hw3⟩
    go_wp2_with fail
    refine (there_sl _ (h.below hw3) (he.ha.below hw3)).mono ?_
    rintro x w4 ⟨rfl, hb4⟩
    have hs3 : w.heap.size + 2 ≤ w3.heap.size := by simpa using hB3.size
    have hB4 := hB3.trans (hb4.mono hs3)
    have hw4 := hb0.trans (hB4.mono (by omega))
    clear hb4 hr3 he3 hs3
    obtain ⟨hr4, he4⟩ := boxes_cells e w hB4
    cases h7' : thereB E n e.Av e.na
    · go_wp2
      go_ret
      exact ⟨ret_int (ins7 e hc h6 (Or.inr h7')).symm, hw4⟩
    have h77 : ¬ (thereB E n e.Pv e.np = false ∨ thereB E n e.Av e.na = false) := by simp [h7, h7']
    have H8 : Hid (∀ _ : (n = 0 ∧ (e.ty.toList == [99, 114, 101, 97, 116, 101]) = false) ∨ (0 < n ∧ ((e.ty.toList == [99, 114, 101, 97, 116, 101]) = true ∨ e.np = 0 ∨ e.na = 0)), insCode E n e = 8) := ins8 e hc h6 h77
    have H9 : Hid (_ → _ → insCode E n e = if 300 ≤ n then 9 else 0) := ins90 e hc h6 h77
    have hn := h.max
    have hle := h.le
    unfold maxLen at hn
    clear h77 h7 h7' h6 hc hc0 hcode
    cases hty : (e.ty.toList == [99, 114, 101, 97, 116, 101])
    · by_cases h0 : n = 0
      · have h0b : ((n : Int) == 0) = true := by simp [h0]
        have H0 : Hid (n = 0) := h0
        clear h0
        go_wp2
        go_ret
        exact ⟨ret_int (H8.out (Or.inl ⟨H0.out, hty⟩)).symm, hw4⟩
      · have h0b : ((n : Int) == 0) = false := by simp; omega
        have h0c : decide (0 < (n : Int)) = true := by simp; omega
        by_cases hp0 : e.np = 0
        · have hp0b : ((e.np : Int) == 0) = true := by simp [hp0]
          have HP : Hid (e.np = 0) := hp0
          clear hp0
          go_wp2
          go_ret
          exact ⟨ret_int (H8.out (Or.inr ⟨by omega, Or.inr (Or.inl HP.out)⟩)).symm, hw4⟩
        by_cases ha0 : e.na = 0
        · have hp0b : ((e.np : Int) == 0) = false := by simp; omega
          have ha0b : ((e.na : Int) == 0) = true := by simp [ha0]
          have HP : Hid (e.na = 0) := ha0
          clear ha0
          go_wp2
          go_ret
          exact ⟨ret_int (H8.out (Or.inr ⟨by omega, Or.inr (Or.inr HP.out)⟩)).symm, hw4⟩
        have hp0b : ((e.np : Int) == 0) = false := by simp; omega
        have ha0b : ((e.na : Int) == 0) = false := by simp; omega
        have H10 : Hid (insCode E n e = if 300 ≤ n then 9 else 0) := H9.out (by omega) (by simp [hty]; omega)
        by_cases h300 : 300 ≤ n
        · have h9c : decide (300 ≤ (n : Int)) = true := by simp; omega
          have H3 : Hid (300 ≤ n) := h300
          clear h300
          go_wp2
          go_ret
          exact ⟨ret_int (by rw [H10.out, if_pos H3.out]), hw4⟩
        · have h9c : decide (300 ≤ (n : Int)) = false := by simp; omega
          have H3 : Hid (¬ 300 ≤ n) := h300
          clear h300
          go_wp2
          go_ret
          exact ⟨ret_int (by rw [H10.out, if_neg H3.out]), hw4⟩
    · by_cases h0 : n = 0
      · have h0b : ((n : Int) == 0) = true := by simp [h0]
        have h0c : decide (0 < (n : Int)) = false := by simp; omega
        have h0d : decide (0 < n) = false := by simp; omega
        have h9c : decide (300 ≤ (n : Int)) = false := by simp; omega
        have H10 : Hid (insCode E n e = if 300 ≤ n then 9 else 0) := H9.out (by simp [hty]) (by omega)
        have H0 : Hid (n = 0) := h0
        clear h0
        go_wp2
        go_ret
        exact ⟨ret_int (by rw [H10.out, if_neg (by rw [H0.out]; decide)]), hw4⟩
      · have h0b : ((n : Int) == 0) = false := by simp; omega
        have h0c : decide (0 < (n : Int)) = true := by simp; omega
        go_wp2
        go_ret
        exact ⟨ret_int (H8.out (Or.inr ⟨by omega, Or.inl hty⟩)).symm, hw4⟩
  · have hcb : (e.code != 0) = true := by simpa using hc
    have hcb' : (evCode e.id e.sd e.ty e.key e.val e.st e.tm e.np e.na e.ng e.Pv e.Av e.M e.L != 0) = true := hcb
    go_wp2
    go_ret
    exact ⟨ret_int (ins1 e hc).symm, hw1⟩

end
end Go.Proofs.Ytpdnocfefmobjaa
