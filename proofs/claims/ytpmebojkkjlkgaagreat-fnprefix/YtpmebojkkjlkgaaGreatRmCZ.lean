import Derived.Test.YtpmebojkkjlkgaaGreatChPZ
import Derived.Deep.CutRange
namespace Go.Proofs.YtpmebojkkjlkgaaGreat
open Go.RowKit
section
variable {ar : Option Addr} {n cr : Nat} {E : Nat -> Ev} (e : Ev) {pa aa ga : Option Addr} {cp ca cg : Nat} (w : World)
theorem ins1 (h : e.code ≠ 0) : insCode E n e = e.code := by rw [insCode, if_pos h]
theorem ins6 (h : e.code = 0) (h6 : 0 <= posV E n e.id) : insCode E n e = 6 := by rw [insCode, if_neg (by simp [h]), if_pos h6]
theorem ins7 (h : e.code = 0) (h6 : posV E n e.id < 0) (h7 : thereB E n e.Pv e.np = false ∨ thereB E n e.Av e.na = false) : insCode E n e = 7 := by rw [insCode, if_neg (by simp [h]), if_neg (by omega : ¬ 0 <= posV E n e.id), if_pos h7]
theorem ins8 (h : e.code = 0) (h6 : posV E n e.id < 0) (h7 : ¬ (thereB E n e.Pv e.np = false ∨ thereB E n e.Av e.na = false)) (h8 : (n = 0 ∧ (e.ty.toList == [99, 114, 101, 97, 116, 101]) = false) ∨ (0 < n ∧ ((e.ty.toList == [99, 114, 101, 97, 116, 101]) = true ∨ e.np = 0 ∨ e.na = 0))) : insCode E n e = 8 := by
 rw [insCode, if_neg (by simp [h]), if_neg (by omega : ¬ 0 <= posV E n e.id), if_neg h7]
 rcases h8 with h8 | h8
 ·rw [if_pos h8]
 ·rw [if_neg (by omega), if_pos h8]
theorem ins90 (h : e.code = 0) (h6 : posV E n e.id < 0) (h7 : ¬ (thereB E n e.Pv e.np = false ∨ thereB E n e.Av e.na = false)) (h8 : ¬ (n = 0 ∧ (e.ty.toList == [99, 114, 101, 97, 116, 101]) = false)) (h8' : ¬ (0 < n ∧ ((e.ty.toList == [99, 114, 101, 97, 116, 101]) = true ∨ e.np = 0 ∨ e.na = 0))) :
  insCode E n e = if 300 <= n then 9 else 0 := by
 rw [insCode, if_neg (by simp [h]), if_neg (by omega : ¬ 0 <= posV E n e.id), if_neg h7, if_neg h8, if_neg h8']
abbrev boxes (w : World) (ar : Option Addr) (n cr : Nat) (e : Ev) (pa : Option Addr) (cp : Nat) (aa : Option Addr) (ca : Nat) (ga : Option Addr) (cg : Nat) : World :=
 (w.alloc (.cells #[.slice ar n cr] 25)).alloc (.cells #[.string e.id, .string e.sd, .string e.ty, .bool e.st, .string e.key, .int .i64 e.tm, .slice pa e.np cp, .slice aa e.na ca, .string e.val, .slice ga e.ng cg] 43)
theorem boxes_cells {wx : World} (hb : Below (w.heap.size + 2) (boxes w ar n cr e pa cp aa ca ga cg) wx) :
  wx.cell? ⟨w.heap.size, 0, none⟩ = some (.slice ar n cr) ∧ ∀ o, wx.cell? ⟨w.heap.size + 1, o, none⟩ = (#[.string e.id, .string e.sd, .string e.ty, .bool e.st, .string e.key, .int .i64 e.tm, .slice pa e.np cp, .slice aa e.na ca, .string e.val, .slice ga e.ng cg] : Array Value)[o]? :=
 ⟨(hb.cell (by show w.heap.size < _; omega)).trans (by simp), fun o => (hb.cell (by show w.heap.size + 1 < _; omega)).trans (by rw [World.cell?_alloc_at _ _ _ _ (by simp)])⟩
set_option maxHeartbeats 4000000 in
theorem l2Code_any (h : SlV w ar n cr E) (he : EvOk w e pa cp aa ca ga cg) :
  Calls Tryz.prog 32 #[.agg #[.slice ar n cr], e.val' pa cp aa ca ga cg] w fun x w' => x = .returned (.int .i64 (insCode E n e)) ∧ Below w.heap.size w w' := by
 have hb0 : Below w.heap.size w (boxes w ar n cr e pa cp aa ca ga cg) := ((Below.refl _ _).alloc (Nat.le_refl _) _).alloc (by simp) _
 go_enter Tryz.func32, Tryz.ntmps32
 go_wp2_with fail
 refine (evS_any e.id e.sd e.ty e.key e.val e.st e.tm pa e.np cp aa e.na ca ga e.ng cg e.Pv e.Av e.M e.L _ he.hid he.hsd he.hty he.hkey he.hval (he.hp.below hb0) (he.ha.below hb0) (he.hg.below hb0)).mono ?_
 rintro x w1 ⟨rfl, hb1⟩
 have hB1 : Below (w.heap.size + 2) (boxes w ar n cr e pa cp aa ca ga cg) w1 := hb1.mono (by simp)
 have hw1 := hb0.trans (hB1.mono (by omega))
 obtain ⟨hr1, he1⟩ := boxes_cells e w hB1
 clear hb1
 have hcode : Hid (evCode e.id e.sd e.ty e.key e.val e.st e.tm e.np e.na e.ng e.Pv e.Av e.M e.L = e.code) := rfl
 by_cases hc : e.code = 0
 ·have hc0 : evCode e.id e.sd e.ty e.key e.val e.st e.tm e.np e.na e.ng e.Pv e.Av e.M e.L = 0 := hc
  go_wp2_with fail
  have hs1 : w.heap.size + 2 <= w1.heap.size := by simpa using hB1.size
  refine (l2At_sl e.id _ (h.below hw1)).mono ?_
  rintro x w' ⟨rfl, rfl⟩
  have hB2 : Below (w.heap.size + 2) (boxes w ar n cr e pa cp aa ca ga cg) (w1.alloc (.cells #[.slice ar n cr] 25)) := hB1.alloc hs1 _
  have hw2 := hb0.trans (hB2.mono (by omega))
  generalize w1.alloc (.cells #[.slice ar n cr] 25) = w2 at *
  clear hr1 he1 hB1 hw1 hs1
  obtain ⟨hr2, he2⟩ := boxes_cells e w hB2
  by_cases h66 : 0 <= posV E n e.id
  ·go_wp2
   go_ret
   exact ⟨ret_int (ins6 e hc h66).symm, hw2⟩
  have h6 : posV E n e.id < 0 := by omega
  clear h66
  go_wp2_with fail
  refine (there_sl _ (h.below hw2) (he.hp.below hw2)).mono ?_
  rintro x w3 ⟨rfl, hb3⟩
  have hs2 : w.heap.size + 2 <= w2.heap.size := by simpa using hB2.size
  have hB3 := hB2.trans (hb3.mono hs2)
  have hw3 := hb0.trans (hB3.mono (by omega))
  clear hb3 hr2 he2 hs2
  obtain ⟨hr3, he3⟩ := boxes_cells e w hB3
  cases h7 : thereB E n e.Pv e.np
  ·go_wp2
   go_ret
   exact ⟨ret_int (ins7 e hc h6 (Or.inl h7)).symm, hw3⟩
  go_wp2_with fail
  refine (there_sl _ (h.below hw3) (he.ha.below hw3)).mono ?_
  rintro x w4 ⟨rfl, hb4⟩
  have hs3 : w.heap.size + 2 <= w3.heap.size := by simpa using hB3.size
  have hB4 := hB3.trans (hb4.mono hs3)
  have hw4 := hb0.trans (hB4.mono (by omega))
  clear hb4 hr3 he3 hs3
  obtain ⟨hr4, he4⟩ := boxes_cells e w hB4
  cases h7' : thereB E n e.Av e.na
  ·go_wp2
   go_ret
   exact ⟨ret_int (ins7 e hc h6 (Or.inr h7')).symm, hw4⟩
  have h77 : ¬ (thereB E n e.Pv e.np = false ∨ thereB E n e.Av e.na = false) := by simp [h7, h7']
  have H8 : Hid (∀ _ : (n = 0 ∧ (e.ty.toList == [99, 114, 101, 97, 116, 101]) = false) ∨ (0 < n ∧ ((e.ty.toList == [99, 114, 101, 97, 116, 101]) = true ∨ e.np = 0 ∨ e.na = 0)), insCode E n e = 8) := ins8 e hc h6 h77
  have H9 : Hid (_ -> _ -> insCode E n e = if 300 <= n then 9 else 0) := ins90 e hc h6 h77
  have hn := h.max
  have hle := h.le
  unfold maxLen at hn
  clear h77 h7 h7' h6 hc hc0 hcode
  cases hty : (e.ty.toList == [99, 114, 101, 97, 116, 101])
  ·by_cases h0 : n = 0
   ·have h0b : ((n : Int) == 0) = true := by simp [h0]
    have H0 : Hid (n = 0) := h0
    clear h0
    go_wp2
    go_ret
    exact ⟨ret_int (H8.out (Or.inl ⟨H0.out, hty⟩)).symm, hw4⟩
   ·have h0b : ((n : Int) == 0) = false := by simp; omega
    have h0c : decide (0 < (n : Int)) = true := by simp; omega
    by_cases hp0 : e.np = 0
    ·have hp0b : ((e.np : Int) == 0) = true := by simp [hp0]
     have HP : Hid (e.np = 0) := hp0
     clear hp0
     go_wp2
     go_ret
     exact ⟨ret_int (H8.out (Or.inr ⟨by omega, Or.inr (Or.inl HP.out)⟩)).symm, hw4⟩
    by_cases ha0 : e.na = 0
    ·have hp0b : ((e.np : Int) == 0) = false := by simp; omega
     have ha0b : ((e.na : Int) == 0) = true := by simp [ha0]
     have HP : Hid (e.na = 0) := ha0
     clear ha0
     go_wp2
     go_ret
     exact ⟨ret_int (H8.out (Or.inr ⟨by omega, Or.inr (Or.inr HP.out)⟩)).symm, hw4⟩
    have hp0b : ((e.np : Int) == 0) = false := by simp; omega
    have ha0b : ((e.na : Int) == 0) = false := by simp; omega
    have H10 : Hid (insCode E n e = if 300 <= n then 9 else 0) := H9.out (by omega) (by simp [hty]; omega)
    by_cases h300 : 300 <= n
    ·have h9c : decide (300 <= (n : Int)) = true := by simp; omega
     have H3 : Hid (300 <= n) := h300
     clear h300
     go_wp2
     go_ret
     exact ⟨ret_int (by rw [H10.out, if_pos H3.out]), hw4⟩
    ·have h9c : decide (300 <= (n : Int)) = false := by simp; omega
     have H3 : Hid (¬ 300 <= n) := h300
     clear h300
     go_wp2
     go_ret
     exact ⟨ret_int (by rw [H10.out, if_neg H3.out]), hw4⟩
  ·by_cases h0 : n = 0
   ·have h0b : ((n : Int) == 0) = true := by simp [h0]
    have h0c : decide (0 < (n : Int)) = false := by simp; omega
    have h0d : decide (0 < n) = false := by simp; omega
    have h9c : decide (300 <= (n : Int)) = false := by simp; omega
    have H10 : Hid (insCode E n e = if 300 <= n then 9 else 0) := H9.out (by simp [hty]) (by omega)
    have H0 : Hid (n = 0) := h0
    clear h0
    go_wp2
    go_ret
    exact ⟨ret_int (by rw [H10.out, if_neg (by rw [H0.out]; decide)]), hw4⟩
   ·have h0b : ((n : Int) == 0) = false := by simp; omega
    have h0c : decide (0 < (n : Int)) = true := by simp; omega
    go_wp2
    go_ret
    exact ⟨ret_int (H8.out (Or.inr ⟨by omega, Or.inl hty⟩)).symm, hw4⟩
 ·have hcb : (e.code != 0) = true := by simpa using hc
  have hcb' : (evCode e.id e.sd e.ty e.key e.val e.st e.tm e.np e.na e.ng e.Pv e.Av e.M e.L != 0) = true := hcb
  go_wp2
  go_ret
  exact ⟨ret_int (ins1 e hc).symm, hw1⟩
set_option maxHeartbeats 2000000 in
theorem roomS_any (b off n cap : Nat) (E : Nat -> Ev) (w : World) (h : SlV w (some ⟨b, off, none⟩) n cap E) (hb : b < w.heap.size) (hc : ∀ i, i < n -> EvAt w b (off + i * 10) (E i)) :
  Calls Tryz.prog 18 #[.agg #[.slice (some ⟨b, off, none⟩) n cap]] w fun e w' => e = .returned (.bool (roomTo E n)) ∧ Below w.heap.size w w' := by
 have hn := Nat.le_trans h.le h.max
 have hle := h.le
 unfold maxLen at hn
 have hb0 : ∀ o, Below w.heap.size w (w.alloc o) := fun o => (Below.refl _ _).alloc (Nat.le_refl _) _
 go_enter Tryz.func18, Tryz.ntmps18
 go_wp2
 go_loopw [3] (fun i wr => ∃ k : Nat, k <= n ∧ i = .int .i64 k ∧ Hid (roomTo E k = true) ∧ Below (w.heap.size + 1) (w.alloc (.cells #[.slice (some ⟨b, off, none⟩) n cap] 25)) wr) (fun i _ => n - (intOf i).toNat)
 case atStart => exact ⟨0, Nat.zero_le _, rfl, rfl, Below.refl _ _⟩
 case round =>
  obtain ⟨k, hk, rfl, hto, hbel⟩ := hrel
  have hbw := (hb0 _).trans (hbel.mono (Nat.le_succ _))
  have hbx : wr.cell? ⟨w.heap.size, 0, none⟩ = some (.slice (some ⟨b, off, none⟩) n cap) := box_cells hbel 0
  have hszr : w.heap.size + 1 <= wr.heap.size := by simpa using hbel.size
  by_cases hlt : k < n
  ·obtain ⟨pa, cp, aa, ca, ga, cg, hcs, hok⟩ := hc k hlt
   have hcs1 := hcs.below hbw hb
   obtain ⟨c0, c1, c2, c3, c4, c5, c6, c7, c8, c9⟩ := hcs1
   have hok1 := hok.below hbw
   have hr1 := (h.take (k := k) hk).below hbw
   clear hcs hok hc
   go_wp2_with fail
   go_region_with (go_at_call 32; refine (l2Code_any (E := E) (E k) _ (hr1.below (by first | exact Below.refl _ _ | exact (Below.refl _ _).drew | exact (Below.refl _ _).drew.drew)) (hok1.below (by first | exact Below.refl _ _ | exact (Below.refl _ _).drew | exact (Below.refl _ _).drew.drew))).mono ?_; rintro e w1 ⟨rfl, hb1⟩)
   all_goals
    have hb2 : Below wr.heap.size wr w1 := Below.trans (by first | exact Below.refl _ _ | exact (Below.refl _ _).drew | exact (Below.refl _ _).drew.drew) hb1
    by_cases h0 : insCode E k (E k) = 0
    ·go_wp2
     go_roundw
     case rel => exact ⟨k + 1, by omega, by go_num, by unfold Hid; rw [roomTo, hto.out, h0]; rfl, hbel.trans (hb2.mono hszr)⟩
     case measure => simp [intOf]; omega
    ·have h0b : (insCode E k (E k) != 0) = true := by simpa using h0
     go_wp2
     go_ret
     exact ⟨ret_bool (by rw [roomTo_le E n k hlt (by rw [roomTo]; simp [h0])]), hbw.trans (hb2.mono hbw.size)⟩
  ·go_wp2
   go_ret
   exact ⟨ret_bool (by rw [show n = k by omega, hto.out]), hbw⟩
theorem roomS_zero (a : Option Addr) (cap : Nat) (w : World) :
  Calls Tryz.prog 18 #[.agg #[.slice a 0 cap]] w fun e w' => e = .returned (.bool true) ∧ Below w.heap.size w w' := by
 go_enter Tryz.func18, Tryz.ntmps18
 go_wp2
 refine wp_loop_rounds 1 ?_
 rw [rounds_succ]
 go_wp2
 go_ret
 exact ⟨rfl, (Below.refl _ _).alloc (Nat.le_refl _) _⟩
theorem roomS_sl {a : Option Addr} {n cap : Nat} {E : Nat -> Ev} (w : World) (h : SlV w a n cap E) :
  Calls Tryz.prog 18 #[.agg #[.slice a n cap]] w fun e w' => e = .returned (.bool (roomTo E n)) ∧ Below w.heap.size w w' := by
 rcases h.cells with rfl | ⟨b, off, rfl, hb, hc⟩
 ·exact roomS_zero a cap w
 ·exact roomS_any b off n cap E w h hb hc
end
def EvF (w : World) (B : Nat) (e : Ev) : Prop := w.cell? ⟨B, 0, none⟩ = some (.string e.id) ∧ w.cell? ⟨B, 2, none⟩ = some (.string e.ty) ∧ w.cell? ⟨B, 3, none⟩ = some (.bool e.st) ∧ w.cell? ⟨B, 4, none⟩ = some (.string e.key)
def CutF (wr : World) (ev : Ev) (pv : Value) (wx : World) : Prop := ∃ B, pv = .pointer (some ⟨B, 0, none⟩) ∧ EvF wx B ev ∧ Below wr.heap.size wr wx
theorem cutF_a {wr w2 : World} {ev : Ev} {pa aa ga : Option Addr} {cp ca cg : Nat} (hb2 : Below wr.heap.size wr w2) : CutF wr ev (.pointer (some ⟨w2.heap.size, 0, none⟩)) (w2.alloc (.cells #[.string ev.id, .string ev.sd, .string ev.ty, .bool ev.st, .string ev.key, .int .i64 ev.tm, .slice pa ev.np cp, .slice aa ev.na ca, .string ev.val, .slice ga ev.ng cg] 43)) := by
 refine ⟨_, rfl, ⟨?_, ?_, ?_, ?_⟩, hb2.alloc hb2.size _⟩
 all_goals
  rw [World.cell?_alloc_at _ _ _ _ rfl]
  rfl
theorem cutF_b {wr w2 : World} {ev : Ev} {pa aa ga : Option Addr} {cp ca cg : Nat} {z0 z2 z3 z4 : Value} (hb2 : Below wr.heap.size wr w2) (y0 : w2.cell? ⟨wr.heap.size, 0, none⟩ = some z0) (y2 : w2.cell? ⟨wr.heap.size, 2, none⟩ = some z2) (y3 : w2.cell? ⟨wr.heap.size, 3, none⟩ = some z3) (y4 : w2.cell? ⟨wr.heap.size, 4, none⟩ = some z4) :
  CutF wr ev (.pointer (some ⟨wr.heap.size, 0, none⟩)) ((((((((((w2.setCell ⟨wr.heap.size, 0, none⟩ (.string ev.id)).setCell ⟨wr.heap.size, 1, none⟩ (.string ev.sd)).setCell ⟨wr.heap.size, 2, none⟩ (.string ev.ty)).setCell ⟨wr.heap.size, 3, none⟩ (.bool ev.st)).setCell ⟨wr.heap.size, 4, none⟩ (.string ev.key)).setCell ⟨wr.heap.size, 5, none⟩ (.int .i64 ev.tm)).setCell ⟨wr.heap.size, 6, none⟩ (.slice pa ev.np cp)).setCell ⟨wr.heap.size, 7, none⟩ (.slice aa ev.na ca)).setCell ⟨wr.heap.size, 8, none⟩ (.string ev.val)).setCell ⟨wr.heap.size, 9, none⟩ (.slice ga ev.ng cg)) := by
 refine ⟨_, rfl, ⟨by rw [set_far (by decide), set_far (by decide), set_far (by decide), set_far (by decide), set_far (by decide), set_far (by decide), set_far (by decide), set_far (by decide), set_far (by decide), set_same ⟨_, y0⟩], by rw [set_far (by decide), set_far (by decide), set_far (by decide), set_far (by decide), set_far (by decide), set_far (by decide), set_far (by decide), set_same ⟨_, by rw [set_far (by decide), set_far (by decide)]; exact y2⟩], by rw [set_far (by decide), set_far (by decide), set_far (by decide), set_far (by decide), set_far (by decide), set_far (by decide), set_same ⟨_, by rw [set_far (by decide), set_far (by decide), set_far (by decide)]; exact y3⟩], by rw [set_far (by decide), set_far (by decide), set_far (by decide), set_far (by decide), set_far (by decide), set_same ⟨_, by rw [set_far (by decide), set_far (by decide), set_far (by decide), set_far (by decide)]; exact y4⟩]⟩, ?_⟩
 iterate 10 (refine Below.setCell ?_ (by show wr.heap.size <= wr.heap.size; exact Nat.le_refl _) _)
 exact hb2
theorem zero_ev (W : World) (o : Nat) (ho : o < 10) : ∃ v, (W.alloc (.cells #[.string ⟨#[]⟩, .string ⟨#[]⟩, .string ⟨#[]⟩, .bool false, .string ⟨#[]⟩, .int .i64 0, .slice none 0 0, .slice none 0 0, .string ⟨#[]⟩, .slice none 0 0] 43)).cell? ⟨W.heap.size, o, none⟩ = some v := by
 rw [World.cell?_alloc_at _ _ _ _ rfl]
 match o, ho with
 | 0, _ => exact ⟨_, rfl⟩
 | 1, _ => exact ⟨_, rfl⟩
 | 2, _ => exact ⟨_, rfl⟩
 | 3, _ => exact ⟨_, rfl⟩
 | 4, _ => exact ⟨_, rfl⟩
 | 5, _ => exact ⟨_, rfl⟩
 | 6, _ => exact ⟨_, rfl⟩
 | 7, _ => exact ⟨_, rfl⟩
 | 8, _ => exact ⟨_, rfl⟩
 | 9, _ => exact ⟨_, rfl⟩
set_option maxRecDepth 100000 in
set_option maxHeartbeats 4000000 in
theorem l6From_sl {a : Option Addr} {n cap q : Nat} {E : Nat -> Ev} {pa aa ga : Option Addr} {cp ca cg : Nat} (kind key : ByteArray) (w : World) (hroom : roomTo E n = true) (hq : q < n) (h : SlV w a n cap E) (he : EvOk w (E q) pa cp aa ca ga cg) :
  Calls Tryz.prog 114 #[.agg #[.slice a n cap], (E q).val' pa cp aa ca ga cg, .string kind, .string key] w fun x w' => x = .returned (.string (frV E n (evP kind key) (E q))) ∧ Below w.heap.size w w' := by
 have hna : (E q).na <= maxLen := Nat.le_trans he.ha.le he.ha.max
 unfold maxLen at hna
 obtain ⟨wb, hwb⟩ : ∃ wb, wb = boxes w a n cap (E q) pa cp aa ca ga cg := ⟨_, rfl⟩
 have hb0 : Below w.heap.size w wb := by rw [hwb]; exact ((Below.refl _ _).alloc (Nat.le_refl _) _).alloc (by simp) _
 have hs0 : wb.heap.size = w.heap.size + 2 := by rw [hwb]; simp
 have hbx : Hid (∀ wx, Below (w.heap.size + 2) wb wx -> wx.cell? ⟨w.heap.size, 0, none⟩ = some (.slice a n cap) ∧ wx.cell? ⟨w.heap.size + 1, 7, none⟩ = some (.slice aa (E q).na ca)) := fun wx hx => by
  subst hwb
  have := boxes_cells (E q) w hx
  exact ⟨this.1, this.2 7⟩
 have Hroom : Hid (_) := hroom
 have HE : Hid (SlV w a n cap E) := h
 have Ha : Hid (SlS w aa (E q).na ca (E q).Av) := he.ha
 clear he h hroom
 go_enter Tryz.func114, Tryz.ntmps114
 go_wp2_with fail
 have hwb' : (w.alloc (.cells #[.slice a n cap] 25)).alloc (.cells #[.string (E q).id, .string (E q).sd, .string (E q).ty, .bool (E q).st, .string (E q).key, .int .i64 (E q).tm, .slice pa (E q).np cp, .slice aa (E q).na ca, .string (E q).val, .slice ga (E q).ng cg] 43) = wb := hwb.symm
 rw [hwb']
 clear hwb' hwb
 go_loopw [9] (fun i wr => ∃ k : Nat, k <= (E q).na ∧ i = .int .i64 k ∧ Hid (∀ i, i < k -> evP kind key (E (posV E n ((E q).Av i)).toNat) = false) ∧ Below (w.heap.size + 2) wb wr) (fun i _ => (E q).na - (intOf i).toNat)
 case atStart => exact ⟨0, Nat.zero_le _, rfl, fun i hi => absurd hi (Nat.not_lt_zero _), Below.refl _ _⟩
 case round =>
  obtain ⟨k, hk, rfl, hto, hB⟩ := hrel
  have hbw := hb0.trans (hB.mono (by omega))
  have hso : w.heap.size + 2 <= wr.heap.size := by have := hB.size; omega
  obtain ⟨x0, x7⟩ := hbx.out _ hB
  by_cases hlt : k < (E q).na
  ·rcases Ha.out.cells with h0 | ⟨ba, oa, rfl, hba, hca⟩
   ·omega
   obtain ⟨y, hy, ey, -⟩ := auth_there Hroom.out hq hlt
   have hck : wr.cell? ⟨ba, oa + k, none⟩ = some (.string ((E q).Av k)) := (hbw.cell (by exact hba)).trans (hca k hlt)
   have hev : Hid (∀ W, Below wr.heap.size wr W -> Calls Tryz.prog 112 #[.agg #[.slice a n cap], .string ((E q).Av k)] W (EePost W (E y))) := fun W hW => l6Event_sl _ W (HE.out.below (hbw.trans (hW.mono hbw.size))) (by omega) ey
   have Hno : Hid (evP kind key (E y) = false -> ∀ i, i < k + 1 -> evP kind key (E (posV E n ((E q).Av i)).toNat) = false) := fun hf i hi => by
    by_cases e : i = k
    ·subst e; rw [ey, Int.toNat_natCast]; exact hf
    ·exact hto.out i (by omega)
   have Hyes : Hid (evP kind key (E y) = true -> (E y).id = frV E n (evP kind key) (E q)) := fun ht => frV_hit hlt hto.out ey ht
   have hk64 : (k : Int) < 9223372036854775807 := by omega
   have hrf : Below wr.heap.size wr wr := Below.refl _ _
   have hal : Below wr.heap.size wr (wr.alloc (.cells #[.string ⟨#[]⟩, .string ⟨#[]⟩, .string ⟨#[]⟩, .bool false, .string ⟨#[]⟩, .int .i64 0, .slice none 0 0, .slice none 0 0, .string ⟨#[]⟩, .slice none 0 0] 43)) := (Below.refl _ _).alloc (Nat.le_refl _) _
   have hck1 : (wr.alloc (.cells #[.string ⟨#[]⟩, .string ⟨#[]⟩, .string ⟨#[]⟩, .bool false, .string ⟨#[]⟩, .int .i64 0, .slice none 0 0, .slice none 0 0, .string ⟨#[]⟩, .slice none 0 0] 43)).drew.cell? ⟨ba, oa + k, none⟩ = some (.string ((E q).Av k)) := (hal.drew.cell (by show ba < wr.heap.size; omega)).trans hck
   have x01 : (wr.alloc (.cells #[.string ⟨#[]⟩, .string ⟨#[]⟩, .string ⟨#[]⟩, .bool false, .string ⟨#[]⟩, .int .i64 0, .slice none 0 0, .slice none 0 0, .string ⟨#[]⟩, .slice none 0 0] 43)).drew.cell? ⟨w.heap.size, 0, none⟩ = some (.slice a n cap) := (hal.drew.cell (by show w.heap.size < wr.heap.size; omega)).trans x0
   have x71 : (wr.alloc (.cells #[.string ⟨#[]⟩, .string ⟨#[]⟩, .string ⟨#[]⟩, .bool false, .string ⟨#[]⟩, .int .i64 0, .slice none 0 0, .slice none 0 0, .string ⟨#[]⟩, .slice none 0 0] 43)).drew.cell? ⟨w.heap.size + 1, 7, none⟩ = some (.slice (some ⟨ba, oa, none⟩) (E q).na ca) := (hal.drew.cell (by show w.heap.size + 1 < wr.heap.size; omega)).trans x7
   have hlt1 : ba < wr.heap.size := by omega
   clear hca ey hto
   generalize E y = ev at *
   go_wp2_with fail
   go_cut [10] from 11 to 40 (fun pv wx => CutF wr ev pv wx)
   case first =>
    go_region_with (first
     | (go_at_call 112; refine (hev.out _ (by first | with_reducible exact hrf | with_reducible exact hrf.drew | with_reducible exact hrf.drew.drew | with_reducible exact hrf.drew.drew.drew)).mono ?_; rintro e w2 ⟨hb2', pa2, cp2, aa2, ca2, ga2, cg2, hee, -⟩; have hef : e = .returned (.agg #[.string ev.id, .string ev.sd, .string ev.ty, .bool ev.st, .string ev.key, .int .i64 ev.tm, .slice pa2 ev.np cp2, .slice aa2 ev.na ca2, .string ev.val, .slice ga2 ev.ng cg2]) := hee; clear hee; subst hef; have hb2 : Below wr.heap.size wr w2 := Below.trans (by first | with_reducible exact hrf | with_reducible exact hrf.drew | with_reducible exact hrf.drew.drew | with_reducible exact hrf.drew.drew.drew) hb2')
     | (go_at_call 112; (refine (hev.out _ (by first | with_reducible exact hal | with_reducible exact hal.drew | with_reducible exact hal.drew.drew | with_reducible exact hal.drew.drew.drew)).mono ?_; rintro e w2 ⟨hb2', pa2, cp2, aa2, ca2, ga2, cg2, hee, -⟩; have hef : e = .returned (.agg #[.string ev.id, .string ev.sd, .string ev.ty, .bool ev.st, .string ev.key, .int .i64 ev.tm, .slice pa2 ev.np cp2, .slice aa2 ev.na ca2, .string ev.val, .slice ga2 ev.ng cg2]) := hee; clear hee; subst hef; have hs2 : wr.heap.size < w2.heap.size := Nat.lt_of_lt_of_le (by simp) hb2'.size; have hb2 : Below wr.heap.size wr w2 := Below.trans (by first | with_reducible exact hal | with_reducible exact hal.drew | with_reducible exact hal.drew.drew | with_reducible exact hal.drew.drew.drew) (hb2'.mono (by simp)); have hz : ∀ o, o < 10 -> ∃ v, w2.cell? ⟨wr.heap.size, o, none⟩ = some v := fun o ho => (zero_ev wr o ho).imp fun v hv => (hb2'.cell (p := ⟨wr.heap.size, o, none⟩) (by simp)).trans hv; obtain ⟨z0, y0⟩ := hz 0 (by decide); obtain ⟨z1, y1⟩ := hz 1 (by decide); obtain ⟨z2, y2⟩ := hz 2 (by decide); obtain ⟨z3, y3⟩ := hz 3 (by decide); obtain ⟨z4, y4⟩ := hz 4 (by decide); obtain ⟨z5, y5⟩ := hz 5 (by decide); obtain ⟨z6, y6⟩ := hz 6 (by decide); obtain ⟨z7, y7⟩ := hz 7 (by decide); obtain ⟨z8, y8⟩ := hz 8 (by decide); obtain ⟨z9, y9⟩ := hz 9 (by decide); clear hz; have hf : ∀ o, w2.frozen? ⟨wr.heap.size, o, none⟩ = false := fun o => (hb2'.frozen (p := ⟨wr.heap.size, o, none⟩) (by simp)).trans (World.frozen?_alloc_at _ _ _ _ rfl))))
    all_goals (try go_wp2_with fail)
    all_goals go_meet
    all_goals first
     | with_reducible exact cutF_a hb2
     | with_reducible exact cutF_b hb2 y0 y2 y3 y4
   case rest =>
    obtain ⟨B, rfl, ⟨f0, f2, f3, f4⟩, hbc⟩ := hcut
    have hBc := hB.trans (hbc.mono hso)
    have hbwc := hb0.trans (hBc.mono (by omega))
    clear x0 x7 hck hev
    cases hP : evP kind key ev
    case true =>
     have hP' := hP
     unfold evP at hP'
     simp only [Bool.and_eq_true] at hP'
     obtain ⟨⟨p1, p2⟩, p3⟩ := hP'
     have Hy : Hid (_ = _) := Hyes.out hP
     rw [p1] at f3
     clear hP Hyes Hno
     go_wp2
     go_ret
     exact ⟨ret_str Hy.out, hbwc⟩
    case false =>
     have Hn : Hid (_) := Hno.out hP
     have H3 : ev.st = false ∨ (ev.st = true ∧ (ev.ty.toList == kind.toList) = false) ∨ (ev.st = true ∧ (ev.ty.toList == kind.toList) = true ∧ (ev.key.toList == key.toList) = false) := by
      unfold evP at hP
      cases h1 : ev.st
      ·exact Or.inl rfl
      ·cases h2 : (ev.ty.toList == kind.toList)
       ·exact Or.inr (Or.inl ⟨rfl, rfl⟩)
       ·rw [h1, h2] at hP
        exact Or.inr (Or.inr ⟨rfl, rfl, by simpa using hP⟩)
     clear hP Hyes Hno
     rcases H3 with p1 | ⟨p1, p2⟩ | ⟨p1, p2, p3⟩
     all_goals
      rw [p1] at f3
      go_wp2
      go_roundw
      case rel => exact ⟨k + 1, by omega, by go_num, Hn, hBc⟩
      case measure => simp [intOf]; omega
  ·have Hm : Hid ((⟨#[]⟩ : ByteArray) = frV E n (evP kind key) (E q)) := frV_miss (fun i hi => hto.out i (by omega))
   go_wp2
   go_ret
   exact ⟨ret_str Hm.out, hbw⟩
end Go.Proofs.YtpmebojkkjlkgaaGreat
