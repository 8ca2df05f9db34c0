import Derived.Test.YtihacnhmiopalaaDoorFitsZT
import Derived.Test.YtihacnhmiopalaaDoorEvST
namespace Go.Proofs.YtihacnhmiopalaaDoor
open Go.RowKit
section
variable (id sd ty key val : ByteArray) (st : Bool) (tm : Int) (pa : Option Addr) (np cp : Nat) (aa : Option Addr) (na ca : Nat) (ga : Option Addr) (ng cg : Nat) (Pv Av M : Nat -> ByteArray) (L : Nat -> Int) (w : World)
theorem allWords_three (blk : Nat) (w : World) (hid : id.size <= maxLen) (hsd : sd.size <= maxLen) (hty : ty.size <= maxLen) (hblk : blk = w.heap.size) :
  Calls Tryd.prog 22 #[.slice (some ⟨blk, 0, none⟩) 3 3] (w.alloc (.cells #[.string id, .string sd, .string ty] 9)) fun e w' =>
   e = .returned (.bool (isW id && isW sd && isW ty)) ∧ w' = w.alloc (.cells #[.string id, .string sd, .string ty] 9) := by
 have := allWords_any blk 0 3 3 (fun i => [id, sd, ty].getD i ByteArray.empty) (w.alloc (.cells #[.string id, .string sd, .string ty] 9)) (by decide)
  (fun i hi => by
   match i, hi with
   | 0, _ => exact hid
   | 1, _ => exact hsd
   | 2, _ => exact hty)
  (fun i hi => by
   rw [Nat.zero_add, World.cell?_alloc_at _ _ _ _ hblk]
   match i, hi with
   | 0, _ => rfl
   | 1, _ => rfl
   | 2, _ => rfl)
 simpa [allW] using this
theorem meth_create (rf : Int) (W : World) : (method 243 75 (.agg #[.bool st, .string key, .string val, .slice ga ng cg, .int .i64 rf]) "loop.example/s01366/impl.fits").run Tryd.prog W = .ok (106, .agg #[.bool st, .string key, .string val, .slice ga ng cg, .int .i64 rf]) W := by kernel_rfl
theorem meth_member (W : World) : (method 243 77 (.agg #[.bool st, .string key, .string val, .slice ga ng cg]) "loop.example/s01366/impl.fits").run Tryd.prog W = .ok (108, .agg #[.bool st, .string key, .string val, .slice ga ng cg]) W := by kernel_rfl
theorem meth_rules (W : World) : (method 243 78 (.agg #[.bool st, .string key, .string val, .slice ga ng cg]) "loop.example/s01366/impl.fits").run Tryd.prog W = .ok (109, .agg #[.bool st, .string key, .string val, .slice ga ng cg]) W := by kernel_rfl
theorem meth_power (W : World) : (method 243 79 (.agg #[.bool st, .string key, .string val, .slice ga ng cg]) "loop.example/s01366/impl.fits").run Tryd.prog W = .ok (110, .agg #[.bool st, .string key, .string val, .slice ga ng cg]) W := by kernel_rfl
theorem meth_other (W : World) : (method 243 80 (.agg #[.bool st, .string key, .string val, .slice ga ng cg]) "loop.example/s01366/impl.fits").run Tryd.prog W = .ok (113, .agg #[.bool st, .string key, .string val, .slice ga ng cg]) W := by kernel_rfl
theorem cont_joint (hnp : np <= 10) (hna : na <= 10) (hval : val.size <= maxLen) :
  ∃ (T : TypeId) (v : Value) (f : FuncId),
   (∀ w : World, Calls Tryd.prog 25 #[evV id sd ty key val st tm pa np cp aa na ca ga ng cg] w fun e w' => e = .returned (.iface T v) ∧ Below w.heap.size w w') ∧
   (∀ W, (method 243 T v "loop.example/s01366/impl.fits").run Tryd.prog W = .ok (f, v) W) ∧
   (∀ W, (callFunc f #[v]).run Tryd.prog W = .ok (.enter f #[v]) W) ∧
   (∀ W, SlG W ga ng cg M L -> Calls Tryd.prog f #[v] W fun e w' => e = .returned (.bool (ctB ty key val st np na ng M L)) ∧ Below W.heap.size W w') := by
 cases h1 : (ty.toList == [99, 114, 101, 97, 116, 101])
 ·cases h2 : (ty.toList == [109, 101, 109, 98, 101, 114])
  ·cases h3 : (ty.toList == [106, 111, 105, 110, 95, 114, 117, 108, 101, 115])
   ·cases h4 : (ty.toList == [112, 111, 119, 101, 114])
    ·refine ⟨_, _, _, fun w => contOf_other id sd ty key val st tm pa np cp aa na ca ga ng cg w h1 h2 h3 h4, meth_other key val st ga ng cg, fun W => by kernel_rfl, fun W _ => ?_⟩
     rw [ctB, h1, h2, h3, h4]
     exact fits_other key val st ga ng cg W hval
    ·refine ⟨_, _, _, fun w => contOf_power id sd ty key val st tm pa np cp aa na ca ga ng cg w h1 h2 h3 h4, meth_power key val st ga ng cg, fun W => by kernel_rfl, fun W hg => ?_⟩
     rw [ctB, h1, h2, h3, h4]
     exact fits_power key val st ga ng cg M L W hg
   ·refine ⟨_, _, _, fun w => contOf_rules id sd ty key val st tm pa np cp aa na ca ga ng cg w h1 h2 h3, meth_rules key val st ga ng cg, fun W => by kernel_rfl, fun W _ => ?_⟩
    rw [ctB, h1, h2, h3]
    exact fits_rules key val st ga ng cg W
  ·refine ⟨_, _, _, fun w => contOf_member id sd ty key val st tm pa np cp aa na ca ga ng cg w h1 h2, meth_member key val st ga ng cg, fun W => by kernel_rfl, fun W _ => ?_⟩
   rw [ctB, h1, h2]
   exact fits_member key val st ga ng cg W
 ·refine ⟨_, _, _, fun w => contOf_create id sd ty key val st tm pa np cp aa na ca ga ng cg w h1 hnp hna, meth_create key val st ga ng cg _, fun W => by kernel_rfl, fun W _ => ?_⟩
  have e : ctB ty key val st np na ng M L = (st && key.toList.isEmpty && ng == 0 && (((np : Int) + na) == 0) && val.toList.isEmpty) := by
   rw [ctB, h1, if_pos rfl]
   have : (((np : Int) + na) == 0) = (np == 0 && na == 0) := by rw [Bool.eq_iff_iff]; simp; omega
   rw [this]
   simp only [Bool.and_assoc]
  rw [e]
  exact fits_create key val st ga ng cg W _
theorem refs_len (S : Nat -> ByteArray) (n : Nat) (x : ByteArray) (h : refsB S n x = true) : n <= 10 := by
 simp [refsB] at h; exact h.1
set_option maxHeartbeats 2000000 in
theorem evI_any (hid : id.size <= maxLen) (hsd : sd.size <= maxLen) (hty : ty.size <= maxLen) (hkey : key.size <= maxLen) (hval : val.size <= maxLen)
  (hp : SlS w pa np cp Pv) (ha : SlS w aa na ca Av) (hg : SlG w ga ng cg M L) :
  Calls Tryd.prog 7 #[evV id sd ty key val st tm pa np cp aa na ca ga ng cg] w fun e w' =>
   e = .returned (.int .i64 (evCode id sd ty key val st tm np na ng Pv Av M L)) ∧ Below w.heap.size w w' := by
 have hb0 : ∀ o, Below w.heap.size w (w.alloc o) := fun o => (Below.refl _ _).alloc (Nat.le_refl _) _
 cases hw : (isW id && isW sd && isW ty)
 ·have HC' : Hid (_ = _) := evCode1 id sd ty key val st tm np na ng Pv Av M L (by cases h1 : isW id <;> cases h2 : isW sd <;> cases h3 : isW ty <;> simp [h1, h2, h3] at hw ⊢)
  go_enter Tryd.func7, Tryd.ntmps7
  go_wp2_with fail
  refine (allWords_three id sd ty _ _ hid hsd hty (by simp)).mono ?_
  rintro e w' ⟨rfl, rfl⟩
  go_wp2
  go_ret
  exact ⟨ret_int HC'.out.symm, (hb0 _).alloc (by simp) _⟩
 have hw3 : isW id = true ∧ isW sd = true ∧ isW ty = true := by simpa [Bool.and_eq_true, and_assoc] using hw
 cases hk : keyB st key
 ·have HC' : Hid (_ = _) := evCode2 id sd ty key val st tm np na ng Pv Av M L hw3.1 hw3.2.1 hw3.2.2 (by cases h1 : key.toList.isEmpty <;> cases h2 : isW key <;> cases st <;> simp [keyB, h1, h2] at hk ⊢)
  clear hw3
  go_enter Tryd.func7, Tryd.ntmps7
  go_wp2_with fail
  refine (allWords_three id sd ty _ _ hid hsd hty (by simp)).mono ?_
  rintro e w' ⟨rfl, rfl⟩
  go_wp2_with fail
  refine (keyOk_any st key _ hkey).mono ?_
  rintro e w1 ⟨rfl, hb1⟩
  have hB1 := below_box hb1
  have hcl := box_cells hB1
  have hBw := (hb0 _).trans (hB1.mono (by simp))
  clear hb1
  go_wp2
  go_ret
  exact ⟨ret_int HC'.out.symm, hBw⟩
 have hk' : ¬ (key.toList.isEmpty = false ∧ (st = false ∨ isW key = false)) := by
  rintro ⟨a, b⟩
  rw [keyB, a] at hk
  rcases b with b | b <;> simp [b] at hk
 by_cases ht : tm < 0 ∨ 1000000000000 < tm
 ·have HC' : Hid (_ = _) := evCode3 id sd ty key val st tm np na ng Pv Av M L hw3.1 hw3.2.1 hw3.2.2 hk' ht
  clear hw3 hk'
  by_cases ht1 : tm < 0
  ·clear ht
   go_enter Tryd.func7, Tryd.ntmps7
   go_wp2_with fail
   refine (allWords_three id sd ty _ _ hid hsd hty (by simp)).mono ?_
   rintro e w' ⟨rfl, rfl⟩
   go_wp2_with fail
   refine (keyOk_any st key _ hkey).mono ?_
   rintro e w1 ⟨rfl, hb1⟩
   have hB1 := below_box hb1
   have hcl := box_cells hB1
   have hBw := (hb0 _).trans (hB1.mono (by simp))
   clear hb1
   go_wp2
   go_ret
   exact ⟨ret_int HC'.out.symm, hBw⟩
  ·have ht2 : 1000000000000 < tm := by omega
   clear ht
   go_enter Tryd.func7, Tryd.ntmps7
   go_wp2_with fail
   refine (allWords_three id sd ty _ _ hid hsd hty (by simp)).mono ?_
   rintro e w' ⟨rfl, rfl⟩
   go_wp2_with fail
   refine (keyOk_any st key _ hkey).mono ?_
   rintro e w1 ⟨rfl, hb1⟩
   have hB1 := below_box hb1
   have hcl := box_cells hB1
   have hBw := (hb0 _).trans (hB1.mono (by simp))
   clear hb1
   go_wp2
   go_ret
   exact ⟨ret_int HC'.out.symm, hBw⟩
 have ht1 : ¬ tm < 0 := by omega
 have ht2 : ¬ 1000000000000 < tm := by omega
 cases hr1 : refsB Pv np id
 ·have HC' : Hid (_ = _) := evCode4 id sd ty key val st tm np na ng Pv Av M L hw3.1 hw3.2.1 hw3.2.2 hk' ht (Or.inl hr1)
  clear hw3 hk' ht
  go_enter Tryd.func7, Tryd.ntmps7
  go_wp2_with fail
  refine (allWords_three id sd ty _ _ hid hsd hty (by simp)).mono ?_
  rintro e w' ⟨rfl, rfl⟩
  go_wp2_with fail
  refine (keyOk_any st key _ hkey).mono ?_
  rintro e w1 ⟨rfl, hb1⟩
  have hB1 := below_box hb1
  have hcl := box_cells hB1
  have hBw := (hb0 _).trans (hB1.mono (by simp))
  clear hb1
  go_wp2_with fail
  refine (refsI_sl id _ (hp.below hBw)).mono ?_
  rintro e w' ⟨rfl, rfl⟩
  go_wp2
  go_ret
  exact ⟨ret_int HC'.out.symm, hBw⟩
 cases hr2 : refsB Av na id
 ·have HC' : Hid (_ = _) := evCode4 id sd ty key val st tm np na ng Pv Av M L hw3.1 hw3.2.1 hw3.2.2 hk' ht (Or.inr hr2)
  clear hw3 hk' ht
  go_enter Tryd.func7, Tryd.ntmps7
  go_wp2_with fail
  refine (allWords_three id sd ty _ _ hid hsd hty (by simp)).mono ?_
  rintro e w' ⟨rfl, rfl⟩
  go_wp2_with fail
  refine (keyOk_any st key _ hkey).mono ?_
  rintro e w1 ⟨rfl, hb1⟩
  have hB1 := below_box hb1
  have hcl := box_cells hB1
  have hBw := (hb0 _).trans (hB1.mono (by simp))
  clear hb1
  go_wp2_with fail
  refine (refsI_sl id _ (hp.below hBw)).mono ?_
  rintro e w' ⟨rfl, rfl⟩
  go_wp2_with fail
  refine (refsI_sl id _ (ha.below hBw)).mono ?_
  rintro e w' ⟨rfl, rfl⟩
  go_wp2
  go_ret
  exact ⟨ret_int HC'.out.symm, hBw⟩
 obtain ⟨T, v, f, hcont, hme, hen, hfits⟩ := cont_joint id sd ty key val st tm pa np cp aa na ca ga ng cg M L (refs_len _ _ _ hr1) (refs_len _ _ _ hr2) hval
 cases hct : ctB ty key val st np na ng M L
 ·have HC' : Hid (_ = _) := evCode5 id sd ty key val st tm np na ng Pv Av M L hw3.1 hw3.2.1 hw3.2.2 hk' ht hr1 hr2 hct
  clear hw3 hk' ht
  rw [hct] at hfits
  go_enter Tryd.func7, Tryd.ntmps7
  go_wp2_with fail
  refine (allWords_three id sd ty _ _ hid hsd hty (by simp)).mono ?_
  rintro e w' ⟨rfl, rfl⟩
  go_wp2_with fail
  refine (keyOk_any st key _ hkey).mono ?_
  rintro e w1 ⟨rfl, hb1⟩
  have hB1 := below_box hb1
  have hcl := box_cells hB1
  have hBw := (hb0 _).trans (hB1.mono (by simp))
  clear hb1
  go_wp2_with fail
  refine (refsI_sl id _ (hp.below hBw)).mono ?_
  rintro e w' ⟨rfl, rfl⟩
  go_wp2_with fail
  refine (refsI_sl id _ (ha.below hBw)).mono ?_
  rintro e w' ⟨rfl, rfl⟩
  go_wp2_with fail
  refine (hcont _).mono ?_
  rintro e w2 ⟨rfl, hb2⟩
  go_wp2_with fail
  refine (hfits _ (hg.below (hBw.trans (hb2.mono hBw.size)))).mono ?_
  rintro e w3 ⟨rfl, hb3⟩
  go_wp2
  go_ret
  exact ⟨ret_int HC'.out.symm, (hBw.trans (hb2.mono hBw.size)).trans (hb3.mono (Nat.le_trans hBw.size hb2.size))⟩
 ·have HC' : Hid (_ = _) := evCode0 id sd ty key val st tm np na ng Pv Av M L hw3.1 hw3.2.1 hw3.2.2 hk' ht hr1 hr2 hct
  clear hw3 hk' ht
  rw [hct] at hfits
  go_enter Tryd.func7, Tryd.ntmps7
  go_wp2_with fail
  refine (allWords_three id sd ty _ _ hid hsd hty (by simp)).mono ?_
  rintro e w' ⟨rfl, rfl⟩
  go_wp2_with fail
  refine (keyOk_any st key _ hkey).mono ?_
  rintro e w1 ⟨rfl, hb1⟩
  have hB1 := below_box hb1
  have hcl := box_cells hB1
  have hBw := (hb0 _).trans (hB1.mono (by simp))
  clear hb1
  go_wp2_with fail
  refine (refsI_sl id _ (hp.below hBw)).mono ?_
  rintro e w' ⟨rfl, rfl⟩
  go_wp2_with fail
  refine (refsI_sl id _ (ha.below hBw)).mono ?_
  rintro e w' ⟨rfl, rfl⟩
  go_wp2_with fail
  refine (hcont _).mono ?_
  rintro e w2 ⟨rfl, hb2⟩
  go_wp2_with fail
  refine (hfits _ (hg.below (hBw.trans (hb2.mono hBw.size)))).mono ?_
  rintro e w3 ⟨rfl, hb3⟩
  go_wp2
  go_ret
  exact ⟨ret_int HC'.out.symm, (hBw.trans (hb2.mono hBw.size)).trans (hb3.mono (Nat.le_trans hBw.size hb2.size))⟩
end
end Go.Proofs.YtihacnhmiopalaaDoor
