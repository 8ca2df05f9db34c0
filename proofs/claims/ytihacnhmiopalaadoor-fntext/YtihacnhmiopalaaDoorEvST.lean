import Derived.Test.YtihacnhmiopalaaDoorContSZT
namespace Go.Proofs.YtihacnhmiopalaaDoor
open Go.RowKit
section
variable (id sd ty key val : ByteArray) (st : Bool) (tm : Int) (pa : Option Addr) (np cp : Nat) (aa : Option Addr) (na ca : Nat) (ga : Option Addr) (ng cg : Nat) (Pv Av M : Nat -> ByteArray) (L : Nat -> Int) (w : World)
theorem evCode1 (h : isW id = false ∨ isW sd = false ∨ isW ty = false) : evCode id sd ty key val st tm np na ng Pv Av M L = 1 := by
 rw [evCode, if_pos h]
theorem evCode2 (h1 : isW id = true) (h2 : isW sd = true) (h3 : isW ty = true) (h : key.toList.isEmpty = false ∧ (st = false ∨ isW key = false)) : evCode id sd ty key val st tm np na ng Pv Av M L = 2 := by
 rw [evCode, if_neg (by simp [h1, h2, h3]), if_pos h]
theorem evCode3 (h1 : isW id = true) (h2 : isW sd = true) (h3 : isW ty = true) (h : ¬ (key.toList.isEmpty = false ∧ (st = false ∨ isW key = false))) (ht : tm < 0 ∨ 1000000000000 < tm) : evCode id sd ty key val st tm np na ng Pv Av M L = 3 := by
 rw [evCode, if_neg (by simp [h1, h2, h3]), if_neg h, if_pos ht]
theorem evCode4 (h1 : isW id = true) (h2 : isW sd = true) (h3 : isW ty = true) (h : ¬ (key.toList.isEmpty = false ∧ (st = false ∨ isW key = false))) (ht : ¬ (tm < 0 ∨ 1000000000000 < tm))
  (hr : refsB Pv np id = false ∨ refsB Av na id = false) : evCode id sd ty key val st tm np na ng Pv Av M L = 4 := by
 rw [evCode, if_neg (by simp [h1, h2, h3]), if_neg h, if_neg ht, if_pos hr]
theorem evCode5 (h1 : isW id = true) (h2 : isW sd = true) (h3 : isW ty = true) (h : ¬ (key.toList.isEmpty = false ∧ (st = false ∨ isW key = false))) (ht : ¬ (tm < 0 ∨ 1000000000000 < tm))
  (hr1 : refsB Pv np id = true) (hr2 : refsB Av na id = true) (hc : ctB ty key val st np na ng M L = false) : evCode id sd ty key val st tm np na ng Pv Av M L = 5 := by
 rw [evCode, if_neg (by simp [h1, h2, h3]), if_neg h, if_neg ht, if_neg (by simp [hr1, hr2]), if_pos hc]
theorem evCode0 (h1 : isW id = true) (h2 : isW sd = true) (h3 : isW ty = true) (h : ¬ (key.toList.isEmpty = false ∧ (st = false ∨ isW key = false))) (ht : ¬ (tm < 0 ∨ 1000000000000 < tm))
  (hr1 : refsB Pv np id = true) (hr2 : refsB Av na id = true) (hc : ctB ty key val st np na ng M L = true) : evCode id sd ty key val st tm np na ng Pv Av M L = 0 := by
 rw [evCode, if_neg (by simp [h1, h2, h3]), if_neg h, if_neg ht, if_neg (by simp [hr1, hr2]), if_neg (by simp [hc])]
set_option maxHeartbeats 2000000 in
theorem evS_any (hid : id.size <= maxLen) (hsd : sd.size <= maxLen) (hty : ty.size <= maxLen) (hkey : key.size <= maxLen) (hval : val.size <= maxLen)
  (hp : SlS w pa np cp Pv) (ha : SlS w aa na ca Av) (hg : SlG w ga ng cg M L) :
  Calls Tryd.prog 5 #[evV id sd ty key val st tm pa np cp aa na ca ga ng cg] w fun e w' =>
   e = .returned (.int .i64 (evCode id sd ty key val st tm np na ng Pv Av M L)) ∧ Below w.heap.size w w' := by
 have hb0 : ∀ o, Below w.heap.size w (w.alloc o) := fun o => (Below.refl _ _).alloc (Nat.le_refl _) _
 by_cases hw : isW id = false ∨ isW sd = false ∨ isW ty = false
 ·have HC := evCode1 id sd ty key val st tm np na ng Pv Av M L hw
  have HC' : Hid (_ = _) := HC
  clear HC
  cases h1 : isW id
  ·go_enter Tryd.func5, Tryd.ntmps5
   go_wp2_with (go_at_call 14; refine (word_any _ _ (by assumption)).mono ?_; rintro e w' ⟨rfl, rfl⟩)
   go_ret
   exact ⟨ret_int HC'.out.symm, hb0 _⟩
  cases h2 : isW sd
  ·go_enter Tryd.func5, Tryd.ntmps5
   go_wp2_with (go_at_call 14; refine (word_any _ _ (by assumption)).mono ?_; rintro e w' ⟨rfl, rfl⟩)
   go_ret
   exact ⟨ret_int HC'.out.symm, hb0 _⟩
  have h3 : isW ty = false := by simpa [h1, h2] using hw
  go_enter Tryd.func5, Tryd.ntmps5
  go_wp2_with (go_at_call 14; refine (word_any _ _ (by assumption)).mono ?_; rintro e w' ⟨rfl, rfl⟩)
  go_ret
  exact ⟨ret_int HC'.out.symm, hb0 _⟩
 have h1 : isW id = true := by simpa using fun h => hw (Or.inl h)
 have h2 : isW sd = true := by simpa using fun h => hw (Or.inr (Or.inl h))
 have h3 : isW ty = true := by simpa using fun h => hw (Or.inr (Or.inr h))
 clear hw
 by_cases hk : key.toList.isEmpty = false ∧ (st = false ∨ isW key = false)
 ·have HC' : Hid (_ = _) := evCode2 id sd ty key val st tm np na ng Pv Av M L h1 h2 h3 hk
  obtain ⟨hk1, hk2⟩ := hk
  cases st
  ·go_enter Tryd.func5, Tryd.ntmps5
   go_wp2_with (go_at_call 14; refine (word_any _ _ (by assumption)).mono ?_; rintro e w' ⟨rfl, rfl⟩)
   go_ret
   exact ⟨ret_int HC'.out.symm, hb0 _⟩
  ·have hk3 : isW key = false := by simpa using hk2
   clear hk2
   go_enter Tryd.func5, Tryd.ntmps5
   go_wp2_with (go_at_call 14; refine (word_any _ _ (by assumption)).mono ?_; rintro e w' ⟨rfl, rfl⟩)
   go_ret
   exact ⟨ret_int HC'.out.symm, hb0 _⟩
 cases hke : key.toList.isEmpty
 ·have hk3 : st = true ∧ isW key = true := by
   constructor
   ·simpa using fun h => hk ⟨hke, Or.inl h⟩
   ·simpa using fun h => hk ⟨hke, Or.inr h⟩
  obtain ⟨rfl, hk4⟩ := hk3
  by_cases ht : tm < 0 ∨ 1000000000000 < tm
  ·have HC' : Hid (_ = _) := evCode3 id sd ty key val _ tm np na ng Pv Av M L h1 h2 h3 hk ht
   by_cases ht1 : tm < 0
   ·go_enter Tryd.func5, Tryd.ntmps5
    go_wp2_with (go_at_call 14; refine (word_any _ _ (by assumption)).mono ?_; rintro e w' ⟨rfl, rfl⟩)
    go_ret
    exact ⟨ret_int HC'.out.symm, hb0 _⟩
   ·have ht2 : 1000000000000 < tm := by omega
    go_enter Tryd.func5, Tryd.ntmps5
    go_wp2_with (go_at_call 14; refine (word_any _ _ (by assumption)).mono ?_; rintro e w' ⟨rfl, rfl⟩)
    go_ret
    exact ⟨ret_int HC'.out.symm, hb0 _⟩
  have ht1 : ¬ tm < 0 := by omega
  have ht2 : ¬ 1000000000000 < tm := by omega
  cases hr1 : refsB Pv np id
  ·have HC' : Hid (_ = _) := evCode4 id sd ty key val _ tm np na ng Pv Av M L h1 h2 h3 hk ht (Or.inl hr1)
   clear hk ht
   go_enter Tryd.func5, Tryd.ntmps5
   go_wp2_with (go_at_call 14; refine (word_any _ _ (by assumption)).mono ?_; rintro e w' ⟨rfl, rfl⟩)
   refine (refsS_sl id _ (hp.below (hb0 _))).mono ?_
   rintro e w' ⟨rfl, hdr⟩
   go_wp2
   go_ret
   exact ⟨ret_int HC'.out.symm, (hb0 _).trans (hdr.below _)⟩
  cases hr2 : refsB Av na id
  ·have HC' : Hid (_ = _) := evCode4 id sd ty key val _ tm np na ng Pv Av M L h1 h2 h3 hk ht (Or.inr hr2)
   clear hk ht
   go_enter Tryd.func5, Tryd.ntmps5
   go_wp2_with (go_at_call 14; refine (word_any _ _ (by assumption)).mono ?_; rintro e w' ⟨rfl, rfl⟩)
   refine (refsS_sl id _ (hp.below (hb0 _))).mono ?_
   rintro e w' ⟨rfl, q1, rfl⟩
   go_wp2_with fail
   refine (refsS_sl id _ (ha.below ((hb0 _).trans (Dr.below ⟨_, rfl⟩ _)))).mono ?_
   rintro e w' ⟨rfl, hdr⟩
   go_wp2
   go_ret
   exact ⟨ret_int HC'.out.symm, ((hb0 _).trans (Dr.below ⟨_, rfl⟩ _)).trans (hdr.below _)⟩
  cases hct : ctB ty key val true np na ng M L
  ·have HC' : Hid (_ = _) := evCode5 id sd ty key val _ tm np na ng Pv Av M L h1 h2 h3 hk ht hr1 hr2 hct
   clear hk ht
   go_enter Tryd.func5, Tryd.ntmps5
   go_wp2_with (go_at_call 14; refine (word_any _ _ (by assumption)).mono ?_; rintro e w' ⟨rfl, rfl⟩)
   refine (refsS_sl id _ (hp.below (hb0 _))).mono ?_
   rintro e w' ⟨rfl, q1, rfl⟩
   go_wp2_with fail
   refine (refsS_sl id _ (ha.below ((hb0 _).trans (Dr.below ⟨_, rfl⟩ _)))).mono ?_
   rintro e w' ⟨rfl, q2, rfl⟩
   go_wp2_with fail
   refine (contS_any id sd ty key val _ tm pa np cp aa na ca ga ng cg M L _ hval (hg.below ((hb0 _).trans (Dr.below ⟨_, rfl⟩ _)))).mono ?_
   rintro e w' ⟨rfl, hb2⟩
   go_wp2
   go_ret
   exact ⟨ret_int HC'.out.symm, ((hb0 _).trans (Dr.below ⟨_, rfl⟩ _)).trans (hb2.mono (by simp))⟩
  ·have HC' : Hid (_ = _) := evCode0 id sd ty key val _ tm np na ng Pv Av M L h1 h2 h3 hk ht hr1 hr2 hct
   clear hk ht
   go_enter Tryd.func5, Tryd.ntmps5
   go_wp2_with (go_at_call 14; refine (word_any _ _ (by assumption)).mono ?_; rintro e w' ⟨rfl, rfl⟩)
   refine (refsS_sl id _ (hp.below (hb0 _))).mono ?_
   rintro e w' ⟨rfl, q1, rfl⟩
   go_wp2_with fail
   refine (refsS_sl id _ (ha.below ((hb0 _).trans (Dr.below ⟨_, rfl⟩ _)))).mono ?_
   rintro e w' ⟨rfl, q2, rfl⟩
   go_wp2_with fail
   refine (contS_any id sd ty key val _ tm pa np cp aa na ca ga ng cg M L _ hval (hg.below ((hb0 _).trans (Dr.below ⟨_, rfl⟩ _)))).mono ?_
   rintro e w' ⟨rfl, hb2⟩
   go_wp2
   go_ret
   exact ⟨ret_int HC'.out.symm, ((hb0 _).trans (Dr.below ⟨_, rfl⟩ _)).trans (hb2.mono (by simp))⟩
 ·by_cases ht : tm < 0 ∨ 1000000000000 < tm
  ·have HC' : Hid (_ = _) := evCode3 id sd ty key val _ tm np na ng Pv Av M L h1 h2 h3 hk ht
   by_cases ht1 : tm < 0
   ·go_enter Tryd.func5, Tryd.ntmps5
    go_wp2_with (go_at_call 14; refine (word_any _ _ (by assumption)).mono ?_; rintro e w' ⟨rfl, rfl⟩)
    go_ret
    exact ⟨ret_int HC'.out.symm, hb0 _⟩
   ·have ht2 : 1000000000000 < tm := by omega
    go_enter Tryd.func5, Tryd.ntmps5
    go_wp2_with (go_at_call 14; refine (word_any _ _ (by assumption)).mono ?_; rintro e w' ⟨rfl, rfl⟩)
    go_ret
    exact ⟨ret_int HC'.out.symm, hb0 _⟩
  have ht1 : ¬ tm < 0 := by omega
  have ht2 : ¬ 1000000000000 < tm := by omega
  cases hr1 : refsB Pv np id
  ·have HC' : Hid (_ = _) := evCode4 id sd ty key val _ tm np na ng Pv Av M L h1 h2 h3 hk ht (Or.inl hr1)
   clear hk ht
   go_enter Tryd.func5, Tryd.ntmps5
   go_wp2_with (go_at_call 14; refine (word_any _ _ (by assumption)).mono ?_; rintro e w' ⟨rfl, rfl⟩)
   refine (refsS_sl id _ (hp.below (hb0 _))).mono ?_
   rintro e w' ⟨rfl, hdr⟩
   go_wp2
   go_ret
   exact ⟨ret_int HC'.out.symm, (hb0 _).trans (hdr.below _)⟩
  cases hr2 : refsB Av na id
  ·have HC' : Hid (_ = _) := evCode4 id sd ty key val _ tm np na ng Pv Av M L h1 h2 h3 hk ht (Or.inr hr2)
   clear hk ht
   go_enter Tryd.func5, Tryd.ntmps5
   go_wp2_with (go_at_call 14; refine (word_any _ _ (by assumption)).mono ?_; rintro e w' ⟨rfl, rfl⟩)
   refine (refsS_sl id _ (hp.below (hb0 _))).mono ?_
   rintro e w' ⟨rfl, q1, rfl⟩
   go_wp2_with fail
   refine (refsS_sl id _ (ha.below ((hb0 _).trans (Dr.below ⟨_, rfl⟩ _)))).mono ?_
   rintro e w' ⟨rfl, hdr⟩
   go_wp2
   go_ret
   exact ⟨ret_int HC'.out.symm, ((hb0 _).trans (Dr.below ⟨_, rfl⟩ _)).trans (hdr.below _)⟩
  cases hct : ctB ty key val st np na ng M L
  ·have HC' : Hid (_ = _) := evCode5 id sd ty key val _ tm np na ng Pv Av M L h1 h2 h3 hk ht hr1 hr2 hct
   clear hk ht
   go_enter Tryd.func5, Tryd.ntmps5
   go_wp2_with (go_at_call 14; refine (word_any _ _ (by assumption)).mono ?_; rintro e w' ⟨rfl, rfl⟩)
   refine (refsS_sl id _ (hp.below (hb0 _))).mono ?_
   rintro e w' ⟨rfl, q1, rfl⟩
   go_wp2_with fail
   refine (refsS_sl id _ (ha.below ((hb0 _).trans (Dr.below ⟨_, rfl⟩ _)))).mono ?_
   rintro e w' ⟨rfl, q2, rfl⟩
   go_wp2_with fail
   refine (contS_any id sd ty key val _ tm pa np cp aa na ca ga ng cg M L _ hval (hg.below ((hb0 _).trans (Dr.below ⟨_, rfl⟩ _)))).mono ?_
   rintro e w' ⟨rfl, hb2⟩
   go_wp2
   go_ret
   exact ⟨ret_int HC'.out.symm, ((hb0 _).trans (Dr.below ⟨_, rfl⟩ _)).trans (hb2.mono (by simp))⟩
  ·have HC' : Hid (_ = _) := evCode0 id sd ty key val _ tm np na ng Pv Av M L h1 h2 h3 hk ht hr1 hr2 hct
   clear hk ht
   go_enter Tryd.func5, Tryd.ntmps5
   go_wp2_with (go_at_call 14; refine (word_any _ _ (by assumption)).mono ?_; rintro e w' ⟨rfl, rfl⟩)
   refine (refsS_sl id _ (hp.below (hb0 _))).mono ?_
   rintro e w' ⟨rfl, q1, rfl⟩
   go_wp2_with fail
   refine (refsS_sl id _ (ha.below ((hb0 _).trans (Dr.below ⟨_, rfl⟩ _)))).mono ?_
   rintro e w' ⟨rfl, q2, rfl⟩
   go_wp2_with fail
   refine (contS_any id sd ty key val _ tm pa np cp aa na ca ga ng cg M L _ hval (hg.below ((hb0 _).trans (Dr.below ⟨_, rfl⟩ _)))).mono ?_
   rintro e w' ⟨rfl, hb2⟩
   go_wp2
   go_ret
   exact ⟨ret_int HC'.out.symm, ((hb0 _).trans (Dr.below ⟨_, rfl⟩ _)).trans (hb2.mono (by simp))⟩
end
end Go.Proofs.YtihacnhmiopalaaDoor
