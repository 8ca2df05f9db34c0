import Derived.Test.YtnbdlaglnefcbaaGreatRefsSZ
namespace Go.Proofs.YtnbdlaglnefcbaaGreat
open Go.RowKit
theorem countWords_zero (a:Option Addr)(cap:Nat)(w:World) :
  Calls Tryz.prog 76 #[.slice a 0 cap] w fun e w'=>e=.returned (.int .i64 0)∧w'=w:=by
 go_enter Tryz.func76,Tryz.ntmps76
 go_wp2
 go_step3
 go_wp2
 go_step3
 go_wp2
 refine wp_loop_rounds 1 ?_
 rw [rounds_succ]
 go_wp2
 rw [Exit.noGoto_ret]
 go_ret
 exact ⟨rfl,rfl⟩
theorem allWords_zero (a:Option Addr)(cap:Nat)(w:World) :
  Calls Tryz.prog 52 #[.slice a 0 cap] w fun e w'=>e=.returned (.bool true)∧w'=w:=by
 go_enter Tryz.func52,Tryz.ntmps52
 go_wp2_with (go_at_call 76;refine (countWords_zero a cap _).mono ?_;rintro e w' ⟨rfl,rfl⟩)
 go_ret
 exact ⟨rfl,rfl⟩
theorem refsI_zero (a:Option Addr)(cap:Nat)(id:ByteArray)(w:World) :
  Calls Tryz.prog 54 #[.slice a 0 cap,.string id] w fun e w'=>e=.returned (.bool true)∧w'=w:=by
 go_enter Tryz.func54,Tryz.ntmps54
 go_wp2_with (go_at_call 52;refine (allWords_zero a cap _).mono ?_;rintro e w' ⟨rfl,rfl⟩)
 refine wp_loop_rounds 1 ?_
 rw [rounds_succ]
 go_wp2
 go_ret
 exact ⟨rfl,rfl⟩
theorem grI_zero (a:Option Addr)(cap:Nat)(w:World) :
  Calls Tryz.prog 139 #[.slice a 0 cap] w fun e w'=>e=.returned (.bool true)∧w'=w:=by
 go_enter Tryz.func139,Tryz.ntmps139
 go_wp2
 refine wp_loop_rounds 1 ?_
 rw [rounds_succ]
 go_wp2
 go_ret
 exact ⟨rfl,rfl⟩
theorem refsI_sl {a:Option Addr}{n cap:Nat}{S:Nat->ByteArray}(id:ByteArray)(w:World)(h:SlS w a n cap S) :
  Calls Tryz.prog 54 #[.slice a n cap,.string id] w fun e w'=>e=.returned (.bool (refsB S n id))∧w'=w:=by
 rcases h.cells with rfl|⟨b,off,rfl,hb,hc⟩
 ·exact refsI_zero a cap id w
 ·exact refsI_any b off n cap S id w h.le h.max h.size hc
theorem grI_sl {a:Option Addr}{n cap:Nat}{M:Nat->ByteArray}{L:Nat->Int}(w:World)(h:SlG w a n cap M L) :
  Calls Tryz.prog 139 #[.slice a n cap] w fun e w'=>e=.returned (.bool (grB M L n))∧Below w.heap.size w w':=by
 rcases h.cells with rfl|⟨b,off,rfl,hb,hc,hl⟩
 ·refine (grI_zero a cap w).mono ?_
  rintro e w' ⟨rfl,rfl⟩
  exact ⟨rfl,Below.refl _ _⟩
 ·exact grI_any b off n cap M L w (Nat.le_trans h.le h.max) hb h.size hc hl
section
variable (key val:ByteArray) (st:Bool) (ga:Option Addr) (ng cg:Nat) (M:Nat->ByteArray) (L:Nat->Int) (w:World)
set_option maxHeartbeats 1000000 in
theorem fits_create (rf:Int) :
  Calls Tryz.prog 134 #[.agg #[.bool st,.string key,.string val,.slice ga ng cg,.int .i64 rf]] w fun e w' =>
   e=.returned (.bool (st && key.toList.isEmpty && ng == 0 && rf == 0 && val.toList.isEmpty))∧Below w.heap.size w w':=by
 go_enter Tryz.func134,Tryz.ntmps134
 go_wp2
 all_goals (go_ret;exact ⟨ret_bool (by rw [Bool.eq_iff_iff];simp [*]),by repeat' (first|exact Below.refl _ _|exact Nat.le_refl _|(refine Below.alloc ?_ ?_ _)|(simp;done)|(simp;omega))⟩)
set_option maxHeartbeats 1000000 in
theorem fits_member :
  Calls Tryz.prog 136 #[.agg #[.bool st,.string key,.string val,.slice ga ng cg]] w fun e w' =>
   e=.returned (.bool (st && !key.toList.isEmpty && ng == 0 && memB val))∧Below w.heap.size w w':=by
 go_enter Tryz.func136,Tryz.ntmps136
 go_wp2
 all_goals (go_ret;exact ⟨ret_bool (by rw [Bool.eq_iff_iff];first|(simp [memB, *];done)|(exfalso;simp_all;done)),by repeat' (first|exact Below.refl _ _|exact Nat.le_refl _|(refine Below.alloc ?_ ?_ _)|(simp;done)|(simp;omega))⟩)
set_option maxHeartbeats 1000000 in
theorem fits_rules :
  Calls Tryz.prog 137 #[.agg #[.bool st,.string key,.string val,.slice ga ng cg]] w fun e w' =>
   e=.returned (.bool (st && key.toList.isEmpty && ng == 0 && rulB val))∧Below w.heap.size w w':=by
 go_enter Tryz.func137,Tryz.ntmps137
 go_wp2
 all_goals (go_ret;exact ⟨ret_bool (by rw [Bool.eq_iff_iff];first|(simp [rulB, *];done)|(exfalso;simp_all;done)),by repeat' (first|exact Below.refl _ _|exact Nat.le_refl _|(refine Below.alloc ?_ ?_ _)|(simp;done)|(simp;omega))⟩)
set_option maxHeartbeats 1000000 in
theorem fits_power (hg:SlG w ga ng cg M L) :
  Calls Tryz.prog 138 #[.agg #[.bool st,.string key,.string val,.slice ga ng cg]] w fun e w' =>
   e=.returned (.bool (st && key.toList.isEmpty && val.toList.isEmpty && grB M L ng))∧Below w.heap.size w w':=by
 go_enter Tryz.func138,Tryz.ntmps138
 go_wp2_with (first|(go_at_call 139;refine (grI_sl _ (hg.below (by repeat' (first|exact Below.refl _ _|exact Nat.le_refl _|(refine Below.alloc ?_ ?_ _)|(simp;done))))).mono ?_;rintro e w' ⟨rfl,hb2⟩)|go_in)
 all_goals (go_ret;exact ⟨ret_bool (by rw [Bool.eq_iff_iff];simp [*]),by first|exact Below.trans (by repeat' (first|exact Below.refl _ _|exact Nat.le_refl _|(refine Below.alloc ?_ ?_ _)|(simp;done)|(simp;omega))) (hb2.mono (by simp;omega))|(repeat' (first|exact Below.refl _ _|exact Nat.le_refl _|(refine Below.alloc ?_ ?_ _)|(simp;done)|(simp;omega)))⟩)
set_option maxHeartbeats 1000000 in
theorem fits_other (hv:val.size<=maxLen) :
  Calls Tryz.prog 141 #[.agg #[.bool st,.string key,.string val,.slice ga ng cg]] w fun e w' =>
   e=.returned (.bool (ng == 0 && (val.toList.isEmpty || isW val)))∧Below w.heap.size w w':=by
 go_enter Tryz.func141,Tryz.ntmps141
 go_wp2_with (first|(go_at_call 52;refine (allWords_one _ val _ hv (by simp)).mono ?_;rintro e w' ⟨rfl,rfl⟩)|go_in)
 all_goals (go_ret;exact ⟨ret_bool (by rw [Bool.eq_iff_iff];simp [*]),by repeat' (first|exact Below.refl _ _|exact Nat.le_refl _|(refine Below.alloc ?_ ?_ _)|(simp;done)|(simp;omega))⟩)
end
section
variable (id sd ty key val:ByteArray) (st:Bool) (tm:Int) (pa:Option Addr) (np cp:Nat) (aa:Option Addr) (na ca:Nat) (ga:Option Addr) (ng cg:Nat) (w:World)
set_option maxHeartbeats 1000000 in
theorem contOf_create (h1:(ty.toList == [99,114,101,97,116,101])=true)(hnp:np<=10)(hna:na<=10) :
  Calls Tryz.prog 55 #[evV id sd ty key val st tm pa np cp aa na ca ga ng cg] w fun e w' =>
   e=.returned (.iface 122 (.agg #[.bool st,.string key,.string val,.slice ga ng cg,.int .i64 ((np:Int)+na)]))∧Below w.heap.size w w':=by
 go_enter Tryz.func55,Tryz.ntmps55
 go_wp2
 go_ret
 exact ⟨rfl,by repeat' (first|exact Below.refl _ _|exact Nat.le_refl _|(refine Below.alloc ?_ ?_ _)|(refine Below.setCell ?_ ?_ _)|(simp;done)|(simp;omega))⟩
set_option maxHeartbeats 1000000 in
theorem contOf_member (h1:(ty.toList == [99,114,101,97,116,101])=false)(h2:(ty.toList == [109,101,109,98,101,114])=true) :
  Calls Tryz.prog 55 #[evV id sd ty key val st tm pa np cp aa na ca ga ng cg] w fun e w' =>
   e=.returned (.iface 124 (.agg #[.bool st,.string key,.string val,.slice ga ng cg]))∧Below w.heap.size w w':=by
 go_enter Tryz.func55,Tryz.ntmps55
 go_wp2
 go_ret
 exact ⟨rfl,by repeat' (first|exact Below.refl _ _|exact Nat.le_refl _|(refine Below.alloc ?_ ?_ _)|(refine Below.setCell ?_ ?_ _)|(simp;done)|(simp;omega))⟩
set_option maxHeartbeats 1000000 in
theorem contOf_rules (h1:(ty.toList == [99,114,101,97,116,101])=false)(h2:(ty.toList == [109,101,109,98,101,114])=false)(h3:(ty.toList == [106,111,105,110,95,114,117,108,101,115])=true) :
  Calls Tryz.prog 55 #[evV id sd ty key val st tm pa np cp aa na ca ga ng cg] w fun e w' =>
   e=.returned (.iface 125 (.agg #[.bool st,.string key,.string val,.slice ga ng cg]))∧Below w.heap.size w w':=by
 go_enter Tryz.func55,Tryz.ntmps55
 go_wp2
 go_ret
 exact ⟨rfl,by repeat' (first|exact Below.refl _ _|exact Nat.le_refl _|(refine Below.alloc ?_ ?_ _)|(refine Below.setCell ?_ ?_ _)|(simp;done)|(simp;omega))⟩
set_option maxHeartbeats 1000000 in
theorem contOf_power (h1:(ty.toList == [99,114,101,97,116,101])=false)(h2:(ty.toList == [109,101,109,98,101,114])=false)(h3:(ty.toList == [106,111,105,110,95,114,117,108,101,115])=false)(h4:(ty.toList == [112,111,119,101,114])=true) :
  Calls Tryz.prog 55 #[evV id sd ty key val st tm pa np cp aa na ca ga ng cg] w fun e w' =>
   e=.returned (.iface 126 (.agg #[.bool st,.string key,.string val,.slice ga ng cg]))∧Below w.heap.size w w':=by
 go_enter Tryz.func55,Tryz.ntmps55
 go_wp2
 go_ret
 exact ⟨rfl,by repeat' (first|exact Below.refl _ _|exact Nat.le_refl _|(refine Below.alloc ?_ ?_ _)|(refine Below.setCell ?_ ?_ _)|(simp;done)|(simp;omega))⟩
set_option maxHeartbeats 1000000 in
theorem contOf_other (h1:(ty.toList == [99,114,101,97,116,101])=false)(h2:(ty.toList == [109,101,109,98,101,114])=false)(h3:(ty.toList == [106,111,105,110,95,114,117,108,101,115])=false)(h4:(ty.toList == [112,111,119,101,114])=false) :
  Calls Tryz.prog 55 #[evV id sd ty key val st tm pa np cp aa na ca ga ng cg] w fun e w' =>
   e=.returned (.iface 127 (.agg #[.bool st,.string key,.string val,.slice ga ng cg]))∧Below w.heap.size w w':=by
 go_enter Tryz.func55,Tryz.ntmps55
 go_wp2
 go_ret
 exact ⟨rfl,by repeat' (first|exact Below.refl _ _|exact Nat.le_refl _|(refine Below.alloc ?_ ?_ _)|(refine Below.setCell ?_ ?_ _)|(simp;done)|(simp;omega))⟩
end
section
variable (id sd ty key val:ByteArray) (st:Bool) (tm:Int) (pa:Option Addr) (np cp:Nat) (aa:Option Addr) (na ca:Nat) (ga:Option Addr) (ng cg:Nat) (Pv Av M:Nat->ByteArray) (L:Nat->Int) (w:World)
theorem evCode1 (h:isW id=false∨isW sd=false∨isW ty=false):evCode id sd ty key val st tm np na ng Pv Av M L=1:=by
 rw [evCode,if_pos h]
theorem evCode2 (h1:isW id=true)(h2:isW sd=true)(h3:isW ty=true)(h:key.toList.isEmpty=false∧(st=false∨isW key=false)):evCode id sd ty key val st tm np na ng Pv Av M L=2:=by
 rw [evCode,if_neg (by simp [h1,h2,h3]),if_pos h]
theorem evCode3 (h1:isW id=true)(h2:isW sd=true)(h3:isW ty=true)(h:¬ (key.toList.isEmpty=false∧(st=false∨isW key=false)))(ht:tm<0∨1000000000000<tm):evCode id sd ty key val st tm np na ng Pv Av M L=3:=by
 rw [evCode,if_neg (by simp [h1,h2,h3]),if_neg h,if_pos ht]
theorem evCode4 (h1:isW id=true)(h2:isW sd=true)(h3:isW ty=true)(h:¬ (key.toList.isEmpty=false∧(st=false∨isW key=false)))(ht:¬ (tm<0∨1000000000000<tm))
  (hr:refsB Pv np id=false∨refsB Av na id=false):evCode id sd ty key val st tm np na ng Pv Av M L=4:=by
 rw [evCode,if_neg (by simp [h1,h2,h3]),if_neg h,if_neg ht,if_pos hr]
theorem evCode5 (h1:isW id=true)(h2:isW sd=true)(h3:isW ty=true)(h:¬ (key.toList.isEmpty=false∧(st=false∨isW key=false)))(ht:¬ (tm<0∨1000000000000<tm))
  (hr1:refsB Pv np id=true) (hr2:refsB Av na id=true) (hc:ctB ty key val st np na ng M L=false):evCode id sd ty key val st tm np na ng Pv Av M L=5:=by
 rw [evCode,if_neg (by simp [h1,h2,h3]),if_neg h,if_neg ht,if_neg (by simp [hr1,hr2]),if_pos hc]
theorem evCode0 (h1:isW id=true)(h2:isW sd=true)(h3:isW ty=true)(h:¬ (key.toList.isEmpty=false∧(st=false∨isW key=false)))(ht:¬ (tm<0∨1000000000000<tm))
  (hr1:refsB Pv np id=true) (hr2:refsB Av na id=true) (hc:ctB ty key val st np na ng M L=true):evCode id sd ty key val st tm np na ng Pv Av M L=0:=by
 rw [evCode,if_neg (by simp [h1,h2,h3]),if_neg h,if_neg ht,if_neg (by simp [hr1,hr2]),if_neg (by simp [hc])]
set_option maxHeartbeats 2000000 in
theorem evS_any (hid:id.size<=maxLen)(hsd:sd.size<=maxLen)(hty:ty.size<=maxLen)(hkey:key.size<=maxLen)(hval:val.size<=maxLen)
  (hp:SlS w pa np cp Pv) (ha:SlS w aa na ca Av) (hg:SlG w ga ng cg M L) :
  Calls Tryz.prog 31 #[evV id sd ty key val st tm pa np cp aa na ca ga ng cg] w fun e w' =>
   e=.returned (.int .i64 (evCode id sd ty key val st tm np na ng Pv Av M L))∧Below w.heap.size w w':=by
 have hb0:∀ o,Below w.heap.size w (w.alloc o):=fun o=>bA
 by_cases hw:isW id=false∨isW sd=false∨isW ty=false
 ·have HC:=evCode1 id sd ty key val st tm np na ng Pv Av M L hw
  have HC':Hid (_=_):=HC
  clear HC
  cases h1:isW id
  ·go_enter Tryz.func31,Tryz.ntmps31
   go_wp2_with (go_at_call 49;refine (word_any _ _ (by assumption)).mono ?_;rintro e w' ⟨rfl,rfl⟩)
   go_ret
   exact ⟨ret_int HC'.out.symm,hb0 _⟩
  cases h2:isW sd
  ·go_enter Tryz.func31,Tryz.ntmps31
   go_wp2_with (go_at_call 49;refine (word_any _ _ (by assumption)).mono ?_;rintro e w' ⟨rfl,rfl⟩)
   go_ret
   exact ⟨ret_int HC'.out.symm,hb0 _⟩
  have h3:isW ty=false:=by simpa [h1,h2] using hw
  go_enter Tryz.func31,Tryz.ntmps31
  go_wp2_with (go_at_call 49;refine (word_any _ _ (by assumption)).mono ?_;rintro e w' ⟨rfl,rfl⟩)
  go_ret
  exact ⟨ret_int HC'.out.symm,hb0 _⟩
 have h1:isW id=true:=by simpa using fun h=>hw (Or.inl h)
 have h2:isW sd=true:=by simpa using fun h=>hw (Or.inr (Or.inl h))
 have h3:isW ty=true:=by simpa using fun h=>hw (Or.inr (Or.inr h))
 clear hw
 by_cases hk:key.toList.isEmpty=false∧(st=false∨isW key=false)
 ·have HC':Hid (_=_):=evCode2 id sd ty key val st tm np na ng Pv Av M L h1 h2 h3 hk
  obtain ⟨hk1,hk2⟩:=hk
  cases st
  ·go_enter Tryz.func31,Tryz.ntmps31
   go_wp2_with (go_at_call 49;refine (word_any _ _ (by assumption)).mono ?_;rintro e w' ⟨rfl,rfl⟩)
   go_ret
   exact ⟨ret_int HC'.out.symm,hb0 _⟩
  ·have hk3:isW key=false:=by simpa using hk2
   clear hk2
   go_enter Tryz.func31,Tryz.ntmps31
   go_wp2_with (go_at_call 49;refine (word_any _ _ (by assumption)).mono ?_;rintro e w' ⟨rfl,rfl⟩)
   go_ret
   exact ⟨ret_int HC'.out.symm,hb0 _⟩
 cases hke:key.toList.isEmpty
 ·have hk3:st=true∧isW key=true:=by
   constructor
   ·simpa using fun h=>hk ⟨hke,Or.inl h⟩
   ·simpa using fun h=>hk ⟨hke,Or.inr h⟩
  obtain ⟨rfl,hk4⟩:=hk3
  by_cases ht:tm<0∨1000000000000<tm
  ·have HC':Hid (_=_):=evCode3 id sd ty key val _ tm np na ng Pv Av M L h1 h2 h3 hk ht
   by_cases ht1:tm<0
   ·go_enter Tryz.func31,Tryz.ntmps31
    go_wp2_with (go_at_call 49;refine (word_any _ _ (by assumption)).mono ?_;rintro e w' ⟨rfl,rfl⟩)
    go_ret
    exact ⟨ret_int HC'.out.symm,hb0 _⟩
   ·have ht2:1000000000000<tm:=by omega
    go_enter Tryz.func31,Tryz.ntmps31
    go_wp2_with (go_at_call 49;refine (word_any _ _ (by assumption)).mono ?_;rintro e w' ⟨rfl,rfl⟩)
    go_ret
    exact ⟨ret_int HC'.out.symm,hb0 _⟩
  have ht1:¬ tm<0:=by omega
  have ht2:¬ 1000000000000<tm:=by omega
  cases hr1:refsB Pv np id
  ·have HC':Hid (_=_):=evCode4 id sd ty key val _ tm np na ng Pv Av M L h1 h2 h3 hk ht (Or.inl hr1)
   clear hk ht
   go_enter Tryz.func31,Tryz.ntmps31
   go_wp2_with (go_at_call 49;refine (word_any _ _ (by assumption)).mono ?_;rintro e w' ⟨rfl,rfl⟩)
   refine (refsS_sl id _ (hp.below (hb0 _))).mono ?_
   rintro e w' ⟨rfl,hdr⟩
   go_wp2
   go_ret
   exact ⟨ret_int HC'.out.symm,(hb0 _).trans (hdr.below _)⟩
  cases hr2:refsB Av na id
  ·have HC':Hid (_=_):=evCode4 id sd ty key val _ tm np na ng Pv Av M L h1 h2 h3 hk ht (Or.inr hr2)
   clear hk ht
   go_enter Tryz.func31,Tryz.ntmps31
   go_wp2_with (go_at_call 49;refine (word_any _ _ (by assumption)).mono ?_;rintro e w' ⟨rfl,rfl⟩)
   refine (refsS_sl id _ (hp.below (hb0 _))).mono ?_
   rintro e w' ⟨rfl,q1,rfl⟩
   go_wp2_with fail
   refine (refsS_sl id _ (ha.below ((hb0 _).trans (Dr.below ⟨_,rfl⟩ _)))).mono ?_
   rintro e w' ⟨rfl,hdr⟩
   go_wp2
   go_ret
   exact ⟨ret_int HC'.out.symm,((hb0 _).trans (Dr.below ⟨_,rfl⟩ _)).trans (hdr.below _)⟩
  cases hct:ctB ty key val true np na ng M L
  ·have HC':Hid (_=_):=evCode5 id sd ty key val _ tm np na ng Pv Av M L h1 h2 h3 hk ht hr1 hr2 hct
   clear hk ht
   go_enter Tryz.func31,Tryz.ntmps31
   go_wp2_with (go_at_call 49;refine (word_any _ _ (by assumption)).mono ?_;rintro e w' ⟨rfl,rfl⟩)
   refine (refsS_sl id _ (hp.below (hb0 _))).mono ?_
   rintro e w' ⟨rfl,q1,rfl⟩
   go_wp2_with fail
   refine (refsS_sl id _ (ha.below ((hb0 _).trans (Dr.below ⟨_,rfl⟩ _)))).mono ?_
   rintro e w' ⟨rfl,q2,rfl⟩
   go_wp2_with fail
   refine (contS_any id sd ty key val _ tm pa np cp aa na ca ga ng cg M L _ hval (hg.below ((hb0 _).trans (Dr.below ⟨_,rfl⟩ _)))).mono ?_
   rintro e w' ⟨rfl,hb2⟩
   go_wp2
   go_ret
   exact ⟨ret_int HC'.out.symm,((hb0 _).trans (Dr.below ⟨_,rfl⟩ _)).trans (hb2.mono (by simp))⟩
  ·have HC':Hid (_=_):=evCode0 id sd ty key val _ tm np na ng Pv Av M L h1 h2 h3 hk ht hr1 hr2 hct
   clear hk ht
   go_enter Tryz.func31,Tryz.ntmps31
   go_wp2_with (go_at_call 49;refine (word_any _ _ (by assumption)).mono ?_;rintro e w' ⟨rfl,rfl⟩)
   refine (refsS_sl id _ (hp.below (hb0 _))).mono ?_
   rintro e w' ⟨rfl,q1,rfl⟩
   go_wp2_with fail
   refine (refsS_sl id _ (ha.below ((hb0 _).trans (Dr.below ⟨_,rfl⟩ _)))).mono ?_
   rintro e w' ⟨rfl,q2,rfl⟩
   go_wp2_with fail
   refine (contS_any id sd ty key val _ tm pa np cp aa na ca ga ng cg M L _ hval (hg.below ((hb0 _).trans (Dr.below ⟨_,rfl⟩ _)))).mono ?_
   rintro e w' ⟨rfl,hb2⟩
   go_wp2
   go_ret
   exact ⟨ret_int HC'.out.symm,((hb0 _).trans (Dr.below ⟨_,rfl⟩ _)).trans (hb2.mono (by simp))⟩
 ·by_cases ht:tm<0∨1000000000000<tm
  ·have HC':Hid (_=_):=evCode3 id sd ty key val _ tm np na ng Pv Av M L h1 h2 h3 hk ht
   by_cases ht1:tm<0
   ·go_enter Tryz.func31,Tryz.ntmps31
    go_wp2_with (go_at_call 49;refine (word_any _ _ (by assumption)).mono ?_;rintro e w' ⟨rfl,rfl⟩)
    go_ret
    exact ⟨ret_int HC'.out.symm,hb0 _⟩
   ·have ht2:1000000000000<tm:=by omega
    go_enter Tryz.func31,Tryz.ntmps31
    go_wp2_with (go_at_call 49;refine (word_any _ _ (by assumption)).mono ?_;rintro e w' ⟨rfl,rfl⟩)
    go_ret
    exact ⟨ret_int HC'.out.symm,hb0 _⟩
  have ht1:¬ tm<0:=by omega
  have ht2:¬ 1000000000000<tm:=by omega
  cases hr1:refsB Pv np id
  ·have HC':Hid (_=_):=evCode4 id sd ty key val _ tm np na ng Pv Av M L h1 h2 h3 hk ht (Or.inl hr1)
   clear hk ht
   go_enter Tryz.func31,Tryz.ntmps31
   go_wp2_with (go_at_call 49;refine (word_any _ _ (by assumption)).mono ?_;rintro e w' ⟨rfl,rfl⟩)
   refine (refsS_sl id _ (hp.below (hb0 _))).mono ?_
   rintro e w' ⟨rfl,hdr⟩
   go_wp2
   go_ret
   exact ⟨ret_int HC'.out.symm,(hb0 _).trans (hdr.below _)⟩
  cases hr2:refsB Av na id
  ·have HC':Hid (_=_):=evCode4 id sd ty key val _ tm np na ng Pv Av M L h1 h2 h3 hk ht (Or.inr hr2)
   clear hk ht
   go_enter Tryz.func31,Tryz.ntmps31
   go_wp2_with (go_at_call 49;refine (word_any _ _ (by assumption)).mono ?_;rintro e w' ⟨rfl,rfl⟩)
   refine (refsS_sl id _ (hp.below (hb0 _))).mono ?_
   rintro e w' ⟨rfl,q1,rfl⟩
   go_wp2_with fail
   refine (refsS_sl id _ (ha.below ((hb0 _).trans (Dr.below ⟨_,rfl⟩ _)))).mono ?_
   rintro e w' ⟨rfl,hdr⟩
   go_wp2
   go_ret
   exact ⟨ret_int HC'.out.symm,((hb0 _).trans (Dr.below ⟨_,rfl⟩ _)).trans (hdr.below _)⟩
  cases hct:ctB ty key val st np na ng M L
  ·have HC':Hid (_=_):=evCode5 id sd ty key val _ tm np na ng Pv Av M L h1 h2 h3 hk ht hr1 hr2 hct
   clear hk ht
   go_enter Tryz.func31,Tryz.ntmps31
   go_wp2_with (go_at_call 49;refine (word_any _ _ (by assumption)).mono ?_;rintro e w' ⟨rfl,rfl⟩)
   refine (refsS_sl id _ (hp.below (hb0 _))).mono ?_
   rintro e w' ⟨rfl,q1,rfl⟩
   go_wp2_with fail
   refine (refsS_sl id _ (ha.below ((hb0 _).trans (Dr.below ⟨_,rfl⟩ _)))).mono ?_
   rintro e w' ⟨rfl,q2,rfl⟩
   go_wp2_with fail
   refine (contS_any id sd ty key val _ tm pa np cp aa na ca ga ng cg M L _ hval (hg.below ((hb0 _).trans (Dr.below ⟨_,rfl⟩ _)))).mono ?_
   rintro e w' ⟨rfl,hb2⟩
   go_wp2
   go_ret
   exact ⟨ret_int HC'.out.symm,((hb0 _).trans (Dr.below ⟨_,rfl⟩ _)).trans (hb2.mono (by simp))⟩
  ·have HC':Hid (_=_):=evCode0 id sd ty key val _ tm np na ng Pv Av M L h1 h2 h3 hk ht hr1 hr2 hct
   clear hk ht
   go_enter Tryz.func31,Tryz.ntmps31
   go_wp2_with (go_at_call 49;refine (word_any _ _ (by assumption)).mono ?_;rintro e w' ⟨rfl,rfl⟩)
   refine (refsS_sl id _ (hp.below (hb0 _))).mono ?_
   rintro e w' ⟨rfl,q1,rfl⟩
   go_wp2_with fail
   refine (refsS_sl id _ (ha.below ((hb0 _).trans (Dr.below ⟨_,rfl⟩ _)))).mono ?_
   rintro e w' ⟨rfl,q2,rfl⟩
   go_wp2_with fail
   refine (contS_any id sd ty key val _ tm pa np cp aa na ca ga ng cg M L _ hval (hg.below ((hb0 _).trans (Dr.below ⟨_,rfl⟩ _)))).mono ?_
   rintro e w' ⟨rfl,hb2⟩
   go_wp2
   go_ret
   exact ⟨ret_int HC'.out.symm,((hb0 _).trans (Dr.below ⟨_,rfl⟩ _)).trans (hb2.mono (by simp))⟩
end
end Go.Proofs.YtnbdlaglnefcbaaGreat
