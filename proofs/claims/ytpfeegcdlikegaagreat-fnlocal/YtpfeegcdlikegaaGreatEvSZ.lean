import Derived.Test.YtpfeegcdlikegaaGreatZeroSZ
set_option maxHeartbeats 16000000
set_option maxRecDepth 100000
namespace Go.Proofs.YtpfeegcdlikegaaGreat
open Go.RowKit
section
variable (id sd ty key val:ByteArray) (st:Bool) (tm:Int) (pa:Option Addr) (np cp:Nat) (aa:Option Addr) (na ca:Nat) (ga:Option Addr) (ng cg:Nat) (Pv Av M:Nat->ByteArray) (L:Nat->Int) (w:World)
theorem IM (h:cU id=false∨cU sd=false∨cU ty=false):bF id sd ty key val st tm np na ng Pv Av M L=1:=by
 rw [bF,if_pos h]
theorem IJ (u:cU id=true)(H:cU sd=true)(G:cU ty=true)(h:key.toList.isEmpty=false∧(st=false∨cU key=false)):bF id sd ty key val st tm np na ng Pv Av M L=2:=by
 rw [bF,if_neg (by simp [u,H,G]),if_pos h]
theorem xO (H:cU id=true)(I:cU sd=true)(u:cU ty=true)(h:¬ (key.toList.isEmpty=false∧(st=false∨cU key=false)))(G:tm<0∨1000000000000<tm):bF id sd ty key val st tm np na ng Pv Av M L=3:=by
 rw [bF,if_neg (by simp [H,I,u]),if_neg h,if_pos G]
theorem mF (H:cU id=true)(I:cU sd=true)(u:cU ty=true)(h:¬ (key.toList.isEmpty=false∧(st=false∨cU key=false)))(G:¬ (tm<0∨1000000000000<tm))
  (hr:cG Pv np id=false∨cG Av na id=false):bF id sd ty key val st tm np na ng Pv Av M L=4:=by
 rw [bF,if_neg (by simp [H,I,u]),if_neg h,if_neg G,if_pos hr]
theorem wL (J:cU id=true)(N:cU sd=true)(I:cU ty=true)(h:¬ (key.toList.isEmpty=false∧(st=false∨cU key=false)))(H:¬ (tm<0∨1000000000000<tm))
  (G:cG Pv np id=true) (u:cG Av na id=true) (O:kT ty key val st np na ng M L=false):bF id sd ty key val st tm np na ng Pv Av M L=5:=by
 rw [bF,if_neg (by simp [J,N,I]),if_neg h,if_neg H,if_neg (by simp [G,u]),if_pos O]
theorem xZ (J:cU id=true)(N:cU sd=true)(I:cU ty=true)(h:¬ (key.toList.isEmpty=false∧(st=false∨cU key=false)))(H:¬ (tm<0∨1000000000000<tm))
  (G:cG Pv np id=true) (u:cG Av na id=true) (O:kT ty key val st np na ng M L=true):bF id sd ty key val st tm np na ng Pv Av M L=0:=by
 rw [bF,if_neg (by simp [J,N,I]),if_neg h,if_neg H,if_neg (by simp [G,u]),if_neg (by simp [O])]
theorem wW (hid:id.size<=maxLen)(hsd:sd.size<=maxLen)(hty:ty.size<=maxLen)(hkey:key.size<=maxLen)(hval:val.size<=maxLen)
  (hp:dE w pa np cp Pv) (ha:dE w aa na ca Av) (hg:gN w ga ng cg M L) :
  Calls Tryz.prog 13 #[DA id sd ty key val st tm pa np cp aa na ca ga ng cg] w fun e w' =>
   e=.returned (.int .i64 (bF id sd ty key val st tm np na ng Pv Av M L))∧Below w.heap.size w w':=by
 have u:∀ o,Below w.heap.size w (w.alloc o):=fun o=>bA
 by_cases hw:cU id=false∨cU sd=false∨cU ty=false
 ·have HC:=IM id sd ty key val st tm np na ng Pv Av M L hw
  have G:He (_=_):=HC;clear HC;cases O:cU id
  ·go_enter Tryz.func13,Tryz.ntmps13
   go_wp2_with (go_at_call 40;refine (aW _ _ (by assumption)).mono ?_;rintro e w' ⟨rfl,rfl⟩)
   go_ret;exact ⟨aA G.o.symm,u _⟩
  cases U:cU sd
  ·go_enter Tryz.func13,Tryz.ntmps13
   go_wp2_with (go_at_call 40;refine (aW _ _ (by assumption)).mono ?_;rintro e w' ⟨rfl,rfl⟩)
   go_ret;exact ⟨aA G.o.symm,u _⟩
  have Y:cU ty=false:=by simpa [O,U] using hw
  go_enter Tryz.func13,Tryz.ntmps13
  go_wp2_with (go_at_call 40;refine (aW _ _ (by assumption)).mono ?_;rintro e w' ⟨rfl,rfl⟩)
  go_ret;exact ⟨aA G.o.symm,u _⟩
 have O:cU id=true:=by simpa using fun h=>hw (Or.inl h)
 have U:cU sd=true:=by simpa using fun h=>hw (Or.inr (Or.inl h))
 have Y:cU ty=true:=by simpa using fun h=>hw (Or.inr (Or.inr h))
 clear hw
 by_cases H:key.toList.isEmpty=false∧(st=false∨cU key=false)
 ·have G:He (_=_):=IJ id sd ty key val st tm np na ng Pv Av M L O U Y H
  obtain ⟨ai,ae⟩:=H;cases st
  ·go_enter Tryz.func13,Tryz.ntmps13
   go_wp2_with (go_at_call 40;refine (aW _ _ (by assumption)).mono ?_;rintro e w' ⟨rfl,rfl⟩)
   go_ret;exact ⟨aA G.o.symm,u _⟩
  have af:cU key=false:=by simpa using ae
  clear ae
  go_enter Tryz.func13,Tryz.ntmps13
  go_wp2_with (go_at_call 40;refine (aW _ _ (by assumption)).mono ?_;rintro e w' ⟨rfl,rfl⟩)
  go_ret;exact ⟨aA G.o.symm,u _⟩
 cases hke:key.toList.isEmpty
 ·have af:st=true∧cU key=true:=by
   constructor
   ·simpa using fun h=>H ⟨hke,Or.inl h⟩
   simpa using fun h=>H ⟨hke,Or.inr h⟩
  obtain ⟨rfl,aj⟩:=af
  by_cases I:tm<0∨1000000000000<tm
  ·have G:He (_=_):=xO id sd ty key val _ tm np na ng Pv Av M L O U Y H I
   by_cases ab:tm<0
   ·go_enter Tryz.func13,Tryz.ntmps13
    go_wp2_with (go_at_call 40;refine (aW _ _ (by assumption)).mono ?_;rintro e w' ⟨rfl,rfl⟩)
    go_ret;exact ⟨aA G.o.symm,u _⟩
   have Z:1000000000000<tm:=by omega
   go_enter Tryz.func13,Tryz.ntmps13
   go_wp2_with (go_at_call 40;refine (aW _ _ (by assumption)).mono ?_;rintro e w' ⟨rfl,rfl⟩)
   go_ret;exact ⟨aA G.o.symm,u _⟩
  have ab:¬ tm<0:=by omega
  have Z:¬ 1000000000000<tm:=by omega
  cases hr1:cG Pv np id
  ·have G:He (_=_):=mF id sd ty key val _ tm np na ng Pv Av M L O U Y H I (Or.inl hr1)
   clear H I
   go_enter Tryz.func13,Tryz.ntmps13
   go_wp2_with (go_at_call 40;refine (aW _ _ (by assumption)).mono ?_;rintro e w' ⟨rfl,rfl⟩)
   refine (dH id _ (hp.below (u _))).mono ?_;rintro e w' ⟨rfl,J⟩;go_wp2
   go_ret;exact ⟨aA G.o.symm,(u _).trans (J.below _)⟩
  cases hr2:cG Av na id
  ·have G:He (_=_):=mF id sd ty key val _ tm np na ng Pv Av M L O U Y H I (Or.inr hr2)
   clear H I
   go_enter Tryz.func13,Tryz.ntmps13
   go_wp2_with (go_at_call 40;refine (aW _ _ (by assumption)).mono ?_;rintro e w' ⟨rfl,rfl⟩)
   refine (dH id _ (hp.below (u _))).mono ?_;rintro e w' ⟨rfl,q1,rfl⟩
   go_wp2_with fail
   refine (dH id _ (ha.below ((u _).trans (Dr.below ⟨_,rfl⟩ _)))).mono ?_;rintro e w' ⟨rfl,J⟩;go_wp2
   go_ret;exact ⟨aA G.o.symm,((u _).trans (Dr.below ⟨_,rfl⟩ _)).trans (J.below _)⟩
  cases hct:kT ty key val true np na ng M L
  ·have G:He (_=_):=wL id sd ty key val _ tm np na ng Pv Av M L O U Y H I hr1 hr2 hct
   clear H I
   go_enter Tryz.func13,Tryz.ntmps13
   go_wp2_with (go_at_call 40;refine (aW _ _ (by assumption)).mono ?_;rintro e w' ⟨rfl,rfl⟩)
   refine (dH id _ (hp.below (u _))).mono ?_;rintro e w' ⟨rfl,q1,rfl⟩
   go_wp2_with fail
   refine (dH id _ (ha.below ((u _).trans (Dr.below ⟨_,rfl⟩ _)))).mono ?_;rintro e w' ⟨rfl,q2,rfl⟩
   go_wp2_with fail
   refine (mH id sd ty key val _ tm pa np cp aa na ca ga ng cg M L _ hval (hg.below ((u _).trans (Dr.below ⟨_,rfl⟩ _)))).mono ?_;rintro e w' ⟨rfl,N⟩;go_wp2
   go_ret;exact ⟨aA G.o.symm,((u _).trans (Dr.below ⟨_,rfl⟩ _)).trans (N.mono (by simp))⟩
  have G:He (_=_):=xZ id sd ty key val _ tm np na ng Pv Av M L O U Y H I hr1 hr2 hct;clear H I
  go_enter Tryz.func13,Tryz.ntmps13
  go_wp2_with (go_at_call 40;refine (aW _ _ (by assumption)).mono ?_;rintro e w' ⟨rfl,rfl⟩)
  refine (dH id _ (hp.below (u _))).mono ?_;rintro e w' ⟨rfl,q1,rfl⟩
  go_wp2_with fail
  refine (dH id _ (ha.below ((u _).trans (Dr.below ⟨_,rfl⟩ _)))).mono ?_;rintro e w' ⟨rfl,q2,rfl⟩
  go_wp2_with fail
  refine (mH id sd ty key val _ tm pa np cp aa na ca ga ng cg M L _ hval (hg.below ((u _).trans (Dr.below ⟨_,rfl⟩ _)))).mono ?_;rintro e w' ⟨rfl,N⟩;go_wp2
  go_ret;exact ⟨aA G.o.symm,((u _).trans (Dr.below ⟨_,rfl⟩ _)).trans (N.mono (by simp))⟩
 by_cases I:tm<0∨1000000000000<tm
 ·have G:He (_=_):=xO id sd ty key val _ tm np na ng Pv Av M L O U Y H I
  by_cases ab:tm<0
  ·go_enter Tryz.func13,Tryz.ntmps13
   go_wp2_with (go_at_call 40;refine (aW _ _ (by assumption)).mono ?_;rintro e w' ⟨rfl,rfl⟩)
   go_ret;exact ⟨aA G.o.symm,u _⟩
  have Z:1000000000000<tm:=by omega
  go_enter Tryz.func13,Tryz.ntmps13
  go_wp2_with (go_at_call 40;refine (aW _ _ (by assumption)).mono ?_;rintro e w' ⟨rfl,rfl⟩)
  go_ret;exact ⟨aA G.o.symm,u _⟩
 have ab:¬ tm<0:=by omega
 have Z:¬ 1000000000000<tm:=by omega
 cases hr1:cG Pv np id
 ·have G:He (_=_):=mF id sd ty key val _ tm np na ng Pv Av M L O U Y H I (Or.inl hr1)
  clear H I
  go_enter Tryz.func13,Tryz.ntmps13
  go_wp2_with (go_at_call 40;refine (aW _ _ (by assumption)).mono ?_;rintro e w' ⟨rfl,rfl⟩)
  refine (dH id _ (hp.below (u _))).mono ?_;rintro e w' ⟨rfl,J⟩;go_wp2
  go_ret;exact ⟨aA G.o.symm,(u _).trans (J.below _)⟩
 cases hr2:cG Av na id
 ·have G:He (_=_):=mF id sd ty key val _ tm np na ng Pv Av M L O U Y H I (Or.inr hr2)
  clear H I
  go_enter Tryz.func13,Tryz.ntmps13
  go_wp2_with (go_at_call 40;refine (aW _ _ (by assumption)).mono ?_;rintro e w' ⟨rfl,rfl⟩)
  refine (dH id _ (hp.below (u _))).mono ?_;rintro e w' ⟨rfl,q1,rfl⟩
  go_wp2_with fail
  refine (dH id _ (ha.below ((u _).trans (Dr.below ⟨_,rfl⟩ _)))).mono ?_;rintro e w' ⟨rfl,J⟩;go_wp2
  go_ret;exact ⟨aA G.o.symm,((u _).trans (Dr.below ⟨_,rfl⟩ _)).trans (J.below _)⟩
 cases hct:kT ty key val st np na ng M L
 ·have G:He (_=_):=wL id sd ty key val _ tm np na ng Pv Av M L O U Y H I hr1 hr2 hct
  clear H I
  go_enter Tryz.func13,Tryz.ntmps13
  go_wp2_with (go_at_call 40;refine (aW _ _ (by assumption)).mono ?_;rintro e w' ⟨rfl,rfl⟩)
  refine (dH id _ (hp.below (u _))).mono ?_;rintro e w' ⟨rfl,q1,rfl⟩
  go_wp2_with fail
  refine (dH id _ (ha.below ((u _).trans (Dr.below ⟨_,rfl⟩ _)))).mono ?_;rintro e w' ⟨rfl,q2,rfl⟩
  go_wp2_with fail
  refine (mH id sd ty key val _ tm pa np cp aa na ca ga ng cg M L _ hval (hg.below ((u _).trans (Dr.below ⟨_,rfl⟩ _)))).mono ?_;rintro e w' ⟨rfl,N⟩;go_wp2
  go_ret;exact ⟨aA G.o.symm,((u _).trans (Dr.below ⟨_,rfl⟩ _)).trans (N.mono (by simp))⟩
 have G:He (_=_):=xZ id sd ty key val _ tm np na ng Pv Av M L O U Y H I hr1 hr2 hct;clear H I
 go_enter Tryz.func13,Tryz.ntmps13
 go_wp2_with (go_at_call 40;refine (aW _ _ (by assumption)).mono ?_;rintro e w' ⟨rfl,rfl⟩)
 refine (dH id _ (hp.below (u _))).mono ?_;rintro e w' ⟨rfl,q1,rfl⟩
 go_wp2_with fail
 refine (dH id _ (ha.below ((u _).trans (Dr.below ⟨_,rfl⟩ _)))).mono ?_;rintro e w' ⟨rfl,q2,rfl⟩
 go_wp2_with fail
 refine (mH id sd ty key val _ tm pa np cp aa na ca ga ng cg M L _ hval (hg.below ((u _).trans (Dr.below ⟨_,rfl⟩ _)))).mono ?_;rintro e w' ⟨rfl,N⟩;go_wp2
 go_ret;exact ⟨aA G.o.symm,((u _).trans (Dr.below ⟨_,rfl⟩ _)).trans (N.mono (by simp))⟩
end
section
variable (id sd ty key val:ByteArray) (st:Bool) (tm:Int) (pa:Option Addr) (np cp:Nat) (aa:Option Addr) (na ca:Nat) (ga:Option Addr) (ng cg:Nat) (Pv Av M:Nat->ByteArray) (L:Nat->Int) (w:World)
theorem cH (uM:Nat)(w:World)(hid:id.size<=maxLen)(hsd:sd.size<=maxLen)(hty:ty.size<=maxLen)(u:uM=w.heap.size) :
  Calls Tryz.prog 55 #[.slice (some ⟨uM,0,none⟩) 3 3] (w.alloc (.cells #[.string id,.string sd,.string ty] 9)) fun e w' =>
   e=.returned (.bool (cU id && cU sd && cU ty))∧w'=w.alloc (.cells #[.string id,.string sd,.string ty] 9):=by
 have:=iE uM 0 3 3 (fun i=>[id,sd,ty].getD i ByteArray.empty) (w.alloc (.cells #[.string id,.string sd,.string ty] 9)) (by decide)
  (fun i hi=>by
   match i,hi with
   | 0,_=>exact hid
   | 1,_=>exact hsd
   | 2,_=>exact hty)
  (fun i hi=>by
   rw [Nat.zero_add,kA u]
   match i,hi with
   | 0,_=>rfl
   | 1,_=>rfl
   | 2,_=>rfl)
 simpa [uE] using this
theorem AF (rf : Int) (W : World) : (method 327 146 (.agg #[.bool st, .string key, .string val, .slice ga ng cg, .int .i64 rf]) "loop.example/s01366/impl.fits").run Tryz.prog W = .ok (199, .agg #[.bool st, .string key, .string val, .slice ga ng cg, .int .i64 rf]) W := by kernel_rfl
theorem zO (W : World) : (method 327 148 (.agg #[.bool st, .string key, .string val, .slice ga ng cg]) "loop.example/s01366/impl.fits").run Tryz.prog W = .ok (201, .agg #[.bool st, .string key, .string val, .slice ga ng cg]) W := by kernel_rfl
theorem DY (W : World) : (method 327 149 (.agg #[.bool st, .string key, .string val, .slice ga ng cg]) "loop.example/s01366/impl.fits").run Tryz.prog W = .ok (202, .agg #[.bool st, .string key, .string val, .slice ga ng cg]) W := by kernel_rfl
theorem FC (W : World) : (method 327 150 (.agg #[.bool st, .string key, .string val, .slice ga ng cg]) "loop.example/s01366/impl.fits").run Tryz.prog W = .ok (203, .agg #[.bool st, .string key, .string val, .slice ga ng cg]) W := by kernel_rfl
theorem EW (W : World) : (method 327 151 (.agg #[.bool st, .string key, .string val, .slice ga ng cg]) "loop.example/s01366/impl.fits").run Tryz.prog W = .ok (206, .agg #[.bool st, .string key, .string val, .slice ga ng cg]) W := by kernel_rfl
theorem ER (hnp:np<=10)(hna:na<=10)(hval:val.size<=maxLen) :
  ∃ (T:TypeId) (v:Value) (f:FuncId),
   (∀ w:World,Calls Tryz.prog 58 #[DA id sd ty key val st tm pa np cp aa na ca ga ng cg] w fun e w'=>e=.returned (.iface T v)∧Below w.heap.size w w') ∧
   (∀ W, (method 327 T v "loop.example/s01366/impl.fits").run Tryz.prog W = .ok (f, v) W) ∧
   (∀ W,(callFunc f #[v]).run Tryz.prog W=.ok (.enter f #[v]) W) ∧
   (∀ W,gN W ga ng cg M L->Calls Tryz.prog f #[v] W fun e w'=>e=.returned (.bool (kT ty key val st np na ng M L))∧Below W.heap.size W w'):=by
 cases h1:(ty.toList == [99,114,101,97,116,101])
 ·cases h2:(ty.toList == [109,101,109,98,101,114])
  ·cases h3:(ty.toList == [106,111,105,110,95,114,117,108,101,115])
   ·cases h4:(ty.toList == [112,111,119,101,114])
    ·refine ⟨_,_,_,fun w=>xE id sd ty key val st tm pa np cp aa na ca ga ng cg w h1 h2 h3 h4,EW key val st ga ng cg,fun W=>by kernel_rfl,fun W _=>?_⟩
     rw [kT,h1,h2,h3,h4];exact CI key val st ga ng cg W hval
    refine ⟨_,_,_,fun w=>xA id sd ty key val st tm pa np cp aa na ca ga ng cg w h1 h2 h3 h4,FC key val st ga ng cg,fun W=>by kernel_rfl,fun W hg=>?_⟩;rw [kT,h1,h2,h3,h4];exact DN key val st ga ng cg M L W hg
   refine ⟨_,_,_,fun w=>wH id sd ty key val st tm pa np cp aa na ca ga ng cg w h1 h2 h3,DY key val st ga ng cg,fun W=>by kernel_rfl,fun W _=>?_⟩;rw [kT,h1,h2,h3];exact CY key val st ga ng cg W
  refine ⟨_,_,_,fun w=>uH id sd ty key val st tm pa np cp aa na ca ga ng cg w h1 h2,zO key val st ga ng cg,fun W=>by kernel_rfl,fun W _=>?_⟩;rw [kT,h1,h2];exact zK key val st ga ng cg W
 refine ⟨_,_,_,fun w=>uL id sd ty key val st tm pa np cp aa na ca ga ng cg w h1 hnp hna,AF key val st ga ng cg _,fun W=>by kernel_rfl,fun W _=>?_⟩
 have e:kT ty key val st np na ng M L=(st && key.toList.isEmpty && ng == 0 && (((np:Int)+na) == 0) && val.toList.isEmpty):=by
  rw [kT,h1,if_pos rfl]
  have:(((np:Int)+na) == 0)=(np == 0 && na == 0):=by rw [Bool.eq_iff_iff];simp;omega
  rw [this];simp only [Bool.and_assoc]
 rw [e];exact yT key val st ga ng cg W _
theorem AM (S:Nat->ByteArray)(n:Nat)(x:ByteArray)(h:cG S n x=true):n<=10:=by
 simp [cG] at h;exact h.1
theorem wM (hid:id.size<=maxLen)(hsd:sd.size<=maxLen)(hty:ty.size<=maxLen)(hkey:key.size<=maxLen)(hval:val.size<=maxLen)
  (hp:dE w pa np cp Pv) (ha:dE w aa na ca Av) (hg:gN w ga ng cg M L) :
  Calls Tryz.prog 18 #[DA id sd ty key val st tm pa np cp aa na ca ga ng cg] w fun e w' =>
   e=.returned (.int .i64 (bF id sd ty key val st tm np na ng Pv Av M L))∧Below w.heap.size w w':=by
 have U:∀ o,Below w.heap.size w (w.alloc o):=fun o=>bA
 cases hw:(cU id && cU sd && cU ty)
 ·have J:He (_=_):=IM id sd ty key val st tm np na ng Pv Av M L (by cases h1:cU id <;> cases h2:cU sd <;> cases h3:cU ty <;> simp [h1,h2,h3] at hw ⊢)
  go_enter Tryz.func18,Tryz.ntmps18
  go_wp2_with fail
  refine (cH id sd ty _ _ hid hsd hty (by simp)).mono ?_;rintro e w' ⟨rfl,rfl⟩;go_wp2
  go_ret;exact ⟨aA J.o.symm,(U _).alloc (by simp) _⟩
 have G:cU id=true∧cU sd=true∧cU ty=true:=by simpa [Bool.and_eq_true,and_assoc] using hw
 cases hk:CG st key
 ·have J:He (_=_):=IJ id sd ty key val st tm np na ng Pv Av M L G.1 G.2.1 G.2.2 (by cases h1:key.toList.isEmpty <;> cases h2:cU key <;> cases st <;> simp [CG,h1,h2] at hk ⊢)
  clear G
  go_enter Tryz.func18,Tryz.ntmps18
  go_wp2_with fail
  refine (cH id sd ty _ _ hid hsd hty (by simp)).mono ?_;rintro e w' ⟨rfl,rfl⟩
  go_wp2_with fail
  refine (gI st key _ hkey).mono ?_;rintro e w1 ⟨rfl,I⟩;have H:=gK I;have Z:=aK H;have u:=(U _).trans (H.mono (by simp));clear I;go_wp2
  go_ret;exact ⟨aA J.o.symm,u⟩
 have N:¬ (key.toList.isEmpty=false∧(st=false∨cU key=false)):=by
  rintro ⟨a,b⟩;rw [CG,a] at hk;rcases b with b|b <;> simp [b] at hk
 by_cases ht:tm<0∨1000000000000<tm
 ·have J:He (_=_):=xO id sd ty key val st tm np na ng Pv Av M L G.1 G.2.1 G.2.2 N ht
  clear G N
  by_cases ag:tm<0
  ·clear ht
   go_enter Tryz.func18,Tryz.ntmps18
   go_wp2_with fail
   refine (cH id sd ty _ _ hid hsd hty (by simp)).mono ?_;rintro e w' ⟨rfl,rfl⟩
   go_wp2_with fail
   refine (gI st key _ hkey).mono ?_;rintro e w1 ⟨rfl,I⟩;have H:=gK I;have Z:=aK H;have u:=(U _).trans (H.mono (by simp));clear I;go_wp2
   go_ret;exact ⟨aA J.o.symm,u⟩
  have af:1000000000000<tm:=by omega
  clear ht
  go_enter Tryz.func18,Tryz.ntmps18
  go_wp2_with fail
  refine (cH id sd ty _ _ hid hsd hty (by simp)).mono ?_;rintro e w' ⟨rfl,rfl⟩
  go_wp2_with fail
  refine (gI st key _ hkey).mono ?_;rintro e w1 ⟨rfl,I⟩;have H:=gK I;have Z:=aK H;have u:=(U _).trans (H.mono (by simp));clear I;go_wp2
  go_ret;exact ⟨aA J.o.symm,u⟩
 have ag:¬ tm<0:=by omega
 have af:¬ 1000000000000<tm:=by omega
 cases hr1:cG Pv np id
 ·have J:He (_=_):=mF id sd ty key val st tm np na ng Pv Av M L G.1 G.2.1 G.2.2 N ht (Or.inl hr1)
  clear G N ht
  go_enter Tryz.func18,Tryz.ntmps18
  go_wp2_with fail
  refine (cH id sd ty _ _ hid hsd hty (by simp)).mono ?_;rintro e w' ⟨rfl,rfl⟩
  go_wp2_with fail
  refine (gI st key _ hkey).mono ?_;rintro e w1 ⟨rfl,I⟩;have H:=gK I;have Z:=aK H;have u:=(U _).trans (H.mono (by simp));clear I
  go_wp2_with fail
  refine (iV id _ (hp.below u)).mono ?_;rintro e w' ⟨rfl,rfl⟩;go_wp2
  go_ret;exact ⟨aA J.o.symm,u⟩
 cases hr2:cG Av na id
 ·have J:He (_=_):=mF id sd ty key val st tm np na ng Pv Av M L G.1 G.2.1 G.2.2 N ht (Or.inr hr2)
  clear G N ht
  go_enter Tryz.func18,Tryz.ntmps18
  go_wp2_with fail
  refine (cH id sd ty _ _ hid hsd hty (by simp)).mono ?_;rintro e w' ⟨rfl,rfl⟩
  go_wp2_with fail
  refine (gI st key _ hkey).mono ?_;rintro e w1 ⟨rfl,I⟩;have H:=gK I;have Z:=aK H;have u:=(U _).trans (H.mono (by simp));clear I
  go_wp2_with fail
  refine (iV id _ (hp.below u)).mono ?_;rintro e w' ⟨rfl,rfl⟩
  go_wp2_with fail
  refine (iV id _ (ha.below u)).mono ?_;rintro e w' ⟨rfl,rfl⟩;go_wp2
  go_ret;exact ⟨aA J.o.symm,u⟩
 obtain ⟨T,v,f,ab,ai,ah,O⟩:=ER id sd ty key val st tm pa np cp aa na ca ga ng cg M L (AM _ _ _ hr1) (AM _ _ _ hr2) hval;cases hct:kT ty key val st np na ng M L
 ·have J:He (_=_):=wL id sd ty key val st tm np na ng Pv Av M L G.1 G.2.1 G.2.2 N ht hr1 hr2 hct
  clear G N ht;rw [hct] at O
  go_enter Tryz.func18,Tryz.ntmps18
  go_wp2_with fail
  refine (cH id sd ty _ _ hid hsd hty (by simp)).mono ?_;rintro e w' ⟨rfl,rfl⟩
  go_wp2_with fail
  refine (gI st key _ hkey).mono ?_;rintro e w1 ⟨rfl,I⟩;have H:=gK I;have Z:=aK H;have u:=(U _).trans (H.mono (by simp));clear I
  go_wp2_with fail
  refine (iV id _ (hp.below u)).mono ?_;rintro e w' ⟨rfl,rfl⟩
  go_wp2_with fail
  refine (iV id _ (ha.below u)).mono ?_;rintro e w' ⟨rfl,rfl⟩
  go_wp2_with fail
  refine (ab _).mono ?_;rintro e w2 ⟨rfl,Y⟩
  go_wp2_with fail
  refine (O _ (hg.below (u.trans (Y.mono u.size)))).mono ?_;rintro e w3 ⟨rfl,ae⟩;go_wp2
  go_ret;exact ⟨aA J.o.symm,(u.trans (Y.mono u.size)).trans (ae.mono (nZ u.size Y.size))⟩
 have J:He (_=_):=xZ id sd ty key val st tm np na ng Pv Av M L G.1 G.2.1 G.2.2 N ht hr1 hr2 hct;clear G N ht;rw [hct] at O
 go_enter Tryz.func18,Tryz.ntmps18
 go_wp2_with fail
 refine (cH id sd ty _ _ hid hsd hty (by simp)).mono ?_;rintro e w' ⟨rfl,rfl⟩
 go_wp2_with fail
 refine (gI st key _ hkey).mono ?_;rintro e w1 ⟨rfl,I⟩;have H:=gK I;have Z:=aK H;have u:=(U _).trans (H.mono (by simp));clear I
 go_wp2_with fail
 refine (iV id _ (hp.below u)).mono ?_;rintro e w' ⟨rfl,rfl⟩
 go_wp2_with fail
 refine (iV id _ (ha.below u)).mono ?_;rintro e w' ⟨rfl,rfl⟩
 go_wp2_with fail
 refine (ab _).mono ?_;rintro e w2 ⟨rfl,Y⟩
 go_wp2_with fail
 refine (O _ (hg.below (u.trans (Y.mono u.size)))).mono ?_;rintro e w3 ⟨rfl,ae⟩;go_wp2
 go_ret;exact ⟨aA J.o.symm,(u.trans (Y.mono u.size)).trans (ae.mono (nZ u.size Y.size))⟩
end
end Go.Proofs.YtpfeegcdlikegaaGreat
namespace Go.Proofs.YtpfeegcdlikegaaGreat
open Go.RowKit Go.Maps Go.ChangeMaps
theorem MK (m n:Nat)(Kn:ByteArray->Bool)(V:ByteArray->Int)(size:Nat)(e:Ev)(pa:Option Addr)(cp:Nat)(aa:Option Addr)(ca:Nat)(ga:Option Addr)(cg:Nat)(w:World)
  (hm:cY w m n Kn V) (U:cI w e pa cp aa ca ga cg) :
  Calls Tryz.prog 53 #[.map (some m),.int .i64 size,e.val' pa cp aa ca ga cg] w fun x w'=>x=.returned (.int .i64 (iH Kn size e))∧Below w.heap.size w w':=by
 have u:Below w.heap.size w (w.alloc (.cells (YD e pa cp aa ca ga cg) 30)):=bA
 go_enter Tryz.func53,Tryz.ntmps53
 go_wp2_with fail
 refine (wM e.id e.sd e.ty e.key e.val e.st e.tm pa e.np cp aa e.na ca ga e.ng cg e.Pv e.Av e.M e.L _ U.hid U.hsd U.hty U.hkey U.hval (U.hp.below u) (U.ha.below u) (U.hg.below u)).mono ?_;rintro x w1 ⟨rfl,ap⟩;have O:Below (w.heap.size+1) (w.alloc (.cells (YD e pa cp aa ca ga cg) 30)) w1:=ap.mono (by simp);have af:=u.trans (O.mono (by omega));have G:=aK O;clear ap
 by_cases Z:e.code=0
 ·obtain ⟨aq,a2⟩:=mP Z
  have ax:bF e.id e.sd e.ty e.key e.val e.st e.tm e.np e.na e.ng e.Pv e.Av e.M e.L=0:=Z
  go_wp2_with fail
  have H:Below w1.heap.size w1 (w1.alloc (.cells #[.string e.id] 9)):=bA
  have an:dE (w1.alloc (.cells #[.string e.id] 9)) (some ⟨w1.heap.size,0,none⟩) 1 1 (fun _=>e.id) :=
   ⟨nL,by decide,fun _ _=>U.hid,Or.inr ⟨_,0,rfl,by simp,fun i hi=>by
    have:i=0:=by omega
    subst this;exact kA rfl⟩⟩
  refine (sB _ ((hm.below af).below H) (by decide) an).mono ?_;rintro x w2 ⟨rfl,ai⟩;have aj:bW Kn (fun _=>e.id) 1=Kn e.id:=by simp [bW]
  rw [aj];have ae:=H.trans (ai.mono H.size);have Y:=O.trans (ae.mono (by simpa using O.size));have ab:=u.trans (Y.mono (by omega));clear G O af H an ai ae aj ax;have G:=aK Y;cases h6:Kn e.id
  case true =>
   have I:He (6=iH Kn size e):=(ZG Z h6).symm;go_wp2
   go_ret;exact ⟨aA I.o,ab⟩
  go_wp2_with fail
  refine (sB _ (hm.below ab) (by omega) (U.hp.below ab)).mono ?_;rintro x w3 ⟨rfl,ah⟩;have N:=Y.trans (ah.mono (by simpa using Y.size));have ad:=u.trans (N.mono (by omega));clear G Y ab ah;have G:=aK N;cases h7:bW Kn e.Pv e.np
  case false =>
   have I:He (7=iH Kn size e):=(UG Z h6 (Or.inl h7)).symm;go_wp2
   go_ret;exact ⟨aA I.o,ad⟩
  go_wp2_with fail
  refine (sB _ (hm.below ad) (by omega) (U.ha.below ad)).mono ?_;rintro x w4 ⟨rfl,am⟩;have J:=N.trans (am.mono (by simpa using N.size));have ao:=u.trans (J.mono (by omega));clear G N ad am;have G:=aK J;cases h7':bW Kn e.Av e.na
  case false =>
   have I:He (7=iH Kn size e):=(UG Z h6 (Or.inr h7')).symm;go_wp2
   go_ret;exact ⟨aA I.o,ao⟩
  go_wp2_with fail
  refine (TD size e pa cp aa ca ga cg _ aq).mono ?_;rintro x w5 ⟨rfl,ak⟩;have au:=J.trans (ak.mono (by simpa using J.size));have ag:=u.trans (au.mono (by omega));clear G J ao ak;cases h8:pL size e
  case false =>
   have I:He (8=iH Kn size e):=(ZU Z h6 h7 h7' h8).symm;go_wp2
   go_ret;exact ⟨aA I.o,ag⟩
  by_cases h9:300<=size
  ·have I:He (9=iH Kn size e):=(ai0 Z h6 h7 h7' h8 h9).symm
   go_wp2
   go_ret;exact ⟨aA I.o,ag⟩
  have I:He (0=iH Kn size e):=(al0 Z h6 h7 h7' h8 h9).symm;go_wp2
  go_ret;exact ⟨aA I.o,ag⟩
 have a3:((bF e.id e.sd e.ty e.key e.val e.st e.tm e.np e.na e.ng e.Pv e.Av e.M e.L) == 0)=false:=by rw [beq_eq_false_iff_ne];exact Z
 have I:He (bF e.id e.sd e.ty e.key e.val e.st e.tm e.np e.na e.ng e.Pv e.Av e.M e.L=iH Kn size e):=(ZZ Z).symm;go_wp2
 go_ret;exact ⟨aA I.o,af⟩
variable {E:Nat->Ev}{k:Nat}{e:Ev}
def jV (E:Nat->Ev)(k:Nat)(s:ByteArray):Bool:=decide (0<=aL E k s)
theorem lY (E:Nat->Ev)(k:Nat)(S:Nat->ByteArray):∀ m,bW (jV E k) S m=eM E k S m
 | 0=>rfl
 | m+1=>by unfold bW eM;rw [lY E k S m];rfl
theorem mM (E:Nat->Ev)(k:Nat)(e:Ev):iH (jV E k) k e=aO E k e:=by
 unfold iH aO
 by_cases G:e.code≠0
 ·rw [if_pos G,if_pos G]
 rw [if_neg G,if_neg G];have J:e.code=0:=by simpa using G
 obtain ⟨O,U⟩:=mP J
 by_cases H:0<=aL E k e.id
 ·rw [if_pos H,if_pos (by unfold jV;exact decide_eq_true H)]
 rw [if_neg H,if_neg (by unfold jV;simpa using H)];have t1:dC E k e.Pv e.np=bW (jV E k) e.Pv e.np:=by unfold dC;rw [decide_eq_true (by omega),lY];rfl
 have N:dC E k e.Av e.na=bW (jV E k) e.Av e.na:=by unfold dC;rw [decide_eq_true (by omega),lY];rfl
 rw [t1,N]
 by_cases I:bW (jV E k) e.Pv e.np=false∨bW (jV E k) e.Av e.na=false
 ·rw [if_pos I,if_pos I]
 rw [if_neg I,if_neg I];unfold pL
 by_cases u:k=0
 ·subst u
  cases ht:(e.ty.toList == [99,114,101,97,116,101])
  ·simp
  simp
 cases ht:(e.ty.toList == [99,114,101,97,116,101])
 ·by_cases hp:e.np=0
  ·simp [hp,u,Nat.pos_of_ne_zero u]
  by_cases ha:e.na=0
  ·simp [ha,u,Nat.pos_of_ne_zero u]
  simp [hp,ha,u,Nat.pos_of_ne_zero hp,Nat.pos_of_ne_zero ha]
 simp [u,Nat.pos_of_ne_zero u]
theorem bC {s t:ByteArray}(h:(s.toList == t.toList)=true):s=t:=by
 rw [beq_iff_eq,ByteArray.toList_eq,ByteArray.toList_eq] at h;obtain ⟨s⟩:=s;obtain ⟨t⟩:=t
 exact congrArg _ (Array.toList_inj.1 h)
theorem jO (E:Nat->Ev)(k:Nat)(s:ByteArray):aL E (k+1) s=if 0<=aL E k s then aL E k s else if (E k).id.toList == s.toList then (k:Int) else -1:=by rw [aL]
theorem BI (E:Nat->Ev)(k:Nat)(s:ByteArray):(decide (s=(E k).id) || jV E k s)=jV E (k+1) s:=by
 unfold jV;rw [jO]
 by_cases h:0<=aL E k s
 ·simp [h]
 by_cases e:s=(E k).id
 ·subst e;simp [h]
 have u:((E k).id.toList == s.toList)=false:=by
  cases hb:((E k).id.toList == s.toList)
  ·rfl
  exact absurd (bC hb).symm e
 rw [if_neg h,u];simp [h,e]
theorem KR (E:Nat->Ev)(k:Nat)(s:ByteArray)(H:aL E k (E k).id<0)(u:jV E (k+1) s=true):(if s=(E k).id then (k:Int) else aL E k s)=aL E (k+1) s:=by
 by_cases e:s=(E k).id
 ·subst e
  rw [if_pos rfl];rw [jO,if_neg (by omega)];simp
 rw [if_neg e];rw [<- BI,decide_eq_false e,Bool.false_or] at u;have G:0<=aL E k s:=by simpa [jV] using u
 rw [jO,if_pos G]
theorem mC (h:aO E k e=0):aL E k e.id<0∧e.code=0∧k<300:=by
 unfold aO at h;split at h
 ·rename_i h1;exact absurd h h1
 rename_i h1;split at h;· cases h
 rename_i h6;split at h;· cases h
 split at h;· cases h
 split at h;· cases h
 split at h;· cases h
 rename_i h9;exact ⟨by omega,by simpa using h1,by omega⟩
end Go.Proofs.YtpfeegcdlikegaaGreat
namespace Go.Proofs.YtpfeegcdlikegaaGreat
open Go.RowKit
variable {w w':World}{row:Option Nat}{a:Option Addr}{n cap base:Nat}{v:Value}
def wK (a:Option Addr)(n B:Nat):Prop:=n=0∨∃ b off,a=some ⟨b,off,none⟩∧b≠B
theorem ID.grown {X:Nat->Int}(h:ID w a n cap X)(hg:w.grownBy w' row)(Z:∀ q,row=some q->wK a n q):ID w' a n cap X:=by
 refine ⟨h.le,h.max,?_⟩;rcases h.cells with I|⟨b,off,e,u,Y⟩
 ·exact Or.inl I
 by_cases N:n=0
 ·exact Or.inl N
 refine Or.inr ⟨b,off,e,nT u hg.size,fun i hi=>?_⟩;rw [World.cell?_of_block (a:=⟨b,off+i,none⟩) (hg.block b u (fun O=>?_))]
 ·exact Y i hi
 rcases Z b O.symm with I|⟨b',J,G,H⟩
 ·exact N I
 rw [e] at G;exact H (by injection G with G;injection G with U _ _;exact U.symm)
def wG (w:World)(base:Nat)(v:Value)(n:Nat)(u:Nat->Nat)(X:Nat->Nat->Int):Prop :=
 ∃ R:Nat->Value,w.ownsRow base 98 1 v n ((List.range n).map R)∧∀ i,i<n->∃ a cap,R i=.slice a (u i) cap∧ID w a (u i) cap (X i)∧∀ q,v.ownBlock=some q->wK a (u i) q
theorem wG.sl {I:Nat->Nat}{X:Nat->Nat->Int}(h:wG w base v n I X):∃ a cap,v=.slice a n cap∧SlL w a n cap I X:=by
 obtain ⟨R,⟨h1,Z⟩,Y⟩:=h;rcases Z with ⟨rfl,rfl⟩|⟨g,cap,u,rfl,hg,hh,hn,hc,O,U⟩
 ·exact ⟨none,0,rfl,⟨nL,by decide,Or.inl rfl⟩⟩
 have H:g<w.heap.size:=by
  rcases Nat.lt_or_ge g w.heap.size with G|G
  ·exact G
  rw [Array.getElem?_eq_none G] at hh;cases hh
 refine ⟨_,cap,rfl,⟨hn,hc,Or.inr ⟨g,0,rfl,H,fun i hi=>?_⟩⟩⟩;obtain ⟨a,cp,e,N,_⟩:=Y i hi;refine ⟨a,cp,?_,N⟩;rw [<- e,Nat.zero_add];have J:(u.toList.take (n * 1))[i]?=some (R i):=by rw [U];simp [hi]
 rw [List.getElem?_take,if_pos (by omega)] at J;simp [World.cell?,hh];simpa using J
end Go.Proofs.YtpfeegcdlikegaaGreat
