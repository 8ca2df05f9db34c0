import Derived.Test.YtkdalopokdhndaaGreatRefsIZ
set_option maxHeartbeats 16000000
set_option maxRecDepth 100000
namespace Go.Proofs.YtkdalopokdhndaaGreat
open Go.RowKit
section
variable (id sd ty key val:ByteArray) (st:Bool) (tm:Int) (pa:Option Addr) (np cp:Nat) (aa:Option Addr) (na ca:Nat) (ga:Option Addr) (ng cg:Nat) (Pv Av M:Nat->ByteArray) (L:Nat->Int) (w:World)
theorem allWords_three (blk:Nat)(w:World)(hid:id.size<=maxLen)(hsd:sd.size<=maxLen)(hty:ty.size<=maxLen)(hblk:blk=w.heap.size) :
  Calls Tryz.prog 81 #[.slice (some ⟨blk,0,none⟩) 3 3] (w.alloc (.cells #[.string id,.string sd,.string ty] 9)) fun e w' =>
   e=.returned (.bool (isW id && isW sd && isW ty))∧w'=w.alloc (.cells #[.string id,.string sd,.string ty] 9):=by
 have:=allWords_any blk 0 3 3 (fun i=>[id,sd,ty].getD i ByteArray.empty) (w.alloc (.cells #[.string id,.string sd,.string ty] 9)) (by decide)
  (fun i hi=>by
   match i,hi with
   | 0,_=>exact hid
   | 1,_=>exact hsd
   | 2,_=>exact hty)
  (fun i hi=>by
   rw [Nat.zero_add,kA hblk]
   match i,hi with
   | 0,_=>rfl
   | 1,_=>rfl
   | 2,_=>rfl)
 simpa [allW] using this
theorem meth_create (rf : Int) (W : World) : (method 378 184 (.agg #[.bool st, .string key, .string val, .slice ga ng cg, .int .i64 rf]) "loop.example/s01366/impl.fits").run Tryz.prog W = .ok (262, .agg #[.bool st, .string key, .string val, .slice ga ng cg, .int .i64 rf]) W := by kernel_rfl
theorem meth_member (W : World) : (method 378 186 (.agg #[.bool st, .string key, .string val, .slice ga ng cg]) "loop.example/s01366/impl.fits").run Tryz.prog W = .ok (264, .agg #[.bool st, .string key, .string val, .slice ga ng cg]) W := by kernel_rfl
theorem meth_rules (W : World) : (method 378 187 (.agg #[.bool st, .string key, .string val, .slice ga ng cg]) "loop.example/s01366/impl.fits").run Tryz.prog W = .ok (265, .agg #[.bool st, .string key, .string val, .slice ga ng cg]) W := by kernel_rfl
theorem meth_power (W : World) : (method 378 188 (.agg #[.bool st, .string key, .string val, .slice ga ng cg]) "loop.example/s01366/impl.fits").run Tryz.prog W = .ok (266, .agg #[.bool st, .string key, .string val, .slice ga ng cg]) W := by kernel_rfl
theorem meth_other (W : World) : (method 378 189 (.agg #[.bool st, .string key, .string val, .slice ga ng cg]) "loop.example/s01366/impl.fits").run Tryz.prog W = .ok (269, .agg #[.bool st, .string key, .string val, .slice ga ng cg]) W := by kernel_rfl
theorem cont_joint (hnp:np<=10)(hna:na<=10)(hval:val.size<=maxLen) :
  ∃ (T:TypeId) (v:Value) (f:FuncId),
   (∀ w:World,Calls Tryz.prog 84 #[evV id sd ty key val st tm pa np cp aa na ca ga ng cg] w fun e w'=>e=.returned (.iface T v)∧Below w.heap.size w w') ∧
   (∀ W, (method 378 T v "loop.example/s01366/impl.fits").run Tryz.prog W = .ok (f, v) W) ∧
   (∀ W,(callFunc f #[v]).run Tryz.prog W=.ok (.enter f #[v]) W) ∧
   (∀ W,SlG W ga ng cg M L->Calls Tryz.prog f #[v] W fun e w'=>e=.returned (.bool (ctB ty key val st np na ng M L))∧Below W.heap.size W w'):=by
 cases h1:(ty.toList == [99,114,101,97,116,101])
 ·cases h2:(ty.toList == [109,101,109,98,101,114])
  ·cases h3:(ty.toList == [106,111,105,110,95,114,117,108,101,115])
   ·cases h4:(ty.toList == [112,111,119,101,114])
    ·refine ⟨_,_,_,fun w=>contOf_other id sd ty key val st tm pa np cp aa na ca ga ng cg w h1 h2 h3 h4,meth_other key val st ga ng cg,fun W=>by kernel_rfl,fun W _=>?_⟩
     rw [ctB,h1,h2,h3,h4];exact fits_other key val st ga ng cg W hval
    refine ⟨_,_,_,fun w=>contOf_power id sd ty key val st tm pa np cp aa na ca ga ng cg w h1 h2 h3 h4,meth_power key val st ga ng cg,fun W=>by kernel_rfl,fun W hg=>?_⟩;rw [ctB,h1,h2,h3,h4];exact fits_power key val st ga ng cg M L W hg
   refine ⟨_,_,_,fun w=>contOf_rules id sd ty key val st tm pa np cp aa na ca ga ng cg w h1 h2 h3,meth_rules key val st ga ng cg,fun W=>by kernel_rfl,fun W _=>?_⟩;rw [ctB,h1,h2,h3];exact fits_rules key val st ga ng cg W
  refine ⟨_,_,_,fun w=>contOf_member id sd ty key val st tm pa np cp aa na ca ga ng cg w h1 h2,meth_member key val st ga ng cg,fun W=>by kernel_rfl,fun W _=>?_⟩;rw [ctB,h1,h2];exact fits_member key val st ga ng cg W
 refine ⟨_,_,_,fun w=>contOf_create id sd ty key val st tm pa np cp aa na ca ga ng cg w h1 hnp hna,meth_create key val st ga ng cg _,fun W=>by kernel_rfl,fun W _=>?_⟩
 have e:ctB ty key val st np na ng M L=(st && key.toList.isEmpty && ng == 0 && (((np:Int)+na) == 0) && val.toList.isEmpty):=by
  rw [ctB,h1,if_pos rfl]
  have:(((np:Int)+na) == 0)=(np == 0 && na == 0):=by rw [Bool.eq_iff_iff];simp;omega
  rw [this];simp only [Bool.and_assoc]
 rw [e];exact fits_create key val st ga ng cg W _
theorem refs_len (S:Nat->ByteArray)(n:Nat)(x:ByteArray)(h:refsB S n x=true):n<=10:=by
 simp [refsB] at h;exact h.1
theorem evI_any (hid:id.size<=maxLen)(hsd:sd.size<=maxLen)(hty:ty.size<=maxLen)(hkey:key.size<=maxLen)(hval:val.size<=maxLen)
  (hp:SlS w pa np cp Pv) (ha:SlS w aa na ca Av) (hg:SlG w ga ng cg M L) :
  Calls Tryz.prog 32 #[evV id sd ty key val st tm pa np cp aa na ca ga ng cg] w fun e w' =>
   e=.returned (.int .i64 (evCode id sd ty key val st tm np na ng Pv Av M L))∧Below w.heap.size w w':=by
 have hb0:∀ o,Below w.heap.size w (w.alloc o):=fun o=>bA
 cases hw:(isW id && isW sd && isW ty)
 ·have HC':Hid (_=_):=evCode1 id sd ty key val st tm np na ng Pv Av M L (by cases h1:isW id <;> cases h2:isW sd <;> cases h3:isW ty <;> simp [h1,h2,h3] at hw ⊢)
  go_enter Tryz.func32,Tryz.ntmps32
  go_wp2_with fail
  refine (allWords_three id sd ty _ _ hid hsd hty (by simp)).mono ?_;rintro e w' ⟨rfl,rfl⟩;go_wp2
  go_ret;exact ⟨ret_int HC'.out.symm,(hb0 _).alloc (by simp) _⟩
 have hw3:isW id=true∧isW sd=true∧isW ty=true:=by simpa [Bool.and_eq_true,and_assoc] using hw
 cases hk:keyB st key
 ·have HC':Hid (_=_):=evCode2 id sd ty key val st tm np na ng Pv Av M L hw3.1 hw3.2.1 hw3.2.2 (by cases h1:key.toList.isEmpty <;> cases h2:isW key <;> cases st <;> simp [keyB,h1,h2] at hk ⊢)
  clear hw3
  go_enter Tryz.func32,Tryz.ntmps32
  go_wp2_with fail
  refine (allWords_three id sd ty _ _ hid hsd hty (by simp)).mono ?_;rintro e w' ⟨rfl,rfl⟩
  go_wp2_with fail
  refine (keyOk_any st key _ hkey).mono ?_;rintro e w1 ⟨rfl,hb1⟩;have hB1:=below_box hb1;have hcl:=box_cells hB1;have hBw:=(hb0 _).trans (hB1.mono (by simp));clear hb1;go_wp2
  go_ret;exact ⟨ret_int HC'.out.symm,hBw⟩
 have hk':¬ (key.toList.isEmpty=false∧(st=false∨isW key=false)):=by
  rintro ⟨a,b⟩;rw [keyB,a] at hk;rcases b with b|b <;> simp [b] at hk
 by_cases ht:tm<0∨1000000000000<tm
 ·have HC':Hid (_=_):=evCode3 id sd ty key val st tm np na ng Pv Av M L hw3.1 hw3.2.1 hw3.2.2 hk' ht
  clear hw3 hk'
  by_cases ht1:tm<0
  ·clear ht
   go_enter Tryz.func32,Tryz.ntmps32
   go_wp2_with fail
   refine (allWords_three id sd ty _ _ hid hsd hty (by simp)).mono ?_;rintro e w' ⟨rfl,rfl⟩
   go_wp2_with fail
   refine (keyOk_any st key _ hkey).mono ?_;rintro e w1 ⟨rfl,hb1⟩;have hB1:=below_box hb1;have hcl:=box_cells hB1;have hBw:=(hb0 _).trans (hB1.mono (by simp));clear hb1;go_wp2
   go_ret;exact ⟨ret_int HC'.out.symm,hBw⟩
  have ht2:1000000000000<tm:=by omega
  clear ht
  go_enter Tryz.func32,Tryz.ntmps32
  go_wp2_with fail
  refine (allWords_three id sd ty _ _ hid hsd hty (by simp)).mono ?_;rintro e w' ⟨rfl,rfl⟩
  go_wp2_with fail
  refine (keyOk_any st key _ hkey).mono ?_;rintro e w1 ⟨rfl,hb1⟩;have hB1:=below_box hb1;have hcl:=box_cells hB1;have hBw:=(hb0 _).trans (hB1.mono (by simp));clear hb1;go_wp2
  go_ret;exact ⟨ret_int HC'.out.symm,hBw⟩
 have ht1:¬ tm<0:=by omega
 have ht2:¬ 1000000000000<tm:=by omega
 cases hr1:refsB Pv np id
 ·have HC':Hid (_=_):=evCode4 id sd ty key val st tm np na ng Pv Av M L hw3.1 hw3.2.1 hw3.2.2 hk' ht (Or.inl hr1)
  clear hw3 hk' ht
  go_enter Tryz.func32,Tryz.ntmps32
  go_wp2_with fail
  refine (allWords_three id sd ty _ _ hid hsd hty (by simp)).mono ?_;rintro e w' ⟨rfl,rfl⟩
  go_wp2_with fail
  refine (keyOk_any st key _ hkey).mono ?_;rintro e w1 ⟨rfl,hb1⟩;have hB1:=below_box hb1;have hcl:=box_cells hB1;have hBw:=(hb0 _).trans (hB1.mono (by simp));clear hb1
  go_wp2_with fail
  refine (refsI_sl id _ (hp.below hBw)).mono ?_;rintro e w' ⟨rfl,rfl⟩;go_wp2
  go_ret;exact ⟨ret_int HC'.out.symm,hBw⟩
 cases hr2:refsB Av na id
 ·have HC':Hid (_=_):=evCode4 id sd ty key val st tm np na ng Pv Av M L hw3.1 hw3.2.1 hw3.2.2 hk' ht (Or.inr hr2)
  clear hw3 hk' ht
  go_enter Tryz.func32,Tryz.ntmps32
  go_wp2_with fail
  refine (allWords_three id sd ty _ _ hid hsd hty (by simp)).mono ?_;rintro e w' ⟨rfl,rfl⟩
  go_wp2_with fail
  refine (keyOk_any st key _ hkey).mono ?_;rintro e w1 ⟨rfl,hb1⟩;have hB1:=below_box hb1;have hcl:=box_cells hB1;have hBw:=(hb0 _).trans (hB1.mono (by simp));clear hb1
  go_wp2_with fail
  refine (refsI_sl id _ (hp.below hBw)).mono ?_;rintro e w' ⟨rfl,rfl⟩
  go_wp2_with fail
  refine (refsI_sl id _ (ha.below hBw)).mono ?_;rintro e w' ⟨rfl,rfl⟩;go_wp2
  go_ret;exact ⟨ret_int HC'.out.symm,hBw⟩
 obtain ⟨T,v,f,hcont,hme,hen,hfits⟩:=cont_joint id sd ty key val st tm pa np cp aa na ca ga ng cg M L (refs_len _ _ _ hr1) (refs_len _ _ _ hr2) hval;cases hct:ctB ty key val st np na ng M L
 ·have HC':Hid (_=_):=evCode5 id sd ty key val st tm np na ng Pv Av M L hw3.1 hw3.2.1 hw3.2.2 hk' ht hr1 hr2 hct
  clear hw3 hk' ht;rw [hct] at hfits
  go_enter Tryz.func32,Tryz.ntmps32
  go_wp2_with fail
  refine (allWords_three id sd ty _ _ hid hsd hty (by simp)).mono ?_;rintro e w' ⟨rfl,rfl⟩
  go_wp2_with fail
  refine (keyOk_any st key _ hkey).mono ?_;rintro e w1 ⟨rfl,hb1⟩;have hB1:=below_box hb1;have hcl:=box_cells hB1;have hBw:=(hb0 _).trans (hB1.mono (by simp));clear hb1
  go_wp2_with fail
  refine (refsI_sl id _ (hp.below hBw)).mono ?_;rintro e w' ⟨rfl,rfl⟩
  go_wp2_with fail
  refine (refsI_sl id _ (ha.below hBw)).mono ?_;rintro e w' ⟨rfl,rfl⟩
  go_wp2_with fail
  refine (hcont _).mono ?_;rintro e w2 ⟨rfl,hb2⟩
  go_wp2_with fail
  refine (hfits _ (hg.below (hBw.trans (hb2.mono hBw.size)))).mono ?_;rintro e w3 ⟨rfl,hb3⟩;go_wp2
  go_ret;exact ⟨ret_int HC'.out.symm,(hBw.trans (hb2.mono hBw.size)).trans (hb3.mono (nZ hBw.size hb2.size))⟩
 have HC':Hid (_=_):=evCode0 id sd ty key val st tm np na ng Pv Av M L hw3.1 hw3.2.1 hw3.2.2 hk' ht hr1 hr2 hct;clear hw3 hk' ht;rw [hct] at hfits
 go_enter Tryz.func32,Tryz.ntmps32
 go_wp2_with fail
 refine (allWords_three id sd ty _ _ hid hsd hty (by simp)).mono ?_;rintro e w' ⟨rfl,rfl⟩
 go_wp2_with fail
 refine (keyOk_any st key _ hkey).mono ?_;rintro e w1 ⟨rfl,hb1⟩;have hB1:=below_box hb1;have hcl:=box_cells hB1;have hBw:=(hb0 _).trans (hB1.mono (by simp));clear hb1
 go_wp2_with fail
 refine (refsI_sl id _ (hp.below hBw)).mono ?_;rintro e w' ⟨rfl,rfl⟩
 go_wp2_with fail
 refine (refsI_sl id _ (ha.below hBw)).mono ?_;rintro e w' ⟨rfl,rfl⟩
 go_wp2_with fail
 refine (hcont _).mono ?_;rintro e w2 ⟨rfl,hb2⟩
 go_wp2_with fail
 refine (hfits _ (hg.below (hBw.trans (hb2.mono hBw.size)))).mono ?_;rintro e w3 ⟨rfl,hb3⟩;go_wp2
 go_ret;exact ⟨ret_int HC'.out.symm,(hBw.trans (hb2.mono hBw.size)).trans (hb3.mono (nZ hBw.size hb2.size))⟩
end
end Go.Proofs.YtkdalopokdhndaaGreat
namespace Go.Proofs.YtkdalopokdhndaaGreat
open Go.RowKit Go.Maps Go.ChangeMaps
theorem insC_any (m n:Nat)(Kn:ByteArray->Bool)(V:ByteArray->Int)(size:Nat)(e:Ev)(pa:Option Addr)(cp:Nat)(aa:Option Addr)(ca:Nat)(ga:Option Addr)(cg:Nat)(w:World)
  (hm:MapAt w m n Kn V) (he:EvOk w e pa cp aa ca ga cg) :
  Calls Tryz.prog 79 #[.map (some m),.int .i64 size,e.val' pa cp aa ca ga cg] w fun x w'=>x=.returned (.int .i64 (insC Kn size e))∧Below w.heap.size w w':=by
 have hb0:Below w.heap.size w (w.alloc (.cells (evCs e pa cp aa ca ga cg) 30)):=bA
 go_enter Tryz.func79,Tryz.ntmps79
 go_wp2_with fail
 refine (evI_any e.id e.sd e.ty e.key e.val e.st e.tm pa e.np cp aa e.na ca ga e.ng cg e.Pv e.Av e.M e.L _ he.hid he.hsd he.hty he.hkey he.hval (he.hp.below hb0) (he.ha.below hb0) (he.hg.below hb0)).mono ?_;rintro x w1 ⟨rfl,hb1⟩;have hB1:Below (w.heap.size+1) (w.alloc (.cells (evCs e pa cp aa ca ga cg) 30)) w1:=hb1.mono (by simp);have hw1:=hb0.trans (hB1.mono (by omega));have hcl:=box_cells hB1;clear hb1
 by_cases hc:e.code=0
 ·obtain ⟨h10,h10'⟩:=code_refs hc
  have hc0:evCode e.id e.sd e.ty e.key e.val e.st e.tm e.np e.na e.ng e.Pv e.Av e.M e.L=0:=hc
  go_wp2_with fail
  have hb1a:Below w1.heap.size w1 (w1.alloc (.cells #[.string e.id] 9)):=bA
  have hsl:SlS (w1.alloc (.cells #[.string e.id] 9)) (some ⟨w1.heap.size,0,none⟩) 1 1 (fun _=>e.id) :=
   ⟨nL,by decide,fun _ _=>he.hid,Or.inr ⟨_,0,rfl,by simp,fun i hi=>by
    have:i=0:=by omega
    subst this;exact kA rfl⟩⟩
  refine (knows_sl _ ((hm.below hw1).below hb1a) (by decide) hsl).mono ?_;rintro x w2 ⟨rfl,hb2⟩;have hk1:allTo Kn (fun _=>e.id) 1=Kn e.id:=by simp [allTo]
  rw [hk1];have hb12:=hb1a.trans (hb2.mono hb1a.size);have hB2:=hB1.trans (hb12.mono (by simpa using hB1.size));have hw2:=hb0.trans (hB2.mono (by omega));clear hcl hB1 hw1 hb1a hsl hb2 hb12 hk1 hc0;have hcl:=box_cells hB2;cases h6:Kn e.id
  case true =>
   have hv:Hid (6=insC Kn size e):=(insC6 hc h6).symm;go_wp2
   go_ret;exact ⟨ret_int hv.out,hw2⟩
  go_wp2_with fail
  refine (knows_sl _ (hm.below hw2) (by omega) (he.hp.below hw2)).mono ?_;rintro x w3 ⟨rfl,hb3⟩;have hB3:=hB2.trans (hb3.mono (by simpa using hB2.size));have hw3:=hb0.trans (hB3.mono (by omega));clear hcl hB2 hw2 hb3;have hcl:=box_cells hB3;cases h7:allTo Kn e.Pv e.np
  case false =>
   have hv:Hid (7=insC Kn size e):=(insC7 hc h6 (Or.inl h7)).symm;go_wp2
   go_ret;exact ⟨ret_int hv.out,hw3⟩
  go_wp2_with fail
  refine (knows_sl _ (hm.below hw3) (by omega) (he.ha.below hw3)).mono ?_;rintro x w4 ⟨rfl,hb4⟩;have hB4:=hB3.trans (hb4.mono (by simpa using hB3.size));have hw4:=hb0.trans (hB4.mono (by omega));clear hcl hB3 hw3 hb4;have hcl:=box_cells hB4;cases h7':allTo Kn e.Av e.na
  case false =>
   have hv:Hid (7=insC Kn size e):=(insC7 hc h6 (Or.inr h7')).symm;go_wp2
   go_ret;exact ⟨ret_int hv.out,hw4⟩
  go_wp2_with fail
  refine (beg_any size e pa cp aa ca ga cg _ h10).mono ?_;rintro x w5 ⟨rfl,hb5⟩;have hB5:=hB4.trans (hb5.mono (by simpa using hB4.size));have hw5:=hb0.trans (hB5.mono (by omega));clear hcl hB4 hw4 hb5;cases h8:begB size e
  case false =>
   have hv:Hid (8=insC Kn size e):=(insC8 hc h6 h7 h7' h8).symm;go_wp2
   go_ret;exact ⟨ret_int hv.out,hw5⟩
  by_cases h9:300<=size
  ·have hv:Hid (9=insC Kn size e):=(insC9 hc h6 h7 h7' h8 h9).symm
   go_wp2
   go_ret;exact ⟨ret_int hv.out,hw5⟩
  have hv:Hid (0=insC Kn size e):=(insC0 hc h6 h7 h7' h8 h9).symm;go_wp2
  go_ret;exact ⟨ret_int hv.out,hw5⟩
 have hc1:((evCode e.id e.sd e.ty e.key e.val e.st e.tm e.np e.na e.ng e.Pv e.Av e.M e.L) == 0)=false:=by rw [beq_eq_false_iff_ne];exact hc
 have hv:Hid (evCode e.id e.sd e.ty e.key e.val e.st e.tm e.np e.na e.ng e.Pv e.Av e.M e.L=insC Kn size e):=(insC1 hc).symm;go_wp2
 go_ret;exact ⟨ret_int hv.out,hw1⟩
variable {s:ByteArray}{E:Nat->Ev}{k:Nat}{e:Ev}
def knE (E:Nat->Ev)(k:Nat)(s:ByteArray):Bool:=decide (0<=posV E k s)
theorem allTo_there (E:Nat->Ev)(k:Nat)(S:Nat->ByteArray):∀ m,allTo (knE E k) S m=thereTo E k S m
 | 0=>rfl
 | m+1=>by unfold allTo thereTo;rw [allTo_there E k S m];rfl
theorem insC_code (E:Nat->Ev)(k:Nat)(e:Ev):insC (knE E k) k e=insCode E k e:=by
 unfold insC insCode
 by_cases hc:e.code≠0
 ·rw [if_pos hc,if_pos hc]
 rw [if_neg hc,if_neg hc];have hc':e.code=0:=by simpa using hc
 obtain ⟨h1,h2⟩:=code_refs hc'
 by_cases h6:0<=posV E k e.id
 ·rw [if_pos h6,if_pos (by unfold knE;exact decide_eq_true h6)]
 rw [if_neg h6,if_neg (by unfold knE;simpa using h6)];have t1:thereB E k e.Pv e.np=allTo (knE E k) e.Pv e.np:=by unfold thereB;rw [decide_eq_true (by omega),allTo_there];rfl
 have t2:thereB E k e.Av e.na=allTo (knE E k) e.Av e.na:=by unfold thereB;rw [decide_eq_true (by omega),allTo_there];rfl
 rw [t1,t2]
 by_cases h7:allTo (knE E k) e.Pv e.np=false∨allTo (knE E k) e.Av e.na=false
 ·rw [if_pos h7,if_pos h7]
 rw [if_neg h7,if_neg h7];unfold begB
 by_cases h0:k=0
 ·subst h0
  cases ht:(e.ty.toList == [99,114,101,97,116,101])
  ·simp
  simp
 cases ht:(e.ty.toList == [99,114,101,97,116,101])
 ·by_cases hp:e.np=0
  ·simp [hp,h0,Nat.pos_of_ne_zero h0]
  by_cases ha:e.na=0
  ·simp [ha,h0,Nat.pos_of_ne_zero h0]
  simp [hp,ha,h0,Nat.pos_of_ne_zero hp,Nat.pos_of_ne_zero ha]
 simp [h0,Nat.pos_of_ne_zero h0]
theorem ba_of_toList {t:ByteArray}(h:(s.toList == t.toList)=true):s=t:=by
 rw [beq_iff_eq,ByteArray.toList_eq,ByteArray.toList_eq] at h;obtain ⟨s⟩:=s;obtain ⟨t⟩:=t
 exact congrArg _ (Array.toList_inj.1 h)
theorem posV_step (E:Nat->Ev)(k:Nat)(s:ByteArray):posV E (k+1) s=if 0<=posV E k s then posV E k s else if (E k).id.toList == s.toList then (k:Int) else -1:=by rw [posV]
theorem knE_succ (E:Nat->Ev)(k:Nat)(s:ByteArray):(decide (s=(E k).id) || knE E k s)=knE E (k+1) s:=by
 unfold knE;rw [posV_step]
 by_cases h:0<=posV E k s
 ·simp [h]
 by_cases e:s=(E k).id
 ·subst e;simp [h]
 have hne:((E k).id.toList == s.toList)=false:=by
  cases hb:((E k).id.toList == s.toList)
  ·rfl
  exact absurd (ba_of_toList hb).symm e
 rw [if_neg h,hne];simp [h,e]
theorem posV_succ (E:Nat->Ev)(k:Nat)(s:ByteArray)(hn:posV E k (E k).id<0)(hk:knE E (k+1) s=true):(if s=(E k).id then (k:Int) else posV E k s)=posV E (k+1) s:=by
 by_cases e:s=(E k).id
 ·subst e
  rw [if_pos rfl];rw [posV_step,if_neg (by omega)];simp
 rw [if_neg e];rw [<- knE_succ,decide_eq_false e,Bool.false_or] at hk;have h0:0<=posV E k s:=by simpa [knE] using hk
 rw [posV_step,if_pos h0]
theorem ins_fresh (h:insCode E k e=0):posV E k e.id<0∧e.code=0∧k<300:=by
 unfold insCode at h;split at h
 ·rename_i h1;exact absurd h h1
 rename_i h1;split at h;· cases h
 rename_i h6;split at h;· cases h
 split at h;· cases h
 split at h;· cases h
 split at h;· cases h
 rename_i h9;exact ⟨by omega,by simpa using h1,by omega⟩
end Go.Proofs.YtkdalopokdhndaaGreat
namespace Go.Proofs.YtkdalopokdhndaaGreat
open Go.RowKit
variable {w w':World}{row:Option Nat}{a:Option Addr}{n cap base:Nat}{X:Nat->Int}{v:Value}{rn:Nat->Nat}
def ApartI (a:Option Addr)(n B:Nat):Prop:=n=0∨∃ b off,a=some ⟨b,off,none⟩∧b≠B
theorem SlI.grown (h:SlI w a n cap X)(hg:w.grownBy w' row)(hA:∀ q,row=some q->ApartI a n q):SlI w' a n cap X:=by
 refine ⟨h.le,h.max,?_⟩;rcases h.cells with h0|⟨b,off,e,hlt,hc⟩
 ·exact Or.inl h0
 by_cases hn:n=0
 ·exact Or.inl hn
 refine Or.inr ⟨b,off,e,nT hlt hg.size,fun i hi=>?_⟩;rw [World.cell?_of_block (a:=⟨b,off+i,none⟩) (hg.block b hlt (fun er=>?_))]
 ·exact hc i hi
 rcases hA b er.symm with h0|⟨b',off',e',hne⟩
 ·exact hn h0
 rw [e] at e';exact hne (by injection e' with e';injection e' with e1 _ _;exact e1.symm)
def RowsOwn (w:World)(base:Nat)(v:Value)(n:Nat)(rn:Nat->Nat)(X:Nat->Nat->Int):Prop :=
 ∃ R:Nat->Value,w.ownsRow base 93 1 v n ((List.range n).map R)∧∀ i,i<n->∃ a cap,R i=.slice a (rn i) cap∧SlI w a (rn i) cap (X i)∧∀ q,v.ownBlock=some q->ApartI a (rn i) q
theorem RowsOwn.sl {X:Nat->Nat->Int}(h:RowsOwn w base v n rn X):∃ a cap,v=.slice a n cap∧SlL w a n cap rn X:=by
 obtain ⟨R,⟨h1,h2⟩,h3⟩:=h;rcases h2 with ⟨rfl,rfl⟩|⟨g,cap,cur,rfl,hg,hh,hn,hc,hcs,hx⟩
 ·exact ⟨none,0,rfl,⟨nL,by decide,Or.inl rfl⟩⟩
 have hlt:g<w.heap.size:=by
  rcases Nat.lt_or_ge g w.heap.size with h'|h'
  ·exact h'
  rw [Array.getElem?_eq_none h'] at hh;cases hh
 refine ⟨_,cap,rfl,⟨hn,hc,Or.inr ⟨g,0,rfl,hlt,fun i hi=>?_⟩⟩⟩;obtain ⟨a,cp,e,hs,_⟩:=h3 i hi;refine ⟨a,cp,?_,hs⟩;rw [<- e,Nat.zero_add];have e1:(cur.toList.take (n * 1))[i]?=some (R i):=by rw [hx];simp [hi]
 rw [List.getElem?_take,if_pos (by omega)] at e1;simp [World.cell?,hh];simpa using e1
end Go.Proofs.YtkdalopokdhndaaGreat
