import Derived.Test.YtnbdlaglnefcbaaGreatRmZ
import Derived.Deep.DeepCutAuto
import Derived.Deep.CutBlock
namespace Go.Proofs.YtnbdlaglnefcbaaGreat
open Go.RowKit
set_option maxRecDepth 100000 in
set_option maxHeartbeats 4000000 in
theorem drawContent (p:Nat){bs:Nat->Nat}{m q:Nat}(e:Ev)(pa:Option Addr)(cp:Nat)(aa:Option Addr)(ca:Nat)(ga:Option Addr)(cg:Nat)(w:World)(h:RdF w p bs m q) :
  Calls Tryz.prog 26 #[.pointer (some ⟨p,0,none⟩),e.val' pa cp aa ca ga cg] w (CtPost p w bs m q e pa cp aa ca ga cg):=by
 have hk:=h.nx
 have hp:=h.lt
 have hE00:=evB_new (t:=29) (cs:=#[.string e.id,.string e.sd,.string e.ty,.bool e.st,.string e.key,.int .i64 e.tm,.slice pa e.np cp,.slice aa e.na ca,.string e.val,.slice ga e.ng cg]) h rfl
 obtain ⟨wa,hwa⟩:∃ wa,wa=(w.alloc (.cells #[.string e.id,.string e.sd,.string e.ty,.bool e.st,.string e.key,.int .i64 e.tm,.slice pa e.np cp,.slice aa e.na ca,.string e.val,.slice ga e.ng cg] 29)).alloc (.cells #[.string ⟨#[]⟩,.string ⟨#[]⟩,.string ⟨#[]⟩,.bool false,.string ⟨#[]⟩,.int .i64 0,.slice none 0 0,.slice none 0 0,.string ⟨#[]⟩,.slice none 0 0] 29):=⟨_,rfl⟩
 rw [<- hwa] at hE00
 have hE0:Hid (_):=hE00
 clear hE00
 go_enter Tryz.func26,Tryz.ntmps26
 go_wp2_with fail
 rw [<- hwa]
 clear hwa
 refine (nextF p wa hE0.out.dw.1).mono ?_
 rintro x w1 ⟨rfl,hd1⟩
 have hE1:Hid (_):=hE0.out.draw hp hd1
 clear hd1 hE0
 obtain ⟨k,hk0⟩:∃ k,k=nxB bs m q:=⟨_,rfl⟩
 have HQ:Hid (cQr bs m q=cnQ bs m (nxQ m q) k):=by unfold Hid cQr;rw [hk0]
 have HE:Hid (cDr bs m q e=cnE k (gDr bs m (nxQ m q)).2 e):=by unfold Hid cDr;rw [hk0]
 rw [<- hk0] at hk ⊢
 clear hk0
 have HP:Hid (∀ (e':Ev) ga' cg' W,e'=cDr bs m q e->((ga'=ga∧cg'=cg∧e'.ng=e.ng∧e'.M=e.M∧e'.L=e.L)∨OwnG W w.heap.size (.slice ga' e'.ng cg') e'.ng e'.M e'.L)->DwF p w W bs m (cQr bs m q)->CtPost p w bs m q e pa cp aa ca ga cg (.returned (e'.val' pa cp aa ca ga' cg')) W):=fun e' ga' cg' W he h1 h2=>by subst he;exact ⟨ga',cg',rfl,h1,h2⟩
 have HQ0:Hid (k % 8≠3->cQr bs m q=nxQ m q):=fun h3=>by rw [HQ.out];exact if_neg h3
 have b0:w1.cell? ⟨w.heap.size,0,none⟩=some (.string e.id):=hE1.out.b 0 (by decide)
 have b1:w1.cell? ⟨w.heap.size,1,none⟩=some (.string e.sd):=hE1.out.b 1 (by decide)
 have b2:w1.cell? ⟨w.heap.size,2,none⟩=some (.string e.ty):=hE1.out.b 2 (by decide)
 have b3:w1.cell? ⟨w.heap.size,3,none⟩=some (.bool e.st):=hE1.out.b 3 (by decide)
 have b4:w1.cell? ⟨w.heap.size,4,none⟩=some (.string e.key):=hE1.out.b 4 (by decide)
 have b5:w1.cell? ⟨w.heap.size,5,none⟩=some (.int .i64 e.tm):=hE1.out.b 5 (by decide)
 have b6:w1.cell? ⟨w.heap.size,6,none⟩=some (.slice pa e.np cp):=hE1.out.b 6 (by decide)
 have b7:w1.cell? ⟨w.heap.size,7,none⟩=some (.slice aa e.na ca):=hE1.out.b 7 (by decide)
 have b8:w1.cell? ⟨w.heap.size,8,none⟩=some (.string e.val):=hE1.out.b 8 (by decide)
 have b9:w1.cell? ⟨w.heap.size,9,none⟩=some (.slice ga e.ng cg):=hE1.out.b 9 (by decide)
 have f0:=hE1.out.f0
 by_cases c3:k % 8<3
 ·have a1:decide ((k:Int) % 8<3)=true:=decide_eq_true (by omega)
  have HQ1:Hid (cQr bs m q=nxQ m q):=HQ0.out (by omega)
  by_cases cu:0<k % 8∨128<=k
  ·have Ht:Hid ({ e with st:=true,ty:=⟨#[109,101,109,98,101,114]⟩,key:=usr (k / 8),val:=mVal (k / 32 % 4) }=cDr bs m q e):=by unfold Hid;rw [HE.out];unfold cnE;rw [if_pos c3,if_pos cu]
   have hk8:(k:Int) / 8=((k / 8:Nat):Int):=by omega
   have HU:Hid (∀ W,Calls Tryz.prog 24 #[.int .i64 ((k:Int) / 8)] W (fun e w'=>e=.returned (.string (usr (k / 8)))∧Below W.heap.size W w')):=fun W=>by rw [hk8];exact userF (k / 8) W (by omega)
   obtain ⟨mv,hmv⟩:∃ mv,mv=mVal (k / 32 % 4):=⟨_,rfl⟩
   rw [<- hmv] at Ht
   obtain ⟨i4,hi4⟩:∃ i4,i4=k / 32 % 4:=⟨_,rfl⟩
   have hi5:i4<4:=by omega
   have hi6:(k:Int) / 32 % 4=((i4:Nat):Int):=by omega
   rw [<- hi4] at hmv
   clear hi4 c3 HE HQ HQ0 hk8
   generalize usr (k / 8)=us at *
   by_cases cv:0<k % 8
   ·have a2:decide ((0:Int)<(k:Int) % 8)=true:=decide_eq_true (by omega)
    go_upto_region 8 with fail
    have hE20:=((((hE1.out.set hp 3 (by decide) (.bool true)).set hp 2 (by decide) (.string ⟨#[109,101,109,98,101,114]⟩)).set hp 4 (by decide) (.string e.sd)).set hp 8 (by decide) (.string ⟨#[106,111,105,110]⟩))
    obtain ⟨W2,hW2⟩:∃ W2,W2=((((w1.setCell ⟨w.heap.size,3,none⟩ (.bool true)).setCell ⟨w.heap.size,2,none⟩ (.string ⟨#[109,101,109,98,101,114]⟩)).setCell ⟨w.heap.size,4,none⟩ (.string e.sd)).setCell ⟨w.heap.size,8,none⟩ (.string ⟨#[106,111,105,110]⟩)):=⟨_,rfl⟩
    rw [<- hW2] at hE20 ⊢
    have hE2:Hid (_):=hE20
    clear hW2 hE20
    clear b0 b1 b2 b3 b4 b5 b6 b7 b8 b9 f0
    go_wp2_with fail
    refine (HU.out _).mono ?_
    rintro x w3 ⟨rfl,hb3⟩
    have hE3:Hid (_):=hE2.out.below hb3
    clear hE2 hb3 HU
    have b4:=hE3.out.b 4 (by decide)
    have f0:=hE3.out.f0
    go_upto_region 9 with fail
    clear b4 f0
    have hE40:=(hE3.out.set hp 4 (by decide) (.string us))
    obtain ⟨W4,hW4⟩:∃ W4,W4=(w3.setCell ⟨w.heap.size,4,none⟩ (.string us)):=⟨_,rfl⟩
    rw [<- hW4] at hE40 ⊢
    have hE4:Hid (_):=hE40
    clear hW4 hE40
    rcases (show i4=0∨i4=1∨i4=2∨i4=3 by omega) with rfl|rfl|rfl|rfl
    ·have hi7:(k:Int) / 32 % 4=0:=hi6
     have hmw:mv=⟨#[106,111,105,110]⟩:=hmv
     subst hmw
     clear hi6 hmv
     have n1:w.heap.size≠W4.heap.size:=by have:=hE4.out.sz;omega
     have n3:w.heap.size<W4.heap.size:=by have:=hE4.out.sz;omega
     have b8:=hE4.out.b 8 (by decide)
     have f0:=hE4.out.f0
     go_upto_region 10 with fail
     clear b8 f0 n1 n3
     have hE50:=(hE4.out.set hp 8 (by decide) (.string ⟨#[106,111,105,110]⟩)).below ((Below.refl _ _).alloc (Nat.le_refl _) (.cells #[.string ⟨#[106,111,105,110]⟩,.string ⟨#[105,110,118,105,116,101]⟩,.string ⟨#[108,101,97,118,101]⟩,.string ⟨#[98,97,110]⟩] 9))
     obtain ⟨W5,hW5⟩:∃ W5,W5=(W4.setCell ⟨w.heap.size,8,none⟩ (.string ⟨#[106,111,105,110]⟩)).alloc (.cells #[.string ⟨#[106,111,105,110]⟩,.string ⟨#[105,110,118,105,116,101]⟩,.string ⟨#[108,101,97,118,101]⟩,.string ⟨#[98,97,110]⟩] 9):=⟨_,rfl⟩
     rw [<- hW5] at hE50 ⊢
     have hE5:Hid (_):=hE50
     clear hW5 hE50
     have b0:W5.cell? ⟨w.heap.size,0,none⟩=some (.string e.id):=hE5.out.b 0 (by decide)
     have b1:W5.cell? ⟨w.heap.size,1,none⟩=some (.string e.sd):=hE5.out.b 1 (by decide)
     have b2:W5.cell? ⟨w.heap.size,2,none⟩=some (.string ⟨#[109,101,109,98,101,114]⟩):=hE5.out.b 2 (by decide)
     have b3:W5.cell? ⟨w.heap.size,3,none⟩=some (.bool true):=hE5.out.b 3 (by decide)
     have b4:W5.cell? ⟨w.heap.size,4,none⟩=some (.string us):=hE5.out.b 4 (by decide)
     have b5:W5.cell? ⟨w.heap.size,5,none⟩=some (.int .i64 e.tm):=hE5.out.b 5 (by decide)
     have b6:W5.cell? ⟨w.heap.size,6,none⟩=some (.slice pa e.np cp):=hE5.out.b 6 (by decide)
     have b7:W5.cell? ⟨w.heap.size,7,none⟩=some (.slice aa e.na ca):=hE5.out.b 7 (by decide)
     have b8:W5.cell? ⟨w.heap.size,8,none⟩=some (.string ⟨#[106,111,105,110]⟩):=hE5.out.b 8 (by decide)
     have b9:W5.cell? ⟨w.heap.size,9,none⟩=some (.slice ga e.ng cg):=hE5.out.b 9 (by decide)
     obtain ⟨v0,z0⟩:=hE5.out.z 0 (by decide)
     obtain ⟨v1,z1⟩:=hE5.out.z 1 (by decide)
     obtain ⟨v2,z2⟩:=hE5.out.z 2 (by decide)
     obtain ⟨v3,z3⟩:=hE5.out.z 3 (by decide)
     obtain ⟨v4,z4⟩:=hE5.out.z 4 (by decide)
     obtain ⟨v5,z5⟩:=hE5.out.z 5 (by decide)
     obtain ⟨v6,z6⟩:=hE5.out.z 6 (by decide)
     obtain ⟨v7,z7⟩:=hE5.out.z 7 (by decide)
     obtain ⟨v8,z8⟩:=hE5.out.z 8 (by decide)
     obtain ⟨v9,z9⟩:=hE5.out.z 9 (by decide)
     have f1:=hE5.out.f1
     have f0:=hE5.out.f0
     have hne:w.heap.size≠w.heap.size+1:=by omega
     go_wp2
     refine bodyPost_ret (v:=.agg #[.string e.id,.string e.sd,.string ⟨#[109,101,109,98,101,114]⟩,.bool true,.string us,.int .i64 e.tm,.slice pa e.np cp,.slice aa e.na ca,.string ⟨#[106,111,105,110]⟩,.slice ga e.ng cg]) (by simp [results,Tryz.results26,go_sem,z0,z1,z2,z3,z4,z5,z6,z7,z8,z9]) rfl (HP.out _ ga cg _ Ht.out (Or.inl ⟨rfl,rfl,rfl,rfl,rfl⟩) ?_)
     (repeat (refine DwF.own ?_ (by first|exact Nat.le_refl _|exact Nat.le_add_right _ _) hp _ _))
     rw [HQ1.out]
     exact hE5.out.dw
    ·have hi7:(k:Int) / 32 % 4=1:=hi6
     have hmw:mv=⟨#[105,110,118,105,116,101]⟩:=hmv
     subst hmw
     clear hi6 hmv
     have n1:w.heap.size≠W4.heap.size:=by have:=hE4.out.sz;omega
     have n3:w.heap.size<W4.heap.size:=by have:=hE4.out.sz;omega
     have b8:=hE4.out.b 8 (by decide)
     have f0:=hE4.out.f0
     go_upto_region 10 with fail
     clear b8 f0 n1 n3
     have hE50:=(hE4.out.set hp 8 (by decide) (.string ⟨#[105,110,118,105,116,101]⟩)).below ((Below.refl _ _).alloc (Nat.le_refl _) (.cells #[.string ⟨#[106,111,105,110]⟩,.string ⟨#[105,110,118,105,116,101]⟩,.string ⟨#[108,101,97,118,101]⟩,.string ⟨#[98,97,110]⟩] 9))
     obtain ⟨W5,hW5⟩:∃ W5,W5=(W4.setCell ⟨w.heap.size,8,none⟩ (.string ⟨#[105,110,118,105,116,101]⟩)).alloc (.cells #[.string ⟨#[106,111,105,110]⟩,.string ⟨#[105,110,118,105,116,101]⟩,.string ⟨#[108,101,97,118,101]⟩,.string ⟨#[98,97,110]⟩] 9):=⟨_,rfl⟩
     rw [<- hW5] at hE50 ⊢
     have hE5:Hid (_):=hE50
     clear hW5 hE50
     have b0:W5.cell? ⟨w.heap.size,0,none⟩=some (.string e.id):=hE5.out.b 0 (by decide)
     have b1:W5.cell? ⟨w.heap.size,1,none⟩=some (.string e.sd):=hE5.out.b 1 (by decide)
     have b2:W5.cell? ⟨w.heap.size,2,none⟩=some (.string ⟨#[109,101,109,98,101,114]⟩):=hE5.out.b 2 (by decide)
     have b3:W5.cell? ⟨w.heap.size,3,none⟩=some (.bool true):=hE5.out.b 3 (by decide)
     have b4:W5.cell? ⟨w.heap.size,4,none⟩=some (.string us):=hE5.out.b 4 (by decide)
     have b5:W5.cell? ⟨w.heap.size,5,none⟩=some (.int .i64 e.tm):=hE5.out.b 5 (by decide)
     have b6:W5.cell? ⟨w.heap.size,6,none⟩=some (.slice pa e.np cp):=hE5.out.b 6 (by decide)
     have b7:W5.cell? ⟨w.heap.size,7,none⟩=some (.slice aa e.na ca):=hE5.out.b 7 (by decide)
     have b8:W5.cell? ⟨w.heap.size,8,none⟩=some (.string ⟨#[105,110,118,105,116,101]⟩):=hE5.out.b 8 (by decide)
     have b9:W5.cell? ⟨w.heap.size,9,none⟩=some (.slice ga e.ng cg):=hE5.out.b 9 (by decide)
     obtain ⟨v0,z0⟩:=hE5.out.z 0 (by decide)
     obtain ⟨v1,z1⟩:=hE5.out.z 1 (by decide)
     obtain ⟨v2,z2⟩:=hE5.out.z 2 (by decide)
     obtain ⟨v3,z3⟩:=hE5.out.z 3 (by decide)
     obtain ⟨v4,z4⟩:=hE5.out.z 4 (by decide)
     obtain ⟨v5,z5⟩:=hE5.out.z 5 (by decide)
     obtain ⟨v6,z6⟩:=hE5.out.z 6 (by decide)
     obtain ⟨v7,z7⟩:=hE5.out.z 7 (by decide)
     obtain ⟨v8,z8⟩:=hE5.out.z 8 (by decide)
     obtain ⟨v9,z9⟩:=hE5.out.z 9 (by decide)
     have f1:=hE5.out.f1
     have f0:=hE5.out.f0
     have hne:w.heap.size≠w.heap.size+1:=by omega
     go_wp2
     refine bodyPost_ret (v:=.agg #[.string e.id,.string e.sd,.string ⟨#[109,101,109,98,101,114]⟩,.bool true,.string us,.int .i64 e.tm,.slice pa e.np cp,.slice aa e.na ca,.string ⟨#[105,110,118,105,116,101]⟩,.slice ga e.ng cg]) (by simp [results,Tryz.results26,go_sem,z0,z1,z2,z3,z4,z5,z6,z7,z8,z9]) rfl (HP.out _ ga cg _ Ht.out (Or.inl ⟨rfl,rfl,rfl,rfl,rfl⟩) ?_)
     (repeat (refine DwF.own ?_ (by first|exact Nat.le_refl _|exact Nat.le_add_right _ _) hp _ _))
     rw [HQ1.out]
     exact hE5.out.dw
    ·have hi7:(k:Int) / 32 % 4=2:=hi6
     have hmw:mv=⟨#[108,101,97,118,101]⟩:=hmv
     subst hmw
     clear hi6 hmv
     have n1:w.heap.size≠W4.heap.size:=by have:=hE4.out.sz;omega
     have n3:w.heap.size<W4.heap.size:=by have:=hE4.out.sz;omega
     have b8:=hE4.out.b 8 (by decide)
     have f0:=hE4.out.f0
     go_upto_region 10 with fail
     clear b8 f0 n1 n3
     have hE50:=(hE4.out.set hp 8 (by decide) (.string ⟨#[108,101,97,118,101]⟩)).below ((Below.refl _ _).alloc (Nat.le_refl _) (.cells #[.string ⟨#[106,111,105,110]⟩,.string ⟨#[105,110,118,105,116,101]⟩,.string ⟨#[108,101,97,118,101]⟩,.string ⟨#[98,97,110]⟩] 9))
     obtain ⟨W5,hW5⟩:∃ W5,W5=(W4.setCell ⟨w.heap.size,8,none⟩ (.string ⟨#[108,101,97,118,101]⟩)).alloc (.cells #[.string ⟨#[106,111,105,110]⟩,.string ⟨#[105,110,118,105,116,101]⟩,.string ⟨#[108,101,97,118,101]⟩,.string ⟨#[98,97,110]⟩] 9):=⟨_,rfl⟩
     rw [<- hW5] at hE50 ⊢
     have hE5:Hid (_):=hE50
     clear hW5 hE50
     have b0:W5.cell? ⟨w.heap.size,0,none⟩=some (.string e.id):=hE5.out.b 0 (by decide)
     have b1:W5.cell? ⟨w.heap.size,1,none⟩=some (.string e.sd):=hE5.out.b 1 (by decide)
     have b2:W5.cell? ⟨w.heap.size,2,none⟩=some (.string ⟨#[109,101,109,98,101,114]⟩):=hE5.out.b 2 (by decide)
     have b3:W5.cell? ⟨w.heap.size,3,none⟩=some (.bool true):=hE5.out.b 3 (by decide)
     have b4:W5.cell? ⟨w.heap.size,4,none⟩=some (.string us):=hE5.out.b 4 (by decide)
     have b5:W5.cell? ⟨w.heap.size,5,none⟩=some (.int .i64 e.tm):=hE5.out.b 5 (by decide)
     have b6:W5.cell? ⟨w.heap.size,6,none⟩=some (.slice pa e.np cp):=hE5.out.b 6 (by decide)
     have b7:W5.cell? ⟨w.heap.size,7,none⟩=some (.slice aa e.na ca):=hE5.out.b 7 (by decide)
     have b8:W5.cell? ⟨w.heap.size,8,none⟩=some (.string ⟨#[108,101,97,118,101]⟩):=hE5.out.b 8 (by decide)
     have b9:W5.cell? ⟨w.heap.size,9,none⟩=some (.slice ga e.ng cg):=hE5.out.b 9 (by decide)
     obtain ⟨v0,z0⟩:=hE5.out.z 0 (by decide)
     obtain ⟨v1,z1⟩:=hE5.out.z 1 (by decide)
     obtain ⟨v2,z2⟩:=hE5.out.z 2 (by decide)
     obtain ⟨v3,z3⟩:=hE5.out.z 3 (by decide)
     obtain ⟨v4,z4⟩:=hE5.out.z 4 (by decide)
     obtain ⟨v5,z5⟩:=hE5.out.z 5 (by decide)
     obtain ⟨v6,z6⟩:=hE5.out.z 6 (by decide)
     obtain ⟨v7,z7⟩:=hE5.out.z 7 (by decide)
     obtain ⟨v8,z8⟩:=hE5.out.z 8 (by decide)
     obtain ⟨v9,z9⟩:=hE5.out.z 9 (by decide)
     have f1:=hE5.out.f1
     have f0:=hE5.out.f0
     have hne:w.heap.size≠w.heap.size+1:=by omega
     go_wp2
     refine bodyPost_ret (v:=.agg #[.string e.id,.string e.sd,.string ⟨#[109,101,109,98,101,114]⟩,.bool true,.string us,.int .i64 e.tm,.slice pa e.np cp,.slice aa e.na ca,.string ⟨#[108,101,97,118,101]⟩,.slice ga e.ng cg]) (by simp [results,Tryz.results26,go_sem,z0,z1,z2,z3,z4,z5,z6,z7,z8,z9]) rfl (HP.out _ ga cg _ Ht.out (Or.inl ⟨rfl,rfl,rfl,rfl,rfl⟩) ?_)
     (repeat (refine DwF.own ?_ (by first|exact Nat.le_refl _|exact Nat.le_add_right _ _) hp _ _))
     rw [HQ1.out]
     exact hE5.out.dw
    ·have hi7:(k:Int) / 32 % 4=3:=hi6
     have hmw:mv=⟨#[98,97,110]⟩:=hmv
     subst hmw
     clear hi6 hmv
     have n1:w.heap.size≠W4.heap.size:=by have:=hE4.out.sz;omega
     have n3:w.heap.size<W4.heap.size:=by have:=hE4.out.sz;omega
     have b8:=hE4.out.b 8 (by decide)
     have f0:=hE4.out.f0
     go_upto_region 10 with fail
     clear b8 f0 n1 n3
     have hE50:=(hE4.out.set hp 8 (by decide) (.string ⟨#[98,97,110]⟩)).below ((Below.refl _ _).alloc (Nat.le_refl _) (.cells #[.string ⟨#[106,111,105,110]⟩,.string ⟨#[105,110,118,105,116,101]⟩,.string ⟨#[108,101,97,118,101]⟩,.string ⟨#[98,97,110]⟩] 9))
     obtain ⟨W5,hW5⟩:∃ W5,W5=(W4.setCell ⟨w.heap.size,8,none⟩ (.string ⟨#[98,97,110]⟩)).alloc (.cells #[.string ⟨#[106,111,105,110]⟩,.string ⟨#[105,110,118,105,116,101]⟩,.string ⟨#[108,101,97,118,101]⟩,.string ⟨#[98,97,110]⟩] 9):=⟨_,rfl⟩
     rw [<- hW5] at hE50 ⊢
     have hE5:Hid (_):=hE50
     clear hW5 hE50
     have b0:W5.cell? ⟨w.heap.size,0,none⟩=some (.string e.id):=hE5.out.b 0 (by decide)
     have b1:W5.cell? ⟨w.heap.size,1,none⟩=some (.string e.sd):=hE5.out.b 1 (by decide)
     have b2:W5.cell? ⟨w.heap.size,2,none⟩=some (.string ⟨#[109,101,109,98,101,114]⟩):=hE5.out.b 2 (by decide)
     have b3:W5.cell? ⟨w.heap.size,3,none⟩=some (.bool true):=hE5.out.b 3 (by decide)
     have b4:W5.cell? ⟨w.heap.size,4,none⟩=some (.string us):=hE5.out.b 4 (by decide)
     have b5:W5.cell? ⟨w.heap.size,5,none⟩=some (.int .i64 e.tm):=hE5.out.b 5 (by decide)
     have b6:W5.cell? ⟨w.heap.size,6,none⟩=some (.slice pa e.np cp):=hE5.out.b 6 (by decide)
     have b7:W5.cell? ⟨w.heap.size,7,none⟩=some (.slice aa e.na ca):=hE5.out.b 7 (by decide)
     have b8:W5.cell? ⟨w.heap.size,8,none⟩=some (.string ⟨#[98,97,110]⟩):=hE5.out.b 8 (by decide)
     have b9:W5.cell? ⟨w.heap.size,9,none⟩=some (.slice ga e.ng cg):=hE5.out.b 9 (by decide)
     obtain ⟨v0,z0⟩:=hE5.out.z 0 (by decide)
     obtain ⟨v1,z1⟩:=hE5.out.z 1 (by decide)
     obtain ⟨v2,z2⟩:=hE5.out.z 2 (by decide)
     obtain ⟨v3,z3⟩:=hE5.out.z 3 (by decide)
     obtain ⟨v4,z4⟩:=hE5.out.z 4 (by decide)
     obtain ⟨v5,z5⟩:=hE5.out.z 5 (by decide)
     obtain ⟨v6,z6⟩:=hE5.out.z 6 (by decide)
     obtain ⟨v7,z7⟩:=hE5.out.z 7 (by decide)
     obtain ⟨v8,z8⟩:=hE5.out.z 8 (by decide)
     obtain ⟨v9,z9⟩:=hE5.out.z 9 (by decide)
     have f1:=hE5.out.f1
     have f0:=hE5.out.f0
     have hne:w.heap.size≠w.heap.size+1:=by omega
     go_wp2
     refine bodyPost_ret (v:=.agg #[.string e.id,.string e.sd,.string ⟨#[109,101,109,98,101,114]⟩,.bool true,.string us,.int .i64 e.tm,.slice pa e.np cp,.slice aa e.na ca,.string ⟨#[98,97,110]⟩,.slice ga e.ng cg]) (by simp [results,Tryz.results26,go_sem,z0,z1,z2,z3,z4,z5,z6,z7,z8,z9]) rfl (HP.out _ ga cg _ Ht.out (Or.inl ⟨rfl,rfl,rfl,rfl,rfl⟩) ?_)
     (repeat (refine DwF.own ?_ (by first|exact Nat.le_refl _|exact Nat.le_add_right _ _) hp _ _))
     rw [HQ1.out]
     exact hE5.out.dw
   ·have a2:decide ((0:Int)<(k:Int) % 8)=false:=decide_eq_false (by omega)
    have a3:decide ((128:Int)<=(k:Int))=true:=decide_eq_true (by omega)
    go_upto_region 8 with fail
    have hE20:=((((hE1.out.set hp 3 (by decide) (.bool true)).set hp 2 (by decide) (.string ⟨#[109,101,109,98,101,114]⟩)).set hp 4 (by decide) (.string e.sd)).set hp 8 (by decide) (.string ⟨#[106,111,105,110]⟩))
    obtain ⟨W2,hW2⟩:∃ W2,W2=((((w1.setCell ⟨w.heap.size,3,none⟩ (.bool true)).setCell ⟨w.heap.size,2,none⟩ (.string ⟨#[109,101,109,98,101,114]⟩)).setCell ⟨w.heap.size,4,none⟩ (.string e.sd)).setCell ⟨w.heap.size,8,none⟩ (.string ⟨#[106,111,105,110]⟩)):=⟨_,rfl⟩
    rw [<- hW2] at hE20 ⊢
    have hE2:Hid (_):=hE20
    clear hW2 hE20
    clear b0 b1 b2 b3 b4 b5 b6 b7 b8 b9 f0
    go_wp2_with fail
    refine (HU.out _).mono ?_
    rintro x w3 ⟨rfl,hb3⟩
    have hE3:Hid (_):=hE2.out.below hb3
    clear hE2 hb3 HU
    have b4:=hE3.out.b 4 (by decide)
    have f0:=hE3.out.f0
    go_upto_region 9 with fail
    clear b4 f0
    have hE40:=(hE3.out.set hp 4 (by decide) (.string us))
    obtain ⟨W4,hW4⟩:∃ W4,W4=(w3.setCell ⟨w.heap.size,4,none⟩ (.string us)):=⟨_,rfl⟩
    rw [<- hW4] at hE40 ⊢
    have hE4:Hid (_):=hE40
    clear hW4 hE40
    rcases (show i4=0∨i4=1∨i4=2∨i4=3 by omega) with rfl|rfl|rfl|rfl
    ·have hi7:(k:Int) / 32 % 4=0:=hi6
     have hmw:mv=⟨#[106,111,105,110]⟩:=hmv
     subst hmw
     clear hi6 hmv
     have n1:w.heap.size≠W4.heap.size:=by have:=hE4.out.sz;omega
     have n3:w.heap.size<W4.heap.size:=by have:=hE4.out.sz;omega
     have b8:=hE4.out.b 8 (by decide)
     have f0:=hE4.out.f0
     go_upto_region 10 with fail
     clear b8 f0 n1 n3
     have hE50:=(hE4.out.set hp 8 (by decide) (.string ⟨#[106,111,105,110]⟩)).below ((Below.refl _ _).alloc (Nat.le_refl _) (.cells #[.string ⟨#[106,111,105,110]⟩,.string ⟨#[105,110,118,105,116,101]⟩,.string ⟨#[108,101,97,118,101]⟩,.string ⟨#[98,97,110]⟩] 9))
     obtain ⟨W5,hW5⟩:∃ W5,W5=(W4.setCell ⟨w.heap.size,8,none⟩ (.string ⟨#[106,111,105,110]⟩)).alloc (.cells #[.string ⟨#[106,111,105,110]⟩,.string ⟨#[105,110,118,105,116,101]⟩,.string ⟨#[108,101,97,118,101]⟩,.string ⟨#[98,97,110]⟩] 9):=⟨_,rfl⟩
     rw [<- hW5] at hE50 ⊢
     have hE5:Hid (_):=hE50
     clear hW5 hE50
     have b0:W5.cell? ⟨w.heap.size,0,none⟩=some (.string e.id):=hE5.out.b 0 (by decide)
     have b1:W5.cell? ⟨w.heap.size,1,none⟩=some (.string e.sd):=hE5.out.b 1 (by decide)
     have b2:W5.cell? ⟨w.heap.size,2,none⟩=some (.string ⟨#[109,101,109,98,101,114]⟩):=hE5.out.b 2 (by decide)
     have b3:W5.cell? ⟨w.heap.size,3,none⟩=some (.bool true):=hE5.out.b 3 (by decide)
     have b4:W5.cell? ⟨w.heap.size,4,none⟩=some (.string us):=hE5.out.b 4 (by decide)
     have b5:W5.cell? ⟨w.heap.size,5,none⟩=some (.int .i64 e.tm):=hE5.out.b 5 (by decide)
     have b6:W5.cell? ⟨w.heap.size,6,none⟩=some (.slice pa e.np cp):=hE5.out.b 6 (by decide)
     have b7:W5.cell? ⟨w.heap.size,7,none⟩=some (.slice aa e.na ca):=hE5.out.b 7 (by decide)
     have b8:W5.cell? ⟨w.heap.size,8,none⟩=some (.string ⟨#[106,111,105,110]⟩):=hE5.out.b 8 (by decide)
     have b9:W5.cell? ⟨w.heap.size,9,none⟩=some (.slice ga e.ng cg):=hE5.out.b 9 (by decide)
     obtain ⟨v0,z0⟩:=hE5.out.z 0 (by decide)
     obtain ⟨v1,z1⟩:=hE5.out.z 1 (by decide)
     obtain ⟨v2,z2⟩:=hE5.out.z 2 (by decide)
     obtain ⟨v3,z3⟩:=hE5.out.z 3 (by decide)
     obtain ⟨v4,z4⟩:=hE5.out.z 4 (by decide)
     obtain ⟨v5,z5⟩:=hE5.out.z 5 (by decide)
     obtain ⟨v6,z6⟩:=hE5.out.z 6 (by decide)
     obtain ⟨v7,z7⟩:=hE5.out.z 7 (by decide)
     obtain ⟨v8,z8⟩:=hE5.out.z 8 (by decide)
     obtain ⟨v9,z9⟩:=hE5.out.z 9 (by decide)
     have f1:=hE5.out.f1
     have f0:=hE5.out.f0
     have hne:w.heap.size≠w.heap.size+1:=by omega
     go_wp2
     refine bodyPost_ret (v:=.agg #[.string e.id,.string e.sd,.string ⟨#[109,101,109,98,101,114]⟩,.bool true,.string us,.int .i64 e.tm,.slice pa e.np cp,.slice aa e.na ca,.string ⟨#[106,111,105,110]⟩,.slice ga e.ng cg]) (by simp [results,Tryz.results26,go_sem,z0,z1,z2,z3,z4,z5,z6,z7,z8,z9]) rfl (HP.out _ ga cg _ Ht.out (Or.inl ⟨rfl,rfl,rfl,rfl,rfl⟩) ?_)
     (repeat (refine DwF.own ?_ (by first|exact Nat.le_refl _|exact Nat.le_add_right _ _) hp _ _))
     rw [HQ1.out]
     exact hE5.out.dw
    ·have hi7:(k:Int) / 32 % 4=1:=hi6
     have hmw:mv=⟨#[105,110,118,105,116,101]⟩:=hmv
     subst hmw
     clear hi6 hmv
     have n1:w.heap.size≠W4.heap.size:=by have:=hE4.out.sz;omega
     have n3:w.heap.size<W4.heap.size:=by have:=hE4.out.sz;omega
     have b8:=hE4.out.b 8 (by decide)
     have f0:=hE4.out.f0
     go_upto_region 10 with fail
     clear b8 f0 n1 n3
     have hE50:=(hE4.out.set hp 8 (by decide) (.string ⟨#[105,110,118,105,116,101]⟩)).below ((Below.refl _ _).alloc (Nat.le_refl _) (.cells #[.string ⟨#[106,111,105,110]⟩,.string ⟨#[105,110,118,105,116,101]⟩,.string ⟨#[108,101,97,118,101]⟩,.string ⟨#[98,97,110]⟩] 9))
     obtain ⟨W5,hW5⟩:∃ W5,W5=(W4.setCell ⟨w.heap.size,8,none⟩ (.string ⟨#[105,110,118,105,116,101]⟩)).alloc (.cells #[.string ⟨#[106,111,105,110]⟩,.string ⟨#[105,110,118,105,116,101]⟩,.string ⟨#[108,101,97,118,101]⟩,.string ⟨#[98,97,110]⟩] 9):=⟨_,rfl⟩
     rw [<- hW5] at hE50 ⊢
     have hE5:Hid (_):=hE50
     clear hW5 hE50
     have b0:W5.cell? ⟨w.heap.size,0,none⟩=some (.string e.id):=hE5.out.b 0 (by decide)
     have b1:W5.cell? ⟨w.heap.size,1,none⟩=some (.string e.sd):=hE5.out.b 1 (by decide)
     have b2:W5.cell? ⟨w.heap.size,2,none⟩=some (.string ⟨#[109,101,109,98,101,114]⟩):=hE5.out.b 2 (by decide)
     have b3:W5.cell? ⟨w.heap.size,3,none⟩=some (.bool true):=hE5.out.b 3 (by decide)
     have b4:W5.cell? ⟨w.heap.size,4,none⟩=some (.string us):=hE5.out.b 4 (by decide)
     have b5:W5.cell? ⟨w.heap.size,5,none⟩=some (.int .i64 e.tm):=hE5.out.b 5 (by decide)
     have b6:W5.cell? ⟨w.heap.size,6,none⟩=some (.slice pa e.np cp):=hE5.out.b 6 (by decide)
     have b7:W5.cell? ⟨w.heap.size,7,none⟩=some (.slice aa e.na ca):=hE5.out.b 7 (by decide)
     have b8:W5.cell? ⟨w.heap.size,8,none⟩=some (.string ⟨#[105,110,118,105,116,101]⟩):=hE5.out.b 8 (by decide)
     have b9:W5.cell? ⟨w.heap.size,9,none⟩=some (.slice ga e.ng cg):=hE5.out.b 9 (by decide)
     obtain ⟨v0,z0⟩:=hE5.out.z 0 (by decide)
     obtain ⟨v1,z1⟩:=hE5.out.z 1 (by decide)
     obtain ⟨v2,z2⟩:=hE5.out.z 2 (by decide)
     obtain ⟨v3,z3⟩:=hE5.out.z 3 (by decide)
     obtain ⟨v4,z4⟩:=hE5.out.z 4 (by decide)
     obtain ⟨v5,z5⟩:=hE5.out.z 5 (by decide)
     obtain ⟨v6,z6⟩:=hE5.out.z 6 (by decide)
     obtain ⟨v7,z7⟩:=hE5.out.z 7 (by decide)
     obtain ⟨v8,z8⟩:=hE5.out.z 8 (by decide)
     obtain ⟨v9,z9⟩:=hE5.out.z 9 (by decide)
     have f1:=hE5.out.f1
     have f0:=hE5.out.f0
     have hne:w.heap.size≠w.heap.size+1:=by omega
     go_wp2
     refine bodyPost_ret (v:=.agg #[.string e.id,.string e.sd,.string ⟨#[109,101,109,98,101,114]⟩,.bool true,.string us,.int .i64 e.tm,.slice pa e.np cp,.slice aa e.na ca,.string ⟨#[105,110,118,105,116,101]⟩,.slice ga e.ng cg]) (by simp [results,Tryz.results26,go_sem,z0,z1,z2,z3,z4,z5,z6,z7,z8,z9]) rfl (HP.out _ ga cg _ Ht.out (Or.inl ⟨rfl,rfl,rfl,rfl,rfl⟩) ?_)
     (repeat (refine DwF.own ?_ (by first|exact Nat.le_refl _|exact Nat.le_add_right _ _) hp _ _))
     rw [HQ1.out]
     exact hE5.out.dw
    ·have hi7:(k:Int) / 32 % 4=2:=hi6
     have hmw:mv=⟨#[108,101,97,118,101]⟩:=hmv
     subst hmw
     clear hi6 hmv
     have n1:w.heap.size≠W4.heap.size:=by have:=hE4.out.sz;omega
     have n3:w.heap.size<W4.heap.size:=by have:=hE4.out.sz;omega
     have b8:=hE4.out.b 8 (by decide)
     have f0:=hE4.out.f0
     go_upto_region 10 with fail
     clear b8 f0 n1 n3
     have hE50:=(hE4.out.set hp 8 (by decide) (.string ⟨#[108,101,97,118,101]⟩)).below ((Below.refl _ _).alloc (Nat.le_refl _) (.cells #[.string ⟨#[106,111,105,110]⟩,.string ⟨#[105,110,118,105,116,101]⟩,.string ⟨#[108,101,97,118,101]⟩,.string ⟨#[98,97,110]⟩] 9))
     obtain ⟨W5,hW5⟩:∃ W5,W5=(W4.setCell ⟨w.heap.size,8,none⟩ (.string ⟨#[108,101,97,118,101]⟩)).alloc (.cells #[.string ⟨#[106,111,105,110]⟩,.string ⟨#[105,110,118,105,116,101]⟩,.string ⟨#[108,101,97,118,101]⟩,.string ⟨#[98,97,110]⟩] 9):=⟨_,rfl⟩
     rw [<- hW5] at hE50 ⊢
     have hE5:Hid (_):=hE50
     clear hW5 hE50
     have b0:W5.cell? ⟨w.heap.size,0,none⟩=some (.string e.id):=hE5.out.b 0 (by decide)
     have b1:W5.cell? ⟨w.heap.size,1,none⟩=some (.string e.sd):=hE5.out.b 1 (by decide)
     have b2:W5.cell? ⟨w.heap.size,2,none⟩=some (.string ⟨#[109,101,109,98,101,114]⟩):=hE5.out.b 2 (by decide)
     have b3:W5.cell? ⟨w.heap.size,3,none⟩=some (.bool true):=hE5.out.b 3 (by decide)
     have b4:W5.cell? ⟨w.heap.size,4,none⟩=some (.string us):=hE5.out.b 4 (by decide)
     have b5:W5.cell? ⟨w.heap.size,5,none⟩=some (.int .i64 e.tm):=hE5.out.b 5 (by decide)
     have b6:W5.cell? ⟨w.heap.size,6,none⟩=some (.slice pa e.np cp):=hE5.out.b 6 (by decide)
     have b7:W5.cell? ⟨w.heap.size,7,none⟩=some (.slice aa e.na ca):=hE5.out.b 7 (by decide)
     have b8:W5.cell? ⟨w.heap.size,8,none⟩=some (.string ⟨#[108,101,97,118,101]⟩):=hE5.out.b 8 (by decide)
     have b9:W5.cell? ⟨w.heap.size,9,none⟩=some (.slice ga e.ng cg):=hE5.out.b 9 (by decide)
     obtain ⟨v0,z0⟩:=hE5.out.z 0 (by decide)
     obtain ⟨v1,z1⟩:=hE5.out.z 1 (by decide)
     obtain ⟨v2,z2⟩:=hE5.out.z 2 (by decide)
     obtain ⟨v3,z3⟩:=hE5.out.z 3 (by decide)
     obtain ⟨v4,z4⟩:=hE5.out.z 4 (by decide)
     obtain ⟨v5,z5⟩:=hE5.out.z 5 (by decide)
     obtain ⟨v6,z6⟩:=hE5.out.z 6 (by decide)
     obtain ⟨v7,z7⟩:=hE5.out.z 7 (by decide)
     obtain ⟨v8,z8⟩:=hE5.out.z 8 (by decide)
     obtain ⟨v9,z9⟩:=hE5.out.z 9 (by decide)
     have f1:=hE5.out.f1
     have f0:=hE5.out.f0
     have hne:w.heap.size≠w.heap.size+1:=by omega
     go_wp2
     refine bodyPost_ret (v:=.agg #[.string e.id,.string e.sd,.string ⟨#[109,101,109,98,101,114]⟩,.bool true,.string us,.int .i64 e.tm,.slice pa e.np cp,.slice aa e.na ca,.string ⟨#[108,101,97,118,101]⟩,.slice ga e.ng cg]) (by simp [results,Tryz.results26,go_sem,z0,z1,z2,z3,z4,z5,z6,z7,z8,z9]) rfl (HP.out _ ga cg _ Ht.out (Or.inl ⟨rfl,rfl,rfl,rfl,rfl⟩) ?_)
     (repeat (refine DwF.own ?_ (by first|exact Nat.le_refl _|exact Nat.le_add_right _ _) hp _ _))
     rw [HQ1.out]
     exact hE5.out.dw
    ·have hi7:(k:Int) / 32 % 4=3:=hi6
     have hmw:mv=⟨#[98,97,110]⟩:=hmv
     subst hmw
     clear hi6 hmv
     have n1:w.heap.size≠W4.heap.size:=by have:=hE4.out.sz;omega
     have n3:w.heap.size<W4.heap.size:=by have:=hE4.out.sz;omega
     have b8:=hE4.out.b 8 (by decide)
     have f0:=hE4.out.f0
     go_upto_region 10 with fail
     clear b8 f0 n1 n3
     have hE50:=(hE4.out.set hp 8 (by decide) (.string ⟨#[98,97,110]⟩)).below ((Below.refl _ _).alloc (Nat.le_refl _) (.cells #[.string ⟨#[106,111,105,110]⟩,.string ⟨#[105,110,118,105,116,101]⟩,.string ⟨#[108,101,97,118,101]⟩,.string ⟨#[98,97,110]⟩] 9))
     obtain ⟨W5,hW5⟩:∃ W5,W5=(W4.setCell ⟨w.heap.size,8,none⟩ (.string ⟨#[98,97,110]⟩)).alloc (.cells #[.string ⟨#[106,111,105,110]⟩,.string ⟨#[105,110,118,105,116,101]⟩,.string ⟨#[108,101,97,118,101]⟩,.string ⟨#[98,97,110]⟩] 9):=⟨_,rfl⟩
     rw [<- hW5] at hE50 ⊢
     have hE5:Hid (_):=hE50
     clear hW5 hE50
     have b0:W5.cell? ⟨w.heap.size,0,none⟩=some (.string e.id):=hE5.out.b 0 (by decide)
     have b1:W5.cell? ⟨w.heap.size,1,none⟩=some (.string e.sd):=hE5.out.b 1 (by decide)
     have b2:W5.cell? ⟨w.heap.size,2,none⟩=some (.string ⟨#[109,101,109,98,101,114]⟩):=hE5.out.b 2 (by decide)
     have b3:W5.cell? ⟨w.heap.size,3,none⟩=some (.bool true):=hE5.out.b 3 (by decide)
     have b4:W5.cell? ⟨w.heap.size,4,none⟩=some (.string us):=hE5.out.b 4 (by decide)
     have b5:W5.cell? ⟨w.heap.size,5,none⟩=some (.int .i64 e.tm):=hE5.out.b 5 (by decide)
     have b6:W5.cell? ⟨w.heap.size,6,none⟩=some (.slice pa e.np cp):=hE5.out.b 6 (by decide)
     have b7:W5.cell? ⟨w.heap.size,7,none⟩=some (.slice aa e.na ca):=hE5.out.b 7 (by decide)
     have b8:W5.cell? ⟨w.heap.size,8,none⟩=some (.string ⟨#[98,97,110]⟩):=hE5.out.b 8 (by decide)
     have b9:W5.cell? ⟨w.heap.size,9,none⟩=some (.slice ga e.ng cg):=hE5.out.b 9 (by decide)
     obtain ⟨v0,z0⟩:=hE5.out.z 0 (by decide)
     obtain ⟨v1,z1⟩:=hE5.out.z 1 (by decide)
     obtain ⟨v2,z2⟩:=hE5.out.z 2 (by decide)
     obtain ⟨v3,z3⟩:=hE5.out.z 3 (by decide)
     obtain ⟨v4,z4⟩:=hE5.out.z 4 (by decide)
     obtain ⟨v5,z5⟩:=hE5.out.z 5 (by decide)
     obtain ⟨v6,z6⟩:=hE5.out.z 6 (by decide)
     obtain ⟨v7,z7⟩:=hE5.out.z 7 (by decide)
     obtain ⟨v8,z8⟩:=hE5.out.z 8 (by decide)
     obtain ⟨v9,z9⟩:=hE5.out.z 9 (by decide)
     have f1:=hE5.out.f1
     have f0:=hE5.out.f0
     have hne:w.heap.size≠w.heap.size+1:=by omega
     go_wp2
     refine bodyPost_ret (v:=.agg #[.string e.id,.string e.sd,.string ⟨#[109,101,109,98,101,114]⟩,.bool true,.string us,.int .i64 e.tm,.slice pa e.np cp,.slice aa e.na ca,.string ⟨#[98,97,110]⟩,.slice ga e.ng cg]) (by simp [results,Tryz.results26,go_sem,z0,z1,z2,z3,z4,z5,z6,z7,z8,z9]) rfl (HP.out _ ga cg _ Ht.out (Or.inl ⟨rfl,rfl,rfl,rfl,rfl⟩) ?_)
     (repeat (refine DwF.own ?_ (by first|exact Nat.le_refl _|exact Nat.le_add_right _ _) hp _ _))
     rw [HQ1.out]
     exact hE5.out.dw
  ·have Ht:Hid ({ e with st:=true,ty:=⟨#[109,101,109,98,101,114]⟩,key:=e.sd,val:=⟨#[106,111,105,110]⟩ }=cDr bs m q e):=by unfold Hid;rw [HE.out];unfold cnE;rw [if_pos c3,if_neg cu]
   have a2:decide ((0:Int)<(k:Int) % 8)=false:=decide_eq_false (by omega)
   have a3:decide ((128:Int)<=(k:Int))=false:=decide_eq_false (by omega)
   go_upto_region 10 with fail
   have hE20:=((((hE1.out.set hp 3 (by decide) (.bool true)).set hp 2 (by decide) (.string ⟨#[109,101,109,98,101,114]⟩)).set hp 4 (by decide) (.string e.sd)).set hp 8 (by decide) (.string ⟨#[106,111,105,110]⟩))
   obtain ⟨W2,hW2⟩:∃ W2,W2=((((w1.setCell ⟨w.heap.size,3,none⟩ (.bool true)).setCell ⟨w.heap.size,2,none⟩ (.string ⟨#[109,101,109,98,101,114]⟩)).setCell ⟨w.heap.size,4,none⟩ (.string e.sd)).setCell ⟨w.heap.size,8,none⟩ (.string ⟨#[106,111,105,110]⟩)):=⟨_,rfl⟩
   rw [<- hW2] at hE20 ⊢
   have hE2:Hid (_):=hE20
   clear hW2 hE20
   clear b0 b1 b2 b3 b4 b5 b6 b7 b8 b9 f0
   have b0:W2.cell? ⟨w.heap.size,0,none⟩=some (.string e.id):=hE2.out.b 0 (by decide)
   have b1:W2.cell? ⟨w.heap.size,1,none⟩=some (.string e.sd):=hE2.out.b 1 (by decide)
   have b2:W2.cell? ⟨w.heap.size,2,none⟩=some (.string ⟨#[109,101,109,98,101,114]⟩):=hE2.out.b 2 (by decide)
   have b3:W2.cell? ⟨w.heap.size,3,none⟩=some (.bool true):=hE2.out.b 3 (by decide)
   have b4:W2.cell? ⟨w.heap.size,4,none⟩=some (.string e.sd):=hE2.out.b 4 (by decide)
   have b5:W2.cell? ⟨w.heap.size,5,none⟩=some (.int .i64 e.tm):=hE2.out.b 5 (by decide)
   have b6:W2.cell? ⟨w.heap.size,6,none⟩=some (.slice pa e.np cp):=hE2.out.b 6 (by decide)
   have b7:W2.cell? ⟨w.heap.size,7,none⟩=some (.slice aa e.na ca):=hE2.out.b 7 (by decide)
   have b8:W2.cell? ⟨w.heap.size,8,none⟩=some (.string ⟨#[106,111,105,110]⟩):=hE2.out.b 8 (by decide)
   have b9:W2.cell? ⟨w.heap.size,9,none⟩=some (.slice ga e.ng cg):=hE2.out.b 9 (by decide)
   obtain ⟨v0,z0⟩:=hE2.out.z 0 (by decide)
   obtain ⟨v1,z1⟩:=hE2.out.z 1 (by decide)
   obtain ⟨v2,z2⟩:=hE2.out.z 2 (by decide)
   obtain ⟨v3,z3⟩:=hE2.out.z 3 (by decide)
   obtain ⟨v4,z4⟩:=hE2.out.z 4 (by decide)
   obtain ⟨v5,z5⟩:=hE2.out.z 5 (by decide)
   obtain ⟨v6,z6⟩:=hE2.out.z 6 (by decide)
   obtain ⟨v7,z7⟩:=hE2.out.z 7 (by decide)
   obtain ⟨v8,z8⟩:=hE2.out.z 8 (by decide)
   obtain ⟨v9,z9⟩:=hE2.out.z 9 (by decide)
   have f1:=hE2.out.f1
   have f0:=hE2.out.f0
   have hne:w.heap.size≠w.heap.size+1:=by omega
   go_wp2
   refine bodyPost_ret (v:=.agg #[.string e.id,.string e.sd,.string ⟨#[109,101,109,98,101,114]⟩,.bool true,.string e.sd,.int .i64 e.tm,.slice pa e.np cp,.slice aa e.na ca,.string ⟨#[106,111,105,110]⟩,.slice ga e.ng cg]) (by simp [results,Tryz.results26,go_sem,z0,z1,z2,z3,z4,z5,z6,z7,z8,z9]) rfl (HP.out _ ga cg _ Ht.out (Or.inl ⟨rfl,rfl,rfl,rfl,rfl⟩) ?_)
   (repeat (refine DwF.own ?_ (by first|exact Nat.le_refl _|exact Nat.le_add_right _ _) hp _ _))
   rw [HQ1.out]
   exact hE2.out.dw
 have a1:decide ((k:Int) % 8<3)=false:=decide_eq_false (by omega)
 by_cases c4:k % 8=3
 ·have a2:((k:Int) % 8 == 3)=true:=by simp;omega
  have HQ1:Hid (cQr bs m q=(gDr bs m (nxQ m q)).1):=by unfold Hid;rw [HQ.out];exact if_pos c4
  have Ht:Hid ({ e with st:=true,ty:=⟨#[112,111,119,101,114]⟩,ng:=(gDr bs m (nxQ m q)).2.length,M:=gM (gDr bs m (nxQ m q)).2,L:=gL (gDr bs m (nxQ m q)).2 }=cDr bs m q e):=by unfold Hid;rw [HE.out];unfold cnE;rw [if_neg c3,if_pos c4]
  go_upto_region 13 with fail
  have hE20:=((hE1.out.set hp 3 (by decide) (.bool true)).set hp 2 (by decide) (.string ⟨#[112,111,119,101,114]⟩))
  obtain ⟨W2,hW2⟩:∃ W2,W2=((w1.setCell ⟨w.heap.size,3,none⟩ (.bool true)).setCell ⟨w.heap.size,2,none⟩ (.string ⟨#[112,111,119,101,114]⟩)):=⟨_,rfl⟩
  rw [<- hW2] at hE20 ⊢
  have hE2:Hid (_):=hE20
  clear hW2 hE20
  clear b0 b1 b2 b3 b4 b5 b6 b7 b8 b9 f0
  have HG:Hid (Calls Tryz.prog 43 #[.pointer (some ⟨p,0,none⟩)] W2 (GdPost p W2 bs m (nxQ m q))):=drawGrants p W2 hE2.out.dw.1
  go_wp2_with fail
  refine HG.out.mono ?_
  rintro x w3 ⟨gg,gn,gc,rfl,hgn,hgo,hd3⟩
  have hE3:Hid (_):=hE2.out.draw hp hd3
  have Hgo:Hid (OwnG w3 w.heap.size (.slice (some ⟨gg,0,none⟩) gn gc) gn (gM (gDr bs m (nxQ m q)).2) (gL (gDr bs m (nxQ m q)).2)):=by
   obtain ⟨q1,q2⟩:=hgo
   exact ⟨q1,q2.imp id fun ⟨g,cap,cur,e,hg,r⟩=>⟨g,cap,cur,e,Nat.le_trans (by have:=hE2.out.sz;omega) hg,r⟩⟩
  have Hgn:Hid (gn=(gDr bs m (nxQ m q)).2.length∧w.heap.size+2<=gg):=⟨hgn,by
   have:=(World.ownsRow.lt hgo gg rfl).1
   have:=hE2.out.sz
   omega⟩
  clear hE2 hd3 hgo HG hgn
  have b9:=hE3.out.b 9 (by decide)
  have f0:=hE3.out.f0
  go_upto_region 14 with fail
  clear b9 f0
  have hE40:=(hE3.out.set hp 9 (by decide) (.slice (some ⟨gg,0,none⟩) gn gc))
  obtain ⟨W4,hW4⟩:∃ W4,W4=(w3.setCell ⟨w.heap.size,9,none⟩ (.slice (some ⟨gg,0,none⟩) gn gc)):=⟨_,rfl⟩
  have HW4:Hid (∀ b,w.heap.size+2<=b->W4.heap[b]?=w3.heap[b]?):=fun b hb=>by rw [hW4];exact Below.heap_setCell _ _ _ _ (by show b≠w.heap.size;omega)
  rw [<- hW4] at hE40 ⊢
  have hE4:Hid (_):=hE40
  clear hW4 hE40
  have Hgo4:Hid (∀ W:World,(∀ b,w.heap.size+2<=b->W.heap[b]?=w3.heap[b]?)->OwnG W w.heap.size (.slice (some ⟨gg,0,none⟩) gn gc) gn (gM (gDr bs m (nxQ m q)).2) (gL (gDr bs m (nxQ m q)).2)):=fun W hW=>by
   obtain ⟨q1,q2⟩:=Hgo.out
   exact ⟨q1,q2.imp id fun ⟨g,cap,cur,e,hg,hh,r⟩=>⟨g,cap,cur,e,hg,by
    have:gg=g:=by injection e with e _ _;injection e with e;injection e
    rw [hW g (by have:=Hgn.out;omega)];exact hh,r⟩⟩
  have Ht2:Hid ({ e with st:=true,ty:=⟨#[112,111,119,101,114]⟩,ng:=gn,M:=gM (gDr bs m (nxQ m q)).2,L:=gL (gDr bs m (nxQ m q)).2 }=cDr bs m q e):=by unfold Hid;rw [Hgn.out.1];exact Ht.out
  clear Ht Hgo
  have b0:W4.cell? ⟨w.heap.size,0,none⟩=some (.string e.id):=hE4.out.b 0 (by decide)
  have b1:W4.cell? ⟨w.heap.size,1,none⟩=some (.string e.sd):=hE4.out.b 1 (by decide)
  have b2:W4.cell? ⟨w.heap.size,2,none⟩=some (.string ⟨#[112,111,119,101,114]⟩):=hE4.out.b 2 (by decide)
  have b3:W4.cell? ⟨w.heap.size,3,none⟩=some (.bool true):=hE4.out.b 3 (by decide)
  have b4:W4.cell? ⟨w.heap.size,4,none⟩=some (.string e.key):=hE4.out.b 4 (by decide)
  have b5:W4.cell? ⟨w.heap.size,5,none⟩=some (.int .i64 e.tm):=hE4.out.b 5 (by decide)
  have b6:W4.cell? ⟨w.heap.size,6,none⟩=some (.slice pa e.np cp):=hE4.out.b 6 (by decide)
  have b7:W4.cell? ⟨w.heap.size,7,none⟩=some (.slice aa e.na ca):=hE4.out.b 7 (by decide)
  have b8:W4.cell? ⟨w.heap.size,8,none⟩=some (.string e.val):=hE4.out.b 8 (by decide)
  have b9:W4.cell? ⟨w.heap.size,9,none⟩=some (.slice (some ⟨gg,0,none⟩) gn gc):=hE4.out.b 9 (by decide)
  obtain ⟨v0,z0⟩:=hE4.out.z 0 (by decide)
  obtain ⟨v1,z1⟩:=hE4.out.z 1 (by decide)
  obtain ⟨v2,z2⟩:=hE4.out.z 2 (by decide)
  obtain ⟨v3,z3⟩:=hE4.out.z 3 (by decide)
  obtain ⟨v4,z4⟩:=hE4.out.z 4 (by decide)
  obtain ⟨v5,z5⟩:=hE4.out.z 5 (by decide)
  obtain ⟨v6,z6⟩:=hE4.out.z 6 (by decide)
  obtain ⟨v7,z7⟩:=hE4.out.z 7 (by decide)
  obtain ⟨v8,z8⟩:=hE4.out.z 8 (by decide)
  obtain ⟨v9,z9⟩:=hE4.out.z 9 (by decide)
  have f1:=hE4.out.f1
  have f0:=hE4.out.f0
  have hne:w.heap.size≠w.heap.size+1:=by omega
  go_wp2
  refine bodyPost_ret (v:=.agg #[.string e.id,.string e.sd,.string ⟨#[112,111,119,101,114]⟩,.bool true,.string e.key,.int .i64 e.tm,.slice pa e.np cp,.slice aa e.na ca,.string e.val,.slice (some ⟨gg,0,none⟩) gn gc]) (by simp [results,Tryz.results26,go_sem,z0,z1,z2,z3,z4,z5,z6,z7,z8,z9]) rfl (HP.out _ (some ⟨gg,0,none⟩) gc _ Ht2.out (Or.inr ?_) ?_)
  ·refine Hgo4.out _ (fun b hb=>?_)
   iterate 10 (refine (Below.heap_setCell _ _ _ _ (by show b≠w.heap.size+1;omega)).trans ?_)
   exact HW4.out b hb
  ·skip
   (repeat (refine DwF.own ?_ (by first|exact Nat.le_refl _|exact Nat.le_add_right _ _) hp _ _))
   rw [HQ1.out]
   exact hE4.out.dw
 by_cases c5:k % 8=4
 ·have a2:((k:Int) % 8 == 3)=false:=by simp;omega
  have a3:((k:Int) % 8 == 4)=true:=by simp;omega
  have HQ1:Hid (cQr bs m q=nxQ m q):=HQ0.out (by omega)
  have Ht:Hid ({ e with st:=true,ty:=⟨#[106,111,105,110,95,114,117,108,101,115]⟩,val:=jVal (k / 8 % 2) }=cDr bs m q e):=by unfold Hid;rw [HE.out];unfold cnE;rw [if_neg c3,if_neg c4,if_pos c5]
  obtain ⟨mv,hmv⟩:∃ mv,mv=jVal (k / 8 % 2):=⟨_,rfl⟩
  rw [<- hmv] at Ht
  obtain ⟨i4,hi4⟩:∃ i4,i4=k / 8 % 2:=⟨_,rfl⟩
  have hi6:(k:Int) / 8 % 2=((i4:Nat):Int):=by omega
  have hi5:i4<2:=by omega
  rw [<- hi4] at hmv
  clear hi4 HE HQ HQ0
  go_upto_region 17 with fail
  have hE20:=((hE1.out.set hp 3 (by decide) (.bool true)).set hp 2 (by decide) (.string ⟨#[106,111,105,110,95,114,117,108,101,115]⟩))
  obtain ⟨W2,hW2⟩:∃ W2,W2=((w1.setCell ⟨w.heap.size,3,none⟩ (.bool true)).setCell ⟨w.heap.size,2,none⟩ (.string ⟨#[106,111,105,110,95,114,117,108,101,115]⟩)):=⟨_,rfl⟩
  rw [<- hW2] at hE20 ⊢
  have hE2:Hid (_):=hE20
  clear hW2 hE20
  clear b0 b1 b2 b3 b4 b5 b6 b7 b8 b9 f0
  rcases (show i4=0∨i4=1 by omega) with rfl|rfl
  ·have hi7:(k:Int) / 8 % 2=0:=hi6
   have hmw:mv=⟨#[112,117,98,108,105,99]⟩:=hmv
   subst hmw
   clear hi6 hmv
   have n1:w.heap.size≠W2.heap.size:=by have:=hE2.out.sz;omega
   have n3:w.heap.size<W2.heap.size:=by have:=hE2.out.sz;omega
   have b8:=hE2.out.b 8 (by decide)
   have f0:=hE2.out.f0
   go_upto_region 18 with fail
   clear b8 f0 n1 n3
   have hE50:=(hE2.out.set hp 8 (by decide) (.string ⟨#[112,117,98,108,105,99]⟩)).below ((Below.refl _ _).alloc (Nat.le_refl _) (.cells #[.string ⟨#[112,117,98,108,105,99]⟩,.string ⟨#[105,110,118,105,116,101]⟩] 9))
   obtain ⟨W5,hW5⟩:∃ W5,W5=(W2.setCell ⟨w.heap.size,8,none⟩ (.string ⟨#[112,117,98,108,105,99]⟩)).alloc (.cells #[.string ⟨#[112,117,98,108,105,99]⟩,.string ⟨#[105,110,118,105,116,101]⟩] 9):=⟨_,rfl⟩
   rw [<- hW5] at hE50 ⊢
   have hE5:Hid (_):=hE50
   clear hW5 hE50
   have b0:W5.cell? ⟨w.heap.size,0,none⟩=some (.string e.id):=hE5.out.b 0 (by decide)
   have b1:W5.cell? ⟨w.heap.size,1,none⟩=some (.string e.sd):=hE5.out.b 1 (by decide)
   have b2:W5.cell? ⟨w.heap.size,2,none⟩=some (.string ⟨#[106,111,105,110,95,114,117,108,101,115]⟩):=hE5.out.b 2 (by decide)
   have b3:W5.cell? ⟨w.heap.size,3,none⟩=some (.bool true):=hE5.out.b 3 (by decide)
   have b4:W5.cell? ⟨w.heap.size,4,none⟩=some (.string e.key):=hE5.out.b 4 (by decide)
   have b5:W5.cell? ⟨w.heap.size,5,none⟩=some (.int .i64 e.tm):=hE5.out.b 5 (by decide)
   have b6:W5.cell? ⟨w.heap.size,6,none⟩=some (.slice pa e.np cp):=hE5.out.b 6 (by decide)
   have b7:W5.cell? ⟨w.heap.size,7,none⟩=some (.slice aa e.na ca):=hE5.out.b 7 (by decide)
   have b8:W5.cell? ⟨w.heap.size,8,none⟩=some (.string ⟨#[112,117,98,108,105,99]⟩):=hE5.out.b 8 (by decide)
   have b9:W5.cell? ⟨w.heap.size,9,none⟩=some (.slice ga e.ng cg):=hE5.out.b 9 (by decide)
   obtain ⟨v0,z0⟩:=hE5.out.z 0 (by decide)
   obtain ⟨v1,z1⟩:=hE5.out.z 1 (by decide)
   obtain ⟨v2,z2⟩:=hE5.out.z 2 (by decide)
   obtain ⟨v3,z3⟩:=hE5.out.z 3 (by decide)
   obtain ⟨v4,z4⟩:=hE5.out.z 4 (by decide)
   obtain ⟨v5,z5⟩:=hE5.out.z 5 (by decide)
   obtain ⟨v6,z6⟩:=hE5.out.z 6 (by decide)
   obtain ⟨v7,z7⟩:=hE5.out.z 7 (by decide)
   obtain ⟨v8,z8⟩:=hE5.out.z 8 (by decide)
   obtain ⟨v9,z9⟩:=hE5.out.z 9 (by decide)
   have f1:=hE5.out.f1
   have f0:=hE5.out.f0
   have hne:w.heap.size≠w.heap.size+1:=by omega
   go_wp2
   refine bodyPost_ret (v:=.agg #[.string e.id,.string e.sd,.string ⟨#[106,111,105,110,95,114,117,108,101,115]⟩,.bool true,.string e.key,.int .i64 e.tm,.slice pa e.np cp,.slice aa e.na ca,.string ⟨#[112,117,98,108,105,99]⟩,.slice ga e.ng cg]) (by simp [results,Tryz.results26,go_sem,z0,z1,z2,z3,z4,z5,z6,z7,z8,z9]) rfl (HP.out _ ga cg _ Ht.out (Or.inl ⟨rfl,rfl,rfl,rfl,rfl⟩) ?_)
   (repeat (refine DwF.own ?_ (by first|exact Nat.le_refl _|exact Nat.le_add_right _ _) hp _ _))
   rw [HQ1.out]
   exact hE5.out.dw
  ·have hi7:(k:Int) / 8 % 2=1:=hi6
   have hmw:mv=⟨#[105,110,118,105,116,101]⟩:=hmv
   subst hmw
   clear hi6 hmv
   have n1:w.heap.size≠W2.heap.size:=by have:=hE2.out.sz;omega
   have n3:w.heap.size<W2.heap.size:=by have:=hE2.out.sz;omega
   have b8:=hE2.out.b 8 (by decide)
   have f0:=hE2.out.f0
   go_upto_region 18 with fail
   clear b8 f0 n1 n3
   have hE50:=(hE2.out.set hp 8 (by decide) (.string ⟨#[105,110,118,105,116,101]⟩)).below ((Below.refl _ _).alloc (Nat.le_refl _) (.cells #[.string ⟨#[112,117,98,108,105,99]⟩,.string ⟨#[105,110,118,105,116,101]⟩] 9))
   obtain ⟨W5,hW5⟩:∃ W5,W5=(W2.setCell ⟨w.heap.size,8,none⟩ (.string ⟨#[105,110,118,105,116,101]⟩)).alloc (.cells #[.string ⟨#[112,117,98,108,105,99]⟩,.string ⟨#[105,110,118,105,116,101]⟩] 9):=⟨_,rfl⟩
   rw [<- hW5] at hE50 ⊢
   have hE5:Hid (_):=hE50
   clear hW5 hE50
   have b0:W5.cell? ⟨w.heap.size,0,none⟩=some (.string e.id):=hE5.out.b 0 (by decide)
   have b1:W5.cell? ⟨w.heap.size,1,none⟩=some (.string e.sd):=hE5.out.b 1 (by decide)
   have b2:W5.cell? ⟨w.heap.size,2,none⟩=some (.string ⟨#[106,111,105,110,95,114,117,108,101,115]⟩):=hE5.out.b 2 (by decide)
   have b3:W5.cell? ⟨w.heap.size,3,none⟩=some (.bool true):=hE5.out.b 3 (by decide)
   have b4:W5.cell? ⟨w.heap.size,4,none⟩=some (.string e.key):=hE5.out.b 4 (by decide)
   have b5:W5.cell? ⟨w.heap.size,5,none⟩=some (.int .i64 e.tm):=hE5.out.b 5 (by decide)
   have b6:W5.cell? ⟨w.heap.size,6,none⟩=some (.slice pa e.np cp):=hE5.out.b 6 (by decide)
   have b7:W5.cell? ⟨w.heap.size,7,none⟩=some (.slice aa e.na ca):=hE5.out.b 7 (by decide)
   have b8:W5.cell? ⟨w.heap.size,8,none⟩=some (.string ⟨#[105,110,118,105,116,101]⟩):=hE5.out.b 8 (by decide)
   have b9:W5.cell? ⟨w.heap.size,9,none⟩=some (.slice ga e.ng cg):=hE5.out.b 9 (by decide)
   obtain ⟨v0,z0⟩:=hE5.out.z 0 (by decide)
   obtain ⟨v1,z1⟩:=hE5.out.z 1 (by decide)
   obtain ⟨v2,z2⟩:=hE5.out.z 2 (by decide)
   obtain ⟨v3,z3⟩:=hE5.out.z 3 (by decide)
   obtain ⟨v4,z4⟩:=hE5.out.z 4 (by decide)
   obtain ⟨v5,z5⟩:=hE5.out.z 5 (by decide)
   obtain ⟨v6,z6⟩:=hE5.out.z 6 (by decide)
   obtain ⟨v7,z7⟩:=hE5.out.z 7 (by decide)
   obtain ⟨v8,z8⟩:=hE5.out.z 8 (by decide)
   obtain ⟨v9,z9⟩:=hE5.out.z 9 (by decide)
   have f1:=hE5.out.f1
   have f0:=hE5.out.f0
   have hne:w.heap.size≠w.heap.size+1:=by omega
   go_wp2
   refine bodyPost_ret (v:=.agg #[.string e.id,.string e.sd,.string ⟨#[106,111,105,110,95,114,117,108,101,115]⟩,.bool true,.string e.key,.int .i64 e.tm,.slice pa e.np cp,.slice aa e.na ca,.string ⟨#[105,110,118,105,116,101]⟩,.slice ga e.ng cg]) (by simp [results,Tryz.results26,go_sem,z0,z1,z2,z3,z4,z5,z6,z7,z8,z9]) rfl (HP.out _ ga cg _ Ht.out (Or.inl ⟨rfl,rfl,rfl,rfl,rfl⟩) ?_)
   (repeat (refine DwF.own ?_ (by first|exact Nat.le_refl _|exact Nat.le_add_right _ _) hp _ _))
   rw [HQ1.out]
   exact hE5.out.dw
 have a2:((k:Int) % 8 == 3)=false:=by simp;omega
 have a3:((k:Int) % 8 == 4)=false:=by simp;omega
 have HQ1:Hid (cQr bs m q=nxQ m q):=HQ0.out (by omega)
 by_cases c6:k % 8<7
 ·have a4:decide ((k:Int) % 8<7)=true:=decide_eq_true (by omega)
  have hk16:(k:Int) / 16=((k / 16:Nat):Int):=by omega
  have HU:Hid (∀ W,Calls Tryz.prog 24 #[.int .i64 ((k:Int) / 16)] W (fun e w'=>e=.returned (.string (usr (k / 16)))∧Below W.heap.size W w')):=fun W=>by rw [hk16];exact userF (k / 16) W (by omega)
  have HD:Hid (∀ W,Calls Tryz.prog 23 #[.int .i64 ((k:Int) / 16)] W (fun e w'=>e=.returned (.string (decB (k / 16)))∧Below W.heap.size W w')):=fun W=>by rw [hk16];exact decF (k / 16) (by omega) W
  have hdz:(decB (k / 16)).size<=20:=decB_size _ (by omega)
  by_cases c7:k % 16=5
  ·have a5:((k:Int) % 16 == 5)=true:=by simp;omega
   have Ht:Hid ({ e with st:=true,ty:=⟨#[116,111,112,105,99]⟩,key:=usr (k / 16),val:=⟨#[116]⟩ ++ decB (k / 16) }=cDr bs m q e):=by unfold Hid;rw [HE.out];unfold cnE;rw [if_neg c3,if_neg c4,if_neg c5,if_pos c6,if_pos c7]
   clear HE HQ HQ0 hk16
   generalize usr (k / 16)=us at *
   generalize decB (k / 16)=dc at *
   have hcat:¬ 9223372036854775807<(⟨#[116]⟩:ByteArray).size+dc.size:=by show ¬ 9223372036854775807<1+dc.size;omega
   have hcat2:¬ 9223372036854775807<1+dc.size:=by omega
   go_upto_region 22 with fail
   have hE20:=((hE1.out.set hp 3 (by decide) (.bool true)).set hp 2 (by decide) (.string ⟨#[116,111,112,105,99]⟩))
   obtain ⟨W2,hW2⟩:∃ W2,W2=((w1.setCell ⟨w.heap.size,3,none⟩ (.bool true)).setCell ⟨w.heap.size,2,none⟩ (.string ⟨#[116,111,112,105,99]⟩)):=⟨_,rfl⟩
   rw [<- hW2] at hE20 ⊢
   have hE2:Hid (_):=hE20
   clear hW2 hE20
   clear b0 b1 b2 b3 b4 b5 b6 b7 b8 b9 f0
   go_wp2_with fail
   refine (HU.out _).mono ?_
   rintro x w3 ⟨rfl,hb3⟩
   have hE3:Hid (_):=hE2.out.below hb3
   clear hE2 hb3 HU
   have b4:=hE3.out.b 4 (by decide)
   have f0:=hE3.out.f0
   go_upto_region 23 with fail
   clear b4 f0
   have hE40:=(hE3.out.set hp 4 (by decide) (.string us))
   obtain ⟨W4,hW4⟩:∃ W4,W4=(w3.setCell ⟨w.heap.size,4,none⟩ (.string us)):=⟨_,rfl⟩
   rw [<- hW4] at hE40 ⊢
   have hE4:Hid (_):=hE40
   clear hW4 hE40
   go_wp2_with fail
   refine (HD.out _).mono ?_
   rintro x w5 ⟨rfl,hb5⟩
   have hE5:Hid (_):=hE4.out.below hb5
   clear hE4 hb5 HD
   have b8:=hE5.out.b 8 (by decide)
   have f0:=hE5.out.f0
   go_upto_region 24 with fail
   clear b8 f0
   have hE60:=(hE5.out.set hp 8 (by decide) (.string (⟨#[116]⟩ ++ dc)))
   obtain ⟨W6,hW6⟩:∃ W6,W6=(w5.setCell ⟨w.heap.size,8,none⟩ (.string (⟨#[116]⟩ ++ dc))):=⟨_,rfl⟩
   rw [<- hW6] at hE60 ⊢
   have hE6:Hid (_):=hE60
   clear hW6 hE60
   have b0:W6.cell? ⟨w.heap.size,0,none⟩=some (.string e.id):=hE6.out.b 0 (by decide)
   have b1:W6.cell? ⟨w.heap.size,1,none⟩=some (.string e.sd):=hE6.out.b 1 (by decide)
   have b2:W6.cell? ⟨w.heap.size,2,none⟩=some (.string ⟨#[116,111,112,105,99]⟩):=hE6.out.b 2 (by decide)
   have b3:W6.cell? ⟨w.heap.size,3,none⟩=some (.bool true):=hE6.out.b 3 (by decide)
   have b4:W6.cell? ⟨w.heap.size,4,none⟩=some (.string us):=hE6.out.b 4 (by decide)
   have b5:W6.cell? ⟨w.heap.size,5,none⟩=some (.int .i64 e.tm):=hE6.out.b 5 (by decide)
   have b6:W6.cell? ⟨w.heap.size,6,none⟩=some (.slice pa e.np cp):=hE6.out.b 6 (by decide)
   have b7:W6.cell? ⟨w.heap.size,7,none⟩=some (.slice aa e.na ca):=hE6.out.b 7 (by decide)
   have b8:W6.cell? ⟨w.heap.size,8,none⟩=some (.string (⟨#[116]⟩ ++ dc)):=hE6.out.b 8 (by decide)
   have b9:W6.cell? ⟨w.heap.size,9,none⟩=some (.slice ga e.ng cg):=hE6.out.b 9 (by decide)
   obtain ⟨v0,z0⟩:=hE6.out.z 0 (by decide)
   obtain ⟨v1,z1⟩:=hE6.out.z 1 (by decide)
   obtain ⟨v2,z2⟩:=hE6.out.z 2 (by decide)
   obtain ⟨v3,z3⟩:=hE6.out.z 3 (by decide)
   obtain ⟨v4,z4⟩:=hE6.out.z 4 (by decide)
   obtain ⟨v5,z5⟩:=hE6.out.z 5 (by decide)
   obtain ⟨v6,z6⟩:=hE6.out.z 6 (by decide)
   obtain ⟨v7,z7⟩:=hE6.out.z 7 (by decide)
   obtain ⟨v8,z8⟩:=hE6.out.z 8 (by decide)
   obtain ⟨v9,z9⟩:=hE6.out.z 9 (by decide)
   have f1:=hE6.out.f1
   have f0:=hE6.out.f0
   have hne:w.heap.size≠w.heap.size+1:=by omega
   go_wp2
   refine bodyPost_ret (v:=.agg #[.string e.id,.string e.sd,.string ⟨#[116,111,112,105,99]⟩,.bool true,.string us,.int .i64 e.tm,.slice pa e.np cp,.slice aa e.na ca,.string (⟨#[116]⟩ ++ dc),.slice ga e.ng cg]) (by simp [results,Tryz.results26,go_sem,z0,z1,z2,z3,z4,z5,z6,z7,z8,z9]) rfl (HP.out _ ga cg _ Ht.out (Or.inl ⟨rfl,rfl,rfl,rfl,rfl⟩) ?_)
   (repeat (refine DwF.own ?_ (by first|exact Nat.le_refl _|exact Nat.le_add_right _ _) hp _ _))
   rw [HQ1.out]
   exact hE6.out.dw
  ·have a5:((k:Int) % 16 == 5)=false:=by simp;omega
   have Ht:Hid ({ e with st:=true,ty:=⟨#[116,111,112,105,99]⟩,val:=⟨#[116]⟩ ++ decB (k / 16) }=cDr bs m q e):=by unfold Hid;rw [HE.out];unfold cnE;rw [if_neg c3,if_neg c4,if_neg c5,if_pos c6,if_neg c7]
   clear HE HQ HQ0 hk16
   generalize usr (k / 16)=us at *
   generalize decB (k / 16)=dc at *
   have hcat:¬ 9223372036854775807<(⟨#[116]⟩:ByteArray).size+dc.size:=by show ¬ 9223372036854775807<1+dc.size;omega
   have hcat2:¬ 9223372036854775807<1+dc.size:=by omega
   go_upto_region 23 with fail
   have hE20:=((hE1.out.set hp 3 (by decide) (.bool true)).set hp 2 (by decide) (.string ⟨#[116,111,112,105,99]⟩))
   obtain ⟨W2,hW2⟩:∃ W2,W2=((w1.setCell ⟨w.heap.size,3,none⟩ (.bool true)).setCell ⟨w.heap.size,2,none⟩ (.string ⟨#[116,111,112,105,99]⟩)):=⟨_,rfl⟩
   rw [<- hW2] at hE20 ⊢
   have hE2:Hid (_):=hE20
   clear hW2 hE20
   clear b0 b1 b2 b3 b4 b5 b6 b7 b8 b9 f0
   go_wp2_with fail
   refine (HD.out _).mono ?_
   rintro x w5 ⟨rfl,hb5⟩
   have hE5:Hid (_):=hE2.out.below hb5
   clear hE2 hb5 HD
   have b8:=hE5.out.b 8 (by decide)
   have f0:=hE5.out.f0
   go_upto_region 24 with fail
   clear b8 f0
   have hE60:=(hE5.out.set hp 8 (by decide) (.string (⟨#[116]⟩ ++ dc)))
   obtain ⟨W6,hW6⟩:∃ W6,W6=(w5.setCell ⟨w.heap.size,8,none⟩ (.string (⟨#[116]⟩ ++ dc))):=⟨_,rfl⟩
   rw [<- hW6] at hE60 ⊢
   have hE6:Hid (_):=hE60
   clear hW6 hE60
   have b0:W6.cell? ⟨w.heap.size,0,none⟩=some (.string e.id):=hE6.out.b 0 (by decide)
   have b1:W6.cell? ⟨w.heap.size,1,none⟩=some (.string e.sd):=hE6.out.b 1 (by decide)
   have b2:W6.cell? ⟨w.heap.size,2,none⟩=some (.string ⟨#[116,111,112,105,99]⟩):=hE6.out.b 2 (by decide)
   have b3:W6.cell? ⟨w.heap.size,3,none⟩=some (.bool true):=hE6.out.b 3 (by decide)
   have b4:W6.cell? ⟨w.heap.size,4,none⟩=some (.string e.key):=hE6.out.b 4 (by decide)
   have b5:W6.cell? ⟨w.heap.size,5,none⟩=some (.int .i64 e.tm):=hE6.out.b 5 (by decide)
   have b6:W6.cell? ⟨w.heap.size,6,none⟩=some (.slice pa e.np cp):=hE6.out.b 6 (by decide)
   have b7:W6.cell? ⟨w.heap.size,7,none⟩=some (.slice aa e.na ca):=hE6.out.b 7 (by decide)
   have b8:W6.cell? ⟨w.heap.size,8,none⟩=some (.string (⟨#[116]⟩ ++ dc)):=hE6.out.b 8 (by decide)
   have b9:W6.cell? ⟨w.heap.size,9,none⟩=some (.slice ga e.ng cg):=hE6.out.b 9 (by decide)
   obtain ⟨v0,z0⟩:=hE6.out.z 0 (by decide)
   obtain ⟨v1,z1⟩:=hE6.out.z 1 (by decide)
   obtain ⟨v2,z2⟩:=hE6.out.z 2 (by decide)
   obtain ⟨v3,z3⟩:=hE6.out.z 3 (by decide)
   obtain ⟨v4,z4⟩:=hE6.out.z 4 (by decide)
   obtain ⟨v5,z5⟩:=hE6.out.z 5 (by decide)
   obtain ⟨v6,z6⟩:=hE6.out.z 6 (by decide)
   obtain ⟨v7,z7⟩:=hE6.out.z 7 (by decide)
   obtain ⟨v8,z8⟩:=hE6.out.z 8 (by decide)
   obtain ⟨v9,z9⟩:=hE6.out.z 9 (by decide)
   have f1:=hE6.out.f1
   have f0:=hE6.out.f0
   have hne:w.heap.size≠w.heap.size+1:=by omega
   go_wp2
   refine bodyPost_ret (v:=.agg #[.string e.id,.string e.sd,.string ⟨#[116,111,112,105,99]⟩,.bool true,.string e.key,.int .i64 e.tm,.slice pa e.np cp,.slice aa e.na ca,.string (⟨#[116]⟩ ++ dc),.slice ga e.ng cg]) (by simp [results,Tryz.results26,go_sem,z0,z1,z2,z3,z4,z5,z6,z7,z8,z9]) rfl (HP.out _ ga cg _ Ht.out (Or.inl ⟨rfl,rfl,rfl,rfl,rfl⟩) ?_)
   (repeat (refine DwF.own ?_ (by first|exact Nat.le_refl _|exact Nat.le_add_right _ _) hp _ _))
   rw [HQ1.out]
   exact hE6.out.dw
 ·have a4:decide ((k:Int) % 8<7)=false:=decide_eq_false (by omega)
  have Ht:Hid ({ e with st:=false,ty:=⟨#[109,115,103]⟩ }=cDr bs m q e):=by unfold Hid;rw [HE.out];unfold cnE;rw [if_neg c3,if_neg c4,if_neg c5,if_neg c6]
  go_upto_region 27 with fail
  have hE20:=(((hE1.out.set hp 3 (by decide) (.bool true)).set hp 3 (by decide) (.bool false)).set hp 2 (by decide) (.string ⟨#[109,115,103]⟩))
  obtain ⟨W2,hW2⟩:∃ W2,W2=(((w1.setCell ⟨w.heap.size,3,none⟩ (.bool true)).setCell ⟨w.heap.size,3,none⟩ (.bool false)).setCell ⟨w.heap.size,2,none⟩ (.string ⟨#[109,115,103]⟩)):=⟨_,rfl⟩
  rw [<- hW2] at hE20 ⊢
  have hE2:Hid (_):=hE20
  clear hW2 hE20
  clear b0 b1 b2 b3 b4 b5 b6 b7 b8 b9 f0
  have b0:W2.cell? ⟨w.heap.size,0,none⟩=some (.string e.id):=hE2.out.b 0 (by decide)
  have b1:W2.cell? ⟨w.heap.size,1,none⟩=some (.string e.sd):=hE2.out.b 1 (by decide)
  have b2:W2.cell? ⟨w.heap.size,2,none⟩=some (.string ⟨#[109,115,103]⟩):=hE2.out.b 2 (by decide)
  have b3:W2.cell? ⟨w.heap.size,3,none⟩=some (.bool false):=hE2.out.b 3 (by decide)
  have b4:W2.cell? ⟨w.heap.size,4,none⟩=some (.string e.key):=hE2.out.b 4 (by decide)
  have b5:W2.cell? ⟨w.heap.size,5,none⟩=some (.int .i64 e.tm):=hE2.out.b 5 (by decide)
  have b6:W2.cell? ⟨w.heap.size,6,none⟩=some (.slice pa e.np cp):=hE2.out.b 6 (by decide)
  have b7:W2.cell? ⟨w.heap.size,7,none⟩=some (.slice aa e.na ca):=hE2.out.b 7 (by decide)
  have b8:W2.cell? ⟨w.heap.size,8,none⟩=some (.string e.val):=hE2.out.b 8 (by decide)
  have b9:W2.cell? ⟨w.heap.size,9,none⟩=some (.slice ga e.ng cg):=hE2.out.b 9 (by decide)
  obtain ⟨v0,z0⟩:=hE2.out.z 0 (by decide)
  obtain ⟨v1,z1⟩:=hE2.out.z 1 (by decide)
  obtain ⟨v2,z2⟩:=hE2.out.z 2 (by decide)
  obtain ⟨v3,z3⟩:=hE2.out.z 3 (by decide)
  obtain ⟨v4,z4⟩:=hE2.out.z 4 (by decide)
  obtain ⟨v5,z5⟩:=hE2.out.z 5 (by decide)
  obtain ⟨v6,z6⟩:=hE2.out.z 6 (by decide)
  obtain ⟨v7,z7⟩:=hE2.out.z 7 (by decide)
  obtain ⟨v8,z8⟩:=hE2.out.z 8 (by decide)
  obtain ⟨v9,z9⟩:=hE2.out.z 9 (by decide)
  have f1:=hE2.out.f1
  have f0:=hE2.out.f0
  have hne:w.heap.size≠w.heap.size+1:=by omega
  go_wp2
  refine bodyPost_ret (v:=.agg #[.string e.id,.string e.sd,.string ⟨#[109,115,103]⟩,.bool false,.string e.key,.int .i64 e.tm,.slice pa e.np cp,.slice aa e.na ca,.string e.val,.slice ga e.ng cg]) (by simp [results,Tryz.results26,go_sem,z0,z1,z2,z3,z4,z5,z6,z7,z8,z9]) rfl (HP.out _ ga cg _ Ht.out (Or.inl ⟨rfl,rfl,rfl,rfl,rfl⟩) ?_)
  (repeat (refine DwF.own ?_ (by first|exact Nat.le_refl _|exact Nat.le_add_right _ _) hp _ _))
  rw [HQ1.out]
  exact hE2.out.dw
end Go.Proofs.YtnbdlaglnefcbaaGreat
