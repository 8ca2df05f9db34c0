import Derived.Test.YtkdalopokdhndaaGreatXeMZ
set_option maxHeartbeats 16000000
set_option maxRecDepth 100000
namespace Go.Proofs.YtkdalopokdhndaaGreat
open Go.RowKit
variable {c i k m p q:Nat}{W w:World}{bs:Nat->Nat}{e:Ev}{t:Ls}{M:Nat->ByteArray}{a:Option Addr}{od:ByteArray}{R:Ending->World->Prop}{u1 u8 u9 u10 u11 u12 u13 u14 u15 u16 u17 u18 u19 u20 u21 u22 u23 u24 u25 u26 u27 u28 u29 u30 u31 u32 u33 u34 u35 u36 u37 u38 u39 u40 u41 u42 u43 u44 u45 u46 u47 u48 u49 u50 u51 u52 u53 u54 u55 u56 u57 u58 u59 u60 u61 u62 u63 u64 u65 u66 u67 u68 u69 u70 u71 u72 u73 u74 u75 u76 u77 u78 u79 u80 u81 u82 u83 u84 u85 u86 u87 u88 u89 u90 u91 u92 u93 u94 u95 u96 u97 u98 u99 u100 u101 u102 u103 u104 u105 u106 u107 u108 u109 u110 u111 u112 u113 u114 u115 u116 u117 u118 u119 u120 u121 u122 u123 u124 u125 u126 u127 u128 u129 u130 u131 u132 u133 u134 u135 u136 u137 u138 u139 u140 u141 u142 u143 u144 u145 u146 u147 u148 u149 u150 u151 u152 u153 u154 u155 u156 u157 u158 u159 u160 u161 u162 u163 u164 u165 u166:Value}
def fgM (S:Nat->ByteArray)(n:Nat):Nat->ByteArray:=fun i=>if i<n then S i else ⟨#[122]⟩ ++ decB (1000+i)
def fgL (S:Nat->Int)(n:Nat):Nat->Int:=fun i=>if i<n then S i else 0
theorem XeN.congS {wo:World}{M':Nat->ByteArray}{L L':Nat->Int}(h:XeN p wo w W bs m q e t i M L a c)(hs:∀ j,j<i->M j=M' j∧L j=L' j):XeN p wo w W bs m q e t i M' L' a c :=
 ⟨h.x,by unfold OwnG;rw [<- encG_congr hs];exact h.a9,h.p6,h.q7,h.h,h.hp,h.hq⟩
theorem extF_selfI (S:Nat->Int)(i:Nat):extF S i (S i)=S:=funext fun j=>by
 unfold extF;split
 ·rename_i h;rw [h]
 rfl
theorem decB_size2 (n:Nat)(h:n<=2000):(decB n).size<=20:=by show (Lib.decDigits n).toArray.size<=20;rw [List.size_toArray,Lib.decDigits_length];exact Lib.nDigits_le20 n (by omega)
theorem xeC14 (p:Nat){v:Nat}(wo w W:World)(hp:p<wo.heap.size)(hww:wo.heap.size<=w.heap.size)(hwl:wo.heap.size<=t.lo)(hhi:t.hi<=w.heap.size)(hk:k<256)(hv:v<256)(hc:k % 16=14)(HQ:Hid (QO W e t))(HX:Hid (EvX p wo w W bs m q t.lo t.hi (fun o=>((ec e t.pa t.cp t.aa t.ca t.ga t.cg):Array Value)[o]?.getD undef)))(HR:Hid (XeR p wo w bs m q t.lo t.hi (spE k v e) R)) :
  Code.wp Tryz.prog (tlN (Tryz.f66.body.getD .skip) 4) (bodyPost Tryz.prog Tryz.f66 R) { tmps:=#[.pointer (some ⟨p,0,none⟩),u1,undef,.pointer (some ⟨w.heap.size,0,none⟩),.pointer (some ⟨w.heap.size+1,0,none⟩),.int .i64 (k:Int),.int .i64 (v:Int),.string od,u8,u9,u10,u11,u12,u13,u14,u15,u16,u17,u18,u19,u20,u21,u22,u23,u24,u25,u26,u27,u28,u29,u30,u31,u32,u33,u34,u35,u36,u37,u38,u39,u40,u41,u42,u43,u44,u45,u46,u47,u48,u49,u50,u51,u52,u53,u54,u55,u56,u57,u58,u59,u60,u61,u62,u63,u64,u65,u66,u67,u68,u69,u70,u71,u72,u73,u74,u75,u76,u77,u78,u79,u80,u81,u82,u83,u84,u85,u86,u87,u88,u89,u90,u91,u92,u93,u94,u95,u96,u97,u98,u99,u100,u101,u102,u103,u104,u105,u106,u107,u108,u109,u110,u111,u112,u113,u114,u115,u116,u117,u118,u119,u120,u121,u122,u123,u124,u125,u126,u127,u128,u129,u130,u131,u132,u133,u134,u135,u136,u137,u138,u139,u140,u141,u142,u143,u144,u145,u146,u147,u148,u149,u150,u151,u152,u153,u154,u155,u156,u157,u158,u159,u160,u161,u162,u163,u164,u165,u166],defers:=[] } W:=by
 obtain ⟨i0,hi0,hz0,hz1,hz2⟩:=info_parts Tryz.infoGrant;rw [show tlN (Tryz.f66.body.getD .skip) 4=Code.seq _ _ from rfl];have hsp:spE k v e={ e with ng:=mx e.ng (49+v % 3),M:=fgM e.M e.ng,L:=fgL e.L e.ng }:=by unfold spE fgM fgL;simp [hc]
 rw [hsp] at HR;have hci:(k:Int) % 16=14:=by omega
 have b7:W.cell? ⟨w.heap.size,9,none⟩=some (.slice t.ga e.ng t.cg):=HX.out.b 9 (by decide);have HL0:Hid (XeN p wo w W bs m q e t e.ng (fgM e.M e.ng) (fgL e.L e.ng) t.ga t.cg):=(XeN.new HQ.out HX.out).congS (fun j hj=>by unfold fgM fgL;rw [if_pos hj,if_pos hj];exact ⟨rfl,rfl⟩);obtain ⟨lim,hlim⟩:∃ lim,lim=49+v % 3:=⟨_,rfl⟩;rw [<- hlim] at HR;have hli:49+(v:Int) % 3=(lim:Int):=by omega
 have hl11:lim<=51:=by omega
 obtain ⟨mm,hmm⟩:∃ mm,mm=mx e.ng lim:=⟨_,rfl⟩;rw [<- hmm] at HR;have hmx:e.ng<=mm∧lim<=mm∧(mm=e.ng∨mm=lim):=by rw [hmm];unfold mx;split <;> omega
 have Hok:Hid (EvOk W e t.pa t.cp t.aa t.ca t.ga t.cg):=HQ.out.j.ok;have HLH:Hid (t.lo<=t.hi):=HQ.out.j.hh.1;clear hlim hmm HQ HX
 go_upto_if 23 with fail
 go_cut [166] (fun _ wx=>∃ a c,XeN p wo w wx bs m q e t mm (fgM e.M e.ng) (fgL e.L e.ng) a c)
 case first =>
  clear HR
  go_wp2_with fail
  go_loopw [9] (fun iv wr=>∃ i:Nat,e.ng<=i∧i<=mm∧iv=.int .i64 (i:Int)∧∃ a c,XeN p wo w wr bs m q e t i (fgM e.M e.ng) (fgL e.L e.ng) a c) (fun iv _=>2000 - (intOf iv).toNat)
  case atStart=>exact ⟨e.ng,nL,hmx.1,rfl,_,_,HL0.out⟩
  case round =>
   clear HL0 b7 hci hc;obtain ⟨i,hi1,hi2,rfl,a,c,hL⟩:=hrel;have HL:Hid (XeN p wo w wr bs m q e t i (fgM e.M e.ng) (fgL e.L e.ng) a c):=hL
   by_cases hlt:i<lim
   ·have hlti:(i:Int)<(lim:Int):=by omega
    have y7:wr.cell? ⟨w.heap.size,9,none⟩=some (.slice a i c):=hL.x.b 9 (by decide);have HD0:∀ W,Calls Tryz.prog 123 #[.int .i64 (1000+(i:Int))] W (fun e w'=>e=.returned (.string (decB (1000+i)))∧Below W.heap.size W w'):=fun W=>by have h1:=decS_nat (1000+i) (1000+i) W nL (by omega);rw [show (((1000+i:Nat)):Int)=1000+(i:Int) by omega] at h1;exact h1
    have e9:IntKind.i64.wrap (1000+(i:Int))=1000+(i:Int):=by rw [IntKind.wrap_i64];omega
    have hdz:=decB_size2 (1000+i) (by omega);obtain ⟨dc,hdc⟩:∃ dc,dc=decB (1000+i):=⟨_,rfl⟩;rw [<- hdc] at HD0 hdz;have HD:Hid (∀ W,Calls Tryz.prog 123 #[.int .i64 (1000+(i:Int))] W (fun e w'=>e=.returned (.string dc)∧Below W.heap.size W w')):=HD0
    have Hx:Hid (extF (fgM e.M e.ng) i (⟨#[122]⟩ ++ dc)=fgM e.M e.ng):=by
     unfold Hid;rw [show (⟨#[122]⟩:ByteArray) ++ dc=fgM e.M e.ng i by unfold fgM;rw [if_neg (by omega),hdc]];exact extF_self _ _
    have Hy:Hid (extF (fgL e.L e.ng) i 0=fgL e.L e.ng):=by
     unfold Hid
     conv=>lhs;rw [show (0:Int)=fgL e.L e.ng i by unfold fgL;rw [if_neg (by omega)]]
     exact extF_selfI _ _
    have hcat:¬ 9223372036854775807<1+dc.size:=by omega
    have HO:Hid (∀ W,Below wr.heap.size wr W->W.ownsRow t.lo 166 2 (.slice a i c) i (encG (fgM e.M e.ng) (fgL e.L e.ng) i)):=fun W hW=>(HL.out.below hW).a9
    have hm1:i+1<=maxLen:=by unfold maxLen;omega
    have hm2:(i+1) * 24<=140737488355328:=by omega
    have hlw:t.lo<=wr.heap.size:=by have:=hL.x.sz;have q:t.lo<=t.hi:=HLH.out;omega
    have hszr:=hL.x.sz;have hrf:Below wr.heap.size wr wr:=kB;clear hL HD0 hdc
    go_upto_region 39 with fail
    refine wp_region_held_drew (S:=fun _=>True) (by kernel_rfl) ?_ (fun hHeld=>?_)
    ·(try dsimp only);all_goals trivial
    refine tq 0 rfl ?_;simp only [si];refine tq 2 rfl ?_;simp only [si];refine tq 3 rfl ?_;simp only [si];refine wpAnyH_ready (rs:=[1,4]) (by kernel_rfl) (by simp) ?_;refine AllReadyH.cons rfl (fun K hK=>?_) (AllReadyH.cons rfl (fun K hK=>?_) AllReadyH.nil)
    ·go_simp
     refine hK.out _ _ ?_ (fun hHeld=>?_)
     ·(try dsimp only);all_goals trivial
     clear hK K;try simp only [si]
     refine rd 4 rfl fun K hK=>?_
     go_simp
     go_at_call 123
     refine (HD.out _).mono ?_;rintro ee w2 ⟨rfl,hb2'⟩;have hb2:Below wr.heap.size wr w2:=Below.trans (by with_reducible (repeat refine .drew ?_);exact hrf) (hb2'.mono (by first|exact nL|exact hrf.size));try dsimp only
     refine hK.out _ _ ?_ (fun hHeld=>?_)
     ·(try dsimp only);all_goals trivial
     clear hK K;try simp only [si]
     refine tq 5 rfl ?_;simp only [si];refine tq 6 rfl ?_;simp only [si];refine rd 7 rfl fun K hK=>?_
     go_simp;refine hK.out _ _ ?_ (fun hHeld=>?_)
     ·(try dsimp only);all_goals trivial
     clear hK K;try simp only [si]
     refine rd 8 rfl fun K hK=>?_
     refine step_append_lies _ (by rfl) _ _ _ (by rfl) t.lo 166 i0 _ 2 24 Tryz.underlying28 hi0 hz0 hz1 hz2 rfl (by decide) (.slice a i c) i (encG (fgM e.M e.ng) (fgL e.L e.ng) i) (by rfl) (HO.out _ (by first|exact hb2.alloc hb2.size _|exact (hb2.alloc hb2.size _).drew|exact hb2.drew.alloc hb2.size _|exact (hb2.drew.alloc hb2.size _).drew)) ⟨w2.heap.size,0,none⟩ 1 1 [.string (⟨#[122]⟩ ++ dc),.int .i64 0] (by rfl) (by rfl) (two_cellG _ _ _ _) (two_oneG _ _) (by decide) hm1 hm2 (by simp;have:=hb2.size;omega) (w2.heap.size+1) (by simp) ?_;intro gg cq w4 hown4 hgr4 hat4 hlt4;have hG4:=HL.out.grow hp hwl hhi hww (by first|exact hb2.alloc hb2.size _|exact (hb2.alloc hb2.size _).drew|exact hb2.drew.alloc hb2.size _|exact (hb2.drew.alloc hb2.size _).drew) hgr4;have z7:w4.cell? ⟨w.heap.size,9,none⟩=some (.slice a i c):=hG4.b 9 (by decide);have f7:=hG4.f0 9;refine hK.out _ _ ?_ (fun hHeld=>?_)
     ·(try dsimp only);all_goals trivial
     clear hK K;try simp only [si]
     refine tq 9 rfl ?_;simp only [si];refine rd 10 rfl fun K hK=>?_
     go_simp;refine hK.out _ _ ?_ (fun hHeld=>?_)
     ·(try dsimp only);all_goals trivial
     clear hK K;try simp only [si]
     refine wpAnyH_done (by kernel_rfl) ?_ _;have hS:=HL.out.step hp hwl hhi hww (X:=_) (by first|exact hb2.alloc hb2.size _|exact (hb2.alloc hb2.size _).drew|exact hb2.drew.alloc hb2.size _|exact (hb2.drew.alloc hb2.size _).drew) hown4 hgr4 (hat4.imp (fun q=>q) (fun q=>by simp;omega));rw [Hx.out,Hy.out] at hS;clear hG4 z7 f7
     (try go_wp2)
     first|exact ⟨⟨i+1,by omega,by omega,by go_num,_,_,hS⟩,by simp [intOf];omega⟩|exact ⟨⟨i+1,by omega,by omega,by go_num,_,_,hS.below kB.drew⟩,by simp [intOf];omega⟩
    go_simp
    go_at_call 123
    refine (HD.out _).mono ?_;rintro ee w2 ⟨rfl,hb2'⟩;have hb2:Below wr.heap.size wr w2:=Below.trans (by with_reducible (repeat refine .drew ?_);exact hrf) (hb2'.mono (by first|exact nL|exact hrf.size));try dsimp only
    refine hK.out _ _ ?_ (fun hHeld=>?_)
    ·(try dsimp only);all_goals trivial
    clear hK K;try simp only [si]
    refine tq 5 rfl ?_;simp only [si];refine tq 6 rfl ?_;simp only [si];have y7b:w2.cell? ⟨w.heap.size,9,none⟩=some (.slice a i c):=(HL.out.below hb2).x.b 9 (by decide);have y7c:(w2.alloc (.cells #[.string (⟨#[122]⟩ ++ dc),.int .i64 0] 166)).cell? ⟨w.heap.size,9,none⟩=some (.slice a i c):=(HL.out.below (hb2.alloc hb2.size _)).x.b 9 (by decide);refine wpAnyH_ready (rs:=[1,7]) (by kernel_rfl) (by simp) ?_;refine AllReadyH.cons rfl (fun K hK=>?_) (AllReadyH.cons rfl (fun K hK=>?_) AllReadyH.nil)
    ·go_simp
     refine hK.out _ _ ?_ (fun hHeld=>?_)
     ·(try dsimp only);all_goals trivial
     clear hK K;try simp only [si]
     refine rd 7 rfl fun K hK=>?_
     go_simp;refine hK.out _ _ ?_ (fun hHeld=>?_)
     ·(try dsimp only);all_goals trivial
     clear hK K;try simp only [si]
     refine rd 8 rfl fun K hK=>?_
     refine step_append_lies _ (by rfl) _ _ _ (by rfl) t.lo 166 i0 _ 2 24 Tryz.underlying28 hi0 hz0 hz1 hz2 rfl (by decide) (.slice a i c) i (encG (fgM e.M e.ng) (fgL e.L e.ng) i) (by rfl) (HO.out _ (by first|exact hb2.alloc hb2.size _|exact (hb2.alloc hb2.size _).drew|exact hb2.drew.alloc hb2.size _|exact (hb2.drew.alloc hb2.size _).drew)) ⟨w2.heap.size,0,none⟩ 1 1 [.string (⟨#[122]⟩ ++ dc),.int .i64 0] (by rfl) (by rfl) (two_cellG _ _ _ _) (two_oneG _ _) (by decide) hm1 hm2 (by simp;have:=hb2.size;omega) (w2.heap.size+1) (by simp) ?_;intro gg cq w4 hown4 hgr4 hat4 hlt4;have hG4:=HL.out.grow hp hwl hhi hww (by first|exact hb2.alloc hb2.size _|exact (hb2.alloc hb2.size _).drew|exact hb2.drew.alloc hb2.size _|exact (hb2.drew.alloc hb2.size _).drew) hgr4;have z7:w4.cell? ⟨w.heap.size,9,none⟩=some (.slice a i c):=hG4.b 9 (by decide);have f7:=hG4.f0 9;refine hK.out _ _ ?_ (fun hHeld=>?_)
     ·(try dsimp only);all_goals trivial
     clear hK K;try simp only [si]
     refine tq 9 rfl ?_;simp only [si];refine rd 10 rfl fun K hK=>?_
     go_simp;refine hK.out _ _ ?_ (fun hHeld=>?_)
     ·(try dsimp only);all_goals trivial
     clear hK K;try simp only [si]
     refine wpAnyH_done (by kernel_rfl) ?_ _;have hS:=HL.out.step hp hwl hhi hww (X:=_) (by first|exact hb2.alloc hb2.size _|exact (hb2.alloc hb2.size _).drew|exact hb2.drew.alloc hb2.size _|exact (hb2.drew.alloc hb2.size _).drew) hown4 hgr4 (hat4.imp (fun q=>q) (fun q=>by simp;omega));rw [Hx.out,Hy.out] at hS;clear hG4 z7 f7
     (try go_wp2)
     first|exact ⟨⟨i+1,by omega,by omega,by go_num,_,_,hS⟩,by simp [intOf];omega⟩|exact ⟨⟨i+1,by omega,by omega,by go_num,_,_,hS.below kB.drew⟩,by simp [intOf];omega⟩
    go_simp;refine hK.out _ _ ?_ (fun hHeld=>?_)
    ·(try dsimp only);all_goals trivial
    clear hK K;try simp only [si]
    refine rd 1 rfl fun K hK=>?_
    go_simp;refine hK.out _ _ ?_ (fun hHeld=>?_)
    ·(try dsimp only);all_goals trivial
    clear hK K;try simp only [si]
    refine rd 8 rfl fun K hK=>?_
    refine step_append_lies _ (by rfl) _ _ _ (by rfl) t.lo 166 i0 _ 2 24 Tryz.underlying28 hi0 hz0 hz1 hz2 rfl (by decide) (.slice a i c) i (encG (fgM e.M e.ng) (fgL e.L e.ng) i) (by rfl) (HO.out _ (by first|exact hb2.alloc hb2.size _|exact (hb2.alloc hb2.size _).drew|exact hb2.drew.alloc hb2.size _|exact (hb2.drew.alloc hb2.size _).drew)) ⟨w2.heap.size,0,none⟩ 1 1 [.string (⟨#[122]⟩ ++ dc),.int .i64 0] (by rfl) (by rfl) (two_cellG _ _ _ _) (two_oneG _ _) (by decide) hm1 hm2 (by simp;have:=hb2.size;omega) (w2.heap.size+1) (by simp) ?_;intro gg cq w4 hown4 hgr4 hat4 hlt4;have hG4:=HL.out.grow hp hwl hhi hww (by first|exact hb2.alloc hb2.size _|exact (hb2.alloc hb2.size _).drew|exact hb2.drew.alloc hb2.size _|exact (hb2.drew.alloc hb2.size _).drew) hgr4;have z7:w4.cell? ⟨w.heap.size,9,none⟩=some (.slice a i c):=hG4.b 9 (by decide);have f7:=hG4.f0 9;refine hK.out _ _ ?_ (fun hHeld=>?_)
    ·(try dsimp only);all_goals trivial
    clear hK K;try simp only [si]
    refine tq 9 rfl ?_;simp only [si];refine rd 10 rfl fun K hK=>?_
    go_simp;refine hK.out _ _ ?_ (fun hHeld=>?_)
    ·(try dsimp only);all_goals trivial
    clear hK K;try simp only [si]
    refine wpAnyH_done (by kernel_rfl) ?_ _;have hS:=HL.out.step hp hwl hhi hww (X:=_) (by first|exact hb2.alloc hb2.size _|exact (hb2.alloc hb2.size _).drew|exact hb2.drew.alloc hb2.size _|exact (hb2.drew.alloc hb2.size _).drew) hown4 hgr4 (hat4.imp (fun q=>q) (fun q=>by simp;omega));rw [Hx.out,Hy.out] at hS;clear hG4 z7 f7
    (try go_wp2)
    first|exact ⟨⟨i+1,by omega,by omega,by go_num,_,_,hS⟩,by simp [intOf];omega⟩|exact ⟨⟨i+1,by omega,by omega,by go_num,_,_,hS.below kB.drew⟩,by simp [intOf];omega⟩
   go_wp2
   go_meet;exact ⟨a,c,by rw [show mm=i by omega];exact HL.out⟩
 case rest =>
  obtain ⟨a,c,hL⟩:=hcut;have ho:=Hok.out
  apply_assumption
  refine xeEnd p (e:={ e with ng:=mm,M:=fgM e.M e.ng,L:=fgL e.L e.ng }) wo w _ hp hww hL.x (fun W' hK hD=>HR.out _ _ _ _ _ _ _ W' ?_ ?_ ?_ ?_ hL.x hK hD)
  ·obtain ⟨x1,x2,e1,q1,_⟩:=hL.p6.slw ho.hp.size
   injection e1 with e1 _ e3
   rw [<- e1,<- e3] at q1;obtain ⟨x1,x2,e1,q2,_⟩:=hL.q7.slw ho.ha.size;injection e1 with e1 _ e3
   rw [<- e1,<- e3] at q2
   exact ⟨ho.hid,ho.hsd,ho.hty,ho.hkey,ho.hval,q1,q2,hL.a9.slg (fun i hi=>by
    unfold fgM;split
    ·exact ho.hg.size i (by omega)
    rw [ByteArray.size_append]
    have:=decB_size2 (1000+i) (by have:i<mm:=hi;omega)
    show 1+_<=maxLen
    unfold maxLen;omega)⟩
  ·exact (own_lo hL.p6 nL).imp id fun ⟨b,off,e1,hb⟩=>⟨b,off,e1,Or.inl ⟨hb,hL.hp b (by rw [e1];rfl)⟩⟩
  ·exact (own_lo hL.q7 nL).imp id fun ⟨b,off,e1,hb⟩=>⟨b,off,e1,Or.inl ⟨hb,hL.hq b (by rw [e1];rfl)⟩⟩
  exact (own_lo hL.a9 nL).imp id fun ⟨b,off,e1,hb⟩=>⟨b,off,e1,(hL.h b (by rw [e1];rfl)).imp (fun q=>⟨hb,q⟩) id⟩
theorem joinS_any (b off n cap:Nat)(S:Nat->ByteArray)(sep:ByteArray)(w:World)(hn:n<=maxLen)
  (hsz:(joinB S sep n).size<=140737488355328)
  (hc:∀ i,i<n->w.cell? ⟨b,off+i,none⟩=some (.string (S i))) :
  Calls Tryz.prog 129 #[.slice (some ⟨b,off,none⟩) n cap,.string sep] w fun e w'=>e=.returned (.string (joinB S sep n))∧w'=w:=by
 unfold maxLen at hn
 go_enter Tryz.func129,Tryz.ntmps129
 go_wp2
 go_loop [5,6] (fun o i=>∃ k:Nat,k<=n∧i=.int .i64 k∧o=.string (joinB S sep k)) (fun _ i=>n - (intOf i).toNat)
 case atStart=>exact ⟨0,nz,rfl,rfl⟩
 case round =>
  obtain ⟨k,hk,rfl,rfl⟩:=hrel
  by_cases hlt:k<n
  ·have hck:=hc k hlt
   have hle:=joinB_size_le S sep (n:=n) (k:=k+1) (by omega)
   by_cases h0:k=0
   ·subst h0
    have hck:w.cell? ⟨b,off,none⟩=some (.string (S 0)):=hck;have hs0:(S 0).size<=140737488355328:=nZ hle hsz;have e0:joinB S sep 0 ++ S 0=S 0:=ByteArray.empty_append;have hx:¬ 9223372036854775807<(joinB S sep 0).size+(S 0).size:=by simp only [joinB,ByteArray.size_empty];omega
    go_wp2
    go_round
    case rel=>exact ⟨1,by omega,by go_num,rfl⟩
    simp [intOf];omega
   have h0':0<k:=by omega
   have ej:joinB S sep (k+1)=joinB S sep k ++ sep ++ S k:=by rw [joinB,if_neg h0]
   have es:(joinB S sep k).size+sep.size+(S k).size<=140737488355328:=by
    have:(joinB S sep (k+1)).size=(joinB S sep k).size+sep.size+(S k).size:=by rw [ej,ByteArray.size_append,ByteArray.size_append]
    omega
   have hx1:¬ 9223372036854775807<(joinB S sep k).size+sep.size:=by omega
   have hx2:¬ 9223372036854775807<(joinB S sep k).size+sep.size+(S k).size:=by omega
   go_wp2
   go_round
   case rel=>exact ⟨k+1,by omega,by go_num,by rw [ej]⟩
   simp [intOf];omega
  go_wp2
  go_ret;rw [show n=k by omega];exact ⟨rfl,rfl⟩
variable {n hi lo cap:Nat}{w':World}{S:Nat->ByteArray}
theorem XeS.less {x y:Nat}(h:XeS a n lo hi y)(hx:x<=y):XeS a n lo hi x :=
 h.imp id fun ⟨b,off,e,h1⟩=>⟨b,off,e,h1.imp id fun h2=>nZ hx h2⟩
theorem SlS.ks (h:SlS w a n cap S)(hv:XeS a n lo hi (c+1))(hk:Kb c w w')(hr:hi<=c):SlS w' a n cap S:=by
 rcases hv with h0|⟨b,off,rfl,h1⟩
 ·exact ⟨h.le,h.max,h.size,Or.inl h0⟩
 refine ⟨h.le,h.max,h.size,h.cells.imp id fun ⟨b',off',e,hlt,hc⟩=>⟨b',off',e,nT hlt hk.1,fun i hi=>?_⟩⟩;have e2:b=b':=by injection e with e;injection e
 exact (hk.cell hlt (by omega)).trans (hc i hi)
theorem SlG.ks {L:Nat->Int}(h:SlG w a n cap M L)(hv:XeS a n lo hi (c+1))(hk:Kb c w w')(hr:hi<=c):SlG w' a n cap M L:=by
 rcases hv with h0|⟨b,off,rfl,h1⟩
 ·exact ⟨h.le,h.max,h.size,Or.inl h0⟩
 refine ⟨h.le,h.max,h.size,h.cells.imp id fun ⟨b',off',e,hlt,hc,hl⟩=>⟨b',off',e,nT hlt hk.1,fun i hi=>?_,fun i hi=>?_⟩⟩
 ·have e2:b=b':=by injection e with e;injection e
  exact (hk.cell hlt (by omega)).trans (hc i hi)
 have e2:b=b':=by injection e with e;injection e
 exact (hk.cell hlt (by omega)).trans (hl i hi)
theorem xeR_post {wo:World}{v:Nat}(hhi:hi<=w.heap.size)(Hk:k=nxB bs m q)(Hv:v=nxB bs m (nxQ m q)):XeR p wo w bs m (nxQ m (nxQ m q)) lo hi (spE k v e) (XePost p wo w bs m q e lo hi):=by
 intro pa cp aa ca ga cg W W' hok h1 h2 h3 hX hK hD;subst Hk Hv;refine ⟨pa,cp,aa,ca,ga,cg,rfl,⟨hok.hid,hok.hsd,hok.hty,hok.hkey,hok.hval,hok.hp.ks h1 hK (by omega),hok.ha.ks h2 hK (by omega),hok.hg.ks h3 hK (by omega)⟩,h1.less (by omega),h2.less (by omega),h3.less (by omega),by have:=hX.sz;have:=hK.1;omega,fun b hb h4 h5=>?_,hD⟩;exact (hK.2 b (by have:=hX.sz;omega) (by omega)).trans (hX.k b hb h4 h5)
theorem spoilEvent (p:Nat)(e:Ev)(t:Ls)(wo w:World)(hp:p<wo.heap.size)(hwl:wo.heap.size<=t.lo)(hd:DwF p wo w bs m q)(hQ:QO w e t)(hnp:e.np<=1000)(hna:e.na<=1000)(hng:e.ng<=1000) :
  Calls Tryz.prog 66 #[.pointer (some ⟨p,0,none⟩),e.val' t.pa t.cp t.aa t.ca t.ga t.cg] w (XePost p wo w bs m q e t.lo t.hi):=by
 have hww:wo.heap.size<=w.heap.size:=hd.size;have hhi:t.hi<=w.heap.size:=hQ.j.hh.2;have hpw:p<w.heap.size:=nT hp hww;have hX0:=evX_new (t:=30) (lo:=t.lo) (hi:=t.hi) (cs:=(ec e t.pa t.cp t.aa t.ca t.ga t.cg)) hd rfl;obtain ⟨wa,hwa⟩:∃ wa,wa=(w.alloc (.cells (ec e t.pa t.cp t.aa t.ca t.ga t.cg) 30)).alloc (.cells #[.string ⟨#[]⟩,.string ⟨#[]⟩,.string ⟨#[]⟩,.bool false,.string ⟨#[]⟩,.int .i64 0,.slice none 0 0,.slice none 0 0,.string ⟨#[]⟩,.slice none 0 0] 30):=⟨_,rfl⟩;rw [<- hwa] at hX0;have hba:Below w.heap.size w wa:=by rw [hwa];exact bA.alloc (by simp) _
 have HQa:Hid (QO wa e t):=qcO.below hQ hba;have HXa:Hid (_):=hX0;have hk:=hd.1.nx;obtain ⟨k,hk0⟩:∃ k,k=nxB bs m q:=⟨_,rfl⟩;have Hk:Hid (k=nxB bs m q):=hk0;rw [<- hk0] at hk;clear hX0 hQ hba
 go_enter Tryz.func66,Tryz.ntmps66
 go_wp2_with fail
 rw [<- hwa];clear hwa;refine (nextF p wa HXa.out.dw.1).mono ?_;rintro x w1 ⟨rfl,hd1⟩;rw [<- hk0];clear hk0 hd;have HX1:Hid (_):=HXa.out.draw hpw hd1;have HQ1:Hid (QO w1 e t):=HQa.out.grown hd1.2 (fun b hb=>by injection hb with hb;omega);have hv:=hd1.1.nx;obtain ⟨v,hv0⟩:∃ v,v=nxB bs m (nxQ m q):=⟨_,rfl⟩;have Hv:Hid (v=nxB bs m (nxQ m q)):=hv0;rw [<- hv0] at hv;clear HXa HQa hd1
 go_wp2_with fail
 refine (nextF p w1 HX1.out.dw.1).mono ?_;rintro x w2 ⟨rfl,hd2⟩;rw [<- hv0];clear hv0;have HX2:Hid (_):=HX1.out.draw hpw hd2;have HQ2:Hid (QO w2 e t):=HQ1.out.grown hd2.2 (fun b hb=>by injection hb with hb;omega);clear HX1 HQ1 hd2;obtain ⟨od,hod⟩:∃ od,od=oddS v:=⟨_,rfl⟩;have Hod:Hid (od=oddS v):=hod
 go_upto_region 3 with fail
 go_cut [7] (fun x wx=>x=.string od∧Below w2.heap.size w2 wx)
 case first =>
  clear HX2 HQ2;obtain ⟨v9,hv9⟩:∃ v9,v9=v % 10:=⟨_,rfl⟩;have hv9i:(v:Int) % 10=(v9:Int):=by omega
  have hv90:(0:Int)<=(v9:Int):=by omega
  have hv9l:(v9:Int)<10:=by omega
  have hbB:Below w2.heap.size w2 ((w2.alloc (.cells #[.string ⟨#[48,49,50,51,52,53,54,55,56,57]⟩,.string ⟨#[48,49,50,51,52,53,54,55,56,57]⟩,.string ⟨#[48,49,50,51,52,53,54,55,56,57]⟩,.string ⟨#[48,49,50,51,52,53,54,55,56,57]⟩] 9)).alloc (.cells #[.string ⟨#[]⟩,.string ⟨#[97,32,98]⟩,.string ⟨#[120,44,121]⟩,.string ⟨#[45]⟩,.string ⟨#[97,58,98]⟩,.string ⟨#[48,49,50,51,52,53,54,55,56,57,48,49,50,51,52,53,54,55,56,57,48,49,50,51,52,53,54,55,56,57,48,49,50,51,52,53,54,55,56,57]⟩,.string ⟨#[48,49,50,51,52,53,54,55,56,57,48,49,50,51,52,53,54,55,56,57,48,49,50,51,52,53,54,55,56,57,48,49,50,51,52,53,54,55,56,57,48]⟩,.string ⟨#[61]⟩,.string ⟨#[42,115,116,97,116,101]⟩,.string ⟨#[111,107]⟩] 9)):=bA.alloc (by simp) _
  have hix:((w2.alloc (.cells #[.string ⟨#[48,49,50,51,52,53,54,55,56,57]⟩,.string ⟨#[48,49,50,51,52,53,54,55,56,57]⟩,.string ⟨#[48,49,50,51,52,53,54,55,56,57]⟩,.string ⟨#[48,49,50,51,52,53,54,55,56,57]⟩] 9)).alloc (.cells #[.string ⟨#[]⟩,.string ⟨#[97,32,98]⟩,.string ⟨#[120,44,121]⟩,.string ⟨#[45]⟩,.string ⟨#[97,58,98]⟩,.string ⟨#[48,49,50,51,52,53,54,55,56,57,48,49,50,51,52,53,54,55,56,57,48,49,50,51,52,53,54,55,56,57,48,49,50,51,52,53,54,55,56,57]⟩,.string ⟨#[48,49,50,51,52,53,54,55,56,57,48,49,50,51,52,53,54,55,56,57,48,49,50,51,52,53,54,55,56,57,48,49,50,51,52,53,54,55,56,57,48]⟩,.string ⟨#[61]⟩,.string ⟨#[42,115,116,97,116,101]⟩,.string ⟨#[111,107]⟩] 9)).cell? ⟨w2.heap.size+1,v9,none⟩=some (.string od):=by
   rw [kA (by simp),hod];unfold oddS;rw [<- hv9]
   match v9,(by omega:v9<10) with
   | 0,_=>rfl
   | 1,_=>rfl
   | 2,_=>rfl
   | 3,_=>rfl
   | 4,_=>rfl
   | 5,_=>rfl
   | 6,_=>rfl
   | 7,_=>rfl
   | 8,_=>rfl
   | 9,_=>rfl
  have hjn:joinB (fun _=>(⟨#[48,49,50,51,52,53,54,55,56,57]⟩:ByteArray)) ⟨#[]⟩ 4=⟨#[48,49,50,51,52,53,54,55,56,57,48,49,50,51,52,53,54,55,56,57,48,49,50,51,52,53,54,55,56,57,48,49,50,51,52,53,54,55,56,57]⟩:=by decide
  have HJ:Hid (∀ W,W=w2.alloc (.cells #[.string ⟨#[48,49,50,51,52,53,54,55,56,57]⟩,.string ⟨#[48,49,50,51,52,53,54,55,56,57]⟩,.string ⟨#[48,49,50,51,52,53,54,55,56,57]⟩,.string ⟨#[48,49,50,51,52,53,54,55,56,57]⟩] 9)->Calls Tryz.prog 129 #[.slice (some ⟨w2.heap.size,0,none⟩) (4:Nat) 4,.string ⟨#[]⟩] W fun e w'=>e=.returned (.string ⟨#[48,49,50,51,52,53,54,55,56,57,48,49,50,51,52,53,54,55,56,57,48,49,50,51,52,53,54,55,56,57,48,49,50,51,52,53,54,55,56,57]⟩)∧w'=W):=fun W hW=>by
   have:=joinS_any w2.heap.size 0 4 4 (fun _=>(⟨#[48,49,50,51,52,53,54,55,56,57]⟩:ByteArray)) ⟨#[]⟩ W (by decide) (by rw [hjn];decide) (fun i hi=>by
    rw [hW,kA rfl]
    match i,hi with
    | 0,_=>rfl
    | 1,_=>rfl
    | 2,_=>rfl
    | 3,_=>rfl)
   rw [hjn] at this;exact this
  clear hod hv9 hjn Hod Hk Hv
  go_wp2_with fail
  refine (HJ.out _ rfl).mono ?_;rintro x w3 ⟨rfl,rfl⟩;clear HJ;go_wp2
  go_meet;exact ⟨rfl,hbB⟩
 case rest =>
  obtain ⟨rfl,hbz⟩:=hcut;obtain ⟨wz,hwz⟩:∃ wz:World,wz=wc:=⟨_,rfl⟩;subst hwz;have HXz:Hid (_):=HX2.out.below hbz;have HQz:Hid (QO wz e t):=qcO.below HQ2.out hbz;have HR:Hid (XeR p wo w bs m (nxQ m (nxQ m q)) t.lo t.hi (spE k v e) (XePost p wo w bs m q e t.lo t.hi)):=xeR_post hhi Hk.out Hv.out;clear HX2 HQ2 hbz hod Hk Hv;obtain ⟨c,hc⟩:∃ c,k % 16=c:=⟨_,rfl⟩;have hc16:c<16:=by omega
  match c,hc16,hc with
  | 0,_,hc=>apply_assumption;exact xeC0 p wo w wz hp hww hhi hk hv hc Hod HQz HXz HR
  | 1,_,hc=>apply_assumption;exact xeC1 p wo w wz hp hww hhi hk hv hc Hod HQz HXz HR
  | 2,_,hc=>apply_assumption;exact xeC2 p wo w wz hp hww hhi hk hv hc Hod HQz HXz HR
  | 3,_,hc=>apply_assumption;exact xeC3 p wo w wz hp hww hhi hk hv hc Hod HQz HXz HR
  | 4,_,hc=>apply_assumption;exact xeC4 p wo w wz hp hww hhi hk hv hc Hod HQz HXz HR
  | 5,_,hc=>apply_assumption;exact xeC5 p wo w wz hp hww hhi hk hv hc Hod HQz HXz HR
  | 6,_,hc=>apply_assumption;exact xeC6 p wo w wz hp hww hhi hk hv hc Hod HQz HXz HR
  | 7,_,hc=>apply_assumption;exact xeC7 p wo w wz hp hww hwl hhi hk hc hnp Hod HQz HXz HR
  | 8,_,hc=>apply_assumption;exact xeC8 p wo w wz hp hww hwl hhi hk hc hna HQz HXz HR
  | 9,_,hc=>apply_assumption;exact xeC9 p wo w wz hp hww hwl hhi hk hc hnp Hod HQz HXz HR
  | 10,_,hc=>apply_assumption;exact xeC10 p wo w wz hp hww hwl hhi hk hv hc HQz HXz HR
  | 11,_,hc=>apply_assumption;exact xeC11 p wo w wz hp hww hhi hk hv hc Hod HQz HXz HR
  | 12,_,hc=>apply_assumption;exact xeC12 p wo w wz hp hww hwl hhi hk hv hc hng Hod HQz HXz HR
  | 13,_,hc=>apply_assumption;exact xeC13 p wo w wz hp hww hhi hk hc HQz HXz HR
  | 14,_,hc=>apply_assumption;exact xeC14 p wo w wz hp hww hwl hhi hk hv hc HQz HXz HR
  | 15,_,hc=>apply_assumption;exact xeC15 p wo w wz hp hww hhi hk hc HQz HXz HR
  | _+16,h,_=>exact absurd h (by omega)
end Go.Proofs.YtkdalopokdhndaaGreat
