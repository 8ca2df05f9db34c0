import Derived.Test.YtkdalopokdhndaaGreatXeHZ
set_option maxHeartbeats 16000000
set_option maxRecDepth 100000
namespace Go.Proofs.YtkdalopokdhndaaGreat
open Go.RowKit
variable {c i k m p q:Nat}{W w:World}{bs:Nat->Nat}{e:Ev}{t:Ls}{S:Nat->ByteArray}{a:Option Addr}{od:ByteArray}{R:Ending->World->Prop}{u1 u8 u9 u10 u11 u12 u13 u14 u15 u16 u17 u18 u19 u20 u21 u22 u23 u24 u25 u26 u27 u28 u29 u30 u31 u32 u33 u34 u35 u36 u37 u38 u39 u40 u41 u42 u43 u44 u45 u46 u47 u48 u49 u50 u51 u52 u53 u54 u55 u56 u57 u58 u59 u60 u61 u62 u63 u64 u65 u66 u67 u68 u69 u70 u71 u72 u73 u74 u75 u76 u77 u78 u79 u80 u81 u82 u83 u84 u85 u86 u87 u88 u89 u90 u91 u92 u93 u94 u95 u96 u97 u98 u99 u100 u101 u102 u103 u104 u105 u106 u107 u108 u109 u110 u111 u112 u113 u114 u115 u116 u117 u118 u119 u120 u121 u122 u123 u124 u125 u126 u127 u128 u129 u130 u131 u132 u133 u134 u135 u136 u137 u138 u139 u140 u141 u142 u143 u144 u145 u146 u147 u148 u149 u150 u151 u152 u153 u154 u155 u156 u157 u158 u159 u160 u161 u162 u163 u164 u165 u166:Value}
def fqS (S:Nat->ByteArray)(n:Nat):Nat->ByteArray:=fun i=>if i<n then S i else ⟨#[36,102]⟩ ++ decB i
theorem XeL.congS {wo:World}{S':Nat->ByteArray}(h:XeL p wo w W bs m q e t i S a c)(hs:∀ j,j<i->S j=S' j):XeL p wo w W bs m q e t i S' a c :=
 ⟨h.x,by unfold OwnT;rw [<- show strs S i=strs S' i from List.map_congr_left fun j hj=>by rw [hs j (List.mem_range.1 hj)]];exact h.a7,h.p6,h.g9,h.d,h.h,h.hp,h.hg⟩
theorem extF_self (S:Nat->ByteArray)(i:Nat):extF S i (S i)=S:=funext fun j=>by
 unfold extF;split
 ·rename_i h;rw [h]
 rfl
theorem xeC10 (p:Nat){v:Nat}(wo w W:World)(hp:p<wo.heap.size)(hww:wo.heap.size<=w.heap.size)(hwl:wo.heap.size<=t.lo)(hhi:t.hi<=w.heap.size)(hk:k<256)(hv:v<256)(hc:k % 16=10)(HQ:Hid (QO W e t))(HX:Hid (EvX p wo w W bs m q t.lo t.hi (fun o=>((ec e t.pa t.cp t.aa t.ca t.ga t.cg):Array Value)[o]?.getD undef)))(HR:Hid (XeR p wo w bs m q t.lo t.hi (spE k v e) R)) :
  Code.wp Tryz.prog (tlN (Tryz.f66.body.getD .skip) 4) (bodyPost Tryz.prog Tryz.f66 R) { tmps:=#[.pointer (some ⟨p,0,none⟩),u1,undef,.pointer (some ⟨w.heap.size,0,none⟩),.pointer (some ⟨w.heap.size+1,0,none⟩),.int .i64 (k:Int),.int .i64 (v:Int),.string od,u8,u9,u10,u11,u12,u13,u14,u15,u16,u17,u18,u19,u20,u21,u22,u23,u24,u25,u26,u27,u28,u29,u30,u31,u32,u33,u34,u35,u36,u37,u38,u39,u40,u41,u42,u43,u44,u45,u46,u47,u48,u49,u50,u51,u52,u53,u54,u55,u56,u57,u58,u59,u60,u61,u62,u63,u64,u65,u66,u67,u68,u69,u70,u71,u72,u73,u74,u75,u76,u77,u78,u79,u80,u81,u82,u83,u84,u85,u86,u87,u88,u89,u90,u91,u92,u93,u94,u95,u96,u97,u98,u99,u100,u101,u102,u103,u104,u105,u106,u107,u108,u109,u110,u111,u112,u113,u114,u115,u116,u117,u118,u119,u120,u121,u122,u123,u124,u125,u126,u127,u128,u129,u130,u131,u132,u133,u134,u135,u136,u137,u138,u139,u140,u141,u142,u143,u144,u145,u146,u147,u148,u149,u150,u151,u152,u153,u154,u155,u156,u157,u158,u159,u160,u161,u162,u163,u164,u165,u166],defers:=[] } W:=by
 obtain ⟨i0,hi0,hz0,hz1,hz2⟩:=info_parts Tryz.infoString;rw [show tlN (Tryz.f66.body.getD .skip) 4=Code.seq _ _ from rfl];have hsp:spE k v e={ e with na:=mx e.na (9+v % 3),Av:=fqS e.Av e.na }:=by unfold spE fqS;simp [hc]
 rw [hsp] at HR;have hci:(k:Int) % 16=10:=by omega
 have b7:W.cell? ⟨w.heap.size,7,none⟩=some (.slice t.aa e.na t.ca):=HX.out.b 7 (by decide);have HL0:Hid (XeL p wo w W bs m q e t e.na (fqS e.Av e.na) t.aa t.ca):=(XeL.new HQ.out HX.out).congS (fun j hj=>by unfold fqS;rw [if_pos hj]);obtain ⟨lim,hlim⟩:∃ lim,lim=9+v % 3:=⟨_,rfl⟩;rw [<- hlim] at HR;have hli:9+(v:Int) % 3=(lim:Int):=by omega
 have hl11:lim<=11:=by omega
 obtain ⟨mm,hmm⟩:∃ mm,mm=mx e.na lim:=⟨_,rfl⟩;rw [<- hmm] at HR;have hmx:e.na<=mm∧lim<=mm∧(mm=e.na∨mm=lim):=by rw [hmm];unfold mx;split <;> omega
 have Hok:Hid (EvOk W e t.pa t.cp t.aa t.ca t.ga t.cg):=HQ.out.j.ok;have HLH:Hid (t.lo<=t.hi):=HQ.out.j.hh.1;clear hlim hmm HQ HX
 go_upto_if 23 with fail
 go_cut [166] (fun _ wx=>∃ a c,XeL p wo w wx bs m q e t mm (fqS e.Av e.na) a c)
 case first =>
  clear HR
  go_wp2_with fail
  go_loopw [8] (fun iv wr=>∃ i:Nat,e.na<=i∧i<=mm∧iv=.int .i64 (i:Int)∧∃ a c,XeL p wo w wr bs m q e t i (fqS e.Av e.na) a c) (fun iv _=>2000 - (intOf iv).toNat)
  case atStart=>exact ⟨e.na,nL,hmx.1,rfl,_,_,HL0.out⟩
  case round =>
   clear HL0 b7 hci hc;obtain ⟨i,hi1,hi2,rfl,a,c,hL⟩:=hrel;have HL:Hid (XeL p wo w wr bs m q e t i (fqS e.Av e.na) a c):=hL
   by_cases hlt:i<lim
   ·have hlti:(i:Int)<(lim:Int):=by omega
    have y7:wr.cell? ⟨w.heap.size,7,none⟩=some (.slice a i c):=hL.x.b 7 (by decide);have HD0:∀ W,Calls Tryz.prog 123 #[.int .i64 (i:Int)] W (fun e w'=>e=.returned (.string (decB i))∧Below W.heap.size W w'):=fun W=>decF i (by omega) W
    have hdz:=decB_size i (by omega);obtain ⟨dc,hdc⟩:∃ dc,dc=decB i:=⟨_,rfl⟩;rw [<- hdc] at HD0 hdz;have HD:Hid (∀ W,Calls Tryz.prog 123 #[.int .i64 (i:Int)] W (fun e w'=>e=.returned (.string dc)∧Below W.heap.size W w')):=HD0
    have Hx:Hid (extF (fqS e.Av e.na) i (⟨#[36,102]⟩ ++ dc)=fqS e.Av e.na):=by
     unfold Hid;rw [show (⟨#[36,102]⟩:ByteArray) ++ dc=fqS e.Av e.na i by unfold fqS;rw [if_neg (by omega),hdc]];exact extF_self _ _
    have hcat:¬ 9223372036854775807<2+dc.size:=by omega
    have HO:Hid (∀ W,Below wr.heap.size wr W->W.ownsRow t.lo 9 1 (.slice a i c) i (strs (fqS e.Av e.na) i)):=fun W hW=>(HL.out.below hW).a7
    have hm1:i+1<=maxLen:=by unfold maxLen;omega
    have hm2:(i+1) * 16<=140737488355328:=by omega
    have hlw:t.lo<=wr.heap.size:=by have:=hL.x.sz;have q:t.lo<=t.hi:=HLH.out;omega
    have hszr:=hL.x.sz;have hrf:Below wr.heap.size wr wr:=kB;clear hL HD0 hdc
    go_upto_region 28 with fail
    refine wp_region_held_drew (S:=fun _=>True) (by kernel_rfl) ?_ (fun hHeld=>?_)
    ·(try dsimp only);all_goals trivial
    refine tq 0 rfl ?_;simp only [si];refine tq 2 rfl ?_;simp only [si];refine wpAnyH_ready (rs:=[1,3]) (by kernel_rfl) (by simp) ?_;refine AllReadyH.cons rfl (fun K hK=>?_) (AllReadyH.cons rfl (fun K hK=>?_) AllReadyH.nil)
    ·go_simp
     refine hK.out _ _ ?_ (fun hHeld=>?_)
     ·(try dsimp only);all_goals trivial
     clear hK K;try simp only [si]
     refine rd 3 rfl fun K hK=>?_
     go_simp
     go_at_call 123
     refine (HD.out _).mono ?_;rintro ee w2 ⟨rfl,hb2'⟩;have hb2:Below wr.heap.size wr w2:=Below.trans (by with_reducible (repeat refine .drew ?_);exact hrf) (hb2'.mono (by first|exact nL|exact hrf.size));try dsimp only
     refine hK.out _ _ ?_ (fun hHeld=>?_)
     ·(try dsimp only);all_goals trivial
     clear hK K;try simp only [si]
     refine tq 4 rfl ?_;simp only [si];refine rd 5 rfl fun K hK=>?_
     go_simp;refine hK.out _ _ ?_ (fun hHeld=>?_)
     ·(try dsimp only);all_goals trivial
     clear hK K;try simp only [si]
     refine rd 6 rfl fun K hK=>?_
     refine step_append_lies _ (by rfl) _ _ _ (by rfl) t.lo 9 i0 _ 1 16 Tryz.underlying27 hi0 hz0 hz1 hz2 rfl (by decide) (.slice a i c) i (strs (fqS e.Av e.na) i) (by rfl) (HO.out _ (by first|exact hb2.alloc hb2.size _|exact (hb2.alloc hb2.size _).drew|exact hb2.drew.alloc hb2.size _|exact (hb2.drew.alloc hb2.size _).drew)) ⟨w2.heap.size,0,none⟩ 1 1 [.string (⟨#[36,102]⟩ ++ dc)] (by rfl) (by rfl) (one_cells _ _ _) (one_one _) (by decide) hm1 hm2 (by simp;have:=hb2.size;omega) (w2.heap.size+1) (by simp) ?_;intro gg cq w4 hown4 hgr4 hat4 hlt4;have hG4:=HL.out.grow hp hwl hhi hww (by first|exact hb2.alloc hb2.size _|exact (hb2.alloc hb2.size _).drew|exact hb2.drew.alloc hb2.size _|exact (hb2.drew.alloc hb2.size _).drew) hgr4;have z7:w4.cell? ⟨w.heap.size,7,none⟩=some (.slice a i c):=hG4.b 7 (by decide);have f7:=hG4.f0 7;refine hK.out _ _ ?_ (fun hHeld=>?_)
     ·(try dsimp only);all_goals trivial
     clear hK K;try simp only [si]
     refine tq 7 rfl ?_;simp only [si];refine rd 8 rfl fun K hK=>?_
     go_simp;refine hK.out _ _ ?_ (fun hHeld=>?_)
     ·(try dsimp only);all_goals trivial
     clear hK K;try simp only [si]
     refine wpAnyH_done (by kernel_rfl) ?_ _;have hS:=HL.out.step hp hwl hhi hww (X:=_) (by first|exact hb2.alloc hb2.size _|exact (hb2.alloc hb2.size _).drew|exact hb2.drew.alloc hb2.size _|exact (hb2.drew.alloc hb2.size _).drew) hown4 hgr4 (hat4.imp (fun q=>q) (fun q=>by simp;omega));rw [Hx.out] at hS;clear hG4 z7 f7
     (try go_wp2)
     first|exact ⟨⟨i+1,by omega,by omega,by go_num,_,_,hS⟩,by simp [intOf];omega⟩|exact ⟨⟨i+1,by omega,by omega,by go_num,_,_,hS.below kB.drew⟩,by simp [intOf];omega⟩
    go_simp
    go_at_call 123
    refine (HD.out _).mono ?_;rintro ee w2 ⟨rfl,hb2'⟩;have hb2:Below wr.heap.size wr w2:=Below.trans (by with_reducible (repeat refine .drew ?_);exact hrf) (hb2'.mono (by first|exact nL|exact hrf.size));try dsimp only
    refine hK.out _ _ ?_ (fun hHeld=>?_)
    ·(try dsimp only);all_goals trivial
    clear hK K;try simp only [si]
    refine tq 4 rfl ?_;simp only [si];have y7b:w2.cell? ⟨w.heap.size,7,none⟩=some (.slice a i c):=(HL.out.below hb2).x.b 7 (by decide);have y7c:(w2.alloc (.cells #[.string (⟨#[36,102]⟩ ++ dc)] 9)).cell? ⟨w.heap.size,7,none⟩=some (.slice a i c):=(HL.out.below (hb2.alloc hb2.size _)).x.b 7 (by decide);refine wpAnyH_ready (rs:=[1,5]) (by kernel_rfl) (by simp) ?_;refine AllReadyH.cons rfl (fun K hK=>?_) (AllReadyH.cons rfl (fun K hK=>?_) AllReadyH.nil)
    ·go_simp
     refine hK.out _ _ ?_ (fun hHeld=>?_)
     ·(try dsimp only);all_goals trivial
     clear hK K;try simp only [si]
     refine rd 5 rfl fun K hK=>?_
     go_simp;refine hK.out _ _ ?_ (fun hHeld=>?_)
     ·(try dsimp only);all_goals trivial
     clear hK K;try simp only [si]
     refine rd 6 rfl fun K hK=>?_
     refine step_append_lies _ (by rfl) _ _ _ (by rfl) t.lo 9 i0 _ 1 16 Tryz.underlying27 hi0 hz0 hz1 hz2 rfl (by decide) (.slice a i c) i (strs (fqS e.Av e.na) i) (by rfl) (HO.out _ (by first|exact hb2.alloc hb2.size _|exact (hb2.alloc hb2.size _).drew|exact hb2.drew.alloc hb2.size _|exact (hb2.drew.alloc hb2.size _).drew)) ⟨w2.heap.size,0,none⟩ 1 1 [.string (⟨#[36,102]⟩ ++ dc)] (by rfl) (by rfl) (one_cells _ _ _) (one_one _) (by decide) hm1 hm2 (by simp;have:=hb2.size;omega) (w2.heap.size+1) (by simp) ?_;intro gg cq w4 hown4 hgr4 hat4 hlt4;have hG4:=HL.out.grow hp hwl hhi hww (by first|exact hb2.alloc hb2.size _|exact (hb2.alloc hb2.size _).drew|exact hb2.drew.alloc hb2.size _|exact (hb2.drew.alloc hb2.size _).drew) hgr4;have z7:w4.cell? ⟨w.heap.size,7,none⟩=some (.slice a i c):=hG4.b 7 (by decide);have f7:=hG4.f0 7;refine hK.out _ _ ?_ (fun hHeld=>?_)
     ·(try dsimp only);all_goals trivial
     clear hK K;try simp only [si]
     refine tq 7 rfl ?_;simp only [si];refine rd 8 rfl fun K hK=>?_
     go_simp;refine hK.out _ _ ?_ (fun hHeld=>?_)
     ·(try dsimp only);all_goals trivial
     clear hK K;try simp only [si]
     refine wpAnyH_done (by kernel_rfl) ?_ _;have hS:=HL.out.step hp hwl hhi hww (X:=_) (by first|exact hb2.alloc hb2.size _|exact (hb2.alloc hb2.size _).drew|exact hb2.drew.alloc hb2.size _|exact (hb2.drew.alloc hb2.size _).drew) hown4 hgr4 (hat4.imp (fun q=>q) (fun q=>by simp;omega));rw [Hx.out] at hS;clear hG4 z7 f7
     (try go_wp2)
     first|exact ⟨⟨i+1,by omega,by omega,by go_num,_,_,hS⟩,by simp [intOf];omega⟩|exact ⟨⟨i+1,by omega,by omega,by go_num,_,_,hS.below kB.drew⟩,by simp [intOf];omega⟩
    go_simp;refine hK.out _ _ ?_ (fun hHeld=>?_)
    ·(try dsimp only);all_goals trivial
    clear hK K;try simp only [si]
    refine rd 1 rfl fun K hK=>?_
    go_simp;refine hK.out _ _ ?_ (fun hHeld=>?_)
    ·(try dsimp only);all_goals trivial
    clear hK K;try simp only [si]
    refine rd 6 rfl fun K hK=>?_
    refine step_append_lies _ (by rfl) _ _ _ (by rfl) t.lo 9 i0 _ 1 16 Tryz.underlying27 hi0 hz0 hz1 hz2 rfl (by decide) (.slice a i c) i (strs (fqS e.Av e.na) i) (by rfl) (HO.out _ (by first|exact hb2.alloc hb2.size _|exact (hb2.alloc hb2.size _).drew|exact hb2.drew.alloc hb2.size _|exact (hb2.drew.alloc hb2.size _).drew)) ⟨w2.heap.size,0,none⟩ 1 1 [.string (⟨#[36,102]⟩ ++ dc)] (by rfl) (by rfl) (one_cells _ _ _) (one_one _) (by decide) hm1 hm2 (by simp;have:=hb2.size;omega) (w2.heap.size+1) (by simp) ?_;intro gg cq w4 hown4 hgr4 hat4 hlt4;have hG4:=HL.out.grow hp hwl hhi hww (by first|exact hb2.alloc hb2.size _|exact (hb2.alloc hb2.size _).drew|exact hb2.drew.alloc hb2.size _|exact (hb2.drew.alloc hb2.size _).drew) hgr4;have z7:w4.cell? ⟨w.heap.size,7,none⟩=some (.slice a i c):=hG4.b 7 (by decide);have f7:=hG4.f0 7;refine hK.out _ _ ?_ (fun hHeld=>?_)
    ·(try dsimp only);all_goals trivial
    clear hK K;try simp only [si]
    refine tq 7 rfl ?_;simp only [si];refine rd 8 rfl fun K hK=>?_
    go_simp;refine hK.out _ _ ?_ (fun hHeld=>?_)
    ·(try dsimp only);all_goals trivial
    clear hK K;try simp only [si]
    refine wpAnyH_done (by kernel_rfl) ?_ _;have hS:=HL.out.step hp hwl hhi hww (X:=_) (by first|exact hb2.alloc hb2.size _|exact (hb2.alloc hb2.size _).drew|exact hb2.drew.alloc hb2.size _|exact (hb2.drew.alloc hb2.size _).drew) hown4 hgr4 (hat4.imp (fun q=>q) (fun q=>by simp;omega));rw [Hx.out] at hS;clear hG4 z7 f7
    (try go_wp2)
    first|exact ⟨⟨i+1,by omega,by omega,by go_num,_,_,hS⟩,by simp [intOf];omega⟩|exact ⟨⟨i+1,by omega,by omega,by go_num,_,_,hS.below kB.drew⟩,by simp [intOf];omega⟩
   go_wp2
   go_meet;exact ⟨a,c,by rw [show mm=i by omega];exact HL.out⟩
 case rest =>
  obtain ⟨a,c,hL⟩:=hcut;have ho:=Hok.out
  apply_assumption
  refine xeEnd p (e:={ e with na:=mm,Av:=fqS e.Av e.na }) wo w _ hp hww hL.x (fun W' hK hD=>HR.out _ _ _ _ _ _ _ W' ?_ ?_ ?_ ?_ hL.x hK hD)
  ·obtain ⟨x1,x2,e1,q1,_⟩:=hL.p6.slw ho.hp.size
   injection e1 with e1 _ e3
   rw [<- e1,<- e3] at q1
   obtain ⟨x1,x2,e1,q2,_⟩:=hL.a7.slw (fun i hi=>by
    unfold fqS;split
    ·exact ho.ha.size i (by omega)
    rw [ByteArray.size_append]
    have:=decB_size i (by omega)
    show 2+_<=maxLen
    unfold maxLen;omega)
   injection e1 with e1 _ e3
   rw [<- e1,<- e3] at q2;exact ⟨ho.hid,ho.hsd,ho.hty,ho.hkey,ho.hval,q1,q2,hL.g9.slg ho.hg.size⟩
  ·exact (own_lo hL.p6 nL).imp id fun ⟨b,off,e1,hb⟩=>⟨b,off,e1,Or.inl ⟨hb,hL.hp b (by rw [e1];rfl)⟩⟩
  ·exact (own_lo hL.a7 nL).imp id fun ⟨b,off,e1,hb⟩=>⟨b,off,e1,(hL.h b (by rw [e1];rfl)).imp (fun q=>⟨hb,q⟩) id⟩
  exact (own_lo hL.g9 nL).imp id fun ⟨b,off,e1,hb⟩=>⟨b,off,e1,Or.inl ⟨hb,hL.hg b (by rw [e1];rfl)⟩⟩
structure XeN (p:Nat)(wo w W:World)(bs:Nat->Nat)(m q:Nat)(e:Ev)(t:Ls)(i:Nat)(M:Nat->ByteArray)(L:Nat->Int)(a:Option Addr)(c:Nat):Prop where
 x:EvX p wo w W bs m q t.lo t.hi (fun o=>(#[.string e.id,.string e.sd,.string e.ty,.bool e.st,.string e.key,.int .i64 e.tm,.slice t.pa e.np t.cp,.slice t.aa e.na t.ca,.string e.val,.slice a i c]:Array Value)[o]?.getD undef)
 a9:OwnG W t.lo (.slice a i c) i M L
 p6:OwnT W t.lo (.slice t.pa e.np t.cp) e.np e.Pv
 q7:OwnT W t.lo (.slice t.aa e.na t.ca) e.na e.Av
 h:∀ b,(Value.slice a i c).ownBlock=some b->b<t.hi∨w.heap.size+2<=b
 hp:∀ b,(Value.slice t.pa e.np t.cp).ownBlock=some b->b<t.hi
 hq:∀ b,(Value.slice t.aa e.na t.ca).ownBlock=some b->b<t.hi
section
variable {p:Nat} {wo w W:World} {bs:Nat->Nat} {m q:Nat} {e:Ev} {t:Ls} {i:Nat} {M:Nat->ByteArray} {L:Nat->Int} {a:Option Addr} {c:Nat}
theorem XeN.new (hQ:QO W e t)(hX:EvX p wo w W bs m q t.lo t.hi (fun o=>((ec e t.pa t.cp t.aa t.ca t.ga t.cg):Array Value)[o]?.getD undef)):XeN p wo w W bs m q e t e.ng e.M e.L t.ga t.cg :=
 ⟨hX,hQ.g,hQ.p,hQ.a,fun b hb=>Or.inl (hQ.h b (Or.inr (Or.inr hb))),fun b hb=>hQ.h b (Or.inl hb),fun b hb=>hQ.h b (Or.inr (Or.inl hb))⟩
theorem XeN.below (h:XeN p wo w W bs m q e t i M L a c){W':World}(hb:Below W.heap.size W W'):XeN p wo w W' bs m q e t i M L a c :=
 ⟨h.x.below hb,h.a9.below hb,h.p6.below hb,h.q7.below hb,h.h,h.hp,h.hq⟩
theorem XeN.grow (h:XeN p wo w W bs m q e t i M L a c)(hpw:p<wo.heap.size)(hwl:wo.heap.size<=t.lo)(hhi:t.hi<=w.heap.size)(hww:wo.heap.size<=w.heap.size){X w4:World}(hX:Below W.heap.size W X)(hgr:X.grownBy w4 (Value.slice a i c).ownBlock):EvX p wo w w4 bs m q t.lo t.hi (fun o=>(#[.string e.id,.string e.sd,.string e.ty,.bool e.st,.string e.key,.int .i64 e.tm,.slice t.pa e.np t.cp,.slice t.aa e.na t.ca,.string e.val,.slice a i c]:Array Value)[o]?.getD undef) :=
 (h.x.below hX).grow hpw hwl hhi hww hgr (fun b hb=>(h.h b hb).imp (fun q=>⟨(ownsRow_blk h.a9 b hb).1,q⟩) id)
theorem XeN.step (h:XeN p wo w W bs m q e t i M L a c)(hpw:p<wo.heap.size)(hwl:wo.heap.size<=t.lo)(hhi:t.hi<=w.heap.size)(hww:wo.heap.size<=w.heap.size){X w4:World}{gg cq:Nat}{x:ByteArray}{z:Int}(hX:Below W.heap.size W X)(hown:w4.ownsRow t.lo 166 2 (.slice (some ⟨gg,0,none⟩) (i+1) cq) (i+1) (encG M L i ++ [.string x,.int .i64 z]))(hgr:X.grownBy w4 (Value.slice a i c).ownBlock)(hat:(Value.slice a i c).ownBlock=some gg∨X.heap.size<=gg) :
  XeN p wo w (w4.setCell ⟨w.heap.size,9,none⟩ (.slice (some ⟨gg,0,none⟩) (i+1) cq)) bs m q e t (i+1) (extF M i x) (extF L i z) (some ⟨gg,0,none⟩) cq:=by
 have h1:=h.below hX;have hsz:=h1.x.sz;have hkS:Kb w.heap.size w4 (w4.setCell ⟨w.heap.size,9,none⟩ (.slice (some ⟨gg,0,none⟩) (i+1) cq)):=(Kb.refl _ _).set 9 _
 have hgg:gg<t.hi∨w.heap.size+2<=gg:=by
  rcases hat with r|r
  ·exact h.h gg r
  exact Or.inr (by omega)
 have hs4:=hgr.size;have kq:∀ b,b<X.heap.size->b≠w.heap.size->(Value.slice a i c).ownBlock≠some b->(w4.setCell ⟨w.heap.size,9,none⟩ (.slice (some ⟨gg,0,none⟩) (i+1) cq)).heap[b]?=X.heap[b]?:=fun b hl h2 h3=>(hkS.2 b (by omega) h2).trans (hgr.block b hl (fun e'=>h3 e'.symm))
 refine ⟨((h.grow hpw hwl hhi hww hX hgr).set hpw hww 9 _).congr (fun o ho=>?_),?_,ownsRow_k h1.p6 (fun b hb hl=>kq b hl (by have:=h.hp b hb;omega) (own_tne h1.p6 h1.a9 (by decide) b hb)),ownsRow_k h1.q7 (fun b hb hl=>kq b hl (by have:=h.hq b hb;omega) (own_tne h1.q7 h1.a9 (by decide) b hb)),fun b hb=>?_,h.hp,h.hq⟩
 ·match o,ho with
  | 0,_=>rfl
  | 1,_=>rfl
  | 2,_=>rfl
  | 3,_=>rfl
  | 4,_=>rfl
  | 5,_=>rfl
  | 6,_=>rfl
  | 7,_=>rfl
  | 8,_=>rfl
  | 9,_=>rfl
 ·unfold OwnG
  rw [<- encG_ext];exact ownsRow_k hown (fun b hb hl=>hkS.2 b hl (fun e'=>by have hq:gg=b:=(by simpa [Value.ownBlock] using hb);omega))
 have hq:gg=b:=by simpa [Value.ownBlock] using hb
 subst hq;exact hgg
end
end Go.Proofs.YtkdalopokdhndaaGreat
