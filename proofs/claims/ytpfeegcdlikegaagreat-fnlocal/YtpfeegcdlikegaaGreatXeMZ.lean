import Derived.Test.YtpfeegcdlikegaaGreatXeHZ
set_option maxHeartbeats 16000000
set_option maxRecDepth 100000
namespace Go.Proofs.YtpfeegcdlikegaaGreat
open Go.RowKit Go.Proofs.Tryz
variable {Kc:Nat->Nat->Prop}{c i k m p q:Nat}{W w:World}{bs:Nat->Nat}{e:Ev}{t:Ls}{S:Nat->ByteArray}{a:Option Addr}{od:ByteArray}{R:Ending->World->Prop}{u1 u8 u9 u10 u11 u12 u13 u14 u15 u16 u17 u18 u19 u20 u21 u22 u23 u24 u25 u26 u27 u28 u29 u30 u31 u32 u33 u34 u35 u36 u37 u38 u39 u40 u41 u42 u43 u44 u45 u46 u47 u48 u49 u50 u51 u52 u53 u54 u55 u56 u57 u58 u59 u60 u61 u62 u63 u64 u65 u66 u67 u68 u69 u70 u71 u72 u73 u74 u75 u76 u77 u78 u79 u80 u81 u82 u83 u84 u85 u86 u87 u88 u89 u90 u91 u92 u93 u94 u95 u96 u97 u98 u99 u100 u101 u102 u103 u104 u105 u106 u107 u108 u109 u110 u111 u112 u113 u114 u115 u116 u117 u118 u119 u120 u121 u122 u123 u124 u125 u126 u127 u128 u129 u130 u131 u132 u133 u134 u135 u136 u137 u138 u139 u140 u141 u142 u143 u144 u145 u146 u147 u148 u149 u150 u151 u152 u153 u154 u155 u156 u157 u158 u159 u160 u161 u162 u163 u164 u165 u166:Value}
def yS (S:Nat->ByteArray)(n:Nat):Nat->ByteArray:=fun i=>if i<n then S i else ⟨#[36,102]⟩ ++ gY i
theorem yP.congS {wo:World}{u:Nat->ByteArray}(h:yP Kc p wo w W bs m q e t i S a c)(G:∀ j,j<i->S j=u j):yP Kc p wo w W bs m q e t i u a c :=
 ⟨h.x,by unfold bU;rw [<- show dT S i=dT u i from List.map_congr_left fun j H=>by rw [G j (List.mem_range.1 H)]];exact h.a7,h.p6,h.g9,h.d,h.h,h.hp,h.hg,h.ko⟩
theorem vC (S:Nat->ByteArray)(i:Nat):bM S i (S i)=S:=funext fun j=>by
 unfold bM;split
 ·rename_i h;rw [h]
 rfl
theorem ZV (p:Nat){v:Nat}(wo w W:World)(hp:p<wo.heap.size)(Z:wo.heap.size<=w.heap.size)(ab:wo.heap.size<=t.lo)(ad:t.hi<=w.heap.size)(hk:k<256)(hv:v<256)(hc:k % 16=10)(HQ:He (QO W e t))(HX:He (fL Kc p wo w W bs m q t.lo t.hi (fun o=>((ec e t.pa t.cp t.aa t.ca t.ga t.cg):Array Value)[o]?.getD undef)))(ba:He (∀ b o,Kc b o->(Value.slice t.aa e.na t.ca).ownBlock=some b->o<e.na * 1))(HR:He (yL Kc p wo w bs m q t.lo t.hi (gD k v e) R)) :
  Code.wp prog (fZ (Tryz.f39.body.getD .skip) 4) (bodyPost prog Tryz.f39 R) { tmps:=#[.pointer (some ⟨p,0,none⟩),u1,undef,.pointer (some ⟨w.heap.size,0,none⟩),.pointer (some ⟨w.heap.size+1,0,none⟩),.int .i64 (k:Int),.int .i64 (v:Int),.string od,u8,u9,u10,u11,u12,u13,u14,u15,u16,u17,u18,u19,u20,u21,u22,u23,u24,u25,u26,u27,u28,u29,u30,u31,u32,u33,u34,u35,u36,u37,u38,u39,u40,u41,u42,u43,u44,u45,u46,u47,u48,u49,u50,u51,u52,u53,u54,u55,u56,u57,u58,u59,u60,u61,u62,u63,u64,u65,u66,u67,u68,u69,u70,u71,u72,u73,u74,u75,u76,u77,u78,u79,u80,u81,u82,u83,u84,u85,u86,u87,u88,u89,u90,u91,u92,u93,u94,u95,u96,u97,u98,u99,u100,u101,u102,u103,u104,u105,u106,u107,u108,u109,u110,u111,u112,u113,u114,u115,u116,u117,u118,u119,u120,u121,u122,u123,u124,u125,u126,u127,u128,u129,u130,u131,u132,u133,u134,u135,u136,u137,u138,u139,u140,u141,u142,u143,u144,u145,u146,u147,u148,u149,u150,u151,u152,u153,u154,u155,u156,u157,u158,u159,u160,u161,u162,u163,u164,u165,u166],defers:=[] } W:=by
 obtain ⟨i0,aw,ax,ap,ay⟩:=info_parts Tryz.infoString;rw [show fZ (Tryz.f39.body.getD .skip) 4=Code.seq _ _ from rfl];have bq:gD k v e={ e with na:=mx e.na (9+v % 3),Av:=yS e.Av e.na }:=by unfold gD yS;simp [hc]
 rw [bq] at HR;have bj:(k:Int) % 16=10:=by omega
 have b7:W.cell? ⟨w.heap.size,7,none⟩=some (.slice t.aa e.na t.ca):=HX.o.b 7 (by decide);have bb:He (yP Kc p wo w W bs m q e t e.na (yS e.Av e.na) t.aa t.ca):=(yP.new HQ.o ba.o HX.o).congS (fun j hj=>by unfold yS;rw [if_pos hj]);obtain ⟨J,am⟩:∃ J,J=9+v % 3:=⟨_,rfl⟩;rw [<- am] at HR;have b8:9+(v:Int) % 3=(J:Int):=by omega
 have bw:J<=11:=by omega
 obtain ⟨mm,a2⟩:∃ mm,mm=mx e.na J:=⟨_,rfl⟩;rw [<- a2] at HR;have bh:e.na<=mm/\J<=mm/\(mm=e.na\/mm=J):=by rw [a2];unfold mx;split <;> omega
 have bg:He (cI W e t.pa t.cp t.aa t.ca t.ga t.cg):=HQ.o.j.ok;have bm:He (t.lo<=t.hi):=HQ.o.j.hh.1;clear am a2 HQ HX ba
 go_upto_if 23 with fail
 go_cut [166] (fun _ wx=>∃ a c,yP Kc p wo w wx bs m q e t mm (yS e.Av e.na) a c)
 case first =>
  clear HR
  go_wp2_with fail
  go_loopw [8] (fun iv wr=>∃ i:Nat,e.na<=i/\i<=mm/\iv=.int .i64 (i:Int)/\∃ a c,yP Kc p wo w wr bs m q e t i (yS e.Av e.na) a c) (fun iv _=>2000 - (intOf iv).toNat)
  case atStart=>exact ⟨e.na,nL,bh.1,rfl,_,_,bb.o⟩
  case round =>
   clear bb b7 bj hc;obtain ⟨i,cd,b6,rfl,a,c,O⟩:=hrel;have HL:He (yP Kc p wo w wr bs m q e t i (yS e.Av e.na) a c):=O
   by_cases ch:i<J
   ·have bz:(i:Int)<(J:Int):=by omega
    have y7:wr.cell? ⟨w.heap.size,7,none⟩=some (.slice a i c):=O.x.b 7 (by decide);have a3:∀ W,Calls prog 78 #[.int .i64 (i:Int)] W (fun e w'=>e=.returned (.string (gY i))/\Below W.heap.size W w'):=fun W=>VQ i (by omega) W
    have bo:=jS i (by omega);obtain ⟨dc,au⟩:∃ dc,dc=gY i:=⟨_,rfl⟩;rw [<- au] at a3 bo;have HD:He (∀ W,Calls prog 78 #[.int .i64 (i:Int)] W (fun e w'=>e=.returned (.string dc)/\Below W.heap.size W w')):=a3
    have Hx:He (bM (yS e.Av e.na) i (⟨#[36,102]⟩ ++ dc)=yS e.Av e.na):=by
     unfold He;rw [show (⟨#[36,102]⟩:ByteArray) ++ dc=yS e.Av e.na i by unfold yS;rw [if_neg (by omega),au]];exact vC _ _
    have br:¬ 9223372036854775807<2+dc.size:=by omega
    have HO:He (∀ W,Below wr.heap.size wr W->W.ownsRow t.lo 9 1 (.slice a i c) i (dT (yS e.Av e.na) i)):=fun W hW=>(HL.o.below hW).a7
    have ao:i+1<=maxLen:=by unfold maxLen;omega
    have aq:(i+1) * 16<=140737488355328:=by omega
    have cb:t.lo<=wr.heap.size:=by have:=O.x.sz;have q:t.lo<=t.hi:=bm.o;omega
    have bv:=O.x.sz;have aj:Below wr.heap.size wr wr:=kB;clear O a3 au
    go_upto_region 28 with fail
    refine wp_region_held_drew (S:=fun _=>True) (by kernel_rfl) ?_ (fun hHeld=>?_)
    ·(try dsimp only);all_goals trivial
    refine tq 0 rfl ?_;simp only [si];refine tq 2 rfl ?_;simp only [si];refine wpAnyH_ready (rs:=[1,3]) (by kernel_rfl) (by simp) ?_;refine AllReadyH.cons rfl (fun K hK=>?_) (AllReadyH.cons rfl (fun K hK=>?_) AllReadyH.nil)
    ·go_simp
     refine hK.out _ _ ?_ (fun hHeld=>?_)
     ·(try dsimp only);all_goals trivial
     clear hK K;try simp only [si]
     refine rd 3 rfl fun K hK=>?_
     go_simp
     go_at_call 78
     refine (HD.o _).mono ?_;rintro ee w2 ⟨rfl,af⟩;have u:Below wr.heap.size wr w2:=Below.trans (by with_reducible (repeat refine .drew ?_);exact aj) (af.mono (by first|exact nL|exact aj.size));try dsimp only
     refine hK.out _ _ ?_ (fun hHeld=>?_)
     ·(try dsimp only);all_goals trivial
     clear hK K;try simp only [si]
     refine tq 4 rfl ?_;simp only [si];refine rd 5 rfl fun K hK=>?_
     go_simp;refine hK.out _ _ ?_ (fun hHeld=>?_)
     ·(try dsimp only);all_goals trivial
     clear hK K;try simp only [si]
     refine rd 6 rfl fun K hK=>?_
     refine dD _ (by rfl) _ _ _ (by rfl) t.lo 9 i0 _ 1 16 underlying27 aw ax ap ay rfl (by decide) (.slice a i c) i (dT (yS e.Av e.na) i) (by rfl) (HO.o _ (by first|exact u.alloc u.size _|exact (u.alloc u.size _).drew|exact u.drew.alloc u.size _|exact (u.drew.alloc u.size _).drew)) ⟨w2.heap.size,0,none⟩ 1 1 [.string (⟨#[36,102]⟩ ++ dc)] (by rfl) (by rfl) (aV _ _ _) (bL _) (by decide) ao aq (by simp;have:=u.size;omega) (w2.heap.size+1) (by simp) ?_;intro gg cq w4 I G U ak N;have H:=HL.o.grow hp ab ad Z (by first|exact u.alloc u.size _|exact (u.alloc u.size _).drew|exact u.drew.alloc u.size _|exact (u.drew.alloc u.size _).drew) G N;have z7:w4.cell? ⟨w.heap.size,7,none⟩=some (.slice a i c):=H.b 7 (by decide);have f7:=H.f0 7;refine hK.out _ _ ?_ (fun hHeld=>?_)
     ·(try dsimp only);all_goals trivial
     clear hK K;try simp only [si]
     refine tq 7 rfl ?_;simp only [si];refine rd 8 rfl fun K hK=>?_
     go_simp;refine hK.out _ _ ?_ (fun hHeld=>?_)
     ·(try dsimp only);all_goals trivial
     clear hK K;try simp only [si]
     refine wpAnyH_done (by kernel_rfl) ?_ _;have hS:=HL.o.step hp ab ad Z (X:=_) (by first|exact u.alloc u.size _|exact (u.alloc u.size _).drew|exact u.drew.alloc u.size _|exact (u.drew.alloc u.size _).drew) I G N (U.imp (fun q=>q) (fun q=>by simp;omega));rw [Hx.o] at hS;clear H z7 f7
     (try go_wp2)
     first|exact ⟨⟨i+1,by omega,by omega,by go_num,_,_,hS⟩,by simp [intOf];omega⟩|exact ⟨⟨i+1,by omega,by omega,by go_num,_,_,hS.below kB.drew⟩,by simp [intOf];omega⟩
    go_simp
    go_at_call 78
    refine (HD.o _).mono ?_;rintro ee w2 ⟨rfl,af⟩;have u:Below wr.heap.size wr w2:=Below.trans (by with_reducible (repeat refine .drew ?_);exact aj) (af.mono (by first|exact nL|exact aj.size));try dsimp only
    refine hK.out _ _ ?_ (fun hHeld=>?_)
    ·(try dsimp only);all_goals trivial
    clear hK K;try simp only [si]
    refine tq 4 rfl ?_;simp only [si];have b4:w2.cell? ⟨w.heap.size,7,none⟩=some (.slice a i c):=(HL.o.below u).x.b 7 (by decide);have cf:(w2.alloc (.cells #[.string (⟨#[36,102]⟩ ++ dc)] 9)).cell? ⟨w.heap.size,7,none⟩=some (.slice a i c):=(HL.o.below (u.alloc u.size _)).x.b 7 (by decide);refine wpAnyH_ready (rs:=[1,5]) (by kernel_rfl) (by simp) ?_;refine AllReadyH.cons rfl (fun K hK=>?_) (AllReadyH.cons rfl (fun K hK=>?_) AllReadyH.nil)
    ·go_simp
     refine hK.out _ _ ?_ (fun hHeld=>?_)
     ·(try dsimp only);all_goals trivial
     clear hK K;try simp only [si]
     refine rd 5 rfl fun K hK=>?_
     go_simp;refine hK.out _ _ ?_ (fun hHeld=>?_)
     ·(try dsimp only);all_goals trivial
     clear hK K;try simp only [si]
     refine rd 6 rfl fun K hK=>?_
     refine dD _ (by rfl) _ _ _ (by rfl) t.lo 9 i0 _ 1 16 underlying27 aw ax ap ay rfl (by decide) (.slice a i c) i (dT (yS e.Av e.na) i) (by rfl) (HO.o _ (by first|exact u.alloc u.size _|exact (u.alloc u.size _).drew|exact u.drew.alloc u.size _|exact (u.drew.alloc u.size _).drew)) ⟨w2.heap.size,0,none⟩ 1 1 [.string (⟨#[36,102]⟩ ++ dc)] (by rfl) (by rfl) (aV _ _ _) (bL _) (by decide) ao aq (by simp;have:=u.size;omega) (w2.heap.size+1) (by simp) ?_;intro gg cq w4 I G U ak N;have H:=HL.o.grow hp ab ad Z (by first|exact u.alloc u.size _|exact (u.alloc u.size _).drew|exact u.drew.alloc u.size _|exact (u.drew.alloc u.size _).drew) G N;have z7:w4.cell? ⟨w.heap.size,7,none⟩=some (.slice a i c):=H.b 7 (by decide);have f7:=H.f0 7;refine hK.out _ _ ?_ (fun hHeld=>?_)
     ·(try dsimp only);all_goals trivial
     clear hK K;try simp only [si]
     refine tq 7 rfl ?_;simp only [si];refine rd 8 rfl fun K hK=>?_
     go_simp;refine hK.out _ _ ?_ (fun hHeld=>?_)
     ·(try dsimp only);all_goals trivial
     clear hK K;try simp only [si]
     refine wpAnyH_done (by kernel_rfl) ?_ _;have hS:=HL.o.step hp ab ad Z (X:=_) (by first|exact u.alloc u.size _|exact (u.alloc u.size _).drew|exact u.drew.alloc u.size _|exact (u.drew.alloc u.size _).drew) I G N (U.imp (fun q=>q) (fun q=>by simp;omega));rw [Hx.o] at hS;clear H z7 f7
     (try go_wp2)
     first|exact ⟨⟨i+1,by omega,by omega,by go_num,_,_,hS⟩,by simp [intOf];omega⟩|exact ⟨⟨i+1,by omega,by omega,by go_num,_,_,hS.below kB.drew⟩,by simp [intOf];omega⟩
    go_simp;refine hK.out _ _ ?_ (fun hHeld=>?_)
    ·(try dsimp only);all_goals trivial
    clear hK K;try simp only [si]
    refine rd 1 rfl fun K hK=>?_
    go_simp;refine hK.out _ _ ?_ (fun hHeld=>?_)
    ·(try dsimp only);all_goals trivial
    clear hK K;try simp only [si]
    refine rd 6 rfl fun K hK=>?_
    refine dD _ (by rfl) _ _ _ (by rfl) t.lo 9 i0 _ 1 16 underlying27 aw ax ap ay rfl (by decide) (.slice a i c) i (dT (yS e.Av e.na) i) (by rfl) (HO.o _ (by first|exact u.alloc u.size _|exact (u.alloc u.size _).drew|exact u.drew.alloc u.size _|exact (u.drew.alloc u.size _).drew)) ⟨w2.heap.size,0,none⟩ 1 1 [.string (⟨#[36,102]⟩ ++ dc)] (by rfl) (by rfl) (aV _ _ _) (bL _) (by decide) ao aq (by simp;have:=u.size;omega) (w2.heap.size+1) (by simp) ?_;intro gg cq w4 I G U ak N;have H:=HL.o.grow hp ab ad Z (by first|exact u.alloc u.size _|exact (u.alloc u.size _).drew|exact u.drew.alloc u.size _|exact (u.drew.alloc u.size _).drew) G N;have z7:w4.cell? ⟨w.heap.size,7,none⟩=some (.slice a i c):=H.b 7 (by decide);have f7:=H.f0 7;refine hK.out _ _ ?_ (fun hHeld=>?_)
    ·(try dsimp only);all_goals trivial
    clear hK K;try simp only [si]
    refine tq 7 rfl ?_;simp only [si];refine rd 8 rfl fun K hK=>?_
    go_simp;refine hK.out _ _ ?_ (fun hHeld=>?_)
    ·(try dsimp only);all_goals trivial
    clear hK K;try simp only [si]
    refine wpAnyH_done (by kernel_rfl) ?_ _;have hS:=HL.o.step hp ab ad Z (X:=_) (by first|exact u.alloc u.size _|exact (u.alloc u.size _).drew|exact u.drew.alloc u.size _|exact (u.drew.alloc u.size _).drew) I G N (U.imp (fun q=>q) (fun q=>by simp;omega));rw [Hx.o] at hS;clear H z7 f7
    (try go_wp2)
    first|exact ⟨⟨i+1,by omega,by omega,by go_num,_,_,hS⟩,by simp [intOf];omega⟩|exact ⟨⟨i+1,by omega,by omega,by go_num,_,_,hS.below kB.drew⟩,by simp [intOf];omega⟩
   go_wp2
   go_meet;exact ⟨a,c,by rw [show mm=i by omega];exact HL.o⟩
 case rest =>
  obtain ⟨a,c,O⟩:=hcut;have ho:=bg.o
  apply_assumption
  refine iA p (e:={ e with na:=mm,Av:=yS e.Av e.na }) wo w _ hp Z O.x (fun W' hK hD=>HR.o _ _ _ _ _ _ _ W' ?_ ?_ ?_ ?_ O.x hK hD)
  ·obtain ⟨x1,x2,Y,q1,_⟩:=O.p6.slw ho.hp.size
   injection Y with Y _ e3
   rw [<- Y,<- e3] at q1
   obtain ⟨x1,x2,Y,q2,_⟩:=O.a7.slw (fun i hi=>by
    unfold yS;split
    ·exact ho.ha.size i (by omega)
    rw [ByteArray.size_append]
    have:=jS i (by omega)
    show 2+_<=maxLen
    unfold maxLen;omega)
   injection Y with Y _ e3
   rw [<- Y,<- e3] at q2;exact ⟨ho.hid,ho.hsd,ho.hty,ho.hkey,ho.hval,q1,q2,O.g9.slg ho.hg.size⟩
  ·exact (iS O.p6 nL).imp id fun ⟨b,off,Y,hb⟩=>⟨b,off,Y,Or.inl ⟨hb,O.hp b (by rw [Y];rfl)⟩⟩
  ·exact (iS O.a7 nL).imp id fun ⟨b,off,Y,hb⟩=>⟨b,off,Y,(O.h b (by rw [Y];rfl)).imp (fun q=>⟨hb,q⟩) id⟩
  exact (iS O.g9 nL).imp id fun ⟨b,off,Y,hb⟩=>⟨b,off,Y,Or.inl ⟨hb,O.hg b (by rw [Y];rfl)⟩⟩
structure yR (Kc:Nat->Nat->Prop)(p:Nat)(wo w W:World)(bs:Nat->Nat)(m q:Nat)(e:Ev)(t:Ls)(i:Nat)(M:Nat->ByteArray)(L:Nat->Int)(a:Option Addr)(c:Nat):Prop where
 x:fL Kc p wo w W bs m q t.lo t.hi (fun o=>(#[.string e.id,.string e.sd,.string e.ty,.bool e.st,.string e.key,.int .i64 e.tm,.slice t.pa e.np t.cp,.slice t.aa e.na t.ca,.string e.val,.slice a i c]:Array Value)[o]?.getD undef)
 a9:bV W t.lo (.slice a i c) i M L
 p6:bU W t.lo (.slice t.pa e.np t.cp) e.np e.Pv
 q7:bU W t.lo (.slice t.aa e.na t.ca) e.na e.Av
 h:∀ b,(Value.slice a i c).ownBlock=some b->b<t.hi\/w.heap.size+2<=b
 hp:∀ b,(Value.slice t.pa e.np t.cp).ownBlock=some b->b<t.hi
 hq:∀ b,(Value.slice t.aa e.na t.ca).ownBlock=some b->b<t.hi
 ko:∀ b o,Kc b o->(Value.slice a i c).ownBlock=some b->o<i * 2
section
variable {Kc:Nat->Nat->Prop} {p:Nat} {wo w W:World} {bs:Nat->Nat} {m q:Nat} {e:Ev} {t:Ls} {i:Nat} {M:Nat->ByteArray} {L:Nat->Int} {a:Option Addr} {c:Nat}
theorem yR.new (u:QO W e t)(G:∀ b o,Kc b o->(Value.slice t.ga e.ng t.cg).ownBlock=some b->o<e.ng * 2)(H:fL Kc p wo w W bs m q t.lo t.hi (fun o=>((ec e t.pa t.cp t.aa t.ca t.ga t.cg):Array Value)[o]?.getD undef)):yR Kc p wo w W bs m q e t e.ng e.M e.L t.ga t.cg :=
 ⟨H,u.g,u.p,u.a,fun b hb=>Or.inl (u.h b (Or.inr (Or.inr hb))),fun b hb=>u.h b (Or.inl hb),fun b hb=>u.h b (Or.inr (Or.inl hb)),G⟩
theorem yR.below (h:yR Kc p wo w W bs m q e t i M L a c){W':World}(hb:Below W.heap.size W W'):yR Kc p wo w W' bs m q e t i M L a c :=
 ⟨h.x.below hb,h.a9.below hb,h.p6.below hb,h.q7.below hb,h.h,h.hp,h.hq,h.ko⟩
theorem yR.grow (h:yR Kc p wo w W bs m q e t i M L a c)(N:p<wo.heap.size)(G:wo.heap.size<=t.lo)(u:t.hi<=w.heap.size)(I:wo.heap.size<=w.heap.size){X J:World}(O:Below W.heap.size W X)(H:X.grownBy J (Value.slice a i c).ownBlock)(hold:∀ b o,(Value.slice a i c).ownBlock=some b->o<i * 2->J.cell? ⟨b,o,none⟩=X.cell? ⟨b,o,none⟩):fL Kc p wo w J bs m q t.lo t.hi (fun o=>(#[.string e.id,.string e.sd,.string e.ty,.bool e.st,.string e.key,.int .i64 e.tm,.slice t.pa e.np t.cp,.slice t.aa e.na t.ca,.string e.val,.slice a i c]:Array Value)[o]?.getD undef) :=
 (h.x.below O).grow N G u I H (fun b hb=>(h.h b hb).imp (fun q=>⟨(aD h.a9 b hb).1,q⟩) id) (fun b o hK hb=>hold b o hb (h.ko b o hK hb))
theorem yR.step (h:yR Kc p wo w W bs m q e t i M L a c)(Z:p<wo.heap.size)(ab:wo.heap.size<=t.lo)(ad:t.hi<=w.heap.size)(Y:wo.heap.size<=w.heap.size){X H:World}{u cq:Nat}{x:ByteArray}{z:Int}(hX:Below W.heap.size W X)(U:H.ownsRow t.lo 127 2 (.slice (some ⟨u,0,none⟩) (i+1) cq) (i+1) (eQ M L i ++ [.string x,.int .i64 z]))(J:X.grownBy H (Value.slice a i c).ownBlock)(hold:∀ b o,(Value.slice a i c).ownBlock=some b->o<i * 2->H.cell? ⟨b,o,none⟩=X.cell? ⟨b,o,none⟩)(O:(Value.slice a i c).ownBlock=some u\/X.heap.size<=u) :
  yR Kc p wo w (H.setCell ⟨w.heap.size,9,none⟩ (.slice (some ⟨u,0,none⟩) (i+1) cq)) bs m q e t (i+1) (bM M i x) (bM L i z) (some ⟨u,0,none⟩) cq:=by
 have G:=h.below hX;have ai:=G.x.sz;have N:Kb w.heap.size H (H.setCell ⟨w.heap.size,9,none⟩ (.slice (some ⟨u,0,none⟩) (i+1) cq)):=(Kb.refl _ _).set 9 _
 have ae:u<t.hi\/w.heap.size+2<=u:=by
  rcases O with r|r
  ·exact h.h u r
  exact Or.inr (by omega)
 have aj:=J.size;have kq:∀ b,b<X.heap.size->b≠w.heap.size->(Value.slice a i c).ownBlock≠some b->(H.setCell ⟨w.heap.size,9,none⟩ (.slice (some ⟨u,0,none⟩) (i+1) cq)).heap[b]?=X.heap[b]?:=fun b I h2 h3=>(N.2 b (by omega) h2).trans (J.block b I (fun e'=>h3 e'.symm))
 refine ⟨((h.grow Z ab ad Y hX J hold).set Z Y 9 _).congr (fun o ho=>?_),?_,aM G.p6 (fun b hb I=>kq b I (by have:=h.hp b hb;omega) (eW G.p6 G.a9 (by decide) b hb)),aM G.q7 (fun b hb I=>kq b I (by have:=h.hq b hb;omega) (eW G.q7 G.a9 (by decide) b hb)),fun b hb=>?_,h.hp,h.hq,fun b o hK hb=>?_⟩
 ·match o,ho with
  | 0,_=>rfl
  | 1,_=>rfl
  | 2,_=>rfl
  | 3,_=>rfl
  | 4,_=>rfl
  | 5,_=>rfl
  | 6,_=>rfl
  | 7,_=>rfl
  | 8,_=>rfl
  | 9,_=>rfl
 ·unfold bV
  rw [<- yZ];exact aM U (fun b hb I=>N.2 b I (fun e'=>by have hq:u=b:=(by simpa [Value.ownBlock] using hb);omega))
 ·have hq:u=b:=by simpa [Value.ownBlock] using hb
  subst hq;exact ae
 have hq:u=b:=by simpa [Value.ownBlock] using hb
 subst hq;rcases O with r|r
 ·have:=h.ko _ o hK r;omega
 have:=(h.x.kc _ o hK).1;omega
end
variable {M:Nat->ByteArray}{L:Nat->Int}
def zT (S:Nat->ByteArray)(n:Nat):Nat->ByteArray:=fun i=>if i<n then S i else ⟨#[122]⟩ ++ gY (1000+i)
def CA (S:Nat->Int)(n:Nat):Nat->Int:=fun i=>if i<n then S i else 0
theorem yR.congS {wo:World}{M':Nat->ByteArray}{L':Nat->Int}(h:yR Kc p wo w W bs m q e t i M L a c)(u:∀ j,j<i->M j=M' j/\L j=L' j):yR Kc p wo w W bs m q e t i M' L' a c :=
 ⟨h.x,by unfold bV;rw [<- kG u];exact h.a9,h.p6,h.q7,h.h,h.hp,h.hq,h.ko⟩
theorem DX (S:Nat->Int)(i:Nat):bM S i (S i)=S:=funext fun j=>by
 unfold bM;split
 ·rename_i h;rw [h]
 rfl
theorem sR (n:Nat)(h:n<=2000):(gY n).size<=20:=by show (Lib.decDigits n).toArray.size<=20;rw [List.size_toArray,Lib.decDigits_length];exact Lib.nDigits_le20 n (by omega)
theorem a40 (p:Nat){v:Nat}(wo w W:World)(hp:p<wo.heap.size)(Z:wo.heap.size<=w.heap.size)(ab:wo.heap.size<=t.lo)(ad:t.hi<=w.heap.size)(hk:k<256)(hv:v<256)(hc:k % 16=14)(HQ:He (QO W e t))(HX:He (fL Kc p wo w W bs m q t.lo t.hi (fun o=>((ec e t.pa t.cp t.aa t.ca t.ga t.cg):Array Value)[o]?.getD undef)))(ba:He (∀ b o,Kc b o->(Value.slice t.ga e.ng t.cg).ownBlock=some b->o<e.ng * 2))(HR:He (yL Kc p wo w bs m q t.lo t.hi (gD k v e) R)) :
  Code.wp prog (fZ (Tryz.f39.body.getD .skip) 4) (bodyPost prog Tryz.f39 R) { tmps:=#[.pointer (some ⟨p,0,none⟩),u1,undef,.pointer (some ⟨w.heap.size,0,none⟩),.pointer (some ⟨w.heap.size+1,0,none⟩),.int .i64 (k:Int),.int .i64 (v:Int),.string od,u8,u9,u10,u11,u12,u13,u14,u15,u16,u17,u18,u19,u20,u21,u22,u23,u24,u25,u26,u27,u28,u29,u30,u31,u32,u33,u34,u35,u36,u37,u38,u39,u40,u41,u42,u43,u44,u45,u46,u47,u48,u49,u50,u51,u52,u53,u54,u55,u56,u57,u58,u59,u60,u61,u62,u63,u64,u65,u66,u67,u68,u69,u70,u71,u72,u73,u74,u75,u76,u77,u78,u79,u80,u81,u82,u83,u84,u85,u86,u87,u88,u89,u90,u91,u92,u93,u94,u95,u96,u97,u98,u99,u100,u101,u102,u103,u104,u105,u106,u107,u108,u109,u110,u111,u112,u113,u114,u115,u116,u117,u118,u119,u120,u121,u122,u123,u124,u125,u126,u127,u128,u129,u130,u131,u132,u133,u134,u135,u136,u137,u138,u139,u140,u141,u142,u143,u144,u145,u146,u147,u148,u149,u150,u151,u152,u153,u154,u155,u156,u157,u158,u159,u160,u161,u162,u163,u164,u165,u166],defers:=[] } W:=by
 obtain ⟨i0,aw,ax,ap,ay⟩:=info_parts Tryz.infoGrant;rw [show fZ (Tryz.f39.body.getD .skip) 4=Code.seq _ _ from rfl];have br:gD k v e={ e with ng:=mx e.ng (49+v % 3),M:=zT e.M e.ng,L:=CA e.L e.ng }:=by unfold gD zT CA;simp [hc]
 rw [br] at HR;have bk:(k:Int) % 16=14:=by omega
 have b7:W.cell? ⟨w.heap.size,9,none⟩=some (.slice t.ga e.ng t.cg):=HX.o.b 9 (by decide);have bb:He (yR Kc p wo w W bs m q e t e.ng (zT e.M e.ng) (CA e.L e.ng) t.ga t.cg):=(yR.new HQ.o ba.o HX.o).congS (fun j hj=>by unfold zT CA;rw [if_pos hj,if_pos hj];exact ⟨rfl,rfl⟩);obtain ⟨J,am⟩:∃ J,J=49+v % 3:=⟨_,rfl⟩;rw [<- am] at HR;have cb:49+(v:Int) % 3=(J:Int):=by omega
 have b0:J<=51:=by omega
 obtain ⟨mm,a2⟩:∃ mm,mm=mx e.ng J:=⟨_,rfl⟩;rw [<- a2] at HR;have bh:e.ng<=mm/\J<=mm/\(mm=e.ng\/mm=J):=by rw [a2];unfold mx;split <;> omega
 have bg:He (cI W e t.pa t.cp t.aa t.ca t.ga t.cg):=HQ.o.j.ok;have bn:He (t.lo<=t.hi):=HQ.o.j.hh.1;clear am a2 HQ HX ba
 go_upto_if 23 with fail
 go_cut [166] (fun _ wx=>∃ a c,yR Kc p wo w wx bs m q e t mm (zT e.M e.ng) (CA e.L e.ng) a c)
 case first =>
  clear HR
  go_wp2_with fail
  go_loopw [9] (fun iv wr=>∃ i:Nat,e.ng<=i/\i<=mm/\iv=.int .i64 (i:Int)/\∃ a c,yR Kc p wo w wr bs m q e t i (zT e.M e.ng) (CA e.L e.ng) a c) (fun iv _=>2000 - (intOf iv).toNat)
  case atStart=>exact ⟨e.ng,nL,bh.1,rfl,_,_,bb.o⟩
  case round =>
   clear bb b7 bk hc;obtain ⟨i,cf,b9,rfl,a,c,O⟩:=hrel;have HL:He (yR Kc p wo w wr bs m q e t i (zT e.M e.ng) (CA e.L e.ng) a c):=O
   by_cases cj:i<J
   ·have b4:(i:Int)<(J:Int):=by omega
    have y7:wr.cell? ⟨w.heap.size,9,none⟩=some (.slice a i c):=O.x.b 9 (by decide);have a3:∀ W,Calls prog 78 #[.int .i64 (1000+(i:Int))] W (fun e w'=>e=.returned (.string (gY (1000+i)))/\Below W.heap.size W w'):=fun W=>by have h1:=BL (1000+i) (1000+i) W nL (by omega);rw [show (((1000+i:Nat)):Int)=1000+(i:Int) by omega] at h1;exact h1
    have e9:IntKind.i64.wrap (1000+(i:Int))=1000+(i:Int):=by rw [IntKind.wrap_i64];omega
    have bp:=sR (1000+i) (by omega);obtain ⟨dc,au⟩:∃ dc,dc=gY (1000+i):=⟨_,rfl⟩;rw [<- au] at a3 bp;have HD:He (∀ W,Calls prog 78 #[.int .i64 (1000+(i:Int))] W (fun e w'=>e=.returned (.string dc)/\Below W.heap.size W w')):=a3
    have Hx:He (bM (zT e.M e.ng) i (⟨#[122]⟩ ++ dc)=zT e.M e.ng):=by
     unfold He;rw [show (⟨#[122]⟩:ByteArray) ++ dc=zT e.M e.ng i by unfold zT;rw [if_neg (by omega),au]];exact vC _ _
    have Hy:He (bM (CA e.L e.ng) i 0=CA e.L e.ng):=by
     unfold He
     conv=>lhs;rw [show (0:Int)=CA e.L e.ng i by unfold CA;rw [if_neg (by omega)]]
     exact DX _ _
    have bt:¬ 9223372036854775807<1+dc.size:=by omega
    have HO:He (∀ W,Below wr.heap.size wr W->W.ownsRow t.lo 127 2 (.slice a i c) i (eQ (zT e.M e.ng) (CA e.L e.ng) i)):=fun W hW=>(HL.o.below hW).a9
    have ao:i+1<=maxLen:=by unfold maxLen;omega
    have aq:(i+1) * 24<=140737488355328:=by omega
    have cd:t.lo<=wr.heap.size:=by have:=O.x.sz;have q:t.lo<=t.hi:=bn.o;omega
    have bz:=O.x.sz;have aj:Below wr.heap.size wr wr:=kB;clear O a3 au
    go_upto_region 39 with fail
    refine wp_region_held_drew (S:=fun _=>True) (by kernel_rfl) ?_ (fun hHeld=>?_)
    ·(try dsimp only);all_goals trivial
    refine tq 0 rfl ?_;simp only [si];refine tq 2 rfl ?_;simp only [si];refine tq 3 rfl ?_;simp only [si];refine wpAnyH_ready (rs:=[1,4]) (by kernel_rfl) (by simp) ?_;refine AllReadyH.cons rfl (fun K hK=>?_) (AllReadyH.cons rfl (fun K hK=>?_) AllReadyH.nil)
    ·go_simp
     refine hK.out _ _ ?_ (fun hHeld=>?_)
     ·(try dsimp only);all_goals trivial
     clear hK K;try simp only [si]
     refine rd 4 rfl fun K hK=>?_
     go_simp
     go_at_call 78
     refine (HD.o _).mono ?_;rintro ee w2 ⟨rfl,ag⟩;have u:Below wr.heap.size wr w2:=Below.trans (by with_reducible (repeat refine .drew ?_);exact aj) (ag.mono (by first|exact nL|exact aj.size));try dsimp only
     refine hK.out _ _ ?_ (fun hHeld=>?_)
     ·(try dsimp only);all_goals trivial
     clear hK K;try simp only [si]
     refine tq 5 rfl ?_;simp only [si];refine tq 6 rfl ?_;simp only [si];refine rd 7 rfl fun K hK=>?_
     go_simp;refine hK.out _ _ ?_ (fun hHeld=>?_)
     ·(try dsimp only);all_goals trivial
     clear hK K;try simp only [si]
     refine rd 8 rfl fun K hK=>?_
     refine dD _ (by rfl) _ _ _ (by rfl) t.lo 127 i0 _ 2 24 underlying28 aw ax ap ay rfl (by decide) (.slice a i c) i (eQ (zT e.M e.ng) (CA e.L e.ng) i) (by rfl) (HO.o _ (by first|exact u.alloc u.size _|exact (u.alloc u.size _).drew|exact u.drew.alloc u.size _|exact (u.drew.alloc u.size _).drew)) ⟨w2.heap.size,0,none⟩ 1 1 [.string (⟨#[122]⟩ ++ dc),.int .i64 0] (by rfl) (by rfl) (eO _ _ _ _) (fP _ _) (by decide) ao aq (by simp;have:=u.size;omega) (w2.heap.size+1) (by simp) ?_;intro gg cq w4 I G U ak N;have H:=HL.o.grow hp ab ad Z (by first|exact u.alloc u.size _|exact (u.alloc u.size _).drew|exact u.drew.alloc u.size _|exact (u.drew.alloc u.size _).drew) G N;have z7:w4.cell? ⟨w.heap.size,9,none⟩=some (.slice a i c):=H.b 9 (by decide);have f7:=H.f0 9;refine hK.out _ _ ?_ (fun hHeld=>?_)
     ·(try dsimp only);all_goals trivial
     clear hK K;try simp only [si]
     refine tq 9 rfl ?_;simp only [si];refine rd 10 rfl fun K hK=>?_
     go_simp;refine hK.out _ _ ?_ (fun hHeld=>?_)
     ·(try dsimp only);all_goals trivial
     clear hK K;try simp only [si]
     refine wpAnyH_done (by kernel_rfl) ?_ _;have hS:=HL.o.step hp ab ad Z (X:=_) (by first|exact u.alloc u.size _|exact (u.alloc u.size _).drew|exact u.drew.alloc u.size _|exact (u.drew.alloc u.size _).drew) I G N (U.imp (fun q=>q) (fun q=>by simp;omega));rw [Hx.o,Hy.o] at hS;clear H z7 f7
     (try go_wp2)
     first|exact ⟨⟨i+1,by omega,by omega,by go_num,_,_,hS⟩,by simp [intOf];omega⟩|exact ⟨⟨i+1,by omega,by omega,by go_num,_,_,hS.below kB.drew⟩,by simp [intOf];omega⟩
    go_simp
    go_at_call 78
    refine (HD.o _).mono ?_;rintro ee w2 ⟨rfl,ag⟩;have u:Below wr.heap.size wr w2:=Below.trans (by with_reducible (repeat refine .drew ?_);exact aj) (ag.mono (by first|exact nL|exact aj.size));try dsimp only
    refine hK.out _ _ ?_ (fun hHeld=>?_)
    ·(try dsimp only);all_goals trivial
    clear hK K;try simp only [si]
    refine tq 5 rfl ?_;simp only [si];refine tq 6 rfl ?_;simp only [si];have b6:w2.cell? ⟨w.heap.size,9,none⟩=some (.slice a i c):=(HL.o.below u).x.b 9 (by decide);have ci:(w2.alloc (.cells #[.string (⟨#[122]⟩ ++ dc),.int .i64 0] 127)).cell? ⟨w.heap.size,9,none⟩=some (.slice a i c):=(HL.o.below (u.alloc u.size _)).x.b 9 (by decide);refine wpAnyH_ready (rs:=[1,7]) (by kernel_rfl) (by simp) ?_;refine AllReadyH.cons rfl (fun K hK=>?_) (AllReadyH.cons rfl (fun K hK=>?_) AllReadyH.nil)
    ·go_simp
     refine hK.out _ _ ?_ (fun hHeld=>?_)
     ·(try dsimp only);all_goals trivial
     clear hK K;try simp only [si]
     refine rd 7 rfl fun K hK=>?_
     go_simp;refine hK.out _ _ ?_ (fun hHeld=>?_)
     ·(try dsimp only);all_goals trivial
     clear hK K;try simp only [si]
     refine rd 8 rfl fun K hK=>?_
     refine dD _ (by rfl) _ _ _ (by rfl) t.lo 127 i0 _ 2 24 underlying28 aw ax ap ay rfl (by decide) (.slice a i c) i (eQ (zT e.M e.ng) (CA e.L e.ng) i) (by rfl) (HO.o _ (by first|exact u.alloc u.size _|exact (u.alloc u.size _).drew|exact u.drew.alloc u.size _|exact (u.drew.alloc u.size _).drew)) ⟨w2.heap.size,0,none⟩ 1 1 [.string (⟨#[122]⟩ ++ dc),.int .i64 0] (by rfl) (by rfl) (eO _ _ _ _) (fP _ _) (by decide) ao aq (by simp;have:=u.size;omega) (w2.heap.size+1) (by simp) ?_;intro gg cq w4 I G U ak N;have H:=HL.o.grow hp ab ad Z (by first|exact u.alloc u.size _|exact (u.alloc u.size _).drew|exact u.drew.alloc u.size _|exact (u.drew.alloc u.size _).drew) G N;have z7:w4.cell? ⟨w.heap.size,9,none⟩=some (.slice a i c):=H.b 9 (by decide);have f7:=H.f0 9;refine hK.out _ _ ?_ (fun hHeld=>?_)
     ·(try dsimp only);all_goals trivial
     clear hK K;try simp only [si]
     refine tq 9 rfl ?_;simp only [si];refine rd 10 rfl fun K hK=>?_
     go_simp;refine hK.out _ _ ?_ (fun hHeld=>?_)
     ·(try dsimp only);all_goals trivial
     clear hK K;try simp only [si]
     refine wpAnyH_done (by kernel_rfl) ?_ _;have hS:=HL.o.step hp ab ad Z (X:=_) (by first|exact u.alloc u.size _|exact (u.alloc u.size _).drew|exact u.drew.alloc u.size _|exact (u.drew.alloc u.size _).drew) I G N (U.imp (fun q=>q) (fun q=>by simp;omega));rw [Hx.o,Hy.o] at hS;clear H z7 f7
     (try go_wp2)
     first|exact ⟨⟨i+1,by omega,by omega,by go_num,_,_,hS⟩,by simp [intOf];omega⟩|exact ⟨⟨i+1,by omega,by omega,by go_num,_,_,hS.below kB.drew⟩,by simp [intOf];omega⟩
    go_simp;refine hK.out _ _ ?_ (fun hHeld=>?_)
    ·(try dsimp only);all_goals trivial
    clear hK K;try simp only [si]
    refine rd 1 rfl fun K hK=>?_
    go_simp;refine hK.out _ _ ?_ (fun hHeld=>?_)
    ·(try dsimp only);all_goals trivial
    clear hK K;try simp only [si]
    refine rd 8 rfl fun K hK=>?_
    refine dD _ (by rfl) _ _ _ (by rfl) t.lo 127 i0 _ 2 24 underlying28 aw ax ap ay rfl (by decide) (.slice a i c) i (eQ (zT e.M e.ng) (CA e.L e.ng) i) (by rfl) (HO.o _ (by first|exact u.alloc u.size _|exact (u.alloc u.size _).drew|exact u.drew.alloc u.size _|exact (u.drew.alloc u.size _).drew)) ⟨w2.heap.size,0,none⟩ 1 1 [.string (⟨#[122]⟩ ++ dc),.int .i64 0] (by rfl) (by rfl) (eO _ _ _ _) (fP _ _) (by decide) ao aq (by simp;have:=u.size;omega) (w2.heap.size+1) (by simp) ?_;intro gg cq w4 I G U ak N;have H:=HL.o.grow hp ab ad Z (by first|exact u.alloc u.size _|exact (u.alloc u.size _).drew|exact u.drew.alloc u.size _|exact (u.drew.alloc u.size _).drew) G N;have z7:w4.cell? ⟨w.heap.size,9,none⟩=some (.slice a i c):=H.b 9 (by decide);have f7:=H.f0 9;refine hK.out _ _ ?_ (fun hHeld=>?_)
    ·(try dsimp only);all_goals trivial
    clear hK K;try simp only [si]
    refine tq 9 rfl ?_;simp only [si];refine rd 10 rfl fun K hK=>?_
    go_simp;refine hK.out _ _ ?_ (fun hHeld=>?_)
    ·(try dsimp only);all_goals trivial
    clear hK K;try simp only [si]
    refine wpAnyH_done (by kernel_rfl) ?_ _;have hS:=HL.o.step hp ab ad Z (X:=_) (by first|exact u.alloc u.size _|exact (u.alloc u.size _).drew|exact u.drew.alloc u.size _|exact (u.drew.alloc u.size _).drew) I G N (U.imp (fun q=>q) (fun q=>by simp;omega));rw [Hx.o,Hy.o] at hS;clear H z7 f7
    (try go_wp2)
    first|exact ⟨⟨i+1,by omega,by omega,by go_num,_,_,hS⟩,by simp [intOf];omega⟩|exact ⟨⟨i+1,by omega,by omega,by go_num,_,_,hS.below kB.drew⟩,by simp [intOf];omega⟩
   go_wp2
   go_meet;exact ⟨a,c,by rw [show mm=i by omega];exact HL.o⟩
 case rest =>
  obtain ⟨a,c,O⟩:=hcut;have ho:=bg.o
  apply_assumption
  refine iA p (e:={ e with ng:=mm,M:=zT e.M e.ng,L:=CA e.L e.ng }) wo w _ hp Z O.x (fun W' hK hD=>HR.o _ _ _ _ _ _ _ W' ?_ ?_ ?_ ?_ O.x hK hD)
  ·obtain ⟨x1,x2,Y,q1,_⟩:=O.p6.slw ho.hp.size
   injection Y with Y _ e3
   rw [<- Y,<- e3] at q1;obtain ⟨x1,x2,Y,q2,_⟩:=O.q7.slw ho.ha.size;injection Y with Y _ e3
   rw [<- Y,<- e3] at q2
   exact ⟨ho.hid,ho.hsd,ho.hty,ho.hkey,ho.hval,q1,q2,O.a9.slg (fun i hi=>by
    unfold zT;split
    ·exact ho.hg.size i (by omega)
    rw [ByteArray.size_append]
    have:=sR (1000+i) (by have:i<mm:=hi;omega)
    show 1+_<=maxLen
    unfold maxLen;omega)⟩
  ·exact (iS O.p6 nL).imp id fun ⟨b,off,Y,hb⟩=>⟨b,off,Y,Or.inl ⟨hb,O.hp b (by rw [Y];rfl)⟩⟩
  ·exact (iS O.q7 nL).imp id fun ⟨b,off,Y,hb⟩=>⟨b,off,Y,Or.inl ⟨hb,O.hq b (by rw [Y];rfl)⟩⟩
  exact (iS O.a9 nL).imp id fun ⟨b,off,Y,hb⟩=>⟨b,off,Y,(O.h b (by rw [Y];rfl)).imp (fun q=>⟨hb,q⟩) id⟩
end Go.Proofs.YtpfeegcdlikegaaGreat
