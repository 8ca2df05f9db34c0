import Derived.Test.YtkdalopokdhndaaGreatXeDZ
set_option maxHeartbeats 16000000
set_option maxRecDepth 100000
namespace Go.Proofs.YtkdalopokdhndaaGreat
open Go.RowKit
variable {bs:Nat->Nat}{k m q:Nat}{e:Ev}{t:Ls}{od:ByteArray}{R:Ending->World->Prop}{u1 u8 u9 u10 u11 u12 u13 u14 u15 u16 u17 u18 u19 u20 u21 u22 u23 u24 u25 u26 u27 u28 u29 u30 u31 u32 u33 u34 u35 u36 u37 u38 u39 u40 u41 u42 u43 u44 u45 u46 u47 u48 u49 u50 u51 u52 u53 u54 u55 u56 u57 u58 u59 u60 u61 u62 u63 u64 u65 u66 u67 u68 u69 u70 u71 u72 u73 u74 u75 u76 u77 u78 u79 u80 u81 u82 u83 u84 u85 u86 u87 u88 u89 u90 u91 u92 u93 u94 u95 u96 u97 u98 u99 u100 u101 u102 u103 u104 u105 u106 u107 u108 u109 u110 u111 u112 u113 u114 u115 u116 u117 u118 u119 u120 u121 u122 u123 u124 u125 u126 u127 u128 u129 u130 u131 u132 u133 u134 u135 u136 u137 u138 u139 u140 u141 u142 u143 u144 u145 u146 u147 u148 u149 u150 u151 u152 u153 u154 u155 u156 u157 u158 u159 u160 u161 u162 u163 u164 u165 u166:Value}
theorem xeC13 (p:Nat){v:Nat}(wo w W:World)(hp:p<wo.heap.size)(hww:wo.heap.size<=w.heap.size)(hhi:t.hi<=w.heap.size)(hk:k<256)(hc:k % 16=13)(HQ:Hid (QO W e t))(HX:Hid (EvX p wo w W bs m q t.lo t.hi (fun o=>((ec e t.pa t.cp t.aa t.ca t.ga t.cg):Array Value)[o]?.getD undef)))(HR:Hid (XeR p wo w bs m q t.lo t.hi (spE k v e) R)) :
  Code.wp Tryz.prog (tlN (Tryz.f66.body.getD .skip) 4) (bodyPost Tryz.prog Tryz.f66 R) { tmps:=#[.pointer (some ⟨p,0,none⟩),u1,undef,.pointer (some ⟨w.heap.size,0,none⟩),.pointer (some ⟨w.heap.size+1,0,none⟩),.int .i64 (k:Int),.int .i64 (v:Int),.string od,u8,u9,u10,u11,u12,u13,u14,u15,u16,u17,u18,u19,u20,u21,u22,u23,u24,u25,u26,u27,u28,u29,u30,u31,u32,u33,u34,u35,u36,u37,u38,u39,u40,u41,u42,u43,u44,u45,u46,u47,u48,u49,u50,u51,u52,u53,u54,u55,u56,u57,u58,u59,u60,u61,u62,u63,u64,u65,u66,u67,u68,u69,u70,u71,u72,u73,u74,u75,u76,u77,u78,u79,u80,u81,u82,u83,u84,u85,u86,u87,u88,u89,u90,u91,u92,u93,u94,u95,u96,u97,u98,u99,u100,u101,u102,u103,u104,u105,u106,u107,u108,u109,u110,u111,u112,u113,u114,u115,u116,u117,u118,u119,u120,u121,u122,u123,u124,u125,u126,u127,u128,u129,u130,u131,u132,u133,u134,u135,u136,u137,u138,u139,u140,u141,u142,u143,u144,u145,u146,u147,u148,u149,u150,u151,u152,u153,u154,u155,u156,u157,u158,u159,u160,u161,u162,u163,u164,u165,u166],defers:=[] } W:=by
 rw [show tlN (Tryz.f66.body.getD .skip) 4=Code.seq _ _ from rfl];obtain ⟨tt,htt⟩:∃ tt,tt=oddT v:=⟨_,rfl⟩;obtain ⟨v4,hv4⟩:∃ v4,v4=v % 4:=⟨_,rfl⟩;have hv4i:(v:Int) % 4=(v4:Int):=by omega
 have hv40:(0:Int)<=(v4:Int):=by omega
 have hv4l:(v4:Int)<4:=by omega
 have hix:(W.alloc (.cells #[.string ⟨#[99,114,101,97,116,101]⟩,.string ⟨#[109,101,109,98,101,114]⟩,.string ⟨#[112,111,119,101,114]⟩,.string ⟨#[106,111,105,110,95,114,117,108,101,115]⟩] 9)).cell? ⟨W.heap.size,v4,none⟩=some (.string tt):=by
  rw [kA rfl,htt];unfold oddT;rw [<- hv4]
  match v4,(by omega:v4<4) with
  | 0,_=>rfl
  | 1,_=>rfl
  | 2,_=>rfl
  | 3,_=>rfl
 have htz:tt.size<=maxLen:=by rw [htt];exact nZ (oddT_size v) (by decide)
 have hsp:spE k v e={ e with ty:=tt }:=by rw [htt];unfold spE;simp [hc]
 rw [hsp] at HR;clear htt hv4;have hci:(k:Int) % 16=13:=by omega
 have hbA:Below W.heap.size W (W.alloc (.cells #[.string ⟨#[99,114,101,97,116,101]⟩,.string ⟨#[109,101,109,98,101,114]⟩,.string ⟨#[112,111,119,101,114]⟩,.string ⟨#[106,111,105,110,95,114,117,108,101,115]⟩] 9)):=bA;have bo:(W.alloc (.cells #[.string ⟨#[99,114,101,97,116,101]⟩,.string ⟨#[109,101,109,98,101,114]⟩,.string ⟨#[112,111,119,101,114]⟩,.string ⟨#[106,111,105,110,95,114,117,108,101,115]⟩] 9)).cell? ⟨w.heap.size,2,none⟩=some (.string e.ty):=(HX.out.below hbA).b 2 (by decide);have f0:=(HX.out.below hbA).f0;have hXs:=HX.out.sz;have hne:W.heap.size≠w.heap.size:=by omega
 have HX2:Hid (EvX p wo w ((W.alloc (.cells #[.string ⟨#[99,114,101,97,116,101]⟩,.string ⟨#[109,101,109,98,101,114]⟩,.string ⟨#[112,111,119,101,114]⟩,.string ⟨#[106,111,105,110,95,114,117,108,101,115]⟩] 9)).setCell ⟨w.heap.size,2,none⟩ (.string tt)) bs m q t.lo t.hi (fun o=>(#[.string e.id,.string e.sd,.string tt,.bool e.st,.string e.key,.int .i64 e.tm,.slice t.pa e.np t.cp,.slice t.aa e.na t.ca,.string e.val,.slice t.ga e.ng t.cg]:Array Value)[o]?.getD undef)):=((HX.out.below hbA).set hp hww 2 (.string tt)).congr (fun o ho=>by
  match o,ho with
  | 0,_=>rfl
  | 1,_=>rfl
  | 2,_=>rfl
  | 3,_=>rfl
  | 4,_=>rfl
  | 5,_=>rfl
  | 6,_=>rfl
  | 7,_=>rfl
  | 8,_=>rfl
  | 9,_=>rfl)
 have HQ2:Hid (QO ((W.alloc (.cells #[.string ⟨#[99,114,101,97,116,101]⟩,.string ⟨#[109,101,109,98,101,114]⟩,.string ⟨#[112,111,119,101,114]⟩,.string ⟨#[106,111,105,110,95,114,117,108,101,115]⟩] 9)).setCell ⟨w.heap.size,2,none⟩ (.string tt)) e t):=(qcO.below HQ.out hbA).kx ((Kb.refl _ _).set 2 _) (Or.inr hhi);clear HX HQ hbA
 go_upto_if 23 with fail
 go_cut [166] (fun _ wx=>wx=((W.alloc (.cells #[.string ⟨#[99,114,101,97,116,101]⟩,.string ⟨#[109,101,109,98,101,114]⟩,.string ⟨#[112,111,119,101,114]⟩,.string ⟨#[106,111,105,110,95,114,117,108,101,115]⟩] 9)).setCell ⟨w.heap.size,2,none⟩ (.string tt)))
 case first =>
  clear HX2 HQ2 HR;go_wp2
  go_meet;rfl
 case rest =>
  subst hcut
  apply_assumption
  refine xeEnd p (e:={ e with ty:=tt }) wo w _ hp hww HX2 (fun W' hK hD=>HR.out _ _ _ _ _ _ _ W' ?_ (HQ2.out.xe _).1 ((HQ2.out.xe _).2.1) (HQ2.out.xe _).2.2 HX2.out hK hD);have h:=HQ2.out.j.ok;exact ⟨h.hid,h.hsd,htz,h.hkey,h.hval,h.hp,h.ha,h.hg⟩
theorem xeC15 (p:Nat){v:Nat}(wo w W:World)(hp:p<wo.heap.size)(hww:wo.heap.size<=w.heap.size)(hhi:t.hi<=w.heap.size)(hk:k<256)(hc:k % 16=15)(HQ:Hid (QO W e t))(HX:Hid (EvX p wo w W bs m q t.lo t.hi (fun o=>((ec e t.pa t.cp t.aa t.ca t.ga t.cg):Array Value)[o]?.getD undef)))(HR:Hid (XeR p wo w bs m q t.lo t.hi (spE k v e) R)) :
  Code.wp Tryz.prog (tlN (Tryz.f66.body.getD .skip) 4) (bodyPost Tryz.prog Tryz.f66 R) { tmps:=#[.pointer (some ⟨p,0,none⟩),u1,undef,.pointer (some ⟨w.heap.size,0,none⟩),.pointer (some ⟨w.heap.size+1,0,none⟩),.int .i64 (k:Int),.int .i64 (v:Int),.string od,u8,u9,u10,u11,u12,u13,u14,u15,u16,u17,u18,u19,u20,u21,u22,u23,u24,u25,u26,u27,u28,u29,u30,u31,u32,u33,u34,u35,u36,u37,u38,u39,u40,u41,u42,u43,u44,u45,u46,u47,u48,u49,u50,u51,u52,u53,u54,u55,u56,u57,u58,u59,u60,u61,u62,u63,u64,u65,u66,u67,u68,u69,u70,u71,u72,u73,u74,u75,u76,u77,u78,u79,u80,u81,u82,u83,u84,u85,u86,u87,u88,u89,u90,u91,u92,u93,u94,u95,u96,u97,u98,u99,u100,u101,u102,u103,u104,u105,u106,u107,u108,u109,u110,u111,u112,u113,u114,u115,u116,u117,u118,u119,u120,u121,u122,u123,u124,u125,u126,u127,u128,u129,u130,u131,u132,u133,u134,u135,u136,u137,u138,u139,u140,u141,u142,u143,u144,u145,u146,u147,u148,u149,u150,u151,u152,u153,u154,u155,u156,u157,u158,u159,u160,u161,u162,u163,u164,u165,u166],defers:=[] } W:=by
 rw [show tlN (Tryz.f66.body.getD .skip) 4=Code.seq _ _ from rfl];have hsp:spE k v e={ e with na:=0 }:=by unfold spE;simp [hc]
 rw [hsp] at HR;have hci:(k:Int) % 16=15:=by omega
 have hbA:Below W.heap.size W (W.alloc (.cells #[] 9)):=bA;have bo:(W.alloc (.cells #[] 9)).cell? ⟨w.heap.size,7,none⟩=some (.slice t.aa e.na t.ca):=(HX.out.below hbA).b 7 (by decide);have f0:=(HX.out.below hbA).f0;have hXs:=HX.out.sz;have hne:W.heap.size≠w.heap.size:=by omega
 have HX2:Hid (EvX p wo w ((W.alloc (.cells #[] 9)).setCell ⟨w.heap.size,7,none⟩ (.slice (some ⟨W.heap.size,0,none⟩) 0 0)) bs m q t.lo t.hi (fun o=>(#[.string e.id,.string e.sd,.string e.ty,.bool e.st,.string e.key,.int .i64 e.tm,.slice t.pa e.np t.cp,.slice (some ⟨W.heap.size,0,none⟩) 0 0,.string e.val,.slice t.ga e.ng t.cg]:Array Value)[o]?.getD undef)):=((HX.out.below hbA).set hp hww 7 (.slice (some ⟨W.heap.size,0,none⟩) 0 0)).congr (fun o ho=>by
  match o,ho with
  | 0,_=>rfl
  | 1,_=>rfl
  | 2,_=>rfl
  | 3,_=>rfl
  | 4,_=>rfl
  | 5,_=>rfl
  | 6,_=>rfl
  | 7,_=>rfl
  | 8,_=>rfl
  | 9,_=>rfl)
 have HQ2:Hid (QO ((W.alloc (.cells #[] 9)).setCell ⟨w.heap.size,7,none⟩ (.slice (some ⟨W.heap.size,0,none⟩) 0 0)) e t):=(qcO.below HQ.out hbA).kx ((Kb.refl _ _).set 7 _) (Or.inr hhi);clear HX HQ hbA
 go_upto_if 23 with fail
 go_cut [166] (fun _ wx=>wx=((W.alloc (.cells #[] 9)).setCell ⟨w.heap.size,7,none⟩ (.slice (some ⟨W.heap.size,0,none⟩) 0 0)))
 case first =>
  clear HX2 HQ2 HR;go_wp2
  go_meet;rfl
 case rest =>
  subst hcut
  apply_assumption
  refine xeEnd p (e:={ e with na:=0 }) wo w _ hp hww HX2 (fun W' hK hD=>HR.out _ _ _ _ _ _ _ W' ?_ (HQ2.out.xe _).1 (Or.inl rfl) (HQ2.out.xe _).2.2 HX2.out hK hD);have h:=HQ2.out.j.ok;exact ⟨h.hid,h.hsd,h.hty,h.hkey,h.hval,h.hp,⟨nL,by decide,fun i hi=>absurd hi (Nat.not_lt_zero _),Or.inl rfl⟩,h.hg⟩
variable {W:World}{a:Option Addr}{n cap base:Nat}{S:Nat->ByteArray}
def dbS (S:Nat->ByteArray)(n:Nat):Nat->ByteArray:=fun i=>if i<n then S i else S (i - n)
theorem strs_db (S:Nat->ByteArray)(n:Nat):strs S n ++ strs S n=strs (dbS S n) (n+n):=by
 apply List.ext_getElem?;intro i
 by_cases h:i<n
 ·rw [List.getElem?_append_left (by rw [strs_len];exact h),strs_get _ _ _ h,strs_get _ _ _ (by omega)]
  unfold dbS;rw [if_pos h]
 rw [List.getElem?_append_right (by rw [strs_len];omega),strs_len]
 by_cases h2:i<n+n
 ·rw [strs_get _ _ _ (by omega),strs_get _ _ _ h2]
  unfold dbS;rw [if_neg h]
 rw [List.getElem?_eq_none (by rw [strs_len];omega),List.getElem?_eq_none (by rw [strs_len];omega)]
theorem apD_run (hn:n<=1000)(hown:OwnT W base (.slice a n cap) n S)(hb:base<=W.heap.size) :
  ∃ a' c' w',(Builtin.append_ #[27,27] 27 #[.slice a n cap,.slice a n cap]).run Tryz.prog W=.ok (.slice a' (n+n) c') w'∧OwnT w' base (.slice a' (n+n) c') (n+n) (dbS S n)∧W.grownBy w' (Value.slice a n cap).ownBlock∧((Value.slice a' (n+n) c').ownBlock=(Value.slice a n cap).ownBlock∨(Value.slice a' (n+n) c').ownBlock=some W.heap.size):=by
 obtain ⟨i0,hi,hz0,hz1,hz2⟩:=info_parts Tryz.infoString;rcases row_cells hown with ⟨e,h0⟩|⟨g,cap',e,hg,hlt,hn',hc,hx,hf⟩
 ·subst h0
  injection e with e1 _ e3
  subst e1 e3;exact ⟨none,0,W,run_append_owned_none W base 27 27 9 i0 1 Tryz.underlying27 hi _ 0 _ hown,⟨rfl,Or.inl ⟨rfl,rfl⟩⟩,⟨rfl,rfl,rfl,nL,fun _ _ _=>rfl⟩,Or.inl rfl⟩
 injection e with e1 _ e3
 subst e1 e3
 have hsrc:∀ j u,(strs S n)[j]?=some u->W.cell? ((⟨g,0,none⟩:Addr).add j)=some u:=fun j u hj=>by
  have hjn:j<n:=by
   have:=(List.getElem?_eq_some_iff.1 hj).1;rw [strs_len] at this;exact this
  rw [Addr.add_lit,<- hj];exact hx j (by omega)
 obtain ⟨v',w',hrun,h2,h3,-,h5⟩:=run_append_own_at (P:=Tryz.prog) W base 27 27 9 i0 (.string ByteArray.empty) 1 16 Tryz.underlying27 hi hz0 hz1 hz2 rfl (by decide) _ _ _ hown ⟨g,0,none⟩ n cap (strs S n) (by rw [strs_len,Nat.mul_one]) hsrc (fun u hu=>by
  obtain ⟨i,_,rfl⟩:=List.mem_map.1 hu;rfl) (by unfold maxLen;omega) (by omega) hb
 have hown':OwnT w' base v' (n+n) (dbS S n):=by
  unfold OwnT;rw [<- strs_db];exact h2
 rcases row_cells hown' with ⟨e',h0⟩|⟨g',cap'',e',_⟩
 ·subst e'
  have:n=0:=by omega
  subst this;exact ⟨none,0,w',hrun,hown',h3,h5⟩
 subst e';exact ⟨_,_,w',hrun,hown',h3,h5⟩
theorem xeC8 (p:Nat){v:Nat}(wo w W:World)(hp:p<wo.heap.size)(hww:wo.heap.size<=w.heap.size)(hwl:wo.heap.size<=t.lo)(hhi:t.hi<=w.heap.size)(hk:k<256)(hc:k % 16=8)(hna:e.na<=1000)(HQ:Hid (QO W e t))(HX:Hid (EvX p wo w W bs m q t.lo t.hi (fun o=>((ec e t.pa t.cp t.aa t.ca t.ga t.cg):Array Value)[o]?.getD undef)))(HR:Hid (XeR p wo w bs m q t.lo t.hi (spE k v e) R)) :
  Code.wp Tryz.prog (tlN (Tryz.f66.body.getD .skip) 4) (bodyPost Tryz.prog Tryz.f66 R) { tmps:=#[.pointer (some ⟨p,0,none⟩),u1,undef,.pointer (some ⟨w.heap.size,0,none⟩),.pointer (some ⟨w.heap.size+1,0,none⟩),.int .i64 (k:Int),.int .i64 (v:Int),.string od,u8,u9,u10,u11,u12,u13,u14,u15,u16,u17,u18,u19,u20,u21,u22,u23,u24,u25,u26,u27,u28,u29,u30,u31,u32,u33,u34,u35,u36,u37,u38,u39,u40,u41,u42,u43,u44,u45,u46,u47,u48,u49,u50,u51,u52,u53,u54,u55,u56,u57,u58,u59,u60,u61,u62,u63,u64,u65,u66,u67,u68,u69,u70,u71,u72,u73,u74,u75,u76,u77,u78,u79,u80,u81,u82,u83,u84,u85,u86,u87,u88,u89,u90,u91,u92,u93,u94,u95,u96,u97,u98,u99,u100,u101,u102,u103,u104,u105,u106,u107,u108,u109,u110,u111,u112,u113,u114,u115,u116,u117,u118,u119,u120,u121,u122,u123,u124,u125,u126,u127,u128,u129,u130,u131,u132,u133,u134,u135,u136,u137,u138,u139,u140,u141,u142,u143,u144,u145,u146,u147,u148,u149,u150,u151,u152,u153,u154,u155,u156,u157,u158,u159,u160,u161,u162,u163,u164,u165,u166],defers:=[] } W:=by
 rw [show tlN (Tryz.f66.body.getD .skip) 4=Code.seq _ _ from rfl];have hsp:spE k v e={ e with na:=e.na+e.na,Av:=dbS e.Av e.na }:=by unfold spE dbS;simp [hc]
 rw [hsp] at HR;have hci:(k:Int) % 16=8:=by omega
 have b7:W.cell? ⟨w.heap.size,7,none⟩=some (.slice t.aa e.na t.ca):=HX.out.b 7 (by decide);have hXs:=HX.out.sz;have hlw:t.lo<=W.heap.size:=by have:=HQ.out.j.hh;omega
 obtain ⟨a',c',w4,hap,hown,hgr,hat⟩:=apD_run hna HQ.out.a hlw;have hX4:=HX.out.grow hp hwl hhi hww hgr (fun b hb=>Or.inl ⟨(ownsRow_blk HQ.out.a b hb).1,HQ.out.h b (Or.inr (Or.inl hb))⟩);have y7:w4.cell? ⟨w.heap.size,7,none⟩=some (.slice t.aa e.na t.ca):=hX4.b 7 (by decide);have g7:=hX4.f0 7
 have HX2:Hid (EvX p wo w (w4.setCell ⟨w.heap.size,7,none⟩ (.slice a' (e.na+e.na) c')) bs m q t.lo t.hi (fun o=>(#[.string e.id,.string e.sd,.string e.ty,.bool e.st,.string e.key,.int .i64 e.tm,.slice t.pa e.np t.cp,.slice a' (e.na+e.na) c',.string e.val,.slice t.ga e.ng t.cg]:Array Value)[o]?.getD undef)):=(hX4.set hp hww 7 _).congr (fun o ho=>by
  match o,ho with
  | 0,_=>rfl
  | 1,_=>rfl
  | 2,_=>rfl
  | 3,_=>rfl
  | 4,_=>rfl
  | 5,_=>rfl
  | 6,_=>rfl
  | 7,_=>rfl
  | 8,_=>rfl
  | 9,_=>rfl)
 have hkS:Kb w.heap.size w4 (w4.setCell ⟨w.heap.size,7,none⟩ (.slice a' (e.na+e.na) c')):=(Kb.refl _ _).set 7 _
 have HW:Hid (∀ b,(Value.slice a' (e.na+e.na) c').ownBlock=some b->b≠w.heap.size∧t.lo<=b∧(b<t.hi∨w.heap.size+2<=b)):=fun b hb=>by
  have h1:=ownsRow_blk hown b hb;rcases hat with r|r
  ·have:=HQ.out.h b (Or.inr (Or.inl (by rw [<- r];exact hb)))
   omega
  rw [hb] at r;injection r with r
  omega
 have kq:∀ b,t.lo<=b->b<t.hi->(Value.slice t.aa e.na t.ca).ownBlock≠some b->(w4.setCell ⟨w.heap.size,7,none⟩ (.slice a' (e.na+e.na) c')).heap[b]?=W.heap[b]?:=fun b h1 h2 h3=>(hkS.2 b (by have:=hX4.sz;omega) (by omega)).trans (hgr.block b (by omega) (fun e'=>h3 e'.symm))
 have HA:Hid (OwnT (w4.setCell ⟨w.heap.size,7,none⟩ (.slice a' (e.na+e.na) c')) t.lo (.slice a' (e.na+e.na) c') (e.na+e.na) (dbS e.Av e.na)):=ownsRow_k hown (fun b hb hl=>hkS.2 b hl (HW.out b hb).1);have HP:Hid (OwnT (w4.setCell ⟨w.heap.size,7,none⟩ (.slice a' (e.na+e.na) c')) t.lo (.slice t.pa e.np t.cp) e.np e.Pv):=ownsRow_k HQ.out.p (fun b hb _=>kq b (ownsRow_blk HQ.out.p b hb).1 (HQ.out.h b (Or.inl hb)) (HQ.out.d b hb));have HG:Hid (OwnG (w4.setCell ⟨w.heap.size,7,none⟩ (.slice a' (e.na+e.na) c')) t.lo (.slice t.ga e.ng t.cg) e.ng e.M e.L):=ownsRow_k HQ.out.g (fun b hb _=>kq b (ownsRow_blk HQ.out.g b hb).1 (HQ.out.h b (Or.inr (Or.inr hb))) (own_tne HQ.out.g HQ.out.a (by decide) b hb));clear hX4 hkS kq hgr hat
 go_upto_if 23 with fail
 go_cut [166] (fun _ wx=>wx=(w4.setCell ⟨w.heap.size,7,none⟩ (.slice a' (e.na+e.na) c')))
 case first =>
  clear HX HX2 HQ HR HA HP HG HW hown
  go_wp2_with (at_builtin;refine wpList_append_run rfl _ _ 27 rfl _ _ _ _ hap rfl rfl ?_)
  go_meet;rfl
 case rest =>
  subst hcut;have ho:=HQ.out.j.ok
  apply_assumption
  refine xeEnd p (e:={ e with na:=e.na+e.na,Av:=dbS e.Av e.na }) wo w _ hp hww HX2 (fun W' hK hD=>HR.out _ _ _ _ _ _ _ W' ?_ (HQ.out.xe _).1 ?_ (HQ.out.xe _).2.2 HX2.out hK hD)
  ·obtain ⟨x1,x2,e1,q1,_⟩:=HP.out.slw ho.hp.size
   injection e1 with e1 _ e3
   rw [<- e1,<- e3] at q1
   obtain ⟨x1,x2,e1,q2,_⟩:=HA.out.slw (fun i hi=>by
    unfold dbS;split
    ·exact ho.ha.size i (by omega)
    exact ho.ha.size _ (by omega))
   injection e1 with e1 _ e3
   rw [<- e1,<- e3] at q2;exact ⟨ho.hid,ho.hsd,ho.hty,ho.hkey,ho.hval,q1,q2,HG.out.slg ho.hg.size⟩
  rcases own_lo HA.out nL with h0|⟨b,off,rfl,hb⟩
  ·exact Or.inl h0
  refine Or.inr ⟨b,off,rfl,?_⟩
  have:=HW.out b rfl;rcases this.2.2 with q|q
  ·exact Or.inl ⟨hb,q⟩
  exact Or.inr q
structure XeL (p:Nat)(wo w W:World)(bs:Nat->Nat)(m q:Nat)(e:Ev)(t:Ls)(i:Nat)(S:Nat->ByteArray)(a:Option Addr)(c:Nat):Prop where
 x:EvX p wo w W bs m q t.lo t.hi (fun o=>(#[.string e.id,.string e.sd,.string e.ty,.bool e.st,.string e.key,.int .i64 e.tm,.slice t.pa e.np t.cp,.slice a i c,.string e.val,.slice t.ga e.ng t.cg]:Array Value)[o]?.getD undef)
 a7:OwnT W t.lo (.slice a i c) i S
 p6:OwnT W t.lo (.slice t.pa e.np t.cp) e.np e.Pv
 g9:OwnG W t.lo (.slice t.ga e.ng t.cg) e.ng e.M e.L
 d:∀ b,(Value.slice t.pa e.np t.cp).ownBlock=some b->(Value.slice a i c).ownBlock≠some b
 h:∀ b,(Value.slice a i c).ownBlock=some b->b<t.hi∨w.heap.size+2<=b
 hp:∀ b,(Value.slice t.pa e.np t.cp).ownBlock=some b->b<t.hi
 hg:∀ b,(Value.slice t.ga e.ng t.cg).ownBlock=some b->b<t.hi
section
variable {p:Nat} {wo w W:World} {bs:Nat->Nat} {m q:Nat} {e:Ev} {t:Ls} {i:Nat} {S:Nat->ByteArray} {a:Option Addr} {c:Nat}
theorem XeL.new (hQ:QO W e t)(hX:EvX p wo w W bs m q t.lo t.hi (fun o=>((ec e t.pa t.cp t.aa t.ca t.ga t.cg):Array Value)[o]?.getD undef)):XeL p wo w W bs m q e t e.na e.Av t.aa t.ca :=
 ⟨hX,hQ.a,hQ.p,hQ.g,hQ.d,fun b hb=>Or.inl (hQ.h b (Or.inr (Or.inl hb))),fun b hb=>hQ.h b (Or.inl hb),fun b hb=>hQ.h b (Or.inr (Or.inr hb))⟩
theorem XeL.below (h:XeL p wo w W bs m q e t i S a c){W':World}(hb:Below W.heap.size W W'):XeL p wo w W' bs m q e t i S a c :=
 ⟨h.x.below hb,h.a7.below hb,h.p6.below hb,h.g9.below hb,h.d,h.h,h.hp,h.hg⟩
theorem XeL.grow (h:XeL p wo w W bs m q e t i S a c)(hpw:p<wo.heap.size)(hwl:wo.heap.size<=t.lo)(hhi:t.hi<=w.heap.size)(hww:wo.heap.size<=w.heap.size){X w4:World}(hX:Below W.heap.size W X)(hgr:X.grownBy w4 (Value.slice a i c).ownBlock):EvX p wo w w4 bs m q t.lo t.hi (fun o=>(#[.string e.id,.string e.sd,.string e.ty,.bool e.st,.string e.key,.int .i64 e.tm,.slice t.pa e.np t.cp,.slice a i c,.string e.val,.slice t.ga e.ng t.cg]:Array Value)[o]?.getD undef) :=
 (h.x.below hX).grow hpw hwl hhi hww hgr (fun b hb=>(h.h b hb).imp (fun q=>⟨(ownsRow_blk h.a7 b hb).1,q⟩) id)
theorem XeL.step (h:XeL p wo w W bs m q e t i S a c)(hpw:p<wo.heap.size)(hwl:wo.heap.size<=t.lo)(hhi:t.hi<=w.heap.size)(hww:wo.heap.size<=w.heap.size){X w4:World}{gg cq:Nat}{x:ByteArray}(hX:Below W.heap.size W X)(hown:w4.ownsRow t.lo 9 1 (.slice (some ⟨gg,0,none⟩) (i+1) cq) (i+1) (strs S i ++ [.string x]))(hgr:X.grownBy w4 (Value.slice a i c).ownBlock)(hat:(Value.slice a i c).ownBlock=some gg∨X.heap.size<=gg) :
  XeL p wo w (w4.setCell ⟨w.heap.size,7,none⟩ (.slice (some ⟨gg,0,none⟩) (i+1) cq)) bs m q e t (i+1) (extF S i x) (some ⟨gg,0,none⟩) cq:=by
 have h1:=h.below hX;have hsz:=h1.x.sz;have hkS:Kb w.heap.size w4 (w4.setCell ⟨w.heap.size,7,none⟩ (.slice (some ⟨gg,0,none⟩) (i+1) cq)):=(Kb.refl _ _).set 7 _
 have hgg:gg<t.hi∨w.heap.size+2<=gg:=by
  rcases hat with r|r
  ·exact h.h gg r
  exact Or.inr (by omega)
 have hs4:=hgr.size;have kq:∀ b,b<X.heap.size->b≠w.heap.size->(Value.slice a i c).ownBlock≠some b->(w4.setCell ⟨w.heap.size,7,none⟩ (.slice (some ⟨gg,0,none⟩) (i+1) cq)).heap[b]?=X.heap[b]?:=fun b hl h2 h3=>(hkS.2 b (by omega) h2).trans (hgr.block b hl (fun e'=>h3 e'.symm))
 refine ⟨((h.grow hpw hwl hhi hww hX hgr).set hpw hww 7 _).congr (fun o ho=>?_),?_,ownsRow_k h1.p6 (fun b hb hl=>kq b hl (by have:=h.hp b hb;omega) (h.d b hb)),ownsRow_k h1.g9 (fun b hb hl=>kq b hl (by have:=h.hg b hb;omega) (own_tne h1.g9 h1.a7 (by decide) b hb)),fun b hb e'=>?_,fun b hb=>?_,h.hp,h.hg⟩
 ·match o,ho with
  | 0,_=>rfl
  | 1,_=>rfl
  | 2,_=>rfl
  | 3,_=>rfl
  | 4,_=>rfl
  | 5,_=>rfl
  | 6,_=>rfl
  | 7,_=>rfl
  | 8,_=>rfl
  | 9,_=>rfl
 ·unfold OwnT
  rw [<- strs_ext];exact ownsRow_k hown (fun b hb hl=>hkS.2 b hl (fun e'=>by have hq:gg=b:=(by simpa [Value.ownBlock] using hb);omega))
 ·have hq:gg=b:=by simpa [Value.ownBlock] using e'
  subst hq;rcases hat with r|r
  ·exact h.d _ hb r
  have:=(ownsRow_blk h1.p6 _ hb).2;omega
 have hq:gg=b:=by simpa [Value.ownBlock] using hb
 subst hq;exact hgg
end
end Go.Proofs.YtkdalopokdhndaaGreat
