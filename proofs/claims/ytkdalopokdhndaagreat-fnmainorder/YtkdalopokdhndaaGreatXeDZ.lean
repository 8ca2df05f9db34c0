import Derived.Test.YtkdalopokdhndaaGreatXeC
set_option maxHeartbeats 16000000
set_option maxRecDepth 100000
namespace Go.Proofs.YtkdalopokdhndaaGreat
open Go.RowKit
variable {w:World}{bs:Nat->Nat}{k m q:Nat}{e:Ev}{t:Ls}{od:ByteArray}{R:Ending->World->Prop}{u1 u8 u9 u10 u11 u12 u13 u14 u15 u16 u17 u18 u19 u20 u21 u22 u23 u24 u25 u26 u27 u28 u29 u30 u31 u32 u33 u34 u35 u36 u37 u38 u39 u40 u41 u42 u43 u44 u45 u46 u47 u48 u49 u50 u51 u52 u53 u54 u55 u56 u57 u58 u59 u60 u61 u62 u63 u64 u65 u66 u67 u68 u69 u70 u71 u72 u73 u74 u75 u76 u77 u78 u79 u80 u81 u82 u83 u84 u85 u86 u87 u88 u89 u90 u91 u92 u93 u94 u95 u96 u97 u98 u99 u100 u101 u102 u103 u104 u105 u106 u107 u108 u109 u110 u111 u112 u113 u114 u115 u116 u117 u118 u119 u120 u121 u122 u123 u124 u125 u126 u127 u128 u129 u130 u131 u132 u133 u134 u135 u136 u137 u138 u139 u140 u141 u142 u143 u144 u145 u146 u147 u148 u149 u150 u151 u152 u153 u154 u155 u156 u157 u158 u159 u160 u161 u162 u163 u164 u165 u166:Value}
theorem own_tne {b1 b2 s1 s2 n1 n2:Nat}{t1 t2:TypeId}{v1 v2:Value}{x1 x2:List Value}(h1:w.ownsRow b1 t1 s1 v1 n1 x1)(h2:w.ownsRow b2 t2 s2 v2 n2 x2)(ht:t1≠t2)(b:Nat)(hb:v1.ownBlock=some b):v2.ownBlock≠some b:=fun hb2=>by
 rcases h1.2 with ⟨rfl,_⟩|⟨g,cap,cur,rfl,_,hh,_⟩
 ·cases hb
 rcases h2.2 with ⟨rfl,_⟩|⟨g',cap',cur',rfl,_,hh',_⟩
 ·cases hb2
 have e1:g=b:=by simpa [Value.ownBlock] using hb
 have e2:g'=b:=by simpa [Value.ownBlock] using hb2
 subst e1 e2;rw [hh] at hh';injection hh' with hh'
 injection hh' with _ hh' _
 exact ht hh'
theorem strs_ext (S:Nat->ByteArray)(n:Nat)(x:ByteArray):strs S n ++ [.string x]=strs (extF S n x) (n+1):=by
 have h:strs S n=strs (extF S n x) n:=by
  unfold strs;refine List.map_congr_left fun i hi=>?_
  rw [extF_lt _ _ (List.mem_range.1 hi)]
 rw [h];unfold strs;rw [List.range_succ,List.map_append,List.map_singleton,extF_at]
theorem xeC7 (p:Nat){v:Nat}(wo w W:World)(hp:p<wo.heap.size)(hww:wo.heap.size<=w.heap.size)(hwl:wo.heap.size<=t.lo)(hhi:t.hi<=w.heap.size)(hk:k<256)(hc:k % 16=7)(hnp:e.np<=1000)(Hod:Hid (od=oddS v))(HQ:Hid (QO W e t))(HX:Hid (EvX p wo w W bs m q t.lo t.hi (fun o=>((ec e t.pa t.cp t.aa t.ca t.ga t.cg):Array Value)[o]?.getD undef)))(HR:Hid (XeR p wo w bs m q t.lo t.hi (spE k v e) R)) :
  Code.wp Tryz.prog (tlN (Tryz.f66.body.getD .skip) 4) (bodyPost Tryz.prog Tryz.f66 R) { tmps:=#[.pointer (some ⟨p,0,none⟩),u1,undef,.pointer (some ⟨w.heap.size,0,none⟩),.pointer (some ⟨w.heap.size+1,0,none⟩),.int .i64 (k:Int),.int .i64 (v:Int),.string od,u8,u9,u10,u11,u12,u13,u14,u15,u16,u17,u18,u19,u20,u21,u22,u23,u24,u25,u26,u27,u28,u29,u30,u31,u32,u33,u34,u35,u36,u37,u38,u39,u40,u41,u42,u43,u44,u45,u46,u47,u48,u49,u50,u51,u52,u53,u54,u55,u56,u57,u58,u59,u60,u61,u62,u63,u64,u65,u66,u67,u68,u69,u70,u71,u72,u73,u74,u75,u76,u77,u78,u79,u80,u81,u82,u83,u84,u85,u86,u87,u88,u89,u90,u91,u92,u93,u94,u95,u96,u97,u98,u99,u100,u101,u102,u103,u104,u105,u106,u107,u108,u109,u110,u111,u112,u113,u114,u115,u116,u117,u118,u119,u120,u121,u122,u123,u124,u125,u126,u127,u128,u129,u130,u131,u132,u133,u134,u135,u136,u137,u138,u139,u140,u141,u142,u143,u144,u145,u146,u147,u148,u149,u150,u151,u152,u153,u154,u155,u156,u157,u158,u159,u160,u161,u162,u163,u164,u165,u166],defers:=[] } W:=by
 obtain ⟨i0,hi0,hz0,hz1,hz2⟩:=info_parts Tryz.infoString;rw [show tlN (Tryz.f66.body.getD .skip) 4=Code.seq _ _ from rfl];have hsp:spE k v e={ e with np:=e.np+1,Pv:=extF e.Pv e.np od }:=by unfold spE;simp [hc,Hod.out]
 rw [hsp] at HR;have hci:(k:Int) % 16=7:=by omega
 have b6:W.cell? ⟨w.heap.size,6,none⟩=some (.slice t.pa e.np t.cp):=HX.out.b 6 (by decide);have hXs:=HX.out.sz;have hxs:(od).size<=maxLen:=by rw [Hod.out];exact nZ (oddS_size v) (by decide)
 have HO:Hid (W.ownsRow t.lo 9 1 (.slice t.pa e.np t.cp) e.np (strs e.Pv e.np)):=HQ.out.p;have hlw:t.lo<=W.heap.size:=by have:=HQ.out.j.hh;omega
 have hm1:e.np+1<=maxLen:=by unfold maxLen;omega
 have hm2:(e.np+1) * 16<=140737488355328:=by omega
 have hbA:Below W.heap.size W (W.alloc (.cells #[.string (od)] 9)):=bA;have HG:Hid (∀ w4,(W.alloc (.cells #[.string (od)] 9)).grownBy w4 (Value.slice t.pa e.np t.cp).ownBlock->EvX p wo w w4 bs m q t.lo t.hi (fun o=>((ec e t.pa t.cp t.aa t.ca t.ga t.cg):Array Value)[o]?.getD undef)):=fun w4 hg=>(HX.out.below hbA).grow hp hwl hhi hww hg (fun b hb=>Or.inl ⟨(ownsRow_blk HQ.out.p b hb).1,HQ.out.h b (Or.inl hb)⟩)
 go_upto_if 23 with fail
 go_cut [166] (fun _ wx=>∃ gg cq w4,wx=w4.setCell ⟨w.heap.size,6,none⟩ (.slice (some ⟨gg,0,none⟩) (e.np+1) cq)∧w4.ownsRow t.lo 9 1 (.slice (some ⟨gg,0,none⟩) (e.np+1) cq) (e.np+1) (strs e.Pv e.np ++ [.string (od)])∧(W.alloc (.cells #[.string (od)] 9)).grownBy w4 (Value.slice t.pa e.np t.cp).ownBlock∧((Value.slice t.pa e.np t.cp).ownBlock=some gg∨gg=W.heap.size+1))
 case first =>
  have HZ:Hid (∀ w4,(W.alloc (.cells #[.string (od)] 9)).grownBy w4 (Value.slice t.pa e.np t.cp).ownBlock->w4.cell? ⟨w.heap.size,6,none⟩=some (.slice t.pa e.np t.cp)∧w4.frozen? ⟨w.heap.size,6,none⟩=false):=fun w4 hg=>⟨(HG.out w4 hg).b 6 (by decide),(HG.out w4 hg).f0 6⟩
  clear HX HQ HR HG
  go_wp2_with (at_builtin;refine wpList_append_lies _ rfl _ _ 27 rfl t.lo 9 i0 (.string ByteArray.empty) 1 16 Tryz.underlying27 hi0 hz0 hz1 hz2 rfl (by decide) _ _ _ rfl (World.ownsRow.alloc HO.out _) ⟨W.heap.size,0,none⟩ 1 1 [.string (od)] rfl rfl (one_cells _ _ _) (one_one _) (by decide) hm1 hm2 (by simp;omega) (W.heap.size+1) (by simp) ?_;intro gg cq w4 hown4 hgr4 hat4 hlt4;have y6:=(HZ.out w4 hgr4).1;have g6:=(HZ.out w4 hgr4).2)
  go_meet;exact ⟨gg,cq,w4,rfl,hown4,hgr4,hat4⟩
 case rest =>
  obtain ⟨gg,cq,w4,rfl,hown,hgr,hat⟩:=hcut;have hX4:=HG.out w4 hgr
  have HX2:Hid (EvX p wo w (w4.setCell ⟨w.heap.size,6,none⟩ (.slice (some ⟨gg,0,none⟩) (e.np+1) cq)) bs m q t.lo t.hi (fun o=>(#[.string e.id,.string e.sd,.string e.ty,.bool e.st,.string e.key,.int .i64 e.tm,.slice (some ⟨gg,0,none⟩) (e.np+1) cq,.slice t.aa e.na t.ca,.string e.val,.slice t.ga e.ng t.cg]:Array Value)[o]?.getD undef)):=(hX4.set hp hww 6 _).congr (fun o ho=>by
   match o,ho with
   | 0,_=>rfl
   | 1,_=>rfl
   | 2,_=>rfl
   | 3,_=>rfl
   | 4,_=>rfl
   | 5,_=>rfl
   | 6,_=>rfl
   | 7,_=>rfl
   | 8,_=>rfl
   | 9,_=>rfl)
  have hgg:=ownsRow_blk hown gg rfl
  have hgw:gg≠w.heap.size:=by
   rcases hat with q|q
   ·have:=HQ.out.h gg (Or.inl q);omega
   omega
  have hkS:Kb w.heap.size w4 (w4.setCell ⟨w.heap.size,6,none⟩ (.slice (some ⟨gg,0,none⟩) (e.np+1) cq)):=(Kb.refl _ _).set 6 _;have kq:∀ b,t.lo<=b->b<t.hi->(Value.slice t.pa e.np t.cp).ownBlock≠some b->(w4.setCell ⟨w.heap.size,6,none⟩ (.slice (some ⟨gg,0,none⟩) (e.np+1) cq)).heap[b]?=W.heap[b]?:=fun b h1 h2 h3=>(hkS.2 b (by have:=hX4.sz;omega) (by omega)).trans ((hgr.block b (by simp;omega) (fun e'=>h3 e'.symm)).trans (hbA.block b (by omega)))
  have hP:OwnT (w4.setCell ⟨w.heap.size,6,none⟩ (.slice (some ⟨gg,0,none⟩) (e.np+1) cq)) t.lo (.slice (some ⟨gg,0,none⟩) (e.np+1) cq) (e.np+1) (extF e.Pv e.np (od)):=by
   unfold OwnT;rw [<- strs_ext];exact ownsRow_k hown (fun b hb hl=>hkS.2 b hl (fun e'=>hgw (by have hq:gg=b:=(by simpa [Value.ownBlock] using hb);omega)))
  have hA:OwnT (w4.setCell ⟨w.heap.size,6,none⟩ (.slice (some ⟨gg,0,none⟩) (e.np+1) cq)) t.lo (.slice t.aa e.na t.ca) e.na e.Av:=ownsRow_k HQ.out.a (fun b hb _=>kq b (ownsRow_blk HQ.out.a b hb).1 (HQ.out.h b (Or.inr (Or.inl hb))) (fun h=>HQ.out.d b h hb));have hG:OwnG (w4.setCell ⟨w.heap.size,6,none⟩ (.slice (some ⟨gg,0,none⟩) (e.np+1) cq)) t.lo (.slice t.ga e.ng t.cg) e.ng e.M e.L:=ownsRow_k HQ.out.g (fun b hb _=>kq b (ownsRow_blk HQ.out.g b hb).1 (HQ.out.h b (Or.inr (Or.inr hb))) (own_tne HQ.out.g HQ.out.p (by decide) b hb));have ho:=HQ.out.j.ok
  apply_assumption
  refine xeEnd p (e:={ e with np:=e.np+1,Pv:=extF e.Pv e.np od }) wo w _ hp hww HX2 (fun W' hK hD=>HR.out _ _ _ _ _ _ _ W' ?_ ?_ (HQ.out.xe _).2.1 (HQ.out.xe _).2.2 HX2.out hK hD)
  ·obtain ⟨a',c',e1,q1,_⟩:=hP.slw (fun i hi=>by
    by_cases ei:i=e.np
    ·subst ei;rw [extF_at];exact hxs
    rw [extF_lt _ _ (by omega)];exact ho.hp.size i (by omega))
   injection e1 with e1 _ e3
   subst e1 e3;obtain ⟨a',c',e1,q2,_⟩:=hA.slw ho.ha.size;injection e1 with e1 _ e3
   rw [<- e1,<- e3] at q2;exact ⟨ho.hid,ho.hsd,ho.hty,ho.hkey,ho.hval,q1,q2,hG.slg ho.hg.size⟩
  refine Or.inr ⟨gg,0,rfl,?_⟩;rcases hat with q|q
  ·exact Or.inl ⟨hgg.1,HQ.out.h gg (Or.inl q)⟩
  exact Or.inr (by omega)
theorem xeC9 (p:Nat){v:Nat}(wo w W:World)(hp:p<wo.heap.size)(hww:wo.heap.size<=w.heap.size)(hwl:wo.heap.size<=t.lo)(hhi:t.hi<=w.heap.size)(hk:k<256)(hc:k % 16=9)(hnp:e.np<=1000)(_Hod:Hid (od=oddS v))(HQ:Hid (QO W e t))(HX:Hid (EvX p wo w W bs m q t.lo t.hi (fun o=>((ec e t.pa t.cp t.aa t.ca t.ga t.cg):Array Value)[o]?.getD undef)))(HR:Hid (XeR p wo w bs m q t.lo t.hi (spE k v e) R)) :
  Code.wp Tryz.prog (tlN (Tryz.f66.body.getD .skip) 4) (bodyPost Tryz.prog Tryz.f66 R) { tmps:=#[.pointer (some ⟨p,0,none⟩),u1,undef,.pointer (some ⟨w.heap.size,0,none⟩),.pointer (some ⟨w.heap.size+1,0,none⟩),.int .i64 (k:Int),.int .i64 (v:Int),.string od,u8,u9,u10,u11,u12,u13,u14,u15,u16,u17,u18,u19,u20,u21,u22,u23,u24,u25,u26,u27,u28,u29,u30,u31,u32,u33,u34,u35,u36,u37,u38,u39,u40,u41,u42,u43,u44,u45,u46,u47,u48,u49,u50,u51,u52,u53,u54,u55,u56,u57,u58,u59,u60,u61,u62,u63,u64,u65,u66,u67,u68,u69,u70,u71,u72,u73,u74,u75,u76,u77,u78,u79,u80,u81,u82,u83,u84,u85,u86,u87,u88,u89,u90,u91,u92,u93,u94,u95,u96,u97,u98,u99,u100,u101,u102,u103,u104,u105,u106,u107,u108,u109,u110,u111,u112,u113,u114,u115,u116,u117,u118,u119,u120,u121,u122,u123,u124,u125,u126,u127,u128,u129,u130,u131,u132,u133,u134,u135,u136,u137,u138,u139,u140,u141,u142,u143,u144,u145,u146,u147,u148,u149,u150,u151,u152,u153,u154,u155,u156,u157,u158,u159,u160,u161,u162,u163,u164,u165,u166],defers:=[] } W:=by
 obtain ⟨i0,hi0,hz0,hz1,hz2⟩:=info_parts Tryz.infoString;rw [show tlN (Tryz.f66.body.getD .skip) 4=Code.seq _ _ from rfl];have hsp:spE k v e={ e with np:=e.np+1,Pv:=extF e.Pv e.np e.id }:=by unfold spE;simp [hc]
 rw [hsp] at HR;have hci:(k:Int) % 16=9:=by omega
 have b0:W.cell? ⟨w.heap.size,0,none⟩=some (.string e.id):=HX.out.b 0 (by decide);have b6:W.cell? ⟨w.heap.size,6,none⟩=some (.slice t.pa e.np t.cp):=HX.out.b 6 (by decide);have hXs:=HX.out.sz;have hxs:(e.id).size<=maxLen:=HQ.out.j.ok.hid;have HO:Hid (W.ownsRow t.lo 9 1 (.slice t.pa e.np t.cp) e.np (strs e.Pv e.np)):=HQ.out.p;have hlw:t.lo<=W.heap.size:=by have:=HQ.out.j.hh;omega
 have hm1:e.np+1<=maxLen:=by unfold maxLen;omega
 have hm2:(e.np+1) * 16<=140737488355328:=by omega
 have hbA:Below W.heap.size W (W.alloc (.cells #[.string (e.id)] 9)):=bA;have HG:Hid (∀ w4,(W.alloc (.cells #[.string (e.id)] 9)).grownBy w4 (Value.slice t.pa e.np t.cp).ownBlock->EvX p wo w w4 bs m q t.lo t.hi (fun o=>((ec e t.pa t.cp t.aa t.ca t.ga t.cg):Array Value)[o]?.getD undef)):=fun w4 hg=>(HX.out.below hbA).grow hp hwl hhi hww hg (fun b hb=>Or.inl ⟨(ownsRow_blk HQ.out.p b hb).1,HQ.out.h b (Or.inl hb)⟩)
 go_upto_if 23 with fail
 go_cut [166] (fun _ wx=>∃ gg cq w4,wx=w4.setCell ⟨w.heap.size,6,none⟩ (.slice (some ⟨gg,0,none⟩) (e.np+1) cq)∧w4.ownsRow t.lo 9 1 (.slice (some ⟨gg,0,none⟩) (e.np+1) cq) (e.np+1) (strs e.Pv e.np ++ [.string (e.id)])∧(W.alloc (.cells #[.string (e.id)] 9)).grownBy w4 (Value.slice t.pa e.np t.cp).ownBlock∧((Value.slice t.pa e.np t.cp).ownBlock=some gg∨gg=W.heap.size+1))
 case first =>
  have HZ:Hid (∀ w4,(W.alloc (.cells #[.string (e.id)] 9)).grownBy w4 (Value.slice t.pa e.np t.cp).ownBlock->w4.cell? ⟨w.heap.size,6,none⟩=some (.slice t.pa e.np t.cp)∧w4.frozen? ⟨w.heap.size,6,none⟩=false):=fun w4 hg=>⟨(HG.out w4 hg).b 6 (by decide),(HG.out w4 hg).f0 6⟩
  clear HX HQ HR HG
  go_wp2_with (at_builtin;refine wpList_append_lies _ rfl _ _ 27 rfl t.lo 9 i0 (.string ByteArray.empty) 1 16 Tryz.underlying27 hi0 hz0 hz1 hz2 rfl (by decide) _ _ _ rfl (World.ownsRow.alloc HO.out _) ⟨W.heap.size,0,none⟩ 1 1 [.string (e.id)] rfl rfl (one_cells _ _ _) (one_one _) (by decide) hm1 hm2 (by simp;omega) (W.heap.size+1) (by simp) ?_;intro gg cq w4 hown4 hgr4 hat4 hlt4;have y6:=(HZ.out w4 hgr4).1;have g6:=(HZ.out w4 hgr4).2)
  go_meet;exact ⟨gg,cq,w4,rfl,hown4,hgr4,hat4⟩
 case rest =>
  obtain ⟨gg,cq,w4,rfl,hown,hgr,hat⟩:=hcut;have hX4:=HG.out w4 hgr
  have HX2:Hid (EvX p wo w (w4.setCell ⟨w.heap.size,6,none⟩ (.slice (some ⟨gg,0,none⟩) (e.np+1) cq)) bs m q t.lo t.hi (fun o=>(#[.string e.id,.string e.sd,.string e.ty,.bool e.st,.string e.key,.int .i64 e.tm,.slice (some ⟨gg,0,none⟩) (e.np+1) cq,.slice t.aa e.na t.ca,.string e.val,.slice t.ga e.ng t.cg]:Array Value)[o]?.getD undef)):=(hX4.set hp hww 6 _).congr (fun o ho=>by
   match o,ho with
   | 0,_=>rfl
   | 1,_=>rfl
   | 2,_=>rfl
   | 3,_=>rfl
   | 4,_=>rfl
   | 5,_=>rfl
   | 6,_=>rfl
   | 7,_=>rfl
   | 8,_=>rfl
   | 9,_=>rfl)
  have hgg:=ownsRow_blk hown gg rfl
  have hgw:gg≠w.heap.size:=by
   rcases hat with q|q
   ·have:=HQ.out.h gg (Or.inl q);omega
   omega
  have hkS:Kb w.heap.size w4 (w4.setCell ⟨w.heap.size,6,none⟩ (.slice (some ⟨gg,0,none⟩) (e.np+1) cq)):=(Kb.refl _ _).set 6 _;have kq:∀ b,t.lo<=b->b<t.hi->(Value.slice t.pa e.np t.cp).ownBlock≠some b->(w4.setCell ⟨w.heap.size,6,none⟩ (.slice (some ⟨gg,0,none⟩) (e.np+1) cq)).heap[b]?=W.heap[b]?:=fun b h1 h2 h3=>(hkS.2 b (by have:=hX4.sz;omega) (by omega)).trans ((hgr.block b (by simp;omega) (fun e'=>h3 e'.symm)).trans (hbA.block b (by omega)))
  have hP:OwnT (w4.setCell ⟨w.heap.size,6,none⟩ (.slice (some ⟨gg,0,none⟩) (e.np+1) cq)) t.lo (.slice (some ⟨gg,0,none⟩) (e.np+1) cq) (e.np+1) (extF e.Pv e.np (e.id)):=by
   unfold OwnT;rw [<- strs_ext];exact ownsRow_k hown (fun b hb hl=>hkS.2 b hl (fun e'=>hgw (by have hq:gg=b:=(by simpa [Value.ownBlock] using hb);omega)))
  have hA:OwnT (w4.setCell ⟨w.heap.size,6,none⟩ (.slice (some ⟨gg,0,none⟩) (e.np+1) cq)) t.lo (.slice t.aa e.na t.ca) e.na e.Av:=ownsRow_k HQ.out.a (fun b hb _=>kq b (ownsRow_blk HQ.out.a b hb).1 (HQ.out.h b (Or.inr (Or.inl hb))) (fun h=>HQ.out.d b h hb));have hG:OwnG (w4.setCell ⟨w.heap.size,6,none⟩ (.slice (some ⟨gg,0,none⟩) (e.np+1) cq)) t.lo (.slice t.ga e.ng t.cg) e.ng e.M e.L:=ownsRow_k HQ.out.g (fun b hb _=>kq b (ownsRow_blk HQ.out.g b hb).1 (HQ.out.h b (Or.inr (Or.inr hb))) (own_tne HQ.out.g HQ.out.p (by decide) b hb));have ho:=HQ.out.j.ok
  apply_assumption
  refine xeEnd p (e:={ e with np:=e.np+1,Pv:=extF e.Pv e.np e.id }) wo w _ hp hww HX2 (fun W' hK hD=>HR.out _ _ _ _ _ _ _ W' ?_ ?_ (HQ.out.xe _).2.1 (HQ.out.xe _).2.2 HX2.out hK hD)
  ·obtain ⟨a',c',e1,q1,_⟩:=hP.slw (fun i hi=>by
    by_cases ei:i=e.np
    ·subst ei;rw [extF_at];exact hxs
    rw [extF_lt _ _ (by omega)];exact ho.hp.size i (by omega))
   injection e1 with e1 _ e3
   subst e1 e3;obtain ⟨a',c',e1,q2,_⟩:=hA.slw ho.ha.size;injection e1 with e1 _ e3
   rw [<- e1,<- e3] at q2;exact ⟨ho.hid,ho.hsd,ho.hty,ho.hkey,ho.hval,q1,q2,hG.slg ho.hg.size⟩
  refine Or.inr ⟨gg,0,rfl,?_⟩;rcases hat with q|q
  ·exact Or.inl ⟨hgg.1,HQ.out.h gg (Or.inl q)⟩
  exact Or.inr (by omega)
theorem encG_ext (M:Nat->ByteArray)(L:Nat->Int)(n:Nat)(x:ByteArray)(z:Int):encG M L n ++ [.string x,.int .i64 z]=encG (extF M n x) (extF L n z) (n+1):=by
 rw [encG_congr (M:=M) (L:=L) (M':=extF M n x) (L':=extF L n z) (fun i hi=>⟨(extF_lt _ _ hi).symm,(extF_lt _ _ hi).symm⟩)];have h:=encG_snoc (extF M n x) (extF L n z) n;rw [extF_at,extF_at] at h;exact h
theorem xeC12 (p:Nat){v:Nat}(wo w W:World)(hp:p<wo.heap.size)(hww:wo.heap.size<=w.heap.size)(hwl:wo.heap.size<=t.lo)(hhi:t.hi<=w.heap.size)(hk:k<256)(hv:v<256)(hc:k % 16=12)(hng:e.ng<=1000)(Hod:Hid (od=oddS v))(HQ:Hid (QO W e t))(HX:Hid (EvX p wo w W bs m q t.lo t.hi (fun o=>((ec e t.pa t.cp t.aa t.ca t.ga t.cg):Array Value)[o]?.getD undef)))(HR:Hid (XeR p wo w bs m q t.lo t.hi (spE k v e) R)) :
  Code.wp Tryz.prog (tlN (Tryz.f66.body.getD .skip) 4) (bodyPost Tryz.prog Tryz.f66 R) { tmps:=#[.pointer (some ⟨p,0,none⟩),u1,undef,.pointer (some ⟨w.heap.size,0,none⟩),.pointer (some ⟨w.heap.size+1,0,none⟩),.int .i64 (k:Int),.int .i64 (v:Int),.string od,u8,u9,u10,u11,u12,u13,u14,u15,u16,u17,u18,u19,u20,u21,u22,u23,u24,u25,u26,u27,u28,u29,u30,u31,u32,u33,u34,u35,u36,u37,u38,u39,u40,u41,u42,u43,u44,u45,u46,u47,u48,u49,u50,u51,u52,u53,u54,u55,u56,u57,u58,u59,u60,u61,u62,u63,u64,u65,u66,u67,u68,u69,u70,u71,u72,u73,u74,u75,u76,u77,u78,u79,u80,u81,u82,u83,u84,u85,u86,u87,u88,u89,u90,u91,u92,u93,u94,u95,u96,u97,u98,u99,u100,u101,u102,u103,u104,u105,u106,u107,u108,u109,u110,u111,u112,u113,u114,u115,u116,u117,u118,u119,u120,u121,u122,u123,u124,u125,u126,u127,u128,u129,u130,u131,u132,u133,u134,u135,u136,u137,u138,u139,u140,u141,u142,u143,u144,u145,u146,u147,u148,u149,u150,u151,u152,u153,u154,u155,u156,u157,u158,u159,u160,u161,u162,u163,u164,u165,u166],defers:=[] } W:=by
 obtain ⟨i0,hi0,hz0,hz1,hz2⟩:=info_parts Tryz.infoGrant;rw [show tlN (Tryz.f66.body.getD .skip) 4=Code.seq _ _ from rfl];obtain ⟨z,hz⟩:∃ z:Int,z=(((v % 3:Nat):Int) - 1) * (1000000+((v / 128:Nat):Int)):=⟨_,rfl⟩
 have hzb:-2000000<=z∧z<=2000000:=by
  rcases (by omega:v % 3=0∨v % 3=1∨v % 3=2) with h|h|h <;> rcases (by omega:v / 128=0∨v / 128=1) with g|g <;> rw [hz,h,g] <;> decide
 have hsp:spE k v e={ e with ng:=e.ng+1,M:=extF e.M e.ng od,L:=extF e.L e.ng z }:=by rw [hz];unfold spE;simp [hc,Hod.out]
 rw [hsp] at HR;have hmul:((v:Int) % 3 - 1) * (1000000+(v:Int) / 128)=z:=by rw [hz];simp
 have hwr:wrap64 (((v:Int) % 3 - 1) * (1000000+(v:Int) / 128))=z:=by rw [hmul];unfold wrap64;omega
 clear hz;have hci:(k:Int) % 16=12:=by omega
 have b9:W.cell? ⟨w.heap.size,9,none⟩=some (.slice t.ga e.ng t.cg):=HX.out.b 9 (by decide);have hXs:=HX.out.sz;have hxs:od.size<=maxLen:=by rw [Hod.out];exact nZ (oddS_size v) (by decide)
 have HO:Hid (W.ownsRow t.lo 166 2 (.slice t.ga e.ng t.cg) e.ng (encG e.M e.L e.ng)):=HQ.out.g;have hlw:t.lo<=W.heap.size:=by have:=HQ.out.j.hh;omega
 have hm1:e.ng+1<=maxLen:=by unfold maxLen;omega
 have hm2:(e.ng+1) * 24<=140737488355328:=by omega
 have hbA:Below W.heap.size W (W.alloc (.cells #[.string od,.int .i64 z] 166)):=bA;have HG:Hid (∀ w4,(W.alloc (.cells #[.string od,.int .i64 z] 166)).grownBy w4 (Value.slice t.ga e.ng t.cg).ownBlock->EvX p wo w w4 bs m q t.lo t.hi (fun o=>((ec e t.pa t.cp t.aa t.ca t.ga t.cg):Array Value)[o]?.getD undef)):=fun w4 hg=>(HX.out.below hbA).grow hp hwl hhi hww hg (fun b hb=>Or.inl ⟨(ownsRow_blk HQ.out.g b hb).1,HQ.out.h b (Or.inr (Or.inr hb))⟩)
 go_upto_if 23 with fail
 go_cut [166] (fun _ wx=>∃ gg cq w4,wx=(w4.setCell ⟨w.heap.size,9,none⟩ (.slice (some ⟨gg,0,none⟩) (e.ng+1) cq))∧w4.ownsRow t.lo 166 2 (.slice (some ⟨gg,0,none⟩) (e.ng+1) cq) (e.ng+1) (encG e.M e.L e.ng ++ [.string od,.int .i64 z])∧(W.alloc (.cells #[.string od,.int .i64 z] 166)).grownBy w4 (Value.slice t.ga e.ng t.cg).ownBlock∧((Value.slice t.ga e.ng t.cg).ownBlock=some gg∨gg=W.heap.size+1))
 case first =>
  have HZ:Hid (∀ w4,(W.alloc (.cells #[.string od,.int .i64 z] 166)).grownBy w4 (Value.slice t.ga e.ng t.cg).ownBlock->w4.cell? ⟨w.heap.size,9,none⟩=some (.slice t.ga e.ng t.cg)∧w4.frozen? ⟨w.heap.size,9,none⟩=false):=fun w4 hg=>⟨(HG.out w4 hg).b 9 (by decide),(HG.out w4 hg).f0 9⟩
  clear HX HQ HR HG
  go_wp2_with (at_builtin;refine wpList_append_lies _ rfl _ _ 28 rfl t.lo 166 i0 (.agg #[.string ByteArray.empty,.int .i64 0]) 2 24 Tryz.underlying28 hi0 hz0 hz1 hz2 rfl (by decide) _ _ _ rfl (World.ownsRow.alloc HO.out _) ⟨W.heap.size,0,none⟩ 1 1 [.string od,.int .i64 z] rfl rfl (two_cellG _ _ _ _) (two_oneG _ _) (by decide) hm1 hm2 (by simp;omega) (W.heap.size+1) (by simp) ?_;intro gg cq w4 hown4 hgr4 hat4 hlt4;have y6:=(HZ.out w4 hgr4).1;have g6:=(HZ.out w4 hgr4).2)
  go_meet;exact ⟨gg,cq,w4,rfl,hown4,hgr4,hat4⟩
 case rest =>
  obtain ⟨gg,cq,w4,rfl,hown,hgr,hat⟩:=hcut;have hX4:=HG.out w4 hgr
  have HX2:Hid (EvX p wo w (w4.setCell ⟨w.heap.size,9,none⟩ (.slice (some ⟨gg,0,none⟩) (e.ng+1) cq)) bs m q t.lo t.hi (fun o=>(#[.string e.id,.string e.sd,.string e.ty,.bool e.st,.string e.key,.int .i64 e.tm,.slice t.pa e.np t.cp,.slice t.aa e.na t.ca,.string e.val,.slice (some ⟨gg,0,none⟩) (e.ng+1) cq]:Array Value)[o]?.getD undef)):=(hX4.set hp hww 9 _).congr (fun o ho=>by
   match o,ho with
   | 0,_=>rfl
   | 1,_=>rfl
   | 2,_=>rfl
   | 3,_=>rfl
   | 4,_=>rfl
   | 5,_=>rfl
   | 6,_=>rfl
   | 7,_=>rfl
   | 8,_=>rfl
   | 9,_=>rfl)
  have hgg:=ownsRow_blk hown gg rfl
  have hgw:gg≠w.heap.size:=by
   rcases hat with q|q
   ·have:=HQ.out.h gg (Or.inr (Or.inr q));omega
   omega
  have hkS:Kb w.heap.size w4 (w4.setCell ⟨w.heap.size,9,none⟩ (.slice (some ⟨gg,0,none⟩) (e.ng+1) cq)):=(Kb.refl _ _).set 9 _;have kq:∀ b,t.lo<=b->b<t.hi->(Value.slice t.ga e.ng t.cg).ownBlock≠some b->(w4.setCell ⟨w.heap.size,9,none⟩ (.slice (some ⟨gg,0,none⟩) (e.ng+1) cq)).heap[b]?=W.heap[b]?:=fun b h1 h2 h3=>(hkS.2 b (by have:=hX4.sz;omega) (by omega)).trans ((hgr.block b (by simp;omega) (fun e'=>h3 e'.symm)).trans (hbA.block b (by omega)))
  have hG:OwnG (w4.setCell ⟨w.heap.size,9,none⟩ (.slice (some ⟨gg,0,none⟩) (e.ng+1) cq)) t.lo (.slice (some ⟨gg,0,none⟩) (e.ng+1) cq) (e.ng+1) (extF e.M e.ng od) (extF e.L e.ng z):=by
   unfold OwnG;rw [<- encG_ext];exact ownsRow_k hown (fun b hb hl=>hkS.2 b hl (fun e'=>hgw (by have hq:gg=b:=(by simpa [Value.ownBlock] using hb);omega)))
  have hA:OwnT (w4.setCell ⟨w.heap.size,9,none⟩ (.slice (some ⟨gg,0,none⟩) (e.ng+1) cq)) t.lo (.slice t.aa e.na t.ca) e.na e.Av:=ownsRow_k HQ.out.a (fun b hb _=>kq b (ownsRow_blk HQ.out.a b hb).1 (HQ.out.h b (Or.inr (Or.inl hb))) (own_tne HQ.out.a HQ.out.g (by decide) b hb));have hP:OwnT (w4.setCell ⟨w.heap.size,9,none⟩ (.slice (some ⟨gg,0,none⟩) (e.ng+1) cq)) t.lo (.slice t.pa e.np t.cp) e.np e.Pv:=ownsRow_k HQ.out.p (fun b hb _=>kq b (ownsRow_blk HQ.out.p b hb).1 (HQ.out.h b (Or.inl hb)) (own_tne HQ.out.p HQ.out.g (by decide) b hb));have ho:=HQ.out.j.ok
  apply_assumption
  refine xeEnd p (e:={ e with ng:=e.ng+1,M:=extF e.M e.ng od,L:=extF e.L e.ng z }) wo w _ hp hww HX2 (fun W' hK hD=>HR.out _ _ _ _ _ _ _ W' ?_ (HQ.out.xe _).1 (HQ.out.xe _).2.1 ?_ HX2.out hK hD)
  ·obtain ⟨a',c',e1,q1,_⟩:=hP.slw ho.hp.size
   injection e1 with e1 _ e3
   rw [<- e1,<- e3] at q1;obtain ⟨a',c',e1,q2,_⟩:=hA.slw ho.ha.size;injection e1 with e1 _ e3
   rw [<- e1,<- e3] at q2
   exact ⟨ho.hid,ho.hsd,ho.hty,ho.hkey,ho.hval,q1,q2,hG.slg (fun i hi=>by
    by_cases ei:i=e.ng
    ·subst ei;rw [extF_at];exact hxs
    rw [extF_lt _ _ (by omega)];exact ho.hg.size i (by omega))⟩
  refine Or.inr ⟨gg,0,rfl,?_⟩;rcases hat with q|q
  ·exact Or.inl ⟨hgg.1,HQ.out.h gg (Or.inr (Or.inr q))⟩
  exact Or.inr (by omega)
end Go.Proofs.YtkdalopokdhndaaGreat
