import Derived.Test.YtpfeegcdlikegaaGreatXeC
set_option maxHeartbeats 16000000
set_option maxRecDepth 100000
namespace Go.Proofs.YtpfeegcdlikegaaGreat
open Go.RowKit Go.Proofs.Tryz
variable {ops:Array Oper}
theorem tJ {P:Program}(w:World)(t ty:TypeId)(base:Nat)(e:TypeId)(i:TypeInfo)(z:Value)(size bytes:Nat)(ht:P.underlying t=some (.slice e))(hi:P.info? e=some i)(hz:i.zero=some z)
  (N:i.size=size) (ag:i.bytes=bytes) (ao:z.cells.size=size) (an:0<size) (v:Value) (n:Nat) (xs:List Value) (G:w.ownsRow base e size v n xs)
  (ad:Addr) (m c:Nat) (news:List Value) (hl:news.length=m * size) (I:∀ j u,news[j]?=some u->w.cell? (ad.add j)=some u) (h1:∀ u ∈ news,u.oneCell'=true)
  (hm:0<m) (ae:n+m<=maxLen) (J:(n+m) * bytes<=140737488355328) (Y:base<=w.heap.size) (H:Nat) (hH:w.heap.size=H) :
  ∃ g cap w',(Builtin.append_ #[t,t] ty #[v,.slice (some ad) m c]).run P w=.ok (.slice (some ⟨g,0,none⟩) (n+m) cap) w' /\
   w'.ownsRow base e size (.slice (some ⟨g,0,none⟩) (n+m) cap) (n+m) (xs ++ news)/\w.grownBy w' v.ownBlock/\(v.ownBlock=some g\/g=H)/\g<w'.heap.size/\∀ b o,v.ownBlock=some b->o<n * size->w'.cell? ⟨b,o,none⟩=w.cell? ⟨b,o,none⟩:=by
 obtain ⟨g,cap,w',hr,h2,h3,h4,h5⟩:=run_append_lies (P:=P) w t ty base e i z size bytes ht hi hz N ag ao an v n xs G ad m c news hl I h1 hm ae J Y H hH;refine ⟨g,cap,w',hr,h2,h3,h4,h5,fun b o hb ho=>?_⟩;subst N ag;rcases G.2 with ⟨rfl,_⟩|⟨g0,c0,af,rfl,a2,hg,ax,a6,ap,ak⟩
 ·cases hb
 have e0:g0=b:=by simpa [Value.ownBlock] using hb
 subst e0;have hold:=G.cellAt o ho
 by_cases U:n+m<=c0
 ·have Z:n * i.size+news.length<=af.size:=by rw [hl,ap,<- Nat.add_mul];exact Nat.mul_le_mul_right _ U
  have O:=run_append_room (P:=P) w t ty e i ht hi g0 n c0 af hg ad m c news hl I h1 U Z;rw [hr] at O
  have e1:g=g0:=by
   injection O with hv _
   injection hv with hv _ _
   injection hv with hv
   injection hv
  subst e1;have ah:=h2.cellAt o (by rw [Nat.add_mul];omega);rw [ah,hold,List.getElem?_append_left (by rw [G.1];exact ho)]
 have holds:∀ j u,xs[j]?=some u->w.cell? ((⟨g0,0,none⟩:Addr).add j)=some u:=G.cells (g:=g0) rfl;have O:=run_append_grow (P:=P) w t ty e i z ht hi hz ⟨g0,0,none⟩ n c0 xs G.1 holds ad m c news hl I (by omega) (by unfold maxLen at ae;omega) (growslice_fits (by omega) J);rw [hr] at O;injection O with _ hw
 rw [hw,World.cell?_alloc_past _ _ _ (by exact (World.ownsRow.lt G g0 rfl).2)];rfl
theorem mW {P:Program}(w:World){o:Oper}{a:Act}{K:Act->World->Prop}{Q:Exit->Act->World->Prop}(s x:Operand)(t:TypeId)(ho:o.op=.call { callee:=.builtin .append,args:=#[s,x],argTypes:=#[t,t] })
  (base:Nat) (e:TypeId) (i:TypeInfo) (z:Value) (size bytes:Nat) (ht:P.underlying t=some (.slice e)) (hi:P.info? e=some i) (hz:i.zero=some z)
  (N:i.size=size) (ae:i.bytes=bytes) (ab:z.cells.size=size) (U:0<size) (v:Value) (n:Nat) (xs:List Value) (hs:a.eval s=v) (O:w.ownsRow base e size v n xs)
  (Y:Addr) (m c:Nat) (news:List Value) (hx:a.eval x=.slice (some Y) m c) (hl:news.length=m * size) (I:∀ j u,news[j]?=some u->w.cell? (Y.add j)=some u) (h1:∀ u ∈ news,u.oneCell'=true)
  (hm:0<m) (Z:n+m<=maxLen) (G:(n+m) * bytes<=140737488355328) (J:base<=w.heap.size) (H:Nat) (hH:w.heap.size=H)
  (h:∀ g cap w',w'.ownsRow base e size (.slice (some ⟨g,0,none⟩) (n+m) cap) (n+m) (xs ++ news)->w.grownBy w' v.ownBlock->(v.ownBlock=some g\/g=H)->g<w'.heap.size->(∀ b o,v.ownBlock=some b->o<n * size->w'.cell? ⟨b,o,none⟩=w.cell? ⟨b,o,none⟩)->K (a.put o.dst (.slice (some ⟨g,0,none⟩) (n+m) cap)) w'):o.wp P a w K Q:=by
 obtain ⟨g,cap,w',hr,h2,h3,h4,h5,h6⟩:=tJ (P:=P) w t o.type base e i z size bytes ht hi hz N ae ab U v n xs O Y m c news hl I h1 hm Z G J H hH;unfold Oper.wp execOp;simp only [ho,resolve,invoke,builtin,Sem.run_bind,Sem.run_pure,Result.andThen_ok,List.map_toArray,List.map_cons,List.map_nil,hs,hx,hr];exact h g cap w' h2 h3 h4 h5 h6
theorem fR {P:Program}(w:World){rest:List Oper}{o:Oper}{a:Act}{Q:Exit->Act->World->Prop}(af:o.guard=none)(s x:Operand)(t:TypeId)(ho:o.op=.call { callee:=.builtin .append,args:=#[s,x],argTypes:=#[t,t] })
  (base:Nat) (e:TypeId) (i:TypeInfo) (z:Value) (size bytes:Nat) (ht:P.underlying t=some (.slice e)) (hi:P.info? e=some i) (hz:i.zero=some z)
  (N:i.size=size) (ae:i.bytes=bytes) (ab:z.cells.size=size) (U:0<size) (v:Value) (n:Nat) (xs:List Value) (hs:a.eval s=v) (O:w.ownsRow base e size v n xs)
  (Y:Addr) (m c:Nat) (news:List Value) (hx:a.eval x=.slice (some Y) m c) (hl:news.length=m * size) (I:∀ j u,news[j]?=some u->w.cell? (Y.add j)=some u) (h1:∀ u ∈ news,u.oneCell'=true)
  (hm:0<m) (Z:n+m<=maxLen) (G:(n+m) * bytes<=140737488355328) (J:base<=w.heap.size) (H:Nat) (hH:w.heap.size=H)
  (h:∀ g cap w',w'.ownsRow base e size (.slice (some ⟨g,0,none⟩) (n+m) cap) (n+m) (xs ++ news)->w.grownBy w' v.ownBlock->(v.ownBlock=some g\/g=H)->g<w'.heap.size->(∀ b o,v.ownBlock=some b->o<n * size->w'.cell? ⟨b,o,none⟩=w.cell? ⟨b,o,none⟩)->wpList P ops Q rest (a.put o.dst (.slice (some ⟨g,0,none⟩) (n+m) cap)) w'):wpList P ops Q (o :: rest) a w :=
 wpList_plain af fun _ hK=>mW w s x t ho base e i z size bytes ht hi hz N ae ab U v n xs hs O Y m c news hx hl I h1 hm Z G J H hH fun g cap w' h2 h3 h4 h5 h6=>hK _ _ (h g cap w' h2 h3 h4 h5 h6)
theorem dD {P:Program}(w:World){o:Oper}{a:Act}{K:Act->World->Prop}{Q:Exit->Act->World->Prop}{E:Prop}(ae:o.guard=none)(s x:Operand)(t:TypeId)(ho:o.op=.call { callee:=.builtin .append,args:=#[s,x],argTypes:=#[t,t] })
  (base:Nat) (e:TypeId) (i:TypeInfo) (z:Value) (size bytes:Nat) (ht:P.underlying t=some (.slice e)) (hi:P.info? e=some i) (hz:i.zero=some z)
  (N:i.size=size) (af:i.bytes=bytes) (ab:z.cells.size=size) (U:0<size) (v:Value) (n:Nat) (xs:List Value) (hs:a.eval s=v) (O:w.ownsRow base e size v n xs)
  (Y:Addr) (m c:Nat) (news:List Value) (hx:a.eval x=.slice (some Y) m c) (hl:news.length=m * size) (I:∀ j u,news[j]?=some u->w.cell? (Y.add j)=some u) (h1:∀ u ∈ news,u.oneCell'=true)
  (hm:0<m) (Z:n+m<=maxLen) (G:(n+m) * bytes<=140737488355328) (J:base<=w.heap.size) (H:Nat) (hH:w.heap.size=H)
  (h:∀ g cap w',w'.ownsRow base e size (.slice (some ⟨g,0,none⟩) (n+m) cap) (n+m) (xs ++ news)->w.grownBy w' v.ownBlock->(v.ownBlock=some g\/g=H)->g<w'.heap.size->(∀ b o,v.ownBlock=some b->o<n * size->w'.cell? ⟨b,o,none⟩=w.cell? ⟨b,o,none⟩)->K (a.put o.dst (.slice (some ⟨g,0,none⟩) (n+m) cap)) w') :
  if Region.wanted o (yielded ops a.tmps)=true then Oper.wp P o a w K Q else E:=by
 have hw:Region.wanted o (yielded ops a.tmps)=true:=by simp [Region.wanted,ae]
 rw [if_pos hw];exact mW w s x t ho base e i z size bytes ht hi hz N af ab U v n xs hs O Y m c news hx hl I h1 hm Z G J H hH h
variable {w:World}{Kc:Nat->Nat->Prop}{bs:Nat->Nat}{k m q:Nat}{e:Ev}{t:Ls}{od:ByteArray}{R:Ending->World->Prop}{u1 u8 u9 u10 u11 u12 u13 u14 u15 u16 u17 u18 u19 u20 u21 u22 u23 u24 u25 u26 u27 u28 u29 u30 u31 u32 u33 u34 u35 u36 u37 u38 u39 u40 u41 u42 u43 u44 u45 u46 u47 u48 u49 u50 u51 u52 u53 u54 u55 u56 u57 u58 u59 u60 u61 u62 u63 u64 u65 u66 u67 u68 u69 u70 u71 u72 u73 u74 u75 u76 u77 u78 u79 u80 u81 u82 u83 u84 u85 u86 u87 u88 u89 u90 u91 u92 u93 u94 u95 u96 u97 u98 u99 u100 u101 u102 u103 u104 u105 u106 u107 u108 u109 u110 u111 u112 u113 u114 u115 u116 u117 u118 u119 u120 u121 u122 u123 u124 u125 u126 u127 u128 u129 u130 u131 u132 u133 u134 u135 u136 u137 u138 u139 u140 u141 u142 u143 u144 u145 u146 u147 u148 u149 u150 u151 u152 u153 u154 u155 u156 u157 u158 u159 u160 u161 u162 u163 u164 u165 u166:Value}
theorem eW {b1 b2 s1 s2 n1 U:Nat}{t1 N:TypeId}{J O:Value}{x1 x2:List Value}(h1:w.ownsRow b1 t1 s1 J n1 x1)(h2:w.ownsRow b2 N s2 O U x2)(Y:t1≠N)(b:Nat)(hb:J.ownBlock=some b):O.ownBlock≠some b:=fun G=>by
 rcases h1.2 with ⟨rfl,_⟩|⟨g,cap,ad,rfl,_,hh,_⟩
 ·cases hb
 rcases h2.2 with ⟨rfl,_⟩|⟨g',H,I,rfl,_,u,_⟩
 ·cases G
 have e1:g=b:=by simpa [Value.ownBlock] using hb
 have Z:g'=b:=by simpa [Value.ownBlock] using G
 subst e1 Z;rw [hh] at u;injection u with u
 injection u with _ u _
 exact Y u
theorem sG (S:Nat->ByteArray)(n:Nat)(x:ByteArray):dT S n ++ [.string x]=dT (bM S n x) (n+1):=by
 have h:dT S n=dT (bM S n x) n:=by
  unfold dT;refine List.map_congr_left fun i hi=>?_
  rw [cP _ _ (List.mem_range.1 hi)]
 rw [h];unfold dT;rw [List.range_succ,List.map_append,List.map_singleton,cQ]
theorem bm0 (p:Nat){v:Nat}(wo w W:World)(hp:p<wo.heap.size)(Y:wo.heap.size<=w.heap.size)(aq:wo.heap.size<=t.lo)(ay:t.hi<=w.heap.size)(hk:k<256)(hc:k % 16=7)(hnp:e.np<=1000)(aj:He (od=iT v))(I:He (QO W e t))(HX:He (fL Kc p wo w W bs m q t.lo t.hi (fun o=>((ec e t.pa t.cp t.aa t.ca t.ga t.cg):Array Value)[o]?.getD undef)))(a2:He (∀ b o,Kc b o->(Value.slice t.pa e.np t.cp).ownBlock=some b->o<e.np * 1))(HR:He (yL Kc p wo w bs m q t.lo t.hi (gD k v e) R)) :
  Code.wp prog (fZ (Tryz.f39.body.getD .skip) 4) (bodyPost prog Tryz.f39 R) { tmps:=#[.pointer (some ⟨p,0,none⟩),u1,undef,.pointer (some ⟨w.heap.size,0,none⟩),.pointer (some ⟨w.heap.size+1,0,none⟩),.int .i64 (k:Int),.int .i64 (v:Int),.string od,u8,u9,u10,u11,u12,u13,u14,u15,u16,u17,u18,u19,u20,u21,u22,u23,u24,u25,u26,u27,u28,u29,u30,u31,u32,u33,u34,u35,u36,u37,u38,u39,u40,u41,u42,u43,u44,u45,u46,u47,u48,u49,u50,u51,u52,u53,u54,u55,u56,u57,u58,u59,u60,u61,u62,u63,u64,u65,u66,u67,u68,u69,u70,u71,u72,u73,u74,u75,u76,u77,u78,u79,u80,u81,u82,u83,u84,u85,u86,u87,u88,u89,u90,u91,u92,u93,u94,u95,u96,u97,u98,u99,u100,u101,u102,u103,u104,u105,u106,u107,u108,u109,u110,u111,u112,u113,u114,u115,u116,u117,u118,u119,u120,u121,u122,u123,u124,u125,u126,u127,u128,u129,u130,u131,u132,u133,u134,u135,u136,u137,u138,u139,u140,u141,u142,u143,u144,u145,u146,u147,u148,u149,u150,u151,u152,u153,u154,u155,u156,u157,u158,u159,u160,u161,u162,u163,u164,u165,u166],defers:=[] } W:=by
 obtain ⟨i0,a4,ax,ao,a3⟩:=info_parts Tryz.infoString;rw [show fZ (Tryz.f39.body.getD .skip) 4=Code.seq _ _ from rfl];have a8:gD k v e={ e with np:=e.np+1,Pv:=bM e.Pv e.np od }:=by unfold gD;simp [hc,aj.o]
 rw [a8] at HR;have bo:(k:Int) % 16=7:=by omega
 have b6:W.cell? ⟨w.heap.size,6,none⟩=some (.slice t.pa e.np t.cp):=HX.o.b 6 (by decide);have bj:=HX.o.sz;have au:(od).size<=maxLen:=by rw [aj.o];exact nZ (eB v) (by decide)
 have HO:He (W.ownsRow t.lo 9 1 (.slice t.pa e.np t.cp) e.np (dT e.Pv e.np)):=I.o.p;have bt:t.lo<=W.heap.size:=by have:=I.o.j.hh;omega
 have an:e.np+1<=maxLen:=by unfold maxLen;omega
 have ap:(e.np+1) * 16<=140737488355328:=by omega
 have ai:Below W.heap.size W (W.alloc (.cells #[.string (od)] 9)):=bA;have HG:He (∀ u,(W.alloc (.cells #[.string (od)] 9)).grownBy u (Value.slice t.pa e.np t.cp).ownBlock->(∀ b o,(Value.slice t.pa e.np t.cp).ownBlock=some b->o<e.np * 1->u.cell? ⟨b,o,none⟩=((W.alloc (.cells #[.string (od)] 9))).cell? ⟨b,o,none⟩)->fL Kc p wo w u bs m q t.lo t.hi (fun o=>((ec e t.pa t.cp t.aa t.ca t.ga t.cg):Array Value)[o]?.getD undef)):=fun u hg G=>(HX.o.below ai).grow hp aq ay Y hg (fun b hb=>Or.inl ⟨(aD I.o.p b hb).1,I.o.h b (Or.inl hb)⟩) (fun b o hK hb=>G b o hb (a2.o b o hK hb))
 go_upto_if 23 with fail
 go_cut [166] (fun _ wx=>∃ H cq u,wx=u.setCell ⟨w.heap.size,6,none⟩ (.slice (some ⟨H,0,none⟩) (e.np+1) cq)/\u.ownsRow t.lo 9 1 (.slice (some ⟨H,0,none⟩) (e.np+1) cq) (e.np+1) (dT e.Pv e.np ++ [.string (od)])/\(W.alloc (.cells #[.string (od)] 9)).grownBy u (Value.slice t.pa e.np t.cp).ownBlock/\(∀ b o,(Value.slice t.pa e.np t.cp).ownBlock=some b->o<e.np * 1->u.cell? ⟨b,o,none⟩=((W.alloc (.cells #[.string (od)] 9))).cell? ⟨b,o,none⟩)/\((Value.slice t.pa e.np t.cp).ownBlock=some H\/H=W.heap.size+1))
 case first =>
  have HZ:He (∀ u,(W.alloc (.cells #[.string (od)] 9)).grownBy u (Value.slice t.pa e.np t.cp).ownBlock->(∀ b o,(Value.slice t.pa e.np t.cp).ownBlock=some b->o<e.np * 1->u.cell? ⟨b,o,none⟩=((W.alloc (.cells #[.string (od)] 9))).cell? ⟨b,o,none⟩)->u.cell? ⟨w.heap.size,6,none⟩=some (.slice t.pa e.np t.cp)/\u.frozen? ⟨w.heap.size,6,none⟩=false):=fun u hg G=>⟨(HG.o u hg G).b 6 (by decide),(HG.o u hg G).f0 6⟩
  clear HX I HR HG
  go_wp2_with (at_builtin;refine fR _ rfl _ _ 27 rfl t.lo 9 i0 (.string ByteArray.empty) 1 16 underlying27 a4 ax ao a3 rfl (by decide) _ _ _ rfl (World.ownsRow.alloc HO.o _) ⟨W.heap.size,0,none⟩ 1 1 [.string (od)] rfl rfl (aV _ _ _) (bL _) (by decide) an ap (by simp;omega) (W.heap.size+1) (by simp) ?_;intro H cq u Z J ah bb G;have y6:=(HZ.o u J G).1;have g6:=(HZ.o u J G).2)
  go_meet;exact ⟨H,cq,u,rfl,Z,J,G,ah⟩
 case rest =>
  obtain ⟨H,cq,u,rfl,O,af,G,ag⟩:=hcut;have ae:=HG.o u af G
  have ad:He (fL Kc p wo w (u.setCell ⟨w.heap.size,6,none⟩ (.slice (some ⟨H,0,none⟩) (e.np+1) cq)) bs m q t.lo t.hi (fun o=>(#[.string e.id,.string e.sd,.string e.ty,.bool e.st,.string e.key,.int .i64 e.tm,.slice (some ⟨H,0,none⟩) (e.np+1) cq,.slice t.aa e.na t.ca,.string e.val,.slice t.ga e.ng t.cg]:Array Value)[o]?.getD undef)):=(ae.set hp Y 6 _).congr (fun o N=>by
   match o,N with
   | 0,_=>rfl
   | 1,_=>rfl
   | 2,_=>rfl
   | 3,_=>rfl
   | 4,_=>rfl
   | 5,_=>rfl
   | 6,_=>rfl
   | 7,_=>rfl
   | 8,_=>rfl
   | 9,_=>rfl)
  have a5:=aD O H rfl
  have ba:H≠w.heap.size:=by
   rcases ag with q|q
   ·have:=I.o.h H (Or.inl q);omega
   omega
  have ab:Kb w.heap.size u (u.setCell ⟨w.heap.size,6,none⟩ (.slice (some ⟨H,0,none⟩) (e.np+1) cq)):=(Kb.refl _ _).set 6 _;have kq:∀ b,t.lo<=b->b<t.hi->(Value.slice t.pa e.np t.cp).ownBlock≠some b->(u.setCell ⟨w.heap.size,6,none⟩ (.slice (some ⟨H,0,none⟩) (e.np+1) cq)).heap[b]?=W.heap[b]?:=fun b h1 h2 h3=>(ab.2 b (by have:=ae.sz;omega) (by omega)).trans ((af.block b (by simp;omega) (fun e'=>h3 e'.symm)).trans (ai.block b (by omega)))
  have hP:bU (u.setCell ⟨w.heap.size,6,none⟩ (.slice (some ⟨H,0,none⟩) (e.np+1) cq)) t.lo (.slice (some ⟨H,0,none⟩) (e.np+1) cq) (e.np+1) (bM e.Pv e.np (od)):=by
   unfold bU;rw [<- sG];exact aM O (fun b hb hl=>ab.2 b hl (fun e'=>ba (by have hq:H=b:=(by simpa [Value.ownBlock] using hb);omega)))
  have hA:bU (u.setCell ⟨w.heap.size,6,none⟩ (.slice (some ⟨H,0,none⟩) (e.np+1) cq)) t.lo (.slice t.aa e.na t.ca) e.na e.Av:=aM I.o.a (fun b hb _=>kq b (aD I.o.a b hb).1 (I.o.h b (Or.inr (Or.inl hb))) (fun h=>I.o.d b h hb));have hG:bV (u.setCell ⟨w.heap.size,6,none⟩ (.slice (some ⟨H,0,none⟩) (e.np+1) cq)) t.lo (.slice t.ga e.ng t.cg) e.ng e.M e.L:=aM I.o.g (fun b hb _=>kq b (aD I.o.g b hb).1 (I.o.h b (Or.inr (Or.inr hb))) (eW I.o.g I.o.p (by decide) b hb));have N:=I.o.j.ok
  apply_assumption
  refine iA p (e:={ e with np:=e.np+1,Pv:=bM e.Pv e.np od }) wo w _ hp Y ad (fun W' hK hD=>HR.o _ _ _ _ _ _ _ W' ?_ ?_ (I.o.xe _).2.1 (I.o.xe _).2.2 ad.o hK hD)
  ·obtain ⟨a',c',U,q1,_⟩:=hP.slw (fun i hi=>by
    by_cases ei:i=e.np
    ·subst ei;rw [cQ];exact au
    rw [cP _ _ (by omega)];exact N.hp.size i (by omega))
   injection U with U _ e3
   subst U e3;obtain ⟨a',c',U,q2,_⟩:=hA.slw N.ha.size;injection U with U _ e3
   rw [<- U,<- e3] at q2;exact ⟨N.hid,N.hsd,N.hty,N.hkey,N.hval,q1,q2,hG.slg N.hg.size⟩
  refine Or.inr ⟨H,0,rfl,?_⟩;rcases ag with q|q
  ·exact Or.inl ⟨a5.1,I.o.h H (Or.inl q)⟩
  exact Or.inr (by omega)
theorem az0 (p:Nat){v:Nat}(wo w W:World)(hp:p<wo.heap.size)(Y:wo.heap.size<=w.heap.size)(ap:wo.heap.size<=t.lo)(ax:t.hi<=w.heap.size)(hk:k<256)(hc:k % 16=9)(hnp:e.np<=1000)(_Hod:He (od=iT v))(I:He (QO W e t))(HX:He (fL Kc p wo w W bs m q t.lo t.hi (fun o=>((ec e t.pa t.cp t.aa t.ca t.ga t.cg):Array Value)[o]?.getD undef)))(ay:He (∀ b o,Kc b o->(Value.slice t.pa e.np t.cp).ownBlock=some b->o<e.np * 1))(HR:He (yL Kc p wo w bs m q t.lo t.hi (gD k v e) R)) :
  Code.wp prog (fZ (Tryz.f39.body.getD .skip) 4) (bodyPost prog Tryz.f39 R) { tmps:=#[.pointer (some ⟨p,0,none⟩),u1,undef,.pointer (some ⟨w.heap.size,0,none⟩),.pointer (some ⟨w.heap.size+1,0,none⟩),.int .i64 (k:Int),.int .i64 (v:Int),.string od,u8,u9,u10,u11,u12,u13,u14,u15,u16,u17,u18,u19,u20,u21,u22,u23,u24,u25,u26,u27,u28,u29,u30,u31,u32,u33,u34,u35,u36,u37,u38,u39,u40,u41,u42,u43,u44,u45,u46,u47,u48,u49,u50,u51,u52,u53,u54,u55,u56,u57,u58,u59,u60,u61,u62,u63,u64,u65,u66,u67,u68,u69,u70,u71,u72,u73,u74,u75,u76,u77,u78,u79,u80,u81,u82,u83,u84,u85,u86,u87,u88,u89,u90,u91,u92,u93,u94,u95,u96,u97,u98,u99,u100,u101,u102,u103,u104,u105,u106,u107,u108,u109,u110,u111,u112,u113,u114,u115,u116,u117,u118,u119,u120,u121,u122,u123,u124,u125,u126,u127,u128,u129,u130,u131,u132,u133,u134,u135,u136,u137,u138,u139,u140,u141,u142,u143,u144,u145,u146,u147,u148,u149,u150,u151,u152,u153,u154,u155,u156,u157,u158,u159,u160,u161,u162,u163,u164,u165,u166],defers:=[] } W:=by
 obtain ⟨i0,a3,aw,an,a2⟩:=info_parts Tryz.infoString;rw [show fZ (Tryz.f39.body.getD .skip) 4=Code.seq _ _ from rfl];have a6:gD k v e={ e with np:=e.np+1,Pv:=bM e.Pv e.np e.id }:=by unfold gD;simp [hc]
 rw [a6] at HR;have bn:(k:Int) % 16=9:=by omega
 have b0:W.cell? ⟨w.heap.size,0,none⟩=some (.string e.id):=HX.o.b 0 (by decide);have b6:W.cell? ⟨w.heap.size,6,none⟩=some (.slice t.pa e.np t.cp):=HX.o.b 6 (by decide);have bi:=HX.o.sz;have aq:(e.id).size<=maxLen:=I.o.j.ok.hid;have HO:He (W.ownsRow t.lo 9 1 (.slice t.pa e.np t.cp) e.np (dT e.Pv e.np)):=I.o.p;have br:t.lo<=W.heap.size:=by have:=I.o.j.hh;omega
 have am:e.np+1<=maxLen:=by unfold maxLen;omega
 have ao:(e.np+1) * 16<=140737488355328:=by omega
 have aj:Below W.heap.size W (W.alloc (.cells #[.string (e.id)] 9)):=bA;have HG:He (∀ u,(W.alloc (.cells #[.string (e.id)] 9)).grownBy u (Value.slice t.pa e.np t.cp).ownBlock->(∀ b o,(Value.slice t.pa e.np t.cp).ownBlock=some b->o<e.np * 1->u.cell? ⟨b,o,none⟩=((W.alloc (.cells #[.string (e.id)] 9))).cell? ⟨b,o,none⟩)->fL Kc p wo w u bs m q t.lo t.hi (fun o=>((ec e t.pa t.cp t.aa t.ca t.ga t.cg):Array Value)[o]?.getD undef)):=fun u hg G=>(HX.o.below aj).grow hp ap ax Y hg (fun b hb=>Or.inl ⟨(aD I.o.p b hb).1,I.o.h b (Or.inl hb)⟩) (fun b o hK hb=>G b o hb (ay.o b o hK hb))
 go_upto_if 23 with fail
 go_cut [166] (fun _ wx=>∃ H cq u,wx=u.setCell ⟨w.heap.size,6,none⟩ (.slice (some ⟨H,0,none⟩) (e.np+1) cq)/\u.ownsRow t.lo 9 1 (.slice (some ⟨H,0,none⟩) (e.np+1) cq) (e.np+1) (dT e.Pv e.np ++ [.string (e.id)])/\(W.alloc (.cells #[.string (e.id)] 9)).grownBy u (Value.slice t.pa e.np t.cp).ownBlock/\(∀ b o,(Value.slice t.pa e.np t.cp).ownBlock=some b->o<e.np * 1->u.cell? ⟨b,o,none⟩=((W.alloc (.cells #[.string (e.id)] 9))).cell? ⟨b,o,none⟩)/\((Value.slice t.pa e.np t.cp).ownBlock=some H\/H=W.heap.size+1))
 case first =>
  have HZ:He (∀ u,(W.alloc (.cells #[.string (e.id)] 9)).grownBy u (Value.slice t.pa e.np t.cp).ownBlock->(∀ b o,(Value.slice t.pa e.np t.cp).ownBlock=some b->o<e.np * 1->u.cell? ⟨b,o,none⟩=((W.alloc (.cells #[.string (e.id)] 9))).cell? ⟨b,o,none⟩)->u.cell? ⟨w.heap.size,6,none⟩=some (.slice t.pa e.np t.cp)/\u.frozen? ⟨w.heap.size,6,none⟩=false):=fun u hg G=>⟨(HG.o u hg G).b 6 (by decide),(HG.o u hg G).f0 6⟩
  clear HX I HR HG
  go_wp2_with (at_builtin;refine fR _ rfl _ _ 27 rfl t.lo 9 i0 (.string ByteArray.empty) 1 16 underlying27 a3 aw an a2 rfl (by decide) _ _ _ rfl (World.ownsRow.alloc HO.o _) ⟨W.heap.size,0,none⟩ 1 1 [.string (e.id)] rfl rfl (aV _ _ _) (bL _) (by decide) am ao (by simp;omega) (W.heap.size+1) (by simp) ?_;intro H cq u Z J ai ba G;have y6:=(HZ.o u J G).1;have g6:=(HZ.o u J G).2)
  go_meet;exact ⟨H,cq,u,rfl,Z,J,G,ai⟩
 case rest =>
  obtain ⟨H,cq,u,rfl,O,ag,G,ah⟩:=hcut;have af:=HG.o u ag G
  have ab:He (fL Kc p wo w (u.setCell ⟨w.heap.size,6,none⟩ (.slice (some ⟨H,0,none⟩) (e.np+1) cq)) bs m q t.lo t.hi (fun o=>(#[.string e.id,.string e.sd,.string e.ty,.bool e.st,.string e.key,.int .i64 e.tm,.slice (some ⟨H,0,none⟩) (e.np+1) cq,.slice t.aa e.na t.ca,.string e.val,.slice t.ga e.ng t.cg]:Array Value)[o]?.getD undef)):=(af.set hp Y 6 _).congr (fun o N=>by
   match o,N with
   | 0,_=>rfl
   | 1,_=>rfl
   | 2,_=>rfl
   | 3,_=>rfl
   | 4,_=>rfl
   | 5,_=>rfl
   | 6,_=>rfl
   | 7,_=>rfl
   | 8,_=>rfl
   | 9,_=>rfl)
  have a4:=aD O H rfl
  have a8:H≠w.heap.size:=by
   rcases ah with q|q
   ·have:=I.o.h H (Or.inl q);omega
   omega
  have ad:Kb w.heap.size u (u.setCell ⟨w.heap.size,6,none⟩ (.slice (some ⟨H,0,none⟩) (e.np+1) cq)):=(Kb.refl _ _).set 6 _;have kq:∀ b,t.lo<=b->b<t.hi->(Value.slice t.pa e.np t.cp).ownBlock≠some b->(u.setCell ⟨w.heap.size,6,none⟩ (.slice (some ⟨H,0,none⟩) (e.np+1) cq)).heap[b]?=W.heap[b]?:=fun b h1 h2 h3=>(ad.2 b (by have:=af.sz;omega) (by omega)).trans ((ag.block b (by simp;omega) (fun e'=>h3 e'.symm)).trans (aj.block b (by omega)))
  have hP:bU (u.setCell ⟨w.heap.size,6,none⟩ (.slice (some ⟨H,0,none⟩) (e.np+1) cq)) t.lo (.slice (some ⟨H,0,none⟩) (e.np+1) cq) (e.np+1) (bM e.Pv e.np (e.id)):=by
   unfold bU;rw [<- sG];exact aM O (fun b hb hl=>ad.2 b hl (fun e'=>a8 (by have hq:H=b:=(by simpa [Value.ownBlock] using hb);omega)))
  have hA:bU (u.setCell ⟨w.heap.size,6,none⟩ (.slice (some ⟨H,0,none⟩) (e.np+1) cq)) t.lo (.slice t.aa e.na t.ca) e.na e.Av:=aM I.o.a (fun b hb _=>kq b (aD I.o.a b hb).1 (I.o.h b (Or.inr (Or.inl hb))) (fun h=>I.o.d b h hb));have hG:bV (u.setCell ⟨w.heap.size,6,none⟩ (.slice (some ⟨H,0,none⟩) (e.np+1) cq)) t.lo (.slice t.ga e.ng t.cg) e.ng e.M e.L:=aM I.o.g (fun b hb _=>kq b (aD I.o.g b hb).1 (I.o.h b (Or.inr (Or.inr hb))) (eW I.o.g I.o.p (by decide) b hb));have N:=I.o.j.ok
  apply_assumption
  refine iA p (e:={ e with np:=e.np+1,Pv:=bM e.Pv e.np e.id }) wo w _ hp Y ab (fun W' hK hD=>HR.o _ _ _ _ _ _ _ W' ?_ ?_ (I.o.xe _).2.1 (I.o.xe _).2.2 ab.o hK hD)
  ·obtain ⟨a',c',U,q1,_⟩:=hP.slw (fun i hi=>by
    by_cases ei:i=e.np
    ·subst ei;rw [cQ];exact aq
    rw [cP _ _ (by omega)];exact N.hp.size i (by omega))
   injection U with U _ e3
   subst U e3;obtain ⟨a',c',U,q2,_⟩:=hA.slw N.ha.size;injection U with U _ e3
   rw [<- U,<- e3] at q2;exact ⟨N.hid,N.hsd,N.hty,N.hkey,N.hval,q1,q2,hG.slg N.hg.size⟩
  refine Or.inr ⟨H,0,rfl,?_⟩;rcases ah with q|q
  ·exact Or.inl ⟨a4.1,I.o.h H (Or.inl q)⟩
  exact Or.inr (by omega)
theorem yZ (M:Nat->ByteArray)(L:Nat->Int)(n:Nat)(x:ByteArray)(z:Int):eQ M L n ++ [.string x,.int .i64 z]=eQ (bM M n x) (bM L n z) (n+1):=by
 rw [kG (M:=M) (L:=L) (M':=bM M n x) (L':=bM L n z) (fun i hi=>⟨(cP _ _ hi).symm,(cP _ _ hi).symm⟩)];have h:=iN (bM M n x) (bM L n z) n;rw [cQ,cQ] at h;exact h
theorem YU (p:Nat){v:Nat}(wo w W:World)(hp:p<wo.heap.size)(Z:wo.heap.size<=w.heap.size)(au:wo.heap.size<=t.lo)(a2:t.hi<=w.heap.size)(hk:k<256)(hv:v<256)(hc:k % 16=12)(hng:e.ng<=1000)(aj:He (od=iT v))(I:He (QO W e t))(HX:He (fL Kc p wo w W bs m q t.lo t.hi (fun o=>((ec e t.pa t.cp t.aa t.ca t.ga t.cg):Array Value)[o]?.getD undef)))(a3:He (∀ b o,Kc b o->(Value.slice t.ga e.ng t.cg).ownBlock=some b->o<e.ng * 2))(HR:He (yL Kc p wo w bs m q t.lo t.hi (gD k v e) R)) :
  Code.wp prog (fZ (Tryz.f39.body.getD .skip) 4) (bodyPost prog Tryz.f39 R) { tmps:=#[.pointer (some ⟨p,0,none⟩),u1,undef,.pointer (some ⟨w.heap.size,0,none⟩),.pointer (some ⟨w.heap.size+1,0,none⟩),.int .i64 (k:Int),.int .i64 (v:Int),.string od,u8,u9,u10,u11,u12,u13,u14,u15,u16,u17,u18,u19,u20,u21,u22,u23,u24,u25,u26,u27,u28,u29,u30,u31,u32,u33,u34,u35,u36,u37,u38,u39,u40,u41,u42,u43,u44,u45,u46,u47,u48,u49,u50,u51,u52,u53,u54,u55,u56,u57,u58,u59,u60,u61,u62,u63,u64,u65,u66,u67,u68,u69,u70,u71,u72,u73,u74,u75,u76,u77,u78,u79,u80,u81,u82,u83,u84,u85,u86,u87,u88,u89,u90,u91,u92,u93,u94,u95,u96,u97,u98,u99,u100,u101,u102,u103,u104,u105,u106,u107,u108,u109,u110,u111,u112,u113,u114,u115,u116,u117,u118,u119,u120,u121,u122,u123,u124,u125,u126,u127,u128,u129,u130,u131,u132,u133,u134,u135,u136,u137,u138,u139,u140,u141,u142,u143,u144,u145,u146,u147,u148,u149,u150,u151,u152,u153,u154,u155,u156,u157,u158,u159,u160,u161,u162,u163,u164,u165,u166],defers:=[] } W:=by
 obtain ⟨i0,a5,ay,ap,a4⟩:=info_parts Tryz.infoGrant;rw [show fZ (Tryz.f39.body.getD .skip) 4=Code.seq _ _ from rfl];obtain ⟨z,hz⟩:∃ z:Int,z=(((v % 3:Nat):Int) - 1) * (1000000+((v / 128:Nat):Int)):=⟨_,rfl⟩
 have b2:-2000000<=z/\z<=2000000:=by
  rcases (by omega:v % 3=0\/v % 3=1\/v % 3=2) with h|h|h <;> rcases (by omega:v / 128=0\/v / 128=1) with g|g <;> rw [hz,h,g] <;> decide
 have ba:gD k v e={ e with ng:=e.ng+1,M:=bM e.M e.ng od,L:=bM e.L e.ng z }:=by rw [hz];unfold gD;simp [hc,aj.o]
 rw [ba] at HR;have ak:((v:Int) % 3 - 1) * (1000000+(v:Int) / 128)=z:=by rw [hz];simp
 have bm:wrap64 (((v:Int) % 3 - 1) * (1000000+(v:Int) / 128))=z:=by rw [ak];unfold wrap64;omega
 clear hz;have bq:(k:Int) % 16=12:=by omega
 have b9:W.cell? ⟨w.heap.size,9,none⟩=some (.slice t.ga e.ng t.cg):=HX.o.b 9 (by decide);have bk:=HX.o.sz;have aw:od.size<=maxLen:=by rw [aj.o];exact nZ (eB v) (by decide)
 have HO:He (W.ownsRow t.lo 127 2 (.slice t.ga e.ng t.cg) e.ng (eQ e.M e.L e.ng)):=I.o.g;have bv:t.lo<=W.heap.size:=by have:=I.o.j.hh;omega
 have ao:e.ng+1<=maxLen:=by unfold maxLen;omega
 have aq:(e.ng+1) * 24<=140737488355328:=by omega
 have ai:Below W.heap.size W (W.alloc (.cells #[.string od,.int .i64 z] 127)):=bA;have HG:He (∀ u,(W.alloc (.cells #[.string od,.int .i64 z] 127)).grownBy u (Value.slice t.ga e.ng t.cg).ownBlock->(∀ b o,(Value.slice t.ga e.ng t.cg).ownBlock=some b->o<e.ng * 2->u.cell? ⟨b,o,none⟩=((W.alloc (.cells #[.string od,.int .i64 z] 127))).cell? ⟨b,o,none⟩)->fL Kc p wo w u bs m q t.lo t.hi (fun o=>((ec e t.pa t.cp t.aa t.ca t.ga t.cg):Array Value)[o]?.getD undef)):=fun u hg G=>(HX.o.below ai).grow hp au a2 Z hg (fun b hb=>Or.inl ⟨(aD I.o.g b hb).1,I.o.h b (Or.inr (Or.inr hb))⟩) (fun b o hK hb=>G b o hb (a3.o b o hK hb))
 go_upto_if 23 with fail
 go_cut [166] (fun _ wx=>∃ H cq u,wx=(u.setCell ⟨w.heap.size,9,none⟩ (.slice (some ⟨H,0,none⟩) (e.ng+1) cq))/\u.ownsRow t.lo 127 2 (.slice (some ⟨H,0,none⟩) (e.ng+1) cq) (e.ng+1) (eQ e.M e.L e.ng ++ [.string od,.int .i64 z])/\(W.alloc (.cells #[.string od,.int .i64 z] 127)).grownBy u (Value.slice t.ga e.ng t.cg).ownBlock/\(∀ b o,(Value.slice t.ga e.ng t.cg).ownBlock=some b->o<e.ng * 2->u.cell? ⟨b,o,none⟩=((W.alloc (.cells #[.string od,.int .i64 z] 127))).cell? ⟨b,o,none⟩)/\((Value.slice t.ga e.ng t.cg).ownBlock=some H\/H=W.heap.size+1))
 case first =>
  have HZ:He (∀ u,(W.alloc (.cells #[.string od,.int .i64 z] 127)).grownBy u (Value.slice t.ga e.ng t.cg).ownBlock->(∀ b o,(Value.slice t.ga e.ng t.cg).ownBlock=some b->o<e.ng * 2->u.cell? ⟨b,o,none⟩=((W.alloc (.cells #[.string od,.int .i64 z] 127))).cell? ⟨b,o,none⟩)->u.cell? ⟨w.heap.size,9,none⟩=some (.slice t.ga e.ng t.cg)/\u.frozen? ⟨w.heap.size,9,none⟩=false):=fun u hg G=>⟨(HG.o u hg G).b 9 (by decide),(HG.o u hg G).f0 9⟩
  clear HX I HR HG
  go_wp2_with (at_builtin;refine fR _ rfl _ _ 28 rfl t.lo 127 i0 (.agg #[.string ByteArray.empty,.int .i64 0]) 2 24 underlying28 a5 ay ap a4 rfl (by decide) _ _ _ rfl (World.ownsRow.alloc HO.o _) ⟨W.heap.size,0,none⟩ 1 1 [.string od,.int .i64 z] rfl rfl (eO _ _ _ _) (fP _ _) (by decide) ao aq (by simp;omega) (W.heap.size+1) (by simp) ?_;intro H cq u Y J ah bc G;have y6:=(HZ.o u J G).1;have g6:=(HZ.o u J G).2)
  go_meet;exact ⟨H,cq,u,rfl,Y,J,G,ah⟩
 case rest =>
  obtain ⟨H,cq,u,rfl,O,af,G,ag⟩:=hcut;have ae:=HG.o u af G
  have ad:He (fL Kc p wo w (u.setCell ⟨w.heap.size,9,none⟩ (.slice (some ⟨H,0,none⟩) (e.ng+1) cq)) bs m q t.lo t.hi (fun o=>(#[.string e.id,.string e.sd,.string e.ty,.bool e.st,.string e.key,.int .i64 e.tm,.slice t.pa e.np t.cp,.slice t.aa e.na t.ca,.string e.val,.slice (some ⟨H,0,none⟩) (e.ng+1) cq]:Array Value)[o]?.getD undef)):=(ae.set hp Z 9 _).congr (fun o N=>by
   match o,N with
   | 0,_=>rfl
   | 1,_=>rfl
   | 2,_=>rfl
   | 3,_=>rfl
   | 4,_=>rfl
   | 5,_=>rfl
   | 6,_=>rfl
   | 7,_=>rfl
   | 8,_=>rfl
   | 9,_=>rfl)
  have a6:=aD O H rfl
  have bb:H≠w.heap.size:=by
   rcases ag with q|q
   ·have:=I.o.h H (Or.inr (Or.inr q));omega
   omega
  have ab:Kb w.heap.size u (u.setCell ⟨w.heap.size,9,none⟩ (.slice (some ⟨H,0,none⟩) (e.ng+1) cq)):=(Kb.refl _ _).set 9 _;have kq:∀ b,t.lo<=b->b<t.hi->(Value.slice t.ga e.ng t.cg).ownBlock≠some b->(u.setCell ⟨w.heap.size,9,none⟩ (.slice (some ⟨H,0,none⟩) (e.ng+1) cq)).heap[b]?=W.heap[b]?:=fun b h1 h2 h3=>(ab.2 b (by have:=ae.sz;omega) (by omega)).trans ((af.block b (by simp;omega) (fun e'=>h3 e'.symm)).trans (ai.block b (by omega)))
  have hG:bV (u.setCell ⟨w.heap.size,9,none⟩ (.slice (some ⟨H,0,none⟩) (e.ng+1) cq)) t.lo (.slice (some ⟨H,0,none⟩) (e.ng+1) cq) (e.ng+1) (bM e.M e.ng od) (bM e.L e.ng z):=by
   unfold bV;rw [<- yZ];exact aM O (fun b hb hl=>ab.2 b hl (fun e'=>bb (by have hq:H=b:=(by simpa [Value.ownBlock] using hb);omega)))
  have hA:bU (u.setCell ⟨w.heap.size,9,none⟩ (.slice (some ⟨H,0,none⟩) (e.ng+1) cq)) t.lo (.slice t.aa e.na t.ca) e.na e.Av:=aM I.o.a (fun b hb _=>kq b (aD I.o.a b hb).1 (I.o.h b (Or.inr (Or.inl hb))) (eW I.o.a I.o.g (by decide) b hb));have hP:bU (u.setCell ⟨w.heap.size,9,none⟩ (.slice (some ⟨H,0,none⟩) (e.ng+1) cq)) t.lo (.slice t.pa e.np t.cp) e.np e.Pv:=aM I.o.p (fun b hb _=>kq b (aD I.o.p b hb).1 (I.o.h b (Or.inl hb)) (eW I.o.p I.o.g (by decide) b hb));have N:=I.o.j.ok
  apply_assumption
  refine iA p (e:={ e with ng:=e.ng+1,M:=bM e.M e.ng od,L:=bM e.L e.ng z }) wo w _ hp Z ad (fun W' hK hD=>HR.o _ _ _ _ _ _ _ W' ?_ (I.o.xe _).1 (I.o.xe _).2.1 ?_ ad.o hK hD)
  ·obtain ⟨a',c',U,q1,_⟩:=hP.slw N.hp.size
   injection U with U _ e3
   rw [<- U,<- e3] at q1;obtain ⟨a',c',U,q2,_⟩:=hA.slw N.ha.size;injection U with U _ e3
   rw [<- U,<- e3] at q2
   exact ⟨N.hid,N.hsd,N.hty,N.hkey,N.hval,q1,q2,hG.slg (fun i hi=>by
    by_cases ei:i=e.ng
    ·subst ei;rw [cQ];exact aw
    rw [cP _ _ (by omega)];exact N.hg.size i (by omega))⟩
  refine Or.inr ⟨H,0,rfl,?_⟩;rcases ag with q|q
  ·exact Or.inl ⟨a6.1,I.o.h H (Or.inr (Or.inr q))⟩
  exact Or.inr (by omega)
end Go.Proofs.YtpfeegcdlikegaaGreat
