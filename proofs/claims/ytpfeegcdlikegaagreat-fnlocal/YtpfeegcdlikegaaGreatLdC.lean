import Derived.Test.YtpfeegcdlikegaaGreatLdE
set_option maxHeartbeats 16000000
set_option maxRecDepth 100000
namespace Go.Proofs.YtpfeegcdlikegaaGreat
open Go.RowKit Go.Proofs.Tryz
theorem CP {P:Nat->Prop}{W:World}{base cap:Nat}{a:Option Addr}{l:List aE}(h:aU W base (.slice a l.length cap) l)(I:∀ b,(Value.slice a l.length cap).ownBlock=some b->P b):Ip P a l.length:=by
 rcases cX h with ⟨_,H⟩|⟨g,u,e,_⟩
 ·exact Or.inl H
 injection e with G
 subst G;exact Or.inr ⟨g,0,rfl,I g rfl⟩
theorem tM {W:World}{base st n cap:Nat}{t:TypeId}{a:Option Addr}{xs:List Value}(h:W.ownsRow base t st (.slice a n cap) n xs)(b off:Nat)(ha:a=some ⟨b,off,none⟩):off=0/\(Value.slice a n cap).ownBlock=some b:=by
 rcases cX h with ⟨e,_⟩|⟨g,G,e,_⟩
 ·injection e with u
  rw [u] at ha;cases ha
 injection e with u
 subst u;injection ha with ha
 injection ha with H I
 subst H I;exact ⟨rfl,rfl⟩
theorem dE.cK {W W':World}{a:Option Addr}{n cap:Nat}{S:Nat->ByteArray}(h:dE W a n cap S)(G:W.heap.size<=W'.heap.size)(H:∀ b off o,a=some ⟨b,off,none⟩->o<n * 1->W'.cell? ⟨b,off+o,none⟩=W.cell? ⟨b,off+o,none⟩):dE W' a n cap S :=
 ⟨h.le,h.max,h.size,h.cells.imp id fun ⟨b,off,e,u,c⟩=>⟨b,off,e,nT u G,fun i hi=>(H b off i e (by omega)).trans (c i hi)⟩⟩
theorem gN.cK {W W':World}{a:Option Addr}{n cap:Nat}{M:Nat->ByteArray}{L:Nat->Int}(h:gN W a n cap M L)(H:W.heap.size<=W'.heap.size)(G:∀ b off o,a=some ⟨b,off,none⟩->o<n * 2->W'.cell? ⟨b,off+o,none⟩=W.cell? ⟨b,off+o,none⟩):gN W' a n cap M L :=
 ⟨h.le,h.max,h.size,h.cells.imp id fun ⟨b,off,e,u,c,d⟩=>⟨b,off,e,nT u H,fun i hi=>(G b off (i * 2) e (by omega)).trans (c i hi),fun i hi=>(G b off (i * 2+1) e (by omega)).trans (d i hi)⟩⟩
def UT (e:Ev)(t:Ls)(b o:Nat):Prop:=((Value.slice t.pa e.np t.cp).ownBlock=some b/\o<e.np * 1)\/((Value.slice t.aa e.na t.ca).ownBlock=some b/\o<e.na * 1)\/((Value.slice t.ga e.ng t.cg).ownBlock=some b/\o<e.ng * 2)
theorem QO.cK {W W':World}{e:Ev}{t:Ls}(h:QO W e t)(I:W.heap.size<=W'.heap.size)(J:∀ b o,UT e t b o->W'.cell? ⟨b,o,none⟩=W.cell? ⟨b,o,none⟩):cI W' e t.pa t.cp t.aa t.ca t.ga t.cg:=by
 have ok:=h.j.ok;refine ⟨ok.hid,ok.hsd,ok.hty,ok.hkey,ok.hval,ok.hp.cK I fun b off o e H=>?_,ok.ha.cK I fun b off o e H=>?_,ok.hg.cK I fun b off o e H=>?_⟩
 ·obtain ⟨u,G⟩:=tM h.p b off e
  rw [u,Nat.zero_add];exact J b o (Or.inl ⟨G,H⟩)
 ·obtain ⟨u,G⟩:=tM h.a b off e
  rw [u,Nat.zero_add];exact J b o (Or.inr (Or.inl ⟨G,H⟩))
 obtain ⟨u,G⟩:=tM h.g b off e;rw [u,Nat.zero_add];exact J b o (Or.inr (Or.inr ⟨G,H⟩))
theorem uR (W:World)(a:Addr):W.drew.cell? a=W.cell? a:=rfl
theorem QF (c:Nat->Value)(V:Nat)(W:World)(hz:∀ o,o<10->∃ v,W.cell? ⟨V,o,none⟩=some v):∀ o,o<10->(JZ c V 10 W).drew.cell? ⟨V,o,none⟩=some (c o):=fun o u=>by
 rw [uR];exact rZ c V W (hz o u) 10 u
structure vQ (p:Nat)(w w3 W:World)(bs:Nat->Nat)(m q R V rb rc n:Nat)(E:Nat->Ev)(T:Nat->Ls)(sa:Option Addr)(sc:Nat)(s:List aE):Prop where
 k:yO p w W bs m q R V rb rc n E sa sc s
 so:aU W (R+1) (.slice sa s.length sc) s
 sn:∀ b,(Value.slice sa s.length sc).ownBlock=some b->b≠V
 ok:bK s
 len:s.length<=900
 rv:bY QO W w3.heap.size (.slice (some ⟨rb,0,none⟩) n rc) n E T
 hh:∀ i,i<n->(T i).hi<=R
 hb:rb<R
 l3:w.heap.size+2<=w3.heap.size
 d3:bR p w3 W bs m q
 d0:w.grownBy w3 (some p)
 bd:∀ i,i<n->(E i).np<=1000/\(E i).na<=1000/\(E i).ng<=1000
section
variable {p:Nat} {bs:Nat->Nat} {m q R V rb rc n:Nat} {E:Nat->Ev} {T:Nat->Ls} {sa:Option Addr} {sc:Nat} {s:List aE} {w w3 W W':World}
theorem vQ.drew (h:vQ p w w3 W bs m q R V rb rc n E T sa sc s):vQ p w w3 W.drew bs m q R V rb rc n E T sa sc s:=⟨h.k.drew,h.so.below kB.drew,h.sn,h.ok,h.len,h.rv.below LK kB.drew,h.hh,h.hb,h.l3,AY h.d3,h.d0,h.bd⟩
theorem IA {w W:World}(h:bR p w W bs m q)(hp:p<w.heap.size)(u:w.heap.size<=V)(c:Nat->Value):∀ j,bR p w (JZ c V j W) bs m q
 | 0=>h
 | j+1=>(IA h hp u c j).own u hp j (c j)
theorem vQ.fiw (h:vQ p w w3 W bs m q R V rb rc n E T sa sc s)(hp:p<w.heap.size)(c:Nat->Value):vQ p w w3 (JZ c V 10 W) bs m q R V rb rc n E T sa sc s:=by
 have u:=CV c V W 10;have lv:=h.k.lv;have lr:=h.k.lr;have l3:=h.l3;have G:=(h.rv.at uF).2.1;have hb:=h.hb;exact ⟨h.k.fiw hp c 10,vP h.so (fun b hb=>u.2 b (aD h.so b hb).2 (h.sn b hb)),h.sn,h.ok,h.len,h.rv.kx uF u (fun e=>by have e:rb=V:=(by simpa [Value.ownBlock] using e);omega) (fun i hi=>Or.inr (by have:=h.hh i hi;omega)),h.hh,hb,l3,IA h.d3 (by omega) (by omega) c 10,h.d0,h.bd⟩
theorem vQ.evP (h:vQ p w w3 W bs m q R V rb rc n E T sa sc s){i:Nat}(hi:i<n):yN (fun b=>w3.heap.size<=b/\b<R) W (E i) (T i).pa (T i).cp (T i).aa (T i).ca (T i).ga (T i).cg:=by
 have q:=(h.rv.q i hi).j;have lo:=h.rv.low i hi;have hh:=h.hh i hi;exact ⟨q.ok,q.ip.imp id fun ⟨b,o,e,q1,u⟩=>⟨b,o,e,by omega⟩,q.ia.imp id fun ⟨b,o,e,q1,u⟩=>⟨b,o,e,by omega⟩,q.ig.imp id fun ⟨b,o,e,q1,u⟩=>⟨b,o,e,by omega⟩⟩
theorem vQ.pv (h:vQ p w w3 W bs m q R V rb rc n E T sa sc s){b:Nat}(hb:w3.heap.size<=b/\b<R):PV w R V b:=by
 have:=h.l3
 have:=h.k.lv;exact ⟨by omega,by omega,by omega⟩
theorem vQ.rmR (h:vQ p w w3 W bs m q R V rb rc n E T sa sc s):EY (fun b=>w3.heap.size<=b/\b<R) W rb rc n E:=by
 obtain ⟨H,I,u,G⟩:=h.rv.at uF;exact ⟨u.le,u.max,⟨I,h.hb⟩,H,fun i hi=>⟨_,_,_,_,_,_,G i hi,h.evP hi⟩⟩
theorem vQ.spoil {q' H:Nat}{G:Option Addr}{U:List aE}{e:Ev}{pa aa ga:Option Addr}{cp ca cg:Nat}(h:vQ p w w3 W bs m q R V rb rc n E T sa sc s)(hp:p<w.heap.size)(hv:∀ o,o<10->W.cell? ⟨V,o,none⟩=some (((ec e pa cp aa ca ga cg):Array Value)[o]?.getD undef))(he:yN (fun b=>PV w R V b/\(Value.slice sa s.length sc).ownBlock≠some b) W e pa cp aa ca ga cg)
  (I:aU W' (R+1) (.slice G U.length H) U) (ab:bK U) (Z:∀ b,(Value.slice G U.length H).ownBlock=some b->(Value.slice sa s.length sc).ownBlock=some b\/W.heap.size<=b) (hr:nI W' p bs m q') (hk:Kp (PvB p (.slice sa s.length sc)) W W'):LM p w W' bs m q' R V rb rc n E G H U e pa cp aa ca ga cg:=by
 have lv:=h.k.lv;have lr:=h.k.lr;have l3:=h.l3;have vs:=h.k.vs;have u:∀ b,(Value.slice sa s.length sc).ownBlock=some b->R+1<=b:=fun b hb=>(aD h.so b hb).1
 have kb:∀ b,w.heap.size<=b->b<W.heap.size->(Value.slice sa s.length sc).ownBlock≠some b->W'.heap[b]?=W.heap[b]?:=fun b J N h3=>hk.block b N (fun hP=>hP.elim (fun e=>by omega) h3)
 have kR:=kb R (by omega) (by omega) (fun e=>by have:=u _ e;omega);have Y:=kb V (by omega) vs (fun e=>h.sn _ e rfl);have O:=hk.size;obtain ⟨a2,c2,e2,ad⟩:=I.sl ab.at;injection e2 with e3 _ e4
 subst e3 e4
 exact ⟨⟨h.k.dz.kept (fun b J N=>kb b J (by omega) (fun e=>by have:=u _ e;omega)),(World.cell?_of_block (a:=⟨R,0,none⟩) kR).trans h.k.r,(World.frozen?_of_block (a:=⟨R,0,none⟩) kR).trans h.k.rf,fun o I=>(h.k.vz o I).imp fun _ q=>(World.cell?_of_block (a:=⟨V,o,none⟩) Y).trans q,fun o=>(World.frozen?_of_block (a:=⟨V,o,none⟩) Y).trans (h.k.fv o),lr,lv,by omega,h.k.dw.kp hr hk (fun b hb=>by have:=u b hb;omega),
  (h.rmR.kP ⟨O,fun b J N=>kb b (by omega) N (fun e=>by have:=u _ e;omega)⟩).wide (fun b hb=>h.pv hb),ad,CP I (fun b hb=>by
   have:=(aD I b hb).1;exact ⟨by omega,by omega,(Z b hb).elim (h.sn b) (fun _=>by omega)⟩)⟩,fun o I=>(World.cell?_of_block (a:=⟨V,o,none⟩) Y).trans (hv o I),(he.kP ⟨O,fun b J N=>kb b (by have:=J.1.1;omega) N J.2⟩).wide (fun b hb=>hb.1)⟩
theorem vQ.spoilE {q' j:Nat}(h:vQ p w w3 W bs m q R V rb rc n E T sa sc s)(u:j<n)(J:W.heap.size<=W'.heap.size)(G:∀ b,b<W.heap.size->b≠p->(b<(T j).lo\/(T j).hi<=b)->W'.heap[b]?=W.heap[b]?)(Z:bR p w3 W' bs m q')(hc:∀ b o,UT (E j) (T j) b o->W'.cell? ⟨b,o,none⟩=W.cell? ⟨b,o,none⟩)(hp:p<w.heap.size):yO p w W' bs m q' R V rb rc n E sa sc s:=by
 have lv:=h.k.lv;have lr:=h.k.lr;have l3:=h.l3;have vs:=h.k.vs;have lo:=h.rv.low j u;have hh:=h.hh j u;have O:=G R (by omega) (by omega) (Or.inr hh);have Y:=G V (by omega) (by omega) (Or.inr (by omega));obtain ⟨I,H,U,h4⟩:=h.rv.at uF;have N:=h.rv.apart rb rfl j u;have kr:=G rb I (by omega) N;refine ⟨h.k.dz.kept (fun b I H=>G b (by omega) (by omega) (Or.inl (by omega))),(World.cell?_of_block (a:=⟨R,0,none⟩) O).trans h.k.r,(World.frozen?_of_block (a:=⟨R,0,none⟩) O).trans h.k.rf,fun o ho=>(h.k.vz o ho).imp fun _ q=>(World.cell?_of_block (a:=⟨V,o,none⟩) Y).trans q,fun o=>(World.frozen?_of_block (a:=⟨V,o,none⟩) Y).trans (h.k.fv o),lr,lv,by omega,⟨Z.1,h.d0.andThen Z.2 (fun _ u=>Or.inr u)⟩,⟨U.le,U.max,h.pv ⟨H,h.hb⟩,by omega,fun i hi=>⟨_,_,_,_,_,_,(h4 i hi).kc (fun x=>World.cell?_of_block (a:=⟨rb,x,none⟩) kr),?_⟩⟩,?_,h.k.si⟩
 ·by_cases e:i=j
  ·subst e
   have:=h.evP hi;exact ⟨(h.rv.q i hi).cK J hc,this.p.wide (fun b hb=>h.pv hb),this.a.wide (fun b hb=>h.pv hb),this.g.wide (fun b hb=>h.pv hb)⟩
  have q:=(h.rv.q i hi).j;have low:=h.rv.low i hi;have ad:=h.hh i hi;have hE:yN (fun b=>(T i).lo<=b/\b<(T i).hi) W (E i) (T i).pa (T i).cp (T i).aa (T i).ca (T i).ga (T i).cg:=⟨q.ok,q.ip,q.ia,q.ig⟩;refine (hE.kP ⟨J,fun b I H=>G b H (by omega) ?_⟩).wide (fun b hb=>h.pv (by omega));rcases Nat.lt_or_ge i j with e'|e'
  ·have:=h.rv.ord i j e' u
   exact Or.inl (by omega)
  have:=h.rv.ord j i (by omega) hi;exact Or.inr (by omega)
 exact h.k.sl.kP (CP h.so (P:=fun b=>R<b) (fun b hb=>(aD h.so b hb).1)) ⟨J,fun b I H=>G b H (by omega) (Or.inr (by omega))⟩
end
theorem a20 {W:World}{e:Ev}{t:Ls}(h:QO W e t):∀ b o,UT e t b o->(Value.slice t.pa e.np t.cp).ownBlock=some b->o<e.np * 1:=fun b o hK hb=>by
 rcases hK with hK|hK|hK
 ·exact hK.2
 ·exact absurd hK.1 (h.d b hb)
 exact absurd hb (eW h.g h.p (by decide) b hK.1)
theorem ZN {W:World}{e:Ev}{t:Ls}(h:QO W e t):∀ b o,UT e t b o->(Value.slice t.aa e.na t.ca).ownBlock=some b->o<e.na * 1:=fun b o hK hb=>by
 rcases hK with hK|hK|hK
 ·exact absurd hb (h.d b hK.1)
 ·exact hK.2
 exact absurd hb (eW h.g h.a (by decide) b hK.1)
theorem ZO {W:World}{e:Ev}{t:Ls}(h:QO W e t):∀ b o,UT e t b o->(Value.slice t.ga e.ng t.cg).ownBlock=some b->o<e.ng * 2:=fun b o hK hb=>by
 rcases hK with hK|hK|hK
 ·exact absurd hb (eW h.p h.g (by decide) b hK.1)
 ·exact absurd hb (eW h.a h.g (by decide) b hK.1)
 exact hK.2
theorem XK {p:Nat}{W:World}{e:Ev}{t:Ls}(h:QO W e t)(hp:p<t.lo):∀ b o,UT e t b o->b<W.heap.size/\b≠p:=fun b o hK=>by
 rcases hK with hK|hK|hK
 ·have:=aD h.p b hK.1;omega
 ·have:=aD h.a b hK.1;omega
 have:=aD h.g b hK.1;omega
theorem ldC {p:Nat}{bs:Nat->Nat}{m q k v R V rb rc n:Nat}{E:Nat->Ev}{T:Nat->Ls}{sa:Option Addr}{sc:Nat}{s:List aE}{e:Ev}{pa aa ga:Option Addr}{cp ca cg:Nat}{u1 u3 u6 u9 u12 u13 u15 u16 u17 u18 u19 u20 u21 u22 u23 u24 u25 u26 u27 u28 u29 u30 u31 u32 u33 u34 u35 u36 u37 u38 u39 u40 u41 u42 u43 u44 u45 u46 u47 u48 u49 u50 u51 u52 u53 u54 u55 u56 u57 u58 u59 u60 u61 u62 u63 u64 u65 u66 u67 u68 u69 u70 u71 u72 u73 u74 u75 u76 u77 u78 u79 u80 u81 u82 u83 u84 u85 u86 u87 u88 u89 u90 u91 u92 u93 u94 u95 u96 u97 u98 u99 u100 u101 u102 u103 u104 u105 u106 u107 u108 u109 u110 u111 u112 u113 u114 u115 u116 u117 u118 u119:Value}(w w3 W:World)(hp:p<w.heap.size)(hn:0<n)(u:He (vQ p w w3 W bs m q R V rb rc n E T sa sc s))(Y:He (∀ o,o<10->W.cell? ⟨V,o,none⟩=some (((ec e pa cp aa ca ga cg):Array Value)[o]?.getD undef)))(Z:He (yN (fun b=>PV w R V b/\(Value.slice sa s.length sc).ownBlock≠some b) W e pa cp aa ca ga cg)) :
  Code.wp prog (fZ (Tryz.f11.body.getD .skip) 10) (bodyPost prog Tryz.f11 (UH p w)) { tmps:=#[.pointer (some ⟨p,0,none⟩),u1,.pointer (some ⟨w.heap.size,0,none⟩),u3,.pointer (some ⟨w.heap.size+1,0,none⟩),.int .i64 (k:Int),u6,.int .i64 (v:Int),.pointer (some ⟨R,0,none⟩),u9,.int .i64 (n:Int),.slice sa s.length sc,u12,u13,.pointer (some ⟨V,0,none⟩),u15,u16,u17,u18,u19,u20,u21,u22,u23,u24,u25,u26,u27,u28,u29,u30,u31,u32,u33,u34,u35,u36,u37,u38,u39,u40,u41,u42,u43,u44,u45,u46,u47,u48,u49,u50,u51,u52,u53,u54,u55,u56,u57,u58,u59,u60,u61,u62,u63,u64,u65,u66,u67,u68,u69,u70,u71,u72,u73,u74,u75,u76,u77,u78,u79,u80,u81,u82,u83,u84,u85,u86,u87,u88,u89,u90,u91,u92,u93,u94,u95,u96,u97,u98,u99,u100,u101,u102,u103,u104,u105,u106,u107,u108,u109,u110,u111,u112,u113,u114,u115,u116,u117,u118,u119],defers:=[] } W:=by
 rw [show fZ (Tryz.f11.body.getD .skip) 10=Code.seq _ _ from rfl]
 by_cases c3:k % 8=3
 ·have i0:(k:Int) % 8=3:=by omega
  have i1:¬ (k:Int) % 16=15:=by omega
  obtain ⟨j,hj⟩:∃ j,j=v % n:=⟨_,rfl⟩;have I:j<n:=by rw [hj];exact Nat.mod_lt _ hn
  go_upto_if 88 with fail
  go_cut [119] (fun _ wx=>He (vQ p w w3 wx bs m q R V rb rc n E T sa sc s/\∀ o,o<10->wx.cell? ⟨V,o,none⟩=some ((#[.string (E j).id,.string (E j).sd,.string (E j).ty,.bool (E j).st,.string (E j).key,.int .i64 (E j).tm,.slice (T j).pa (E j).np (T j).cp,.slice (T j).aa (E j).na (T j).ca,.string (E j).val,.slice (T j).ga (E j).ng (T j).cg]:Array Value)[o]?.getD undef)))
  case first =>
   clear Z Y;have bi:¬ n=0:=by omega
   have a8:(v:Int).tmod (n:Int)=(j:Int):=by rw [Int.tmod_eq_emod_of_nonneg (by omega),hj];exact (Int.natCast_emod v n).symm
   have J:He (_):=(u.o.fiw hp (fun o=>(#[.string (E j).id,.string (E j).sd,.string (E j).ty,.bool (E j).st,.string (E j).key,.int .i64 (E j).tm,.slice (T j).pa (E j).np (T j).cp,.slice (T j).aa (E j).na (T j).ca,.string (E j).val,.slice (T j).ga (E j).ng (T j).cg]:Array Value)[o]?.getD undef)).drew;have HY:He (∀ o,o<10->(JZ (fun o=>(#[.string (E j).id,.string (E j).sd,.string (E j).ty,.bool (E j).st,.string (E j).key,.int .i64 (E j).tm,.slice (T j).pa (E j).np (T j).cp,.slice (T j).aa (E j).na (T j).ca,.string (E j).val,.slice (T j).ga (E j).ng (T j).cg]:Array Value)[o]?.getD undef) V 10 W).drew.cell? ⟨V,o,none⟩=some ((#[.string (E j).id,.string (E j).sd,.string (E j).ty,.bool (E j).st,.string (E j).key,.int .i64 (E j).tm,.slice (T j).pa (E j).np (T j).cp,.slice (T j).aa (E j).na (T j).ca,.string (E j).val,.slice (T j).ga (E j).ng (T j).cg]:Array Value)[o]?.getD undef)):=QF (fun o=>(#[.string (E j).id,.string (E j).sd,.string (E j).ty,.bool (E j).st,.string (E j).key,.int .i64 (E j).tm,.slice (T j).pa (E j).np (T j).cp,.slice (T j).aa (E j).na (T j).ca,.string (E j).val,.slice (T j).ga (E j).ng (T j).cg]:Array Value)[o]?.getD undef) V W u.o.k.vz;have r0:=u.o.k.r;have fv:=u.o.k.fv;have b9:=u.o.k.rm.le;have ax:=u.o.k.rm.max;unfold maxLen at ax;clear hj;have j0:(0:Int)<=(j:Int):=by omega
   have j1:(j:Int)<(n:Int):=by omega
   have nV:rb≠V:=by have:=u.o.hb;have:=u.o.k.lv;omega
   have ak:=u.o.rv.at uF
   have a6:He ((fun X=>X.cell? ⟨R,0,none⟩=some (.slice (some ⟨rb,0,none⟩) n rc)/\X.cell? ⟨rb,j * 10,none⟩=some (.string (E j).id)/\X.cell? ⟨rb,j * 10+1,none⟩=some (.string (E j).sd)/\X.cell? ⟨rb,j * 10+2,none⟩=some (.string (E j).ty)/\X.cell? ⟨rb,j * 10+3,none⟩=some (.bool (E j).st)/\X.cell? ⟨rb,j * 10+4,none⟩=some (.string (E j).key)/\X.cell? ⟨rb,j * 10+5,none⟩=some (.int .i64 (E j).tm)/\X.cell? ⟨rb,j * 10+6,none⟩=some (.slice (T j).pa (E j).np (T j).cp)/\X.cell? ⟨rb,j * 10+7,none⟩=some (.slice (T j).aa (E j).na (T j).ca)/\X.cell? ⟨rb,j * 10+8,none⟩=some (.string (E j).val)/\X.cell? ⟨rb,j * 10+9,none⟩=some (.slice (T j).ga (E j).ng (T j).cg)) W.drew):=by
    obtain ⟨d0,d1,d2,d3,d4,d5,d6,d7,d8,d9⟩:=ak.2.2.2 j I;exact ⟨r0,d0,d1,d2,d3,d4,d5,d6,d7,d8,d9⟩
   have bf:He ((fun X=>X.cell? ⟨R,0,none⟩=some (.slice (some ⟨rb,0,none⟩) n rc)/\X.cell? ⟨rb,j * 10,none⟩=some (.string (E j).id)/\X.cell? ⟨rb,j * 10+1,none⟩=some (.string (E j).sd)/\X.cell? ⟨rb,j * 10+2,none⟩=some (.string (E j).ty)/\X.cell? ⟨rb,j * 10+3,none⟩=some (.bool (E j).st)/\X.cell? ⟨rb,j * 10+4,none⟩=some (.string (E j).key)/\X.cell? ⟨rb,j * 10+5,none⟩=some (.int .i64 (E j).tm)/\X.cell? ⟨rb,j * 10+6,none⟩=some (.slice (T j).pa (E j).np (T j).cp)/\X.cell? ⟨rb,j * 10+7,none⟩=some (.slice (T j).aa (E j).na (T j).ca)/\X.cell? ⟨rb,j * 10+8,none⟩=some (.string (E j).val)/\X.cell? ⟨rb,j * 10+9,none⟩=some (.slice (T j).ga (E j).ng (T j).cg)) (JZ (fun o=>(#[.string (E j).id,.string (E j).sd,.string (E j).ty,.bool (E j).st,.string (E j).key,.int .i64 (E j).tm,.slice (T j).pa (E j).np (T j).cp,.slice (T j).aa (E j).na (T j).ca,.string (E j).val,.slice (T j).ga (E j).ng (T j).cg]:Array Value)[o]?.getD undef) V 10 W).drew):=by
    obtain ⟨d0,d1,d2,d3,d4,d5,d6,d7,d8,d9⟩:=(J.o.rv.at uF).2.2.2 j I;exact ⟨J.o.k.r,d0,d1,d2,d3,d4,d5,d6,d7,d8,d9⟩
   obtain ⟨o0,c0⟩:=u.o.k.vz 0 (by decide);obtain ⟨o1,c1⟩:=u.o.k.vz 1 (by decide);obtain ⟨o2,c2⟩:=u.o.k.vz 2 (by decide);obtain ⟨o3,c3⟩:=u.o.k.vz 3 (by decide);obtain ⟨o4,c4⟩:=u.o.k.vz 4 (by decide);obtain ⟨o5,c5⟩:=u.o.k.vz 5 (by decide);obtain ⟨o6,c6⟩:=u.o.k.vz 6 (by decide);obtain ⟨o7,c7⟩:=u.o.k.vz 7 (by decide);obtain ⟨o8,c8⟩:=u.o.k.vz 8 (by decide);obtain ⟨o9,c9⟩:=u.o.k.vz 9 (by decide);clear u ak
   go_wp2_with fail
   refine wp_region_held_drew (S:=fun X=>X.cell? ⟨R,0,none⟩=some (.slice (some ⟨rb,0,none⟩) n rc)/\X.cell? ⟨rb,j * 10,none⟩=some (.string (E j).id)/\X.cell? ⟨rb,j * 10+1,none⟩=some (.string (E j).sd)/\X.cell? ⟨rb,j * 10+2,none⟩=some (.string (E j).ty)/\X.cell? ⟨rb,j * 10+3,none⟩=some (.bool (E j).st)/\X.cell? ⟨rb,j * 10+4,none⟩=some (.string (E j).key)/\X.cell? ⟨rb,j * 10+5,none⟩=some (.int .i64 (E j).tm)/\X.cell? ⟨rb,j * 10+6,none⟩=some (.slice (T j).pa (E j).np (T j).cp)/\X.cell? ⟨rb,j * 10+7,none⟩=some (.slice (T j).aa (E j).na (T j).ca)/\X.cell? ⟨rb,j * 10+8,none⟩=some (.string (E j).val)/\X.cell? ⟨rb,j * 10+9,none⟩=some (.slice (T j).ga (E j).ng (T j).cg)) (by kernel_rfl) ?_ (fun hHeld=>?_)
   ·(try dsimp only);exact a6.o
   refine tq 0 rfl ?_;simp only [si];refine tq 1 rfl ?_;simp only [si];refine tq 2 rfl ?_;simp only [si];refine tq 3 rfl ?_;simp only [si];refine wpAnyH_take (i:=4) (v:=.int .i64 (j:Int)) rfl (by kernel_rfl) (by kernel_rfl) (by kernel_rfl) (fun _ _ _ h=>h) (Or.inl ⟨by rfl,?hm5⟩) (by assumption) ?_
   case hm5=>(intro w h;(try dsimp only at h);go_simp;try rw [if_neg bi,a8])
   simp only [si];refine tq 5 rfl ?_;simp only [si];refine tq 6 rfl ?_;simp only [si];refine rd 7 rfl fun K hK=>?_
   go_simp;refine hK.out _ _ ?_ (fun hHeld=>?_)
   ·(try dsimp only);exact bf.o
   clear hK K;try simp only [si]
   refine wpAnyH_done (by kernel_rfl) ?_ _
   (try go_wp2_with fail)
   go_meet;exact ⟨J.o,HY.o⟩
  case rest =>
   obtain ⟨H,U⟩:∃ H:World,H=wc:=⟨_,rfl⟩;subst U;have G:He (_/\_):=hcut.o;clear u Y Z hcut hj
   go_upto_if 104 with fail
   go_cut [119] (fun _ wx=>∃ e pa cp aa ca ga cg q,He (LM p w wx bs m q R V rb rc n E sa sc s e pa cp aa ca ga cg))
   case first =>
    by_cases c11:(k:Int) % 16=11
    ·have hQ:=G.o.1.rv.q j I
     have O:=G.o.1.bd j I;have l3:=G.o.1.l3;have lo:=G.o.1.rv.low j I;have HC:He (Calls prog 39 #[.pointer (some ⟨p,0,none⟩),.agg #[.string (E j).id,.string (E j).sd,.string (E j).ty,.bool (E j).st,.string (E j).key,.int .i64 (E j).tm,.slice (T j).pa (E j).np (T j).cp,.slice (T j).aa (E j).na (T j).ca,.string (E j).val,.slice (T j).ga (E j).ng (T j).cg]] H (XeQ (UT (E j) (T j)) p w3 H bs m q (E j) (T j).lo (T j).hi)):=QV (UT (E j) (T j)) p (E j) (T j) w3 H (by omega) lo G.o.1.d3 hQ O.1 O.2.1 O.2.2 (XK hQ (by omega)) (a20 hQ) (ZN hQ) (ZO hQ);have c0:H.cell? ⟨V,0,none⟩=some (.string (E j).id):=G.o.2 0 (by decide);have c1:H.cell? ⟨V,1,none⟩=some (.string (E j).sd):=G.o.2 1 (by decide);have c2:H.cell? ⟨V,2,none⟩=some (.string (E j).ty):=G.o.2 2 (by decide);have ba:H.cell? ⟨V,3,none⟩=some (.bool (E j).st):=G.o.2 3 (by decide);have c4:H.cell? ⟨V,4,none⟩=some (.string (E j).key):=G.o.2 4 (by decide);have c5:H.cell? ⟨V,5,none⟩=some (.int .i64 (E j).tm):=G.o.2 5 (by decide);have c6:H.cell? ⟨V,6,none⟩=some (.slice (T j).pa (E j).np (T j).cp):=G.o.2 6 (by decide);have c7:H.cell? ⟨V,7,none⟩=some (.slice (T j).aa (E j).na (T j).ca):=G.o.2 7 (by decide);have c8:H.cell? ⟨V,8,none⟩=some (.string (E j).val):=G.o.2 8 (by decide);have c9:H.cell? ⟨V,9,none⟩=some (.slice (T j).ga (E j).ng (T j).cg):=G.o.2 9 (by decide);clear hQ O l3 lo
     go_wp2_with fail
     refine HC.o.mono ?_;rintro x w5 ⟨⟨pa,cp,aa,ca,ga,cg,rfl,ab,x1,x2,x3,ap,ah,aj⟩,au⟩;obtain ⟨e5,aq⟩:∃ e5,e5=gD (eD bs m q) (eD bs m (aN m q)) (E j):=⟨_,rfl⟩;rw [<- aq] at ab x1 x2 x3 ⊢;clear HC aq;have N:He (yO p w w5 bs m (aN m (aN m q)) R V rb rc n E sa sc s):=G.o.1.spoilE I ap ah aj au hp
     have HW:He (∀ c:Nat->Value,(∀ o,o<10->c o=((ec e5 pa cp aa ca ga cg):Array Value)[o]?.getD undef)->LM p w (JZ c V 10 w5) bs m (aN m (aN m q)) R V rb rc n E sa sc s e5 pa cp aa ca ga cg):=fun c bb=>by
      have hP:∀ b,(((T j).lo<=b/\b<(T j).hi)\/H.heap.size<=b)->PV w R V b:=fun b hb=>by
       have:=G.o.1.l3
       have:=G.o.1.k.lv
       have:=G.o.1.k.vs
       have:=G.o.1.k.lr
       have:=G.o.1.hh j I
       have:=G.o.1.rv.low j I;exact ⟨by omega,by omega,by omega⟩
      have hE:yN (PV w R V) w5 e5 pa cp aa ca ga cg:=⟨ab,x1.imp id fun ⟨b,o,e,q⟩=>⟨b,o,e,hP b q⟩,x2.imp id fun ⟨b,o,e,q⟩=>⟨b,o,e,hP b q⟩,x3.imp id fun ⟨b,o,e,q⟩=>⟨b,o,e,hP b q⟩⟩;have ao:=CV c V w5 10;exact ⟨N.o.fiw hp c 10,fun o ho=>by rw [rZ c V w5 (N.o.vz o ho) 10 ho,bb o ho],hE.kP ⟨ao.1,fun b h1 h2=>ao.2 b h2 h1.2.2⟩⟩
     have J:=HW.o (fun o=>((ec e5 pa cp aa ca ga cg):Array Value)[o]?.getD undef) (fun _ _=>rfl);have bm:He (_):=J;have fv:=N.o.fv;obtain ⟨o0,y0⟩:=N.o.vz 0 (by decide);obtain ⟨o1,y1⟩:=N.o.vz 1 (by decide);obtain ⟨o2,y2⟩:=N.o.vz 2 (by decide);obtain ⟨o3,y3⟩:=N.o.vz 3 (by decide);obtain ⟨o4,y4⟩:=N.o.vz 4 (by decide);obtain ⟨o5,y5⟩:=N.o.vz 5 (by decide);obtain ⟨o6,y6⟩:=N.o.vz 6 (by decide);obtain ⟨o7,y7⟩:=N.o.vz 7 (by decide);obtain ⟨o8,y8⟩:=N.o.vz 8 (by decide);obtain ⟨o9,y9⟩:=N.o.vz 9 (by decide);clear HW J G N ab x1 x2 x3 ap ah aj au c0 c1 c2 ba c4 c5 c6 c7 c8 c9
     go_wp2_with fail
     go_meet;exact ⟨_,_,_,_,_,_,_,_,bm⟩
    have J:He (LM p w H bs m q R V rb rc n E sa sc s (E j) (T j).pa (T j).cp (T j).aa (T j).ca (T j).ga (T j).cg):=⟨G.o.1.k,G.o.2,(G.o.1.evP I).wide (fun b hb=>G.o.1.pv hb)⟩;clear G;go_wp2
    go_meet;exact ⟨_,_,_,_,_,_,_,_,J⟩
   case rest =>
    obtain ⟨e,pa,cp,aa,ca,ga,cg,q,J⟩:=hcut;clear G
    apply_assumption
    exact ldE w _ hp J
 have i0:¬ (k:Int) % 8=3:=by omega
 have i2:¬ (k:Int) % 16=11:=by omega
 go_upto_if 98 with fail
 go_cut [11] (fun sv wx=>∃ sa sc s q,sv=.slice sa (List.length s) sc/\He (LM p w wx bs m q R V rb rc n E sa sc s e pa cp aa ca ga cg))
 case first =>
  by_cases bw:(k:Int) % 16=15
  ·have lr:=u.o.k.lr
   have ai:R+1<=W.heap.size:=by have:=u.o.k.lv;have:=u.o.k.vs;omega
   have HC:He (Calls prog 38 #[.pointer (some ⟨p,0,none⟩),.slice sa s.length sc] W (DM p (R+1) (.slice sa s.length sc) W bs m (aN m q) (BW s (eD bs m q)))):=XE p (R+1) W u.o.d3.1 (by omega) ai u.o.so u.o.ok (by have:=u.o.len;omega);have HO:He (bK (BW s (eD bs m q))):=OU _ u.o.ok;clear lr ai
   go_wp2_with fail
   refine HC.o.mono ?_;rintro x w5 ⟨a,cap,rfl,ho,am,hr,hk⟩;have J:He (_):=u.o.spoil hp Y.o Z.o ho HO.o am hr hk;clear HC HO u Y Z ho am hr hk
   go_wp2_with fail
   go_meet;exact ⟨_,_,_,_,rfl,J⟩
  have J:He (LM p w W bs m q R V rb rc n E sa sc s e pa cp aa ca ga cg):=⟨u.o.k,Y.o,Z.o.wide (fun _ q=>q.1)⟩;clear u Y Z;go_wp2
  go_meet;exact ⟨_,_,_,_,rfl,J⟩
 case rest =>
  obtain ⟨sa,sc,s,q,rfl,J⟩:=hcut;obtain ⟨H,U⟩:∃ H:World,H=wc:=⟨_,rfl⟩;subst U;clear u Y Z
  go_upto_if 104 with fail
  go_cut [119] (fun _ wx=>wx=H)
  case first =>
   clear J;go_wp2
   go_meet;rfl
  case rest =>
   subst hcut
   apply_assumption
   exact ldE w _ hp J
end Go.Proofs.YtpfeegcdlikegaaGreat
