import Derived.Test.YtkdalopokdhndaaGreatDmBZ
set_option maxHeartbeats 16000000
set_option maxRecDepth 100000
namespace Go.Proofs.YtkdalopokdhndaaGreat
open Go.RowKit
variable {W w W' w':World}{c i n o ca cg cp hi rb rc cap base:Nat}{M S:Nat->ByteArray}{e:Ev}{aa ga pa:Option Addr}{E:Nat->Ev}{P:Nat->Prop}{T:Nat->Ls}
def NiB (a:Option Addr)(n b L:Nat):Prop:=n=0∨∃ c off,a=some ⟨c,off,none⟩∧c≠b∧L<=c
def KL (L:Nat)(W W':World):Prop:=W.heap.size<=W'.heap.size∧∀ b,L<=b->b<W.heap.size->W'.heap[b]?=W.heap[b]?
def KN (b L:Nat)(W W':World):Prop:=W.heap.size<=W'.heap.size∧∀ c,c≠b->L<=c->c<W.heap.size->W'.heap[c]?=W.heap[c]?
theorem KL.refl (L:Nat)(W:World):KL L W W:=⟨nL,fun _ _ _=>rfl⟩
theorem KL.trans {L:Nat}{W1 W2:World}(h:KL L W W1)(h':KL L W1 W2):KL L W W2:=⟨nZ h.1 h'.1,fun b h1 h2=>(h'.2 b h1 (nT h2 h.1)).trans (h.2 b h1 h2)⟩
theorem KL.blw {L:Nat}(h:Below W.heap.size W W'):KL L W W':=⟨h.size,fun b _ hb=>h.block b hb⟩
theorem KL.up {L L':Nat}(h:KL L W W')(hl:L<=L'):KL L' W W':=⟨h.1,fun b h1 h2=>h.2 b (by omega) h2⟩
theorem KL.set {L:Nat}(h:KL L W W')(hc:c<L)(j:Nat)(x:Value):KL L W (W'.setCell ⟨c,j,none⟩ x):=by
 have g:=Lib.grownBy_setCell W' c j x;exact ⟨nZ h.1 g.size,fun b h1 hb=>(g.block b (nT hb h.1) (fun e=>by injection e with e;omega)).trans (h.2 b h1 hb)⟩
theorem KL.kn {b L:Nat}(h:KL L W W'):KN b L W W':=⟨h.1,fun c _ h2 h3=>h.2 c h2 h3⟩
theorem Kb.kn {b L:Nat}(h:Kb b W W'):KN b L W W':=⟨h.1,fun c h1 _ h3=>h.2 c h3 h1⟩
theorem SlS.nk {a:Option Addr}{b L:Nat}(h:SlS w a n cap S)(hv:NiB a n b L)(hk:KN b L w w'):SlS w' a n cap S:=by
 refine ⟨h.le,h.max,h.size,?_⟩;rcases hv with h0|⟨d,off,rfl,hb,hl⟩
 ·exact Or.inl h0
 refine h.cells.imp id fun ⟨b',off',e,hlt,hx⟩=>⟨b',off',e,nT hlt hk.1,fun i hi=>?_⟩
 have e2:d=b':=by injection e with e;injection e
 exact (World.cell?_of_block (a:=⟨b',_,none⟩) (hk.2 b' (by omega) (by omega) hlt)).trans (hx i hi)
theorem SlG.nk {a:Option Addr}{b L:Nat}{N:Nat->Int}(h:SlG w a n cap M N)(hv:NiB a n b L)(hk:KN b L w w'):SlG w' a n cap M N:=by
 refine ⟨h.le,h.max,h.size,?_⟩;rcases hv with h0|⟨d,off,rfl,hb,hl⟩
 ·exact Or.inl h0
 refine h.cells.imp id fun ⟨b',off',e,hlt,hx,hy⟩=>⟨b',off',e,nT hlt hk.1,fun i hi=>?_,fun i hi=>?_⟩
 all_goals
  have e2:d=b':=by injection e with e;injection e
 ·exact (World.cell?_of_block (a:=⟨b',_,none⟩) (hk.2 b' (by omega) (by omega) hlt)).trans (hx i hi)
 exact (World.cell?_of_block (a:=⟨b',_,none⟩) (hk.2 b' (by omega) (by omega) hlt)).trans (hy i hi)
structure EvN (W:World)(b L:Nat)(e:Ev)(pa:Option Addr)(cp:Nat)(aa:Option Addr)(ca:Nat)(ga:Option Addr)(cg:Nat):Prop where
 ok:EvOk W e pa cp aa ca ga cg
 p:NiB pa e.np b L
 a:NiB aa e.na b L
 g:NiB ga e.ng b L
theorem EvN.nk {b L:Nat}(h:EvN W b L e pa cp aa ca ga cg)(hk:KN b L W W'):EvN W' b L e pa cp aa ca ga cg :=
 ⟨⟨h.ok.hid,h.ok.hsd,h.ok.hty,h.ok.hkey,h.ok.hval,h.ok.hp.nk h.p hk,h.ok.ha.nk h.a hk,h.ok.hg.nk h.g hk⟩,h.p,h.a,h.g⟩
def fio (c:Nat->Value)(b o:Nat):Nat->World->World
 | 0,W=>W
 | n+1,W=>(fio c b o n W).setCell ⟨b,o+n,none⟩ (c n)
theorem fio_out (c:Nat->Value)(b o:Nat)(W:World){x:Nat}:∀ n,x<o∨o+n<=x->(fio c b o n W).cell? ⟨b,x,none⟩=W.cell? ⟨b,x,none⟩
 | 0,_=>rfl
 | n+1,h=>by
  show ((fio c b o n W).setCell ⟨b,o+n,none⟩ (c n)).cell? ⟨b,x,none⟩=_
  rw [set_far (by omega)];exact fio_out c b o W n (by omega)
theorem fio_cell (c:Nat->Value)(b o:Nat)(W:World){x:Nat}(hv:∃ v,W.cell? ⟨b,o+x,none⟩=some v):∀ n,x<n->(fio c b o n W).cell? ⟨b,o+x,none⟩=some (c x)
 | 0,h=>absurd h (Nat.not_lt_zero _)
 | n+1,h=>by
  show ((fio c b o n W).setCell ⟨b,o+n,none⟩ (c n)).cell? ⟨b,o+x,none⟩=_
  by_cases e:x=n
  ·subst e
   exact set_same (by rw [fio_out c b o W _ (Or.inr nL)];exact hv)
  rw [set_far (by omega)];exact fio_cell c b o W hv n (by omega)
theorem fio_kb (c:Nat->Value)(b o:Nat)(W:World):∀ n,Kb b W (fio c b o n W)
 | 0=>Kb.refl _ _
 | n+1=>(fio_kb c b o W n).set (o+n) (c n)
theorem fio_frz (c:Nat->Value)(b o:Nat)(W:World)(a:Addr):∀ n,(fio c b o n W).frozen? a=W.frozen? a
 | 0=>rfl
 | n+1=>by
  show ((fio c b o n W).setCell ⟨b,o+n,none⟩ (c n)).frozen? a=_
  rw [World.frozen?_setCell];exact fio_frz c b o W a n
theorem fio_dwf {p b o:Nat}{w W:World}{bs:Nat->Nat}{m q:Nat}(h:DwF p w W bs m q)(hb:w.heap.size<=b)(hp:p<w.heap.size)(c:Nat->Value):∀ n,DwF p w (fio c b o n W) bs m q
 | 0=>h
 | n+1=>(fio_dwf h hb hp c n).own hb hp _ _
def tenC (e:Ev)(pa:Option Addr)(cp:Nat)(aa:Option Addr)(ca:Nat)(ga:Option Addr)(cg:Nat):Nat->Value:=fun o=>((ec e pa cp aa ca ga cg):Array Value)[o]?.getD undef
structure RmQ (P:Nat->Prop)(L:Nat)(W:World)(rb rc n:Nat)(E:Nat->Ev):Prop where
 le:n<=rc
 max:rc<=maxLen
 sz:rb<W.heap.size
 lo:L<=rb
 fz:∀ o,o<n * 10->W.frozen? ⟨rb,o,none⟩=false
 cl:∀ o,o<n * 10->∃ v,W.cell? ⟨rb,o,none⟩=some v
 ev:∀ i,i<n->P i->∃ pa cp aa ca ga cg,EvCells W rb (i * 10) (E i) pa cp aa ca ga cg∧EvN W rb L (E i) pa cp aa ca ga cg
theorem RmQ.slv {L:Nat}(h:RmQ P L W rb rc n E)(hP:∀ i,i<n->P i):SlV W (some ⟨rb,0,none⟩) n rc E :=
 ⟨h.le,h.max,Or.inr ⟨rb,0,rfl,h.sz,fun i hi=>by
  obtain ⟨pa,cp,aa,ca,ga,cg,h3,h4⟩:=h.ev i hi (hP i hi);rw [Nat.zero_add];exact ⟨pa,cp,aa,ca,ga,cg,h3,h4.ok⟩⟩⟩
theorem EvCells.kept {b:Nat}(h:EvCells W b o e pa cp aa ca ga cg)(hc:∀ x,x<10->W'.cell? ⟨b,o+x,none⟩=W.cell? ⟨b,o+x,none⟩):EvCells W' b o e pa cp aa ca ga cg :=
 ⟨(hc 0 (by decide)).trans h.c0,(hc 1 (by decide)).trans h.c1,(hc 2 (by decide)).trans h.c2,(hc 3 (by decide)).trans h.c3,(hc 4 (by decide)).trans h.c4,(hc 5 (by decide)).trans h.c5,(hc 6 (by decide)).trans h.c6,(hc 7 (by decide)).trans h.c7,(hc 8 (by decide)).trans h.c8,(hc 9 (by decide)).trans h.c9⟩
theorem fio_ev {b:Nat}(e:Ev)(pa:Option Addr)(cp:Nat)(aa:Option Addr)(ca:Nat)(ga:Option Addr)(cg:Nat)(hv:∀ x,x<10->∃ v,W.cell? ⟨b,o+x,none⟩=some v):EvCells (fio (tenC e pa cp aa ca ga cg) b o 10 W) b o e pa cp aa ca ga cg:=by
 have hc:∀ x,x<10->(fio (tenC e pa cp aa ca ga cg) b o 10 W).cell? ⟨b,o+x,none⟩=some (tenC e pa cp aa ca ga cg x):=fun x hx=>fio_cell _ b o W (hv x hx) 10 hx
 exact ⟨hc 0 (by decide),hc 1 (by decide),hc 2 (by decide),hc 3 (by decide),hc 4 (by decide),hc 5 (by decide),hc 6 (by decide),hc 7 (by decide),hc 8 (by decide),hc 9 (by decide)⟩
def putE (E:Nat->Ev)(i:Nat)(e:Ev):Nat->Ev:=fun j=>if j=i then e else E j
theorem RmQ.put {L:Nat}(h:RmQ P L W rb rc n E)(hi:i<n)(he:EvN W rb L e pa cp aa ca ga cg):RmQ (fun j=>P j∨j=i) L (fio (tenC e pa cp aa ca ga cg) rb (i * 10) 10 W) rb rc n (putE E i e):=by
 have hK:=fio_kb (tenC e pa cp aa ca ga cg) rb (i * 10) W 10;have hcl:∀ x,x<10->∃ v,W.cell? ⟨rb,i * 10+x,none⟩=some v:=fun x hx=>h.cl _ (by omega)
 refine ⟨h.le,h.max,nT h.sz hK.1,h.lo,fun o ho=>(fio_frz _ _ _ _ _ _).trans (h.fz o ho),fun o ho=>?_,fun j hj hP=>?_⟩
 ·by_cases ho2:i * 10<=o∧o<i * 10+10
  ·have hq:=fio_cell (tenC e pa cp aa ca ga cg) rb (i * 10) W (x:=o - i * 10) (hcl _ (by omega)) 10 (by omega)
   rw [show i * 10+(o - i * 10)=o by omega] at hq;exact ⟨_,hq⟩
  obtain ⟨v,hv⟩:=h.cl o ho;exact ⟨v,(fio_out _ _ _ _ 10 (by omega)).trans hv⟩
 unfold putE
 by_cases e0:j=i
 ·rw [if_pos e0,e0]
  exact ⟨pa,cp,aa,ca,ga,cg,fio_ev e pa cp aa ca ga cg hcl,he.nk hK.kn⟩
 rw [if_neg e0];obtain ⟨p',c1,a',c2,g',c3,h1,h2⟩:=h.ev j hj (hP.resolve_right e0);exact ⟨p',c1,a',c2,g',c3,h1.kept fun x hx=>fio_out _ _ _ _ 10 (by omega),h2.nk hK.kn⟩
theorem RmQ.far {L:Nat}(h:RmQ P L W rb rc n E)(hk:KL L W W'):RmQ P L W' rb rc n E:=by
 have hr:=hk.2 rb h.lo h.sz;have hx:∀ o,W'.cell? ⟨rb,o,none⟩=W.cell? ⟨rb,o,none⟩:=fun o=>World.cell?_of_block (a:=⟨rb,o,none⟩) hr
 exact ⟨h.le,h.max,nT h.sz hk.1,h.lo,fun o ho=>(World.frozen?_of_block (a:=⟨rb,o,none⟩) hr).trans (h.fz o ho),fun o ho=>(h.cl o ho).imp fun _ hv=>(hx o).trans hv,fun i hi hP=>by
  obtain ⟨pa,cp,aa,ca,ga,cg,h3,h4⟩:=h.ev i hi hP;exact ⟨pa,cp,aa,ca,ga,cg,h3.kept fun _ _=>hx _,h4.nk hk.kn⟩⟩
theorem Iv.ni {a:Option Addr}{lo b L:Nat}(h:Iv a n lo hi)(hb:b<lo∨hi<=b)(hL:L<=lo):NiB a n b L:=h.imp id fun ⟨c,off,e,h1,h2⟩=>⟨c,off,e,by omega,by omega⟩
theorem XeS.ni {a:Option Addr}{lo nw b L:Nat}(h:XeS a n lo hi nw)(hb:b<lo∨hi<=b)(hn:b<nw)(hL:L<=lo)(hw:L<=nw):NiB a n b L:=h.imp id fun ⟨c,off,e,h1⟩=>⟨c,off,e,by omega,by omega⟩
theorem RowV.rmX (h:RowV QO W base (.slice (some ⟨rb,0,none⟩) n rc) n E T)(hs:W.heap.size<=W'.heap.size)(hr:W'.heap[rb]?=W.heap[rb]?)(hk:∀ i,i<n->P i->∀ b,(T i).lo<=b->b<(T i).hi->W'.heap[b]?=W.heap[b]?):RmQ P base W' rb rc n E:=by
 obtain ⟨h1,h2,h3,h4⟩:=h.at qkO;rcases h.cells with ⟨q,_⟩|⟨g,cap,q,q1,q2,q3,q4,q5,q6⟩
 ·cases q
 injection q with e1 _ e2
 injection e1 with e1
 injection e1 with e1
 subst e1 e2;have hc:∀ o,W'.cell? ⟨rb,o,none⟩=W.cell? ⟨rb,o,none⟩:=fun o=>World.cell?_of_block (a:=⟨rb,o,none⟩) hr
 refine ⟨q3,q4,nT h1 hs,h2,fun o ho=>(World.frozen?_of_block (a:=⟨rb,o,none⟩) hr).trans (q6 o),fun o ho=>?_,fun i hi hP=>?_⟩
 ·obtain ⟨d0,d1,d2,d3,d4,d5,d6,d7,d8,d9⟩:=h4 (o / 10) (by omega)
  have hm:o % 10<10:=Nat.mod_lt _ (by decide);rw [hc,show o=o / 10 * 10+o % 10 by omega];generalize o % 10=x at hm
  match x,hm with
  | 0,_=>exact ⟨_,d0⟩
  | 1,_=>exact ⟨_,d1⟩
  | 2,_=>exact ⟨_,d2⟩
  | 3,_=>exact ⟨_,d3⟩
  | 4,_=>exact ⟨_,d4⟩
  | 5,_=>exact ⟨_,d5⟩
  | 6,_=>exact ⟨_,d6⟩
  | 7,_=>exact ⟨_,d7⟩
  | 8,_=>exact ⟨_,d8⟩
  | 9,_=>exact ⟨_,d9⟩
 have hq:=(h.q i hi).j;have hap:=h.apart rb rfl i hi;have hki:=hk i hi hP
 have hS:∀ {a:Option Addr} {k c:Nat} {S:Nat->ByteArray},SlS W a k c S->Iv a k (T i).lo (T i).hi->SlS W' a k c S:=fun {a k c S} hx hv=>by
  refine ⟨hx.le,hx.max,hx.size,?_⟩;rcases hv with h0|⟨b,off,rfl,v1,v2⟩
  ·exact Or.inl h0
  refine hx.cells.imp id fun ⟨b',off',e,hlt,hcx⟩=>⟨b',off',e,nT hlt hs,fun x hx=>?_⟩
  have e2:b=b':=by injection e with e;injection e
  subst e2;exact (World.cell?_of_block (a:=⟨b,off'+x,none⟩) (hki b v1 v2)).trans (hcx x hx)
 have hG:SlG W' (T i).ga (E i).ng (T i).cg (E i).M (E i).L:=by
  have hx:=hq.ok.hg;refine ⟨hx.le,hx.max,hx.size,?_⟩;rcases hq.ig with h0|⟨b,off,e0,v1,v2⟩
  ·exact Or.inl h0
  refine hx.cells.imp id fun ⟨b',off',e,hlt,hcx,hlx⟩=>⟨b',off',e,nT hlt hs,fun x hx=>?_,fun x hx=>?_⟩
  all_goals
   have e2:b=b':=by rw [e0] at e;injection e with e;injection e
   subst e2
  ·exact (World.cell?_of_block (a:=⟨b,_,none⟩) (hki b v1 v2)).trans (hcx x hx)
  exact (World.cell?_of_block (a:=⟨b,_,none⟩) (hki b v1 v2)).trans (hlx x hx)
 exact ⟨_,_,_,_,_,_,(h4 i hi).kept fun x _=>hc _,⟨⟨hq.ok.hid,hq.ok.hsd,hq.ok.hty,hq.ok.hkey,hq.ok.hval,hS hq.ok.hp hq.ip,hS hq.ok.ha hq.ia,hG⟩,hq.ip.ni hap (h.low i hi),hq.ia.ni hap (h.low i hi),hq.ig.ni hap (h.low i hi)⟩⟩
theorem RowV.rmS {p:Nat}(h:RowV QO W base (.slice (some ⟨rb,0,none⟩) n rc) n E T)(hp:p<base)(hi:i<n)(hs:W.heap.size<=W'.heap.size)(hk:∀ b,b<W.heap.size->b≠p->(b<(T i).lo∨(T i).hi<=b)->W'.heap[b]?=W.heap[b]?):RmQ (fun j=>j≠i) base W' rb rc n E:=by
 obtain ⟨h1,h2,_,_⟩:=h.at qkO;refine h.rmX hs (hk rb h1 (by omega) (h.apart rb rfl i hi)) fun j hj hne b hb1 hb2=>hk b (nT hb2 (h.q j hj).j.hh.2) (by have:=h.low j hj;omega) ?_
 rcases Nat.lt_or_gt_of_ne hne with q|q
 ·have:=h.ord j i q hi
  omega
 have:=h.ord i j q hj;omega
structure EvX (p:Nat)(wo w W:World)(bs:Nat->Nat)(m q lo hi:Nat)(c:Nat->Value):Prop where
 b:∀ o,o<10->W.cell? ⟨w.heap.size,o,none⟩=some (c o)
 z:∀ o,o<10->∃ v,W.cell? ⟨w.heap.size+1,o,none⟩=some v
 f0:∀ o,W.frozen? ⟨w.heap.size,o,none⟩=false
 f1:∀ o,W.frozen? ⟨w.heap.size+1,o,none⟩=false
 sz:w.heap.size+2<=W.heap.size
 k:∀ b,b<w.heap.size->b≠p->(b<lo∨hi<=b)->W.heap[b]?=w.heap[b]?
 dw:DwF p wo W bs m q
section
variable {p:Nat} {wo w W:World} {bs:Nat->Nat} {m q lo hi:Nat} {c:Nat->Value}
theorem EvX.congr (h:EvX p wo w W bs m q lo hi c){c':Nat->Value}(hc:∀ o,o<10->c o=c' o):EvX p wo w W bs m q lo hi c':=⟨fun o ho=>by rw [<- hc o ho];exact h.b o ho,h.z,h.f0,h.f1,h.sz,h.k,h.dw⟩
theorem EvX.kept (h:EvX p wo w W bs m q lo hi c){W':World}{q':Nat}(hk:∀ b,w.heap.size<=b->b<w.heap.size+2->W'.heap[b]?=W.heap[b]?)(hs:W.heap.size<=W'.heap.size)(hl:∀ b,b<w.heap.size->b≠p->(b<lo∨hi<=b)->W'.heap[b]?=W.heap[b]?)(hd:DwF p wo W' bs m q'):EvX p wo w W' bs m q' lo hi c:=by
 have hc:∀ b o,w.heap.size<=b->b<w.heap.size+2->W'.cell? ⟨b,o,none⟩=W.cell? ⟨b,o,none⟩:=fun b o h1 h2=>World.cell?_of_block (a:=⟨b,o,none⟩) (hk b h1 h2)
 have hz:∀ b o,w.heap.size<=b->b<w.heap.size+2->W'.frozen? ⟨b,o,none⟩=W.frozen? ⟨b,o,none⟩:=fun b o h1 h2=>World.frozen?_of_block (a:=⟨b,o,none⟩) (hk b h1 h2)
 exact ⟨fun o ho=>(hc _ _ (by omega) (by omega)).trans (h.b o ho),fun o ho=>(h.z o ho).imp fun v hv=>(hc _ _ (by omega) (by omega)).trans hv,fun o=>(hz _ _ (by omega) (by omega)).trans (h.f0 o),fun o=>(hz _ _ (by omega) (by omega)).trans (h.f1 o),nZ h.sz hs,fun b h1 h2 h3=>(hl b h1 h2 h3).trans (h.k b h1 h2 h3),hd⟩
theorem EvX.below (h:EvX p wo w W bs m q lo hi c){W':World}(hb:Below W.heap.size W W'):EvX p wo w W' bs m q lo hi c :=
 h.kept (fun b _ h2=>hb.block b (by have:=h.sz;omega)) hb.size (fun b h1 _ _=>hb.block b (by have:=h.sz;omega)) (h.dw.below hb)
theorem EvX.draw (h:EvX p wo w W bs m q lo hi c)(hp:p<w.heap.size){W':World}{q':Nat}(hd:DwF p W W' bs m q'):EvX p wo w W' bs m q' lo hi c :=
 h.kept (fun b h1 h2=>hd.2.block b (by have:=h.sz;omega) (fun e=>by injection e with e;omega)) hd.size (fun b h1 h2 _=>hd.2.block b (by have:=h.sz;omega) (fun e=>by injection e with e;omega)) (h.dw.trans hd)
theorem EvX.grow (h:EvX p wo w W bs m q lo hi c)(hp:p<wo.heap.size)(hwo:wo.heap.size<=lo)(hhi:hi<=w.heap.size)(hww:wo.heap.size<=w.heap.size){W':World}{row:Option Nat}(hg:W.grownBy W' row)(hr:∀ b,row=some b->(lo<=b∧b<hi)∨w.heap.size+2<=b):EvX p wo w W' bs m q lo hi c :=
 h.kept (fun b h1 h2=>hg.block b (by have:=h.sz;omega) (fun e=>by rcases hr b e.symm with r|r <;> omega)) hg.size (fun b h1 h2 h3=>hg.block b (by have:=h.sz;omega) (fun e=>by rcases hr b e.symm with r|r <;> omega)) (h.dw.grow hg (fun b hb=>by rcases hr b hb with r|r <;> omega) hp)
theorem EvX.set (h:EvX p wo w W bs m q lo hi c)(hp:p<wo.heap.size)(hww:wo.heap.size<=w.heap.size)(o:Nat)(x:Value):EvX p wo w (W.setCell ⟨w.heap.size,o,none⟩ x) bs m q lo hi (fun i=>if i=o then x else c i):=by
 have hg:=Lib.grownBy_setCell W w.heap.size o x;refine ⟨fun i hi=>?_,fun i hi=>?_,fun i=>by rw [World.frozen?_setCell];exact h.f0 i,fun i=>by rw [World.frozen?_setCell];exact h.f1 i,nZ h.sz hg.size,fun b h1 h2 h3=>(hg.block b (by have:=h.sz;omega) (fun e=>by injection e with e;omega)).trans (h.k b h1 h2 h3),h.dw.own hww hp o x⟩
 ·by_cases e:i=o
  ·subst e;rw [if_pos rfl];exact set_same ⟨_,h.b i hi⟩
  rw [if_neg e,set_far (by omega)];exact h.b i hi
 obtain ⟨v,hv⟩:=h.z i hi;exact ⟨v,(World.cell?_of_block (a:=⟨w.heap.size+1,i,none⟩) (hg.block (w.heap.size+1) (by have:=h.sz;omega) (fun e=>by injection e with e;omega))).trans hv⟩
end
theorem evX_new {p:Nat}{wo w:World}{bs:Nat->Nat}{m q lo hi:Nat}{cs:Array Value}{t:TypeId}(h:DwF p wo w bs m q)(hc:cs.size=10):EvX p wo w ((w.alloc (.cells cs t)).alloc (.cells #[.string ⟨#[]⟩,.string ⟨#[]⟩,.string ⟨#[]⟩,.bool false,.string ⟨#[]⟩,.int .i64 0,.slice none 0 0,.slice none 0 0,.string ⟨#[]⟩,.slice none 0 0] t)) bs m q lo hi (fun o=>cs[o]?.getD undef):=by
 have hb:Below w.heap.size w ((w.alloc (.cells cs t)).alloc (.cells #[.string ⟨#[]⟩,.string ⟨#[]⟩,.string ⟨#[]⟩,.bool false,.string ⟨#[]⟩,.int .i64 0,.slice none 0 0,.slice none 0 0,.string ⟨#[]⟩,.slice none 0 0] t)):=bA.alloc (by simp) _;refine ⟨fun o ho=>?_,fun o ho=>?_,fun o=>?_,fun o=>kF (by simp),by simp,fun b h1 _ _=>hb.block b h1,h.below hb⟩
 ·rw [World.cell?_alloc_past _ _ _ (by simp),kA rfl,Array.getElem?_eq_getElem (by omega)]
  rfl
 ·rw [kA (by simp)]
  match o,ho with
  | 0,_=>exact ⟨_,rfl⟩
  | 1,_=>exact ⟨_,rfl⟩
  | 2,_=>exact ⟨_,rfl⟩
  | 3,_=>exact ⟨_,rfl⟩
  | 4,_=>exact ⟨_,rfl⟩
  | 5,_=>exact ⟨_,rfl⟩
  | 6,_=>exact ⟨_,rfl⟩
  | 7,_=>exact ⟨_,rfl⟩
  | 8,_=>exact ⟨_,rfl⟩
  | 9,_=>exact ⟨_,rfl⟩
 rw [World.frozen?_alloc_past _ _ _ (by simp)];exact kF rfl
variable {bs:Nat->Nat}{m q:Nat}{R:Ending->World->Prop}{u1 u8 u9 u10 u11 u12 u13 u14 u15 u16 u17 u18 u19 u20 u21 u22 u23 u24 u25 u26 u27 u28 u29 u30 u31 u32 u33 u34 u35 u36 u37 u38 u39 u40 u41 u42 u43 u44 u45 u46 u47 u48 u49 u50 u51 u52 u53 u54 u55 u56 u57 u58 u59 u60 u61 u62 u63 u64 u65 u66 u67 u68 u69 u70 u71 u72 u73 u74 u75 u76 u77 u78 u79 u80 u81 u82 u83 u84 u85 u86 u87 u88 u89 u90 u91 u92 u93 u94 u95 u96 u97 u98 u99 u100 u101 u102 u103 u104 u105 u106 u107 u108 u109 u110 u111 u112 u113 u114 u115 u116 u117 u118 u119 u120 u121 u122 u123 u124 u125 u126 u127 u128 u129 u130 u131 u132 u133 u134 u135 u136 u137 u138 u139 u140 u141 u142 u143 u144 u145 u146 u147 u148 u149 u150 u151 u152 u153 u154 u155 u156 u157 u158 u159 u160 u161 u162 u163 u164 u165 u166:Value}
theorem xeEnd (p:Nat){lo:Nat}{u5 u6 u7:Value}(wo w W:World)(hp:p<wo.heap.size)(hww:wo.heap.size<=w.heap.size)(HX:Hid (EvX p wo w W bs m q lo hi (fun o=>((ec e pa cp aa ca ga cg):Array Value)[o]?.getD undef)))(HR:Hid (∀ W',Kb (w.heap.size+1) W W'->DwF p wo W' bs m q->R (.returned (.agg (ec e pa cp aa ca ga cg))) W')) :
  Code.wp Tryz.prog (tlN (Tryz.f66.body.getD .skip) 5) (bodyPost Tryz.prog Tryz.f66 R) { tmps:=#[.pointer (some ⟨p,0,none⟩),u1,undef,.pointer (some ⟨w.heap.size,0,none⟩),.pointer (some ⟨w.heap.size+1,0,none⟩),u5,u6,u7,u8,u9,u10,u11,u12,u13,u14,u15,u16,u17,u18,u19,u20,u21,u22,u23,u24,u25,u26,u27,u28,u29,u30,u31,u32,u33,u34,u35,u36,u37,u38,u39,u40,u41,u42,u43,u44,u45,u46,u47,u48,u49,u50,u51,u52,u53,u54,u55,u56,u57,u58,u59,u60,u61,u62,u63,u64,u65,u66,u67,u68,u69,u70,u71,u72,u73,u74,u75,u76,u77,u78,u79,u80,u81,u82,u83,u84,u85,u86,u87,u88,u89,u90,u91,u92,u93,u94,u95,u96,u97,u98,u99,u100,u101,u102,u103,u104,u105,u106,u107,u108,u109,u110,u111,u112,u113,u114,u115,u116,u117,u118,u119,u120,u121,u122,u123,u124,u125,u126,u127,u128,u129,u130,u131,u132,u133,u134,u135,u136,u137,u138,u139,u140,u141,u142,u143,u144,u145,u146,u147,u148,u149,u150,u151,u152,u153,u154,u155,u156,u157,u158,u159,u160,u161,u162,u163,u164,u165,u166],defers:=[] } W:=by
 first
  | rw [show tlN (Tryz.f66.body.getD .skip) 5=Code.seq _ _ from rfl]
  | rw [show tlN (Tryz.f66.body.getD .skip) 5=Code.region 41 _ _ from rfl]
 have b0:W.cell? ⟨w.heap.size,0,none⟩=some (.string e.id):=HX.out.b 0 (by decide);have b1:W.cell? ⟨w.heap.size,1,none⟩=some (.string e.sd):=HX.out.b 1 (by decide);have b2:W.cell? ⟨w.heap.size,2,none⟩=some (.string e.ty):=HX.out.b 2 (by decide);have b3:W.cell? ⟨w.heap.size,3,none⟩=some (.bool e.st):=HX.out.b 3 (by decide);have b4:W.cell? ⟨w.heap.size,4,none⟩=some (.string e.key):=HX.out.b 4 (by decide);have b5:W.cell? ⟨w.heap.size,5,none⟩=some (.int .i64 e.tm):=HX.out.b 5 (by decide);have b6:W.cell? ⟨w.heap.size,6,none⟩=some (.slice pa e.np cp):=HX.out.b 6 (by decide);have b7:W.cell? ⟨w.heap.size,7,none⟩=some (.slice aa e.na ca):=HX.out.b 7 (by decide);have b8:W.cell? ⟨w.heap.size,8,none⟩=some (.string e.val):=HX.out.b 8 (by decide);have b9:W.cell? ⟨w.heap.size,9,none⟩=some (.slice ga e.ng cg):=HX.out.b 9 (by decide);obtain ⟨v0,z0⟩:=HX.out.z 0 (by decide);obtain ⟨v1,z1⟩:=HX.out.z 1 (by decide);obtain ⟨v2,z2⟩:=HX.out.z 2 (by decide);obtain ⟨v3,z3⟩:=HX.out.z 3 (by decide);obtain ⟨v4,z4⟩:=HX.out.z 4 (by decide);obtain ⟨v5,z5⟩:=HX.out.z 5 (by decide);obtain ⟨v6,z6⟩:=HX.out.z 6 (by decide);obtain ⟨v7,z7⟩:=HX.out.z 7 (by decide);obtain ⟨v8,z8⟩:=HX.out.z 8 (by decide);obtain ⟨v9,z9⟩:=HX.out.z 9 (by decide);have f1:=HX.out.f1;have HD:Hid (DwF p wo W bs m q):=HX.out.dw;clear HX;go_wp2
 refine bodyPost_ret (v:=.agg (ec e pa cp aa ca ga cg)) (by simp [results,Tryz.results66,go_sem,z0,z1,z2,z3,z4,z5,z6,z7,z8,z9]) rfl (HR.out _ (Kb.fill10 (w.heap.size+1) W _ _ _ _ _ _ _ _ _ _) ?_)
 (repeat (refine DwF.own ?_ (by omega) hp _ _))
 exact HD.out
end Go.Proofs.YtkdalopokdhndaaGreat
