import Derived.Test.YtnbdlaglnefcbaaGreatXeOZ
namespace Go.Proofs.YtnbdlaglnefcbaaGreat
open Go.RowKit
def fiv (c:Nat->Value)(V:Nat):Nat->World->World
 | 0,W=>W
 | n+1,W=>(fiv c V n W).setCell ⟨V,n,none⟩ (c n)
theorem fiv_far (c:Nat->Value)(V:Nat)(W:World){o:Nat}:∀ n,n<=o->(fiv c V n W).cell? ⟨V,o,none⟩=W.cell? ⟨V,o,none⟩
 | 0,_=>rfl
 | n+1,h=>by
  show ((fiv c V n W).setCell ⟨V,n,none⟩ (c n)).cell? ⟨V,o,none⟩=_
  rw [set_far (by omega)]
  exact fiv_far c V W n (by omega)
theorem fiv_cell (c:Nat->Value)(V:Nat)(W:World){o:Nat}(hv:∃ v,W.cell? ⟨V,o,none⟩=some v):∀ n,o<n->(fiv c V n W).cell? ⟨V,o,none⟩=some (c o)
 | 0,h=>absurd h (Nat.not_lt_zero _)
 | n+1,h=>by
  show ((fiv c V n W).setCell ⟨V,n,none⟩ (c n)).cell? ⟨V,o,none⟩=_
  by_cases e:o=n
  ·subst e
   exact set_same (by rw [fiv_far c V W _ (Nat.le_refl _)];exact hv)
  ·rw [set_far (by omega)]
   exact fiv_cell c V W hv n (by omega)
theorem fiv_kb (c:Nat->Value)(V:Nat)(W:World):∀ n,Kb V W (fiv c V n W)
 | 0=>Kb.refl _ _
 | n+1=>(fiv_kb c V W n).set n (c n)
theorem Kb.drw {B:Nat}{w w':World}(h:Kb B w w'):Kb B w w'.drew:=h
theorem fiv_below {B V:Nat}{w W:World}(h:Below B w W)(hV:B<=V)(c:Nat->Value):∀ n,Below B w (fiv c V n W)
 | 0=>h
 | n+1=>(fiv_below h hV c n).setCell hV _
structure DiG (p:Nat)(w wo W:World)(bs:Nat->Nat)(m q R V rb rc n:Nat)(E:Nat->Ev)(e:Ev)(t:Ls):Prop where
 x:DiW w W R V rb rc n E e t.pa t.cp t.aa t.ca t.ga t.cg
 fr:W.frozen? ⟨R,0,none⟩=false
 fv:∀ o,W.frozen? ⟨V,o,none⟩=false
 rm:RmI (p+1) R W rb rc n E
 bo:Below w.heap.size w wo
 qo:QO W e t
 lo:wo.heap.size<=t.lo
 hi:t.hi<=V
 dw:DwF p wo W bs m q
 lp:w.heap.size+1<p
 hp:p<R
 hr:R<wo.heap.size
 vs:V<W.heap.size
section
variable {p:Nat} {w wo W:World} {bs:Nat->Nat} {m q R V rb rc n:Nat} {E:Nat->Ev} {e:Ev} {t:Ls}
theorem DiG.put (h:DiG p w wo W bs m q R V rb rc n E e t){W':World}{e':Ev}{pa aa ga:Option Addr}{cp ca cg:Nat}(hs:W.heap.size<=W'.heap.size)(hk:∀ b,b<wo.heap.size->b≠p->W'.heap[b]?=W.heap[b]?)(hB:Below w.heap.size w W')
  (hv:∀ o,o<10->W'.cell? ⟨V,o,none⟩=some ((#[.string e'.id,.string e'.sd,.string e'.ty,.bool e'.st,.string e'.key,.int .i64 e'.tm,.slice pa e'.np cp,.slice aa e'.na ca,.string e'.val,.slice ga e'.ng cg]:Array Value)[o]?.getD undef)) (he:EvI (w.heap.size+2) W'.heap.size W' e' pa cp aa ca ga cg):DiW w W' R V rb rc n E e' pa cp aa ca ga cg:=by
 have h1:=h.lp
 have h2:=h.hp
 have h3:=h.hr
 have h4:wo.heap.size<=W.heap.size:=h.dw.size
 have hc:∀ b o,b<wo.heap.size->b≠p->W'.cell? ⟨b,o,none⟩=W.cell? ⟨b,o,none⟩:=fun b o x y=>World.cell?_of_block (a:=⟨b,o,none⟩) (hk b x y)
 have hz:∀ b o,b<wo.heap.size->b≠p->W'.frozen? ⟨b,o,none⟩=W.frozen? ⟨b,o,none⟩:=fun b o x y=>World.frozen?_of_block (a:=⟨b,o,none⟩) (hk b x y)
 exact ⟨h.x.z0.imp fun v hv=>(hc _ _ (by omega) (by omega)).trans hv,fun o ho=>(h.x.z1 o ho).imp fun v hv=>(hc _ _ (by omega) (by omega)).trans hv,fun o=>(hz _ _ (by omega) (by omega)).trans (h.x.g0 o),fun o=>(hz _ _ (by omega) (by omega)).trans (h.x.g1 o),(hc _ _ (by omega) (by omega)).trans h.x.r,hv,h.x.lr,h.x.lv,hB,(h.rm.ki ⟨hs,fun b x y _=>hk b (by omega) (by omega)⟩).wide (by omega) (by omega),he⟩
theorem DiG.fill (h:DiG p w wo W bs m q R V rb rc n E e t){e':Ev}{pa aa ga:Option Addr}{cp ca cg:Nat}(he:EvI (p+1) R W e' pa cp aa ca ga cg):DiW w (fiv (fun o=>(#[.string e'.id,.string e'.sd,.string e'.ty,.bool e'.st,.string e'.key,.int .i64 e'.tm,.slice pa e'.np cp,.slice aa e'.na ca,.string e'.val,.slice ga e'.ng cg]:Array Value)[o]?.getD undef) V 10 W) R V rb rc n E e' pa cp aa ca ga cg:=by
 have h1:=h.lp
 have h3:=h.hr
 have h4:wo.heap.size<=W.heap.size:=h.dw.size
 have h5:=h.lo
 have h6:=h.hi
 have h7:=h.qo.j.hh.1
 have hK:=fiv_kb (fun o=>(#[.string e'.id,.string e'.sd,.string e'.ty,.bool e'.st,.string e'.key,.int .i64 e'.tm,.slice pa e'.np cp,.slice aa e'.na ca,.string e'.val,.slice ga e'.ng cg]:Array Value)[o]?.getD undef) V W 10
 exact h.put hK.1 (fun b x y=>hK.2 b (by omega) (by omega)) (fiv_below h.x.bel (by have:=h.x.lv;omega) _ 10) (fun o ho=>fiv_cell _ V W ⟨_,h.x.v o ho⟩ 10 ho) ((he.ki ⟨hK.1,fun b x y z=>hK.2 b z (by omega)⟩).wide (by omega) (by have:=hK.1;omega))
theorem DiG.cutR (h:DiG p w wo W bs m q R V rb rc n E e t){n':Nat}(hn:n'<=n):DiW w (W.setCell ⟨R,0,none⟩ (.slice (some ⟨rb,0,none⟩) n' rc)) R V rb rc n' E e t.pa t.cp t.aa t.ca t.ga t.cg:=by
 have h1:=h.lp
 have h2:=h.hp
 have h3:=h.hr
 have h5:=h.lo
 have h6:=h.hi
 have h7:=h.qo.j.hh
 have h4:wo.heap.size<=W.heap.size:=h.dw.size
 have hvR:=h.x.lv
 have hRv:V≠R:=by omega
 have g:=Lib.grownBy_setCell W R 0 (.slice (some ⟨rb,0,none⟩) n' rc)
 have hc:∀ b o,b≠R->(W.setCell ⟨R,0,none⟩ (.slice (some ⟨rb,0,none⟩) n' rc)).cell? ⟨b,o,none⟩=W.cell? ⟨b,o,none⟩:=fun b o x=>far_block (by omega)
 exact ⟨h.x.z0.imp fun v hv=>(hc _ _ (by omega)).trans hv,fun o ho=>(h.x.z1 o ho).imp fun v hv=>(hc _ _ (by omega)).trans hv,fun o=>by rw [World.frozen?_setCell];exact h.x.g0 o,fun o=>by rw [World.frozen?_setCell];exact h.x.g1 o,set_same ⟨_,h.x.r⟩,fun o ho=>(hc _ _ hRv).trans (h.x.v o ho),h.x.lr,h.x.lv,h.x.bel.setCell (by show w.heap.size<=R;omega) _,((h.rm.less hn).ki ((KI.refl _ _ _).set (Or.inr (Nat.le_refl _)) _ _)).wide (by omega) (by have:=g.size;omega),(EvI.ki (B:=t.lo) (C:=t.hi) ⟨h.qo.j.ok,h.qo.j.ip,h.qo.j.ia,h.qo.j.ig⟩ ((KI.refl _ _ _).set (Or.inl (by omega)) _ _)).wide (by omega) (by have:=g.size;omega)⟩
theorem DiG.app (h:DiG p w wo W bs m q R V rb rc n E e t){s:ByteArray}{ty:TypeId}(hsz:s.size<=maxLen){w4:World}{gg cq:Nat}(hown:w4.ownsRow t.lo 9 1 (.slice (some ⟨gg,0,none⟩) (e.np+1) cq) (e.np+1) (strs e.Pv e.np ++ [.string s]))(hgr:(W.alloc (.cells #[.string s] ty)).grownBy w4 (Value.slice t.pa e.np t.cp).ownBlock)(hat:(Value.slice t.pa e.np t.cp).ownBlock=some gg∨gg=W.heap.size+1):DiW w (w4.setCell ⟨V,6,none⟩ (.slice (some ⟨gg,0,none⟩) (e.np+1) cq)) R V rb rc n E (addP e s) (some ⟨gg,0,none⟩) cq t.aa t.ca t.ga t.cg:=by
 have h1:=h.lp
 have h2:=h.hp
 have h3:=h.hr
 have h5:=h.lo
 have h6:=h.hi
 have h7:=h.qo.j.hh
 have h8:=h.vs
 have h4:wo.heap.size<=W.heap.size:=h.dw.size
 have hbA:Below W.heap.size W (W.alloc (.cells #[.string s] ty)):=bA
 have hs4:W.heap.size+1<=w4.heap.size:=by have:=hgr.size;simpa using this
 have hbk:∀ b,(Value.slice t.pa e.np t.cp).ownBlock=some b->t.lo<=b∧b<t.hi:=fun b hb=>⟨(ownsRow_blk h.qo.p b hb).1,h.qo.h b (Or.inl hb)⟩
 have g:=Lib.grownBy_setCell w4 V 6 (.slice (some ⟨gg,0,none⟩) (e.np+1) cq)
 have hk4:∀ b,b<W.heap.size->(Value.slice t.pa e.np t.cp).ownBlock≠some b->w4.heap[b]?=W.heap[b]?:=fun b hb hn=>(hgr.block b (by simp;omega) (fun e'=>hn e'.symm)).trans (hbA.block b hb)
 have hk:∀ b,b<W.heap.size->b≠V->(Value.slice t.pa e.np t.cp).ownBlock≠some b->(w4.setCell ⟨V,6,none⟩ (.slice (some ⟨gg,0,none⟩) (e.np+1) cq)).heap[b]?=W.heap[b]?:=fun b hb hV hn=>(g.block b (by omega) (fun e'=>by injection e' with e';omega)).trans (hk4 b hb hn)
 have hgV:gg≠V:=by
  rcases hat with q|q
  ·have:=hbk gg q;omega
  ·omega
 have hP:OwnT (w4.setCell ⟨V,6,none⟩ (.slice (some ⟨gg,0,none⟩) (e.np+1) cq)) t.lo (.slice (some ⟨gg,0,none⟩) (e.np+1) cq) (e.np+1) (extF e.Pv e.np s):=by
  unfold OwnT
  rw [<- strs_ext]
  exact ownsRow_k hown (fun b hb hl=>g.block b hl (fun e'=>hgV (by have hq:gg=b:=(by simpa [Value.ownBlock] using hb);injection e' with e';omega)))
 have hA:OwnT (w4.setCell ⟨V,6,none⟩ (.slice (some ⟨gg,0,none⟩) (e.np+1) cq)) t.lo (.slice t.aa e.na t.ca) e.na e.Av:=ownsRow_k h.qo.a (fun b hb hl=>hk b hl (by have:=h.qo.h b (Or.inr (Or.inl hb));omega) (fun h=>DiG.qo ‹_› |>.d b h hb))
 have hG:OwnG (w4.setCell ⟨V,6,none⟩ (.slice (some ⟨gg,0,none⟩) (e.np+1) cq)) t.lo (.slice t.ga e.ng t.cg) e.ng e.M e.L:=ownsRow_k h.qo.g (fun b hb hl=>hk b hl (by have:=h.qo.h b (Or.inr (Or.inr hb));omega) (own_tne h.qo.g h.qo.p (by decide) b hb))
 have ho:=h.qo.j.ok
 have hq:=qo_of (e:=addP e s) (pa:=some ⟨gg,0,none⟩) (cp:=cq) (by have:=g.size;omega) hP hA hG (fun b hb hc=>by
  have hq:gg=b:=(by simpa [Value.ownBlock] using hb)
  have hl:=h.qo.h b (Or.inr (Or.inl hc))
  rcases hat with q|q
  ·exact h.qo.d b (hq ▸ q) hc
  ·omega) ⟨ho.hid,ho.hsd,ho.hty,ho.hkey,ho.hval⟩ (fun i hi=>by
  show (extF e.Pv e.np s i).size<=maxLen
  by_cases ei:i=e.np
  ·subst ei;rw [extF_at];exact hsz
  ·rw [extF_lt _ _ (by have:i<e.np+1:=hi;omega)];exact ho.hp.size i (by have:i<e.np+1:=hi;omega)) ho.ha.size ho.hg.size
 refine h.put (by have:=g.size;omega) (fun b x y=>hk b (by omega) (by omega) (fun hn=>by have:=hbk b hn;omega)) ?_ (fun o ho=>?_) ⟨hq.j.ok,hq.j.ip.wide (by show w.heap.size+2<=t.lo;omega) (Nat.le_refl _),hq.j.ia.wide (by show w.heap.size+2<=t.lo;omega) (Nat.le_refl _),hq.j.ig.wide (by show w.heap.size+2<=t.lo;omega) (Nat.le_refl _)⟩
 ·refine Below.setCell ?_ (by show w.heap.size<=V;omega) _
  exact (h.x.bel.trans (hbA.mono h.x.bel.size)).grown hgr (by have:=hbA.size;have:=h.x.bel.size;omega) (fun b hb=>by have:=hbk b hb;omega)
 ·have hV4:∀ o,w4.cell? ⟨V,o,none⟩=W.cell? ⟨V,o,none⟩:=fun o=>World.cell?_of_block (a:=⟨V,o,none⟩) (hk4 V h8 (fun hn=>by have:=hbk V hn;omega))
  by_cases e6:o=6
  ·subst e6
   exact set_same ⟨_,(hV4 6).trans (h.x.v 6 (by decide))⟩
  ·rw [set_far (by omega),hV4,h.x.v o ho]
   match o,ho,e6 with
   | 0,_,_=>rfl
   | 1,_,_=>rfl
   | 2,_,_=>rfl
   | 3,_,_=>rfl
   | 4,_,_=>rfl
   | 5,_,_=>rfl
   | 7,_,_=>rfl
   | 8,_,_=>rfl
   | 9,_,_=>rfl
theorem RdF.put {w:World}{p:Nat}{bs:Nat->Nat}{m q q':Nat}(h:RdF w p bs m q)(hq:q'<=2000):RdF (w.setCell ⟨p,1,none⟩ (.int .i64 (q':Int))) p bs m q':=by
 obtain ⟨hlt,h1,h2,h3,⟨a,cap,c0,c1,hB⟩,hf⟩:=h
 refine ⟨by simpa [World.setCell] using hlt,h1,hq,h3,⟨a,cap,by rw [set_far (by omega)];exact c0,set_same ⟨_,c1⟩,hB.imp id fun ⟨b,off,e,hne,hx⟩=>⟨b,off,e,hne,fun i hi=>?_⟩⟩,by rw [World.frozen?_setCell];exact hf⟩
 rw [far_block (by omega)]
 exact hx i hi
theorem DiG.place (h:DiG p w wo W bs m q R V rb rc n E e t){q':Nat}(hq:q'<=2000):DiG p w wo (W.setCell ⟨p,1,none⟩ (.int .i64 (q':Int))) bs m q' R V rb rc n E e t:=by
 have h1:=h.lp
 have h2:=h.hp
 have h3:=h.hr
 have h5:=h.lo
 have h6:=h.hi
 have h7:=h.qo.j.hh
 have h4:wo.heap.size<=W.heap.size:=h.dw.size
 have g:=Lib.grownBy_setCell W p 1 (.int .i64 (q':Int))
 have hK:Kb p W (W.setCell ⟨p,1,none⟩ (.int .i64 (q':Int))):=(Kb.refl _ _).set 1 _
 have hq2:=h.qo.kx hK (Or.inl (by omega))
 have hc:∀ b o,b≠p->(W.setCell ⟨p,1,none⟩ (.int .i64 (q':Int))).cell? ⟨b,o,none⟩=W.cell? ⟨b,o,none⟩:=fun b o x=>far_block (by omega)
 have hrm:RmI (p+1) R (W.setCell ⟨p,1,none⟩ (.int .i64 (q':Int))) rb rc n E:=h.rm.ki ((KI.refl _ _ _).set (Or.inl (Nat.lt_succ_self _)) _ _)
 exact ⟨⟨h.x.z0.imp fun v hv=>(hc _ _ (by omega)).trans hv,fun o ho=>(h.x.z1 o ho).imp fun v hv=>(hc _ _ (by omega)).trans hv,fun o=>by rw [World.frozen?_setCell];exact h.x.g0 o,fun o=>by rw [World.frozen?_setCell];exact h.x.g1 o,(hc _ _ (by omega)).trans h.x.r,fun o ho=>(hc _ _ (by omega)).trans (h.x.v o ho),h.x.lr,h.x.lv,h.x.bel.setCell (by show w.heap.size<=p;omega) _,hrm.wide (by omega) (by have:=g.size;omega),EvI.wide (B:=t.lo) (C:=t.hi) ⟨hq2.j.ok,hq2.j.ip,hq2.j.ia,hq2.j.ig⟩ (by omega) (by have:=g.size;omega)⟩,by rw [World.frozen?_setCell];exact h.fr,fun o=>by rw [World.frozen?_setCell];exact h.fv o,hrm,h.bo,hq2,h5,h6,⟨h.dw.1.put hq,h.dw.2.andThen g (fun _ hj=>Or.inr hj)⟩,h1,h2,h3,by have:=g.size;have:=h.vs;omega⟩
theorem SlS.ivX {w:World}{a:Option Addr}{n cap lo hi nw B:Nat}{S:Nat->ByteArray}(h:SlS w a n cap S)(hv:XeS a n lo hi nw)(h1:B<=lo)(h2:B<=nw):Iv a n B w.heap.size:=by
 rcases hv with h0|⟨b,off,rfl,h3⟩
 ·exact Or.inl h0
 ·rcases h.cells with h0|⟨b',off',e,hlt,_⟩
  ·exact Or.inl h0
  ·have e2:b=b':=by injection e with e;injection e
   exact Or.inr ⟨b,off,rfl,by omega,by omega⟩
theorem SlG.ivX {w:World}{a:Option Addr}{n cap lo hi nw B:Nat}{M:Nat->ByteArray}{L:Nat->Int}(h:SlG w a n cap M L)(hv:XeS a n lo hi nw)(h1:B<=lo)(h2:B<=nw):Iv a n B w.heap.size:=by
 rcases hv with h0|⟨b,off,rfl,h3⟩
 ·exact Or.inl h0
 ·rcases h.cells with h0|⟨b',off',e,hlt,_⟩
  ·exact Or.inl h0
  ·have e2:b=b':=by injection e with e;injection e
   exact Or.inr ⟨b,off,rfl,by omega,by omega⟩
theorem DiG.spoil (h:DiG p w wo W bs m q R V rb rc n E e t){e':Ev}{pa aa ga:Option Addr}{cp ca cg q':Nat}{w5:World}(hok:EvOk w5 e' pa cp aa ca ga cg)(x1:XeS pa e'.np t.lo t.hi W.heap.size)(x2:XeS aa e'.na t.lo t.hi W.heap.size)(x3:XeS ga e'.ng t.lo t.hi W.heap.size)(hs:W.heap.size<=w5.heap.size)(hk:∀ b,b<W.heap.size->b≠p->(b<t.lo∨t.hi<=b)->w5.heap[b]?=W.heap[b]?)(hd:DwF p wo w5 bs m q'):DiW w (fiv (fun o=>(#[.string e'.id,.string e'.sd,.string e'.ty,.bool e'.st,.string e'.key,.int .i64 e'.tm,.slice pa e'.np cp,.slice aa e'.na ca,.string e'.val,.slice ga e'.ng cg]:Array Value)[o]?.getD undef) V 10 w5) R V rb rc n E e' pa cp aa ca ga cg:=by
 have h1:=h.lp
 have h2:=h.hp
 have h3:=h.hr
 have h5:=h.lo
 have h6:=h.hi
 have h7:=h.qo.j.hh
 have h8:=h.vs
 have h4:wo.heap.size<=W.heap.size:=h.dw.size
 have hK:=fiv_kb (fun o=>(#[.string e'.id,.string e'.sd,.string e'.ty,.bool e'.st,.string e'.key,.int .i64 e'.tm,.slice pa e'.np cp,.slice aa e'.na ca,.string e'.val,.slice ga e'.ng cg]:Array Value)[o]?.getD undef) V w5 10
 have y1:=x1.less (x:=V+1) h8
 have y2:=x2.less (x:=V+1) h8
 have y3:=x3.less (x:=V+1) h8
 have hp:=hok.hp.ks y1 hK h6
 have ha:=hok.ha.ks y2 hK h6
 have hg:=hok.hg.ks y3 hK h6
 have hb5:Below w.heap.size w w5:=⟨hd.2.os.trans h.bo.os,hd.2.tape.trans h.bo.tape,hd.2.output.trans h.bo.output,Nat.le_trans h.bo.size hd.2.size,fun i hi=>(hd.2.block i (Nat.lt_of_lt_of_le hi h.bo.size) (fun e=>by injection e with e;omega)).trans (h.bo.block i hi)⟩
 have hV:∀ o,w5.cell? ⟨V,o,none⟩=W.cell? ⟨V,o,none⟩:=fun o=>World.cell?_of_block (a:=⟨V,o,none⟩) (hk V h8 (by omega) (Or.inr h6))
 exact h.put (Nat.le_trans hs hK.1) (fun b x y=>(hK.2 b (by omega) (by omega)).trans (hk b (by omega) y (Or.inl (by omega)))) (fiv_below hb5 (by have:=h.x.lv;omega) _ 10) (fun o ho=>fiv_cell _ V w5 ⟨_,(hV o).trans (h.x.v o ho)⟩ 10 ho) ⟨⟨hok.hid,hok.hsd,hok.hty,hok.hkey,hok.hval,hp,ha,hg⟩,hp.ivX y1 (by omega) (by omega),ha.ivX y2 (by omega) (by omega),hg.ivX y3 (by omega) (by omega)⟩
end
set_option maxRecDepth 100000 in
set_option maxHeartbeats 4000000 in
theorem diC0 (p:Nat){bs:Nat->Nat}{m q k mm R V rb rc n:Nat}{E:Nat->Ev}{e:Ev}{t:Ls}{u0 u1 u7 u8 u10 u12 u13 u14 u15 u16 u17 u18 u19 u20 u21 u22 u23 u24 u25 u26 u27 u28 u29 u30 u31 u32 u33 u34 u35 u36 u37 u38 u39 u40 u41 u42 u43 u44 u45 u46 u47 u48 u49 u50 u51 u52 u53 u54 u55 u56 u57 u58 u59 u60 u61 u62 u63 u64 u65 u66 u67 u68 u69 u70 u71 u72 u73 u74 u75 u76 u77 u78 u79 u80 u81 u82 u83 u84 u85 u86 u87 u88 u89 u90 u91 u92 u93 u94:Value}(w wo W:World)(hk:k<256)(h4:k % 4≠3)(h2:k % 16≠2)(h6:k % 16≠6)(h10:k % 16≠10)(h14:k % 16≠14)(HG:Hid (DiG p w wo W bs m q R V rb rc n E e t))(HN:Hid (diN bs m=n))(HE:Hid (diE bs m=E))(HV:Hid (diV bs m=e))(HQ:Hid (DiRch bs m)) :
  Code.wp Tryz.prog (tlN (Tryz.f4.body.getD .skip) 7) (bodyPost Tryz.prog Tryz.f4 (DiPost bs m w)) { tmps:=#[u0,u1,.pointer (some ⟨w.heap.size,0,none⟩),.pointer (some ⟨w.heap.size+1,0,none⟩),.pointer (some ⟨p,0,none⟩),.int .i64 (k:Int),.int .i64 (mm:Int),u7,u8,.pointer (some ⟨R,0,none⟩),u10,.pointer (some ⟨V,0,none⟩),u12,u13,u14,u15,u16,u17,u18,u19,u20,u21,u22,u23,u24,u25,u26,u27,u28,u29,u30,u31,u32,u33,u34,u35,u36,u37,u38,u39,u40,u41,u42,u43,u44,u45,u46,u47,u48,u49,u50,u51,u52,u53,u54,u55,u56,u57,u58,u59,u60,u61,u62,u63,u64,u65,u66,u67,u68,u69,u70,u71,u72,u73,u74,u75,u76,u77,u78,u79,u80,u81,u82,u83,u84,u85,u86,u87,u88,u89,u90,u91,u92,u93,u94],defers:=[] } W:=by
 rw [show tlN (Tryz.f4.body.getD .skip) 7=Code.seq _ _ from rfl]
 have i0:¬ (k:Int) % 4=3:=by omega
 have i1:¬ (k:Int) % 16=2:=by omega
 have i2:¬ (k:Int) % 16=6:=by omega
 have i3:¬ (k:Int) % 16=10:=by omega
 have i4:¬ (k:Int) % 16=14:=by omega
 have HX:Hid (_):=HG.out.x
 clear HG
 go_upto_if 91 with fail
 go_cut [94] (fun _ wx=>wx=W)
 case first =>
  clear HX HN HE HV HQ
  go_wp2
  go_meet
  rfl
 case rest =>
  subst hcut
  apply_assumption
  exact diEnd w _ HX (fun W' h1 h2 h3=>⟨rb,rc,_,_,_,_,_,_,by rw [HN.out,HV.out],by rw [HN.out,HE.out];exact h1,by rw [HV.out];exact h2,HQ.out,h3⟩)
set_option maxRecDepth 100000 in
set_option maxHeartbeats 4000000 in
theorem diC14 (p:Nat){bs:Nat->Nat}{m q k mm R V rb rc n:Nat}{E:Nat->Ev}{e:Ev}{t:Ls}{u0 u1 u7 u8 u10 u12 u13 u14 u15 u16 u17 u18 u19 u20 u21 u22 u23 u24 u25 u26 u27 u28 u29 u30 u31 u32 u33 u34 u35 u36 u37 u38 u39 u40 u41 u42 u43 u44 u45 u46 u47 u48 u49 u50 u51 u52 u53 u54 u55 u56 u57 u58 u59 u60 u61 u62 u63 u64 u65 u66 u67 u68 u69 u70 u71 u72 u73 u74 u75 u76 u77 u78 u79 u80 u81 u82 u83 u84 u85 u86 u87 u88 u89 u90 u91 u92 u93 u94:Value}(w wo W:World)(hk:k<256)(hc:k % 16=14)(HG:Hid (DiG p w wo W bs m q R V rb rc n E e t))(HN:Hid (diN bs m=n))(HE:Hid (diE bs m=E))(HV:Hid (diV bs m=evN1))(HQ:Hid (DiRch bs m)) :
  Code.wp Tryz.prog (tlN (Tryz.f4.body.getD .skip) 7) (bodyPost Tryz.prog Tryz.f4 (DiPost bs m w)) { tmps:=#[u0,u1,.pointer (some ⟨w.heap.size,0,none⟩),.pointer (some ⟨w.heap.size+1,0,none⟩),.pointer (some ⟨p,0,none⟩),.int .i64 (k:Int),.int .i64 (mm:Int),u7,u8,.pointer (some ⟨R,0,none⟩),u10,.pointer (some ⟨V,0,none⟩),u12,u13,u14,u15,u16,u17,u18,u19,u20,u21,u22,u23,u24,u25,u26,u27,u28,u29,u30,u31,u32,u33,u34,u35,u36,u37,u38,u39,u40,u41,u42,u43,u44,u45,u46,u47,u48,u49,u50,u51,u52,u53,u54,u55,u56,u57,u58,u59,u60,u61,u62,u63,u64,u65,u66,u67,u68,u69,u70,u71,u72,u73,u74,u75,u76,u77,u78,u79,u80,u81,u82,u83,u84,u85,u86,u87,u88,u89,u90,u91,u92,u93,u94],defers:=[] } W:=by
 rw [show tlN (Tryz.f4.body.getD .skip) 7=Code.seq _ _ from rfl]
 have i0:¬ (k:Int) % 4=3:=by omega
 have i1:¬ (k:Int) % 16=2:=by omega
 have i2:¬ (k:Int) % 16=6:=by omega
 have i3:¬ (k:Int) % 16=10:=by omega
 have i4:(k:Int) % 16=14:=by omega
 go_upto_if 91 with fail
 go_cut [94] (fun _ wx=>∃ pa cp aa ca ga cg,Hid (DiW w wx R V rb rc (n) E (evN1) pa cp aa ca ga cg))
 case first =>
  clear HN HE HV
  have HX:Hid (_):=HG.out.fill (e':=evN1) (pa:=none) (cp:=0) (aa:=none) (ca:=0) (ga:=none) (cg:=0) ⟨⟨by decide,by decide,by decide,by decide,by decide,⟨Nat.le_refl _,by decide,fun i hi=>absurd hi (Nat.not_lt_zero _),Or.inl rfl⟩,⟨Nat.le_refl _,by decide,fun i hi=>absurd hi (Nat.not_lt_zero _),Or.inl rfl⟩,⟨Nat.le_refl _,by decide,fun i hi=>absurd hi (Nat.not_lt_zero _),Or.inl rfl⟩⟩,Or.inl rfl,Or.inl rfl,Or.inl rfl⟩
  have fv:=HG.out.fv
  have c0:=HG.out.x.v 0 (by decide)
  have c1:=HG.out.x.v 1 (by decide)
  have c2:=HG.out.x.v 2 (by decide)
  have c3:=HG.out.x.v 3 (by decide)
  have c4:=HG.out.x.v 4 (by decide)
  have c5:=HG.out.x.v 5 (by decide)
  have c6:=HG.out.x.v 6 (by decide)
  have c7:=HG.out.x.v 7 (by decide)
  have c8:=HG.out.x.v 8 (by decide)
  have c9:=HG.out.x.v 9 (by decide)
  clear HG
  go_wp2
  go_meet
  exact ⟨none,0,none,0,none,0,HX⟩
 case rest =>
  obtain ⟨pa,cp,aa,ca,ga,cg,HX⟩:=hcut
  obtain ⟨w9,hw9⟩:∃ w9:World,w9=wc:=⟨_,rfl⟩
  subst hw9
  clear HG
  apply_assumption
  exact diEnd w _ HX (fun W' h1 h2 h3=>⟨rb,rc,_,_,_,_,_,_,by rw [HN.out,HV.out],by rw [HN.out,HE.out];exact h1,by rw [HV.out];exact h2,HQ.out,h3⟩)
set_option maxRecDepth 100000 in
set_option maxHeartbeats 4000000 in
theorem diC10 (p:Nat){bs:Nat->Nat}{m q k mm R V rb rc n:Nat}{E:Nat->Ev}{e:Ev}{t:Ls}{u0 u1 u7 u8 u10 u12 u13 u14 u15 u16 u17 u18 u19 u20 u21 u22 u23 u24 u25 u26 u27 u28 u29 u30 u31 u32 u33 u34 u35 u36 u37 u38 u39 u40 u41 u42 u43 u44 u45 u46 u47 u48 u49 u50 u51 u52 u53 u54 u55 u56 u57 u58 u59 u60 u61 u62 u63 u64 u65 u66 u67 u68 u69 u70 u71 u72 u73 u74 u75 u76 u77 u78 u79 u80 u81 u82 u83 u84 u85 u86 u87 u88 u89 u90 u91 u92 u93 u94:Value}(w wo W:World)(hk:k<256){j:Nat}(hj:j=mm % 2)(hn:0<n)(hc:k % 16=10)(HG:Hid (DiG p w wo W bs m q R V rb rc n E e t))(HN:Hid (diN bs m=j))(HE:Hid (diE bs m=E))(HV:Hid (diV bs m=e))(HQ:Hid (DiRch bs m)) :
  Code.wp Tryz.prog (tlN (Tryz.f4.body.getD .skip) 7) (bodyPost Tryz.prog Tryz.f4 (DiPost bs m w)) { tmps:=#[u0,u1,.pointer (some ⟨w.heap.size,0,none⟩),.pointer (some ⟨w.heap.size+1,0,none⟩),.pointer (some ⟨p,0,none⟩),.int .i64 (k:Int),.int .i64 (mm:Int),u7,u8,.pointer (some ⟨R,0,none⟩),u10,.pointer (some ⟨V,0,none⟩),u12,u13,u14,u15,u16,u17,u18,u19,u20,u21,u22,u23,u24,u25,u26,u27,u28,u29,u30,u31,u32,u33,u34,u35,u36,u37,u38,u39,u40,u41,u42,u43,u44,u45,u46,u47,u48,u49,u50,u51,u52,u53,u54,u55,u56,u57,u58,u59,u60,u61,u62,u63,u64,u65,u66,u67,u68,u69,u70,u71,u72,u73,u74,u75,u76,u77,u78,u79,u80,u81,u82,u83,u84,u85,u86,u87,u88,u89,u90,u91,u92,u93,u94],defers:=[] } W:=by
 rw [show tlN (Tryz.f4.body.getD .skip) 7=Code.seq _ _ from rfl]
 have i0:¬ (k:Int) % 4=3:=by omega
 have i1:¬ (k:Int) % 16=2:=by omega
 have i2:¬ (k:Int) % 16=6:=by omega
 have i3:(k:Int) % 16=10:=by omega
 have i4:¬ (k:Int) % 16=14:=by omega
 go_upto_if 82 with fail
 go_cut [94] (fun _ wx=>∃ pa cp aa ca ga cg,Hid (DiW w wx R V rb rc (j) E (e) pa cp aa ca ga cg))
 case first =>
  clear HN HE HV
  have HX:Hid (_):=HG.out.cutR (n':=j) (by omega)
  have r0:=HG.out.x.r
  have fr:=HG.out.fr
  have hle:=HG.out.rm.le
  have hmx:=HG.out.rm.max
  unfold maxLen at hmx
  have h0:(0:Int)<=(mm:Int) % 2:=by omega
  have h1:(mm:Int) % 2<=(rc:Int):=by omega
  have hT:((mm:Int) % 2).toNat=j:=by omega
  clear HG
  go_wp2
  go_meet
  rw [<- hj]
  exact ⟨_,_,_,_,_,_,HX⟩
 case rest =>
  obtain ⟨pa,cp,aa,ca,ga,cg,HX⟩:=hcut
  obtain ⟨w9,hw9⟩:∃ w9:World,w9=wc:=⟨_,rfl⟩
  subst hw9
  clear HG
  go_upto_if 91 with fail
  go_cut [94] (fun _ wx=>wx=w9)
  case first =>
   clear HX HN HE HV HQ
   go_wp2
   go_meet
   rfl
  case rest =>
   subst hcut
   apply_assumption
   exact diEnd w _ HX (fun W' h1 h2 h3=>⟨rb,rc,_,_,_,_,_,_,by rw [HN.out,HV.out],by rw [HN.out,HE.out];exact h1,by rw [HV.out];exact h2,HQ.out,h3⟩)
set_option maxRecDepth 100000 in
set_option maxHeartbeats 4000000 in
theorem diC2 (p:Nat){bs:Nat->Nat}{m q k mm R V rb rc n:Nat}{E:Nat->Ev}{e:Ev}{t:Ls}{u0 u1 u7 u8 u10 u12 u13 u14 u15 u16 u17 u18 u19 u20 u21 u22 u23 u24 u25 u26 u27 u28 u29 u30 u31 u32 u33 u34 u35 u36 u37 u38 u39 u40 u41 u42 u43 u44 u45 u46 u47 u48 u49 u50 u51 u52 u53 u54 u55 u56 u57 u58 u59 u60 u61 u62 u63 u64 u65 u66 u67 u68 u69 u70 u71 u72 u73 u74 u75 u76 u77 u78 u79 u80 u81 u82 u83 u84 u85 u86 u87 u88 u89 u90 u91 u92 u93 u94:Value}(w wo W:World)(hk:k<256)(hn:0<n)(hc:k % 16=2)(HG:Hid (DiG p w wo W bs m q R V rb rc n E e t))(HN:Hid (diN bs m=n))(HE:Hid (diE bs m=E))(HV:Hid (diV bs m=E (mm % n)))(HQ:Hid (DiRch bs m)) :
  Code.wp Tryz.prog (tlN (Tryz.f4.body.getD .skip) 7) (bodyPost Tryz.prog Tryz.f4 (DiPost bs m w)) { tmps:=#[u0,u1,.pointer (some ⟨w.heap.size,0,none⟩),.pointer (some ⟨w.heap.size+1,0,none⟩),.pointer (some ⟨p,0,none⟩),.int .i64 (k:Int),.int .i64 (mm:Int),u7,u8,.pointer (some ⟨R,0,none⟩),u10,.pointer (some ⟨V,0,none⟩),u12,u13,u14,u15,u16,u17,u18,u19,u20,u21,u22,u23,u24,u25,u26,u27,u28,u29,u30,u31,u32,u33,u34,u35,u36,u37,u38,u39,u40,u41,u42,u43,u44,u45,u46,u47,u48,u49,u50,u51,u52,u53,u54,u55,u56,u57,u58,u59,u60,u61,u62,u63,u64,u65,u66,u67,u68,u69,u70,u71,u72,u73,u74,u75,u76,u77,u78,u79,u80,u81,u82,u83,u84,u85,u86,u87,u88,u89,u90,u91,u92,u93,u94],defers:=[] } W:=by
 rw [show tlN (Tryz.f4.body.getD .skip) 7=Code.seq _ _ from rfl]
 have i0:¬ (k:Int) % 4=3:=by omega
 have i1:(k:Int) % 16=2:=by omega
 have i2:¬ (k:Int) % 16=6:=by omega
 have i3:¬ (k:Int) % 16=10:=by omega
 have i4:¬ (k:Int) % 16=14:=by omega
 go_upto_if 62 with fail
 go_cut [94] (fun _ wx=>∃ pa cp aa ca ga cg,Hid (DiW w wx R V rb rc (n) E (E (mm % n)) pa cp aa ca ga cg))
 case first =>
  clear HN HE HV
  have HD:Hid (_):=HG.out
  clear HG
  obtain ⟨j,hj⟩:∃ j,j=mm % n:=⟨_,rfl⟩
  have hjn:j<n:=by rw [hj];exact Nat.mod_lt _ hn
  have hn0:¬ n=0:=by omega
  have htm:(mm:Int).tmod (n:Int)=(j:Int):=by rw [Int.tmod_eq_emod_of_nonneg (by omega),hj];exact (Int.natCast_emod mm n).symm
  obtain ⟨pa,cp,aa,ca,ga,cg,hcs,hev⟩:=HD.out.rm.ev j hjn
  have HX:Hid (_):=(HD.out.fill hev).drew
  have r0:=HD.out.x.r
  have fv:=HD.out.fv
  have hle:=HD.out.rm.le
  have hmx:=HD.out.rm.max
  unfold maxLen at hmx
  have HJ:Hid (j=mm % n):=hj
  clear hj
  have j0:(0:Int)<=(j:Int):=by omega
  have j1:(j:Int)<(n:Int):=by omega
  have nV:rb≠V:=by have:=HD.out.rm.hi;have:=HD.out.hr;have:=HD.out.lo;have:=HD.out.hi;have:=HD.out.qo.j.hh.1;omega
  have HS1:Hid ((fun X=>X.cell? ⟨R,0,none⟩=some (.slice (some ⟨rb,0,none⟩) n rc)∧X.cell? ⟨rb,j * 10,none⟩=some (.string (E j).id)∧X.cell? ⟨rb,j * 10+1,none⟩=some (.string (E j).sd)∧X.cell? ⟨rb,j * 10+2,none⟩=some (.string (E j).ty)∧X.cell? ⟨rb,j * 10+3,none⟩=some (.bool (E j).st)∧X.cell? ⟨rb,j * 10+4,none⟩=some (.string (E j).key)∧X.cell? ⟨rb,j * 10+5,none⟩=some (.int .i64 (E j).tm)∧X.cell? ⟨rb,j * 10+6,none⟩=some (.slice pa (E j).np cp)∧X.cell? ⟨rb,j * 10+7,none⟩=some (.slice aa (E j).na ca)∧X.cell? ⟨rb,j * 10+8,none⟩=some (.string (E j).val)∧X.cell? ⟨rb,j * 10+9,none⟩=some (.slice ga (E j).ng cg)) W.drew):=by
   obtain ⟨d0,d1,d2,d3,d4,d5,d6,d7,d8,d9⟩:=hcs
   exact ⟨r0,d0,d1,d2,d3,d4,d5,d6,d7,d8,d9⟩
  have HS2:Hid ((fun X=>X.cell? ⟨R,0,none⟩=some (.slice (some ⟨rb,0,none⟩) n rc)∧X.cell? ⟨rb,j * 10,none⟩=some (.string (E j).id)∧X.cell? ⟨rb,j * 10+1,none⟩=some (.string (E j).sd)∧X.cell? ⟨rb,j * 10+2,none⟩=some (.string (E j).ty)∧X.cell? ⟨rb,j * 10+3,none⟩=some (.bool (E j).st)∧X.cell? ⟨rb,j * 10+4,none⟩=some (.string (E j).key)∧X.cell? ⟨rb,j * 10+5,none⟩=some (.int .i64 (E j).tm)∧X.cell? ⟨rb,j * 10+6,none⟩=some (.slice pa (E j).np cp)∧X.cell? ⟨rb,j * 10+7,none⟩=some (.slice aa (E j).na ca)∧X.cell? ⟨rb,j * 10+8,none⟩=some (.string (E j).val)∧X.cell? ⟨rb,j * 10+9,none⟩=some (.slice ga (E j).ng cg)) (fiv (fun o=>(#[.string (E j).id,.string (E j).sd,.string (E j).ty,.bool (E j).st,.string (E j).key,.int .i64 (E j).tm,.slice pa (E j).np cp,.slice aa (E j).na ca,.string (E j).val,.slice ga (E j).ng cg]:Array Value)[o]?.getD undef) V 10 W).drew):=by
   have hK:=(fiv_kb (fun o=>(#[.string (E j).id,.string (E j).sd,.string (E j).ty,.bool (E j).st,.string (E j).key,.int .i64 (E j).tm,.slice pa (E j).np cp,.slice aa (E j).na ca,.string (E j).val,.slice ga (E j).ng cg]:Array Value)[o]?.getD undef) V W 10).drw
   have hb:=HD.out.rm.sz
   obtain ⟨d0,d1,d2,d3,d4,d5,d6,d7,d8,d9⟩:=hcs
   have hc:∀ o,_:=fun o=>hK.cell (o:=o) hb nV
   exact ⟨HX.out.r,(hc _).trans d0,(hc _).trans d1,(hc _).trans d2,(hc _).trans d3,(hc _).trans d4,(hc _).trans d5,(hc _).trans d6,(hc _).trans d7,(hc _).trans d8,(hc _).trans d9⟩
  have c0:=HD.out.x.v 0 (by decide)
  have c1:=HD.out.x.v 1 (by decide)
  have c2:=HD.out.x.v 2 (by decide)
  have c3:=HD.out.x.v 3 (by decide)
  have c4:=HD.out.x.v 4 (by decide)
  have c5:=HD.out.x.v 5 (by decide)
  have c6:=HD.out.x.v 6 (by decide)
  have c7:=HD.out.x.v 7 (by decide)
  have c8:=HD.out.x.v 8 (by decide)
  have c9:=HD.out.x.v 9 (by decide)
  clear HD hev hcs
  go_wp2_with fail
  refine wp_region_held_drew (S:=fun X=>X.cell? ⟨R,0,none⟩=some (.slice (some ⟨rb,0,none⟩) n rc)∧X.cell? ⟨rb,j * 10,none⟩=some (.string (E j).id)∧X.cell? ⟨rb,j * 10+1,none⟩=some (.string (E j).sd)∧X.cell? ⟨rb,j * 10+2,none⟩=some (.string (E j).ty)∧X.cell? ⟨rb,j * 10+3,none⟩=some (.bool (E j).st)∧X.cell? ⟨rb,j * 10+4,none⟩=some (.string (E j).key)∧X.cell? ⟨rb,j * 10+5,none⟩=some (.int .i64 (E j).tm)∧X.cell? ⟨rb,j * 10+6,none⟩=some (.slice pa (E j).np cp)∧X.cell? ⟨rb,j * 10+7,none⟩=some (.slice aa (E j).na ca)∧X.cell? ⟨rb,j * 10+8,none⟩=some (.string (E j).val)∧X.cell? ⟨rb,j * 10+9,none⟩=some (.slice ga (E j).ng cg)) (by kernel_rfl) ?_ (fun hHeld=>?_)
  ·(try dsimp only);exact HS1.out
  refine tq 0 rfl ?_
  simp only [Act.put,si]
  refine tq 1 rfl ?_
  simp only [Act.put,si]
  refine tq 2 rfl ?_
  simp only [Act.put,si]
  refine tq 3 rfl ?_
  simp only [Act.put,si]
  refine tq 4 rfl ?_
  simp only [Act.put,si]
  refine tq 5 rfl ?_
  simp only [Act.put,si]
  refine wpAnyH_take (i:=6) (v:=.int .i64 (j:Int)) rfl (by kernel_rfl) (by kernel_rfl) (by kernel_rfl) (fun _ _ _ h=>h) (Or.inl ⟨by rfl,?hm7⟩) (by assumption) ?_
  case hm7=>(intro w h;(try dsimp only at h);go_simp;try rw [if_neg hn0,htm])
  simp only [Act.put,si]
  refine tq 7 rfl ?_
  simp only [Act.put,si]
  refine tq 8 rfl ?_
  simp only [Act.put,si]
  refine wpAnyH_ready (rs:=[9]) (by kernel_rfl) (by simp) ?_
  refine AllReadyH.cons rfl (fun K hK=>?_) AllReadyH.nil
  go_simp
  refine hK.out _ _ ?_ (fun hHeld=>?_)
  ·(try dsimp only);exact HS2.out
  clear hK K
  try simp only [Act.put,si]
  refine wpAnyH_done (by kernel_rfl) ?_ _
  (try go_wp2_with fail)
  go_meet
  rw [<- HJ.out]
  exact ⟨_,_,_,_,_,_,HX⟩
 case rest =>
  obtain ⟨pa,cp,aa,ca,ga,cg,HX⟩:=hcut
  obtain ⟨w9,hw9⟩:∃ w9:World,w9=wc:=⟨_,rfl⟩
  subst hw9
  clear HG
  go_upto_if 91 with fail
  go_cut [94] (fun _ wx=>wx=w9)
  case first =>
   clear HX HN HE HV HQ
   go_wp2
   go_meet
   rfl
  case rest =>
   subst hcut
   apply_assumption
   exact diEnd w _ HX (fun W' h1 h2 h3=>⟨rb,rc,_,_,_,_,_,_,by rw [HN.out,HV.out],by rw [HN.out,HE.out];exact h1,by rw [HV.out];exact h2,HQ.out,h3⟩)
set_option maxRecDepth 100000 in
set_option maxHeartbeats 4000000 in
theorem diC6 (p:Nat){bs:Nat->Nat}{m q k mm R V rb rc n:Nat}{E:Nat->Ev}{e:Ev}{t:Ls}{u0 u1 u7 u8 u10 u12 u13 u14 u15 u16 u17 u18 u19 u20 u21 u22 u23 u24 u25 u26 u27 u28 u29 u30 u31 u32 u33 u34 u35 u36 u37 u38 u39 u40 u41 u42 u43 u44 u45 u46 u47 u48 u49 u50 u51 u52 u53 u54 u55 u56 u57 u58 u59 u60 u61 u62 u63 u64 u65 u66 u67 u68 u69 u70 u71 u72 u73 u74 u75 u76 u77 u78 u79 u80 u81 u82 u83 u84 u85 u86 u87 u88 u89 u90 u91 u92 u93 u94:Value}(w wo W:World)(hk:k<256)(hnp:e.np<=1000)(hc:k % 16=6)(HG:Hid (DiG p w wo W bs m q R V rb rc n E e t))(HN:Hid (diN bs m=n))(HE:Hid (diE bs m=E))(HV:Hid (diV bs m=addP e tNo5))(HQ:Hid (DiRch bs m)) :
  Code.wp Tryz.prog (tlN (Tryz.f4.body.getD .skip) 7) (bodyPost Tryz.prog Tryz.f4 (DiPost bs m w)) { tmps:=#[u0,u1,.pointer (some ⟨w.heap.size,0,none⟩),.pointer (some ⟨w.heap.size+1,0,none⟩),.pointer (some ⟨p,0,none⟩),.int .i64 (k:Int),.int .i64 (mm:Int),u7,u8,.pointer (some ⟨R,0,none⟩),u10,.pointer (some ⟨V,0,none⟩),u12,u13,u14,u15,u16,u17,u18,u19,u20,u21,u22,u23,u24,u25,u26,u27,u28,u29,u30,u31,u32,u33,u34,u35,u36,u37,u38,u39,u40,u41,u42,u43,u44,u45,u46,u47,u48,u49,u50,u51,u52,u53,u54,u55,u56,u57,u58,u59,u60,u61,u62,u63,u64,u65,u66,u67,u68,u69,u70,u71,u72,u73,u74,u75,u76,u77,u78,u79,u80,u81,u82,u83,u84,u85,u86,u87,u88,u89,u90,u91,u92,u93,u94],defers:=[] } W:=by
 rw [show tlN (Tryz.f4.body.getD .skip) 7=Code.seq _ _ from rfl]
 have i0:¬ (k:Int) % 4=3:=by omega
 have i1:¬ (k:Int) % 16=2:=by omega
 have i2:(k:Int) % 16=6:=by omega
 have i3:¬ (k:Int) % 16=10:=by omega
 have i4:¬ (k:Int) % 16=14:=by omega
 go_upto_if 74 with fail
 go_cut [94] (fun _ wx=>∃ pa cp aa ca ga cg,Hid (DiW w wx R V rb rc (n) E (addP e tNo5) pa cp aa ca ga cg))
 case first =>
  clear HN HE HV
  obtain ⟨l0,hl0,hz0,hz1,hz2⟩:=info_parts Tryz.infoString
  have b6:W.cell? ⟨V,6,none⟩=some (.slice t.pa e.np t.cp):=HG.out.x.v 6 (by decide)
  have HO:Hid (W.ownsRow t.lo 9 1 (.slice t.pa e.np t.cp) e.np (strs e.Pv e.np)):=HG.out.qo.p
  have hlw:t.lo<=W.heap.size:=by have:=HG.out.qo.j.hh;omega
  have hm1:e.np+1<=maxLen:=by unfold maxLen;omega
  have hm2:(e.np+1) * 16<=140737488355328:=by omega
  have HZ:Hid (∀ w4 gg cq,w4.ownsRow t.lo 9 1 (.slice (some ⟨gg,0,none⟩) (e.np+1) cq) (e.np+1) (strs e.Pv e.np ++ [.string tNo5])->(W.alloc (.cells #[.string tNo5] 9)).grownBy w4 (Value.slice t.pa e.np t.cp).ownBlock->((Value.slice t.pa e.np t.cp).ownBlock=some gg∨gg=W.heap.size+1)->DiW w (w4.setCell ⟨V,6,none⟩ (.slice (some ⟨gg,0,none⟩) (e.np+1) cq)) R V rb rc n E (addP e tNo5) (some ⟨gg,0,none⟩) cq t.aa t.ca t.ga t.cg∧w4.cell? ⟨V,6,none⟩=some (.slice t.pa e.np t.cp)∧w4.frozen? ⟨V,6,none⟩=false):=fun w4 gg cq h1 h2 h3=>by
   have n1:some V≠(Value.slice t.pa e.np t.cp).ownBlock:=fun q=>by have:=HG.out.qo.h V (Or.inl q.symm);have:=HG.out.hi;omega
   have h8:=HG.out.vs
   have hbA:Below W.heap.size W (W.alloc (.cells #[.string tNo5] 9)):=bA
   exact ⟨HG.out.app (by decide) h1 h2 h3,(h2.cell_far ⟨V,6,none⟩ (by show V<_;simp;omega) n1).trans ((hbA.cell (by exact h8)).trans b6),(h2.frozen_far ⟨V,6,none⟩ (by show V<_;simp;omega) n1).trans ((hbA.frozen (by exact h8)).trans (HG.out.fv 6))⟩
  clear HG
  go_wp2_with (at_builtin;refine wpList_append_lies _ rfl _ _ 26 rfl t.lo 9 l0 (.string ByteArray.empty) 1 16 Tryz.underlying26 hl0 hz0 hz1 hz2 rfl (by decide) _ _ _ rfl (World.ownsRow.alloc HO.out _) ⟨W.heap.size,0,none⟩ 1 1 [.string tNo5] rfl rfl (one_cells _ _ _) (one_one _) (by decide) hm1 hm2 (by simp;omega) (W.heap.size+1) (by simp) ?_;intro gg cq w4 hown4 hgr4 hat4 hlt4;have y6:=(HZ.out w4 gg cq hown4 hgr4 hat4).2.1;have g6:=(HZ.out w4 gg cq hown4 hgr4 hat4).2.2)
  go_meet
  exact ⟨_,_,_,_,_,_,(HZ.out w4 gg cq hown4 hgr4 hat4).1⟩
 case rest =>
  obtain ⟨pa,cp,aa,ca,ga,cg,HX⟩:=hcut
  obtain ⟨w9,hw9⟩:∃ w9:World,w9=wc:=⟨_,rfl⟩
  subst hw9
  clear HG
  go_upto_if 91 with fail
  go_cut [94] (fun _ wx=>wx=w9)
  case first =>
   clear HX HN HE HV HQ
   go_wp2
   go_meet
   rfl
  case rest =>
   subst hcut
   apply_assumption
   exact diEnd w _ HX (fun W' h1 h2 h3=>⟨rb,rc,_,_,_,_,_,_,by rw [HN.out,HV.out],by rw [HN.out,HE.out];exact h1,by rw [HV.out];exact h2,HQ.out,h3⟩)
set_option maxRecDepth 100000 in
set_option maxHeartbeats 4000000 in
theorem diC3 (p:Nat){bs:Nat->Nat}{m q k mm R V rb rc n:Nat}{E:Nat->Ev}{e:Ev}{t:Ls}{u0 u1 u7 u8 u10 u12 u13 u14 u15 u16 u17 u18 u19 u20 u21 u22 u23 u24 u25 u26 u27 u28 u29 u30 u31 u32 u33 u34 u35 u36 u37 u38 u39 u40 u41 u42 u43 u44 u45 u46 u47 u48 u49 u50 u51 u52 u53 u54 u55 u56 u57 u58 u59 u60 u61 u62 u63 u64 u65 u66 u67 u68 u69 u70 u71 u72 u73 u74 u75 u76 u77 u78 u79 u80 u81 u82 u83 u84 u85 u86 u87 u88 u89 u90 u91 u92 u93 u94:Value}(w wo W:World)(hk:k<256)(hbd:e.np<=1000∧e.na<=1000∧e.ng<=1000)(hc:k % 4=3)(HG:Hid (DiG p w wo W bs m q R V rb rc n E e t))(HN:Hid (diN bs m=n))(HE:Hid (diE bs m=E))(HV:Hid (diV bs m=spE (nxB bs m (mm % 9)) (nxB bs m (nxQ m (mm % 9))) e))(HQ:Hid (DiRch bs m)) :
  Code.wp Tryz.prog (tlN (Tryz.f4.body.getD .skip) 7) (bodyPost Tryz.prog Tryz.f4 (DiPost bs m w)) { tmps:=#[u0,u1,.pointer (some ⟨w.heap.size,0,none⟩),.pointer (some ⟨w.heap.size+1,0,none⟩),.pointer (some ⟨p,0,none⟩),.int .i64 (k:Int),.int .i64 (mm:Int),u7,u8,.pointer (some ⟨R,0,none⟩),u10,.pointer (some ⟨V,0,none⟩),u12,u13,u14,u15,u16,u17,u18,u19,u20,u21,u22,u23,u24,u25,u26,u27,u28,u29,u30,u31,u32,u33,u34,u35,u36,u37,u38,u39,u40,u41,u42,u43,u44,u45,u46,u47,u48,u49,u50,u51,u52,u53,u54,u55,u56,u57,u58,u59,u60,u61,u62,u63,u64,u65,u66,u67,u68,u69,u70,u71,u72,u73,u74,u75,u76,u77,u78,u79,u80,u81,u82,u83,u84,u85,u86,u87,u88,u89,u90,u91,u92,u93,u94],defers:=[] } W:=by
 rw [show tlN (Tryz.f4.body.getD .skip) 7=Code.seq _ _ from rfl]
 have i0:(k:Int) % 4=3:=by omega
 have i1:¬ (k:Int) % 16=2:=by omega
 have i2:¬ (k:Int) % 16=6:=by omega
 have i3:¬ (k:Int) % 16=10:=by omega
 have i4:¬ (k:Int) % 16=14:=by omega
 go_upto_if 51 with fail
 go_cut [94] (fun _ wx=>∃ pa cp aa ca ga cg,Hid (DiW w wx R V rb rc (n) E (spE (nxB bs m (mm % 9)) (nxB bs m (nxQ m (mm % 9))) e) pa cp aa ca ga cg))
 case first =>
  clear HN HE HV
  have h9:((mm % 9:Nat):Int)=(mm:Int) % 9:=by omega
  have HD:Hid (DiG p w wo (W.setCell ⟨p,1,none⟩ (.int .i64 ((mm:Int) % 9))) bs m (mm % 9) R V rb rc n E e t):=by
   have:=HG.out.place (q':=mm % 9) (by omega)
   rw [h9] at this
   exact this
  clear h9
  obtain ⟨a0,cap0,-,p1,-⟩:=HG.out.dw.1.cells
  have fp:=HG.out.dw.1.frz
  have HP:Hid (p<wo.heap.size):=by have:=HG.out.hp;have:=HG.out.hr;unfold Hid;omega
  have c0:=HD.out.x.v 0 (by decide)
  have c1:=HD.out.x.v 1 (by decide)
  have c2:=HD.out.x.v 2 (by decide)
  have c3:=HD.out.x.v 3 (by decide)
  have c4:=HD.out.x.v 4 (by decide)
  have c5:=HD.out.x.v 5 (by decide)
  have c6:=HD.out.x.v 6 (by decide)
  have c7:=HD.out.x.v 7 (by decide)
  have c8:=HD.out.x.v 8 (by decide)
  have c9:=HD.out.x.v 9 (by decide)
  clear HG
  go_wp2_with fail
  refine (spoilEvent p e t wo _ HP.out HD.out.lo HD.out.dw HD.out.qo hbd.1 hbd.2.1 hbd.2.2).mono ?_
  rintro x w5 ⟨pa,cp,aa,ca,ga,cg,rfl,hok,x1,x2,x3,hs5,hk5,hd5⟩
  obtain ⟨s,hs⟩:∃ s,s=spE (nxB bs m (mm % 9)) (nxB bs m (nxQ m (mm % 9))) e:=⟨_,rfl⟩
  rw [<- hs] at hok x1 x2 x3 ⊢
  have HX:Hid (_):=HD.out.spoil hok x1 x2 x3 hs5 hk5 hd5
  have kV:w5.heap[V]?=(W.setCell ⟨p,1,none⟩ (.int .i64 ((mm:Int) % 9))).heap[V]?:=hk5 V HD.out.vs (by have:=HD.out.hp;have:=HD.out.hr;have:=HD.out.lo;have:=HD.out.hi;have:=HD.out.qo.j.hh.1;omega) (Or.inr HD.out.hi)
  have fv:∀ o,w5.frozen? ⟨V,o,none⟩=false:=fun o=>(World.frozen?_of_block (a:=⟨V,o,none⟩) kV).trans (HD.out.fv o)
  have y0:w5.cell? ⟨V,0,none⟩=_:=(World.cell?_of_block (a:=⟨V,0,none⟩) kV).trans (HD.out.x.v 0 (by decide))
  have y1:w5.cell? ⟨V,1,none⟩=_:=(World.cell?_of_block (a:=⟨V,1,none⟩) kV).trans (HD.out.x.v 1 (by decide))
  have y2:w5.cell? ⟨V,2,none⟩=_:=(World.cell?_of_block (a:=⟨V,2,none⟩) kV).trans (HD.out.x.v 2 (by decide))
  have y3:w5.cell? ⟨V,3,none⟩=_:=(World.cell?_of_block (a:=⟨V,3,none⟩) kV).trans (HD.out.x.v 3 (by decide))
  have y4:w5.cell? ⟨V,4,none⟩=_:=(World.cell?_of_block (a:=⟨V,4,none⟩) kV).trans (HD.out.x.v 4 (by decide))
  have y5:w5.cell? ⟨V,5,none⟩=_:=(World.cell?_of_block (a:=⟨V,5,none⟩) kV).trans (HD.out.x.v 5 (by decide))
  have y6:w5.cell? ⟨V,6,none⟩=_:=(World.cell?_of_block (a:=⟨V,6,none⟩) kV).trans (HD.out.x.v 6 (by decide))
  have y7:w5.cell? ⟨V,7,none⟩=_:=(World.cell?_of_block (a:=⟨V,7,none⟩) kV).trans (HD.out.x.v 7 (by decide))
  have y8:w5.cell? ⟨V,8,none⟩=_:=(World.cell?_of_block (a:=⟨V,8,none⟩) kV).trans (HD.out.x.v 8 (by decide))
  have y9:w5.cell? ⟨V,9,none⟩=_:=(World.cell?_of_block (a:=⟨V,9,none⟩) kV).trans (HD.out.x.v 9 (by decide))
  clear HD hok x1 x2 x3 hs5 hk5 hd5 kV c0 c1 c2 c3 c4 c5 c6 c7 c8 c9 p1 fp
  go_wp2_with fail
  go_meet
  rw [<- hs]
  exact ⟨_,_,_,_,_,_,HX⟩
 case rest =>
  obtain ⟨pa,cp,aa,ca,ga,cg,HX⟩:=hcut
  obtain ⟨w9,hw9⟩:∃ w9:World,w9=wc:=⟨_,rfl⟩
  subst hw9
  clear HG
  go_upto_if 91 with fail
  go_cut [94] (fun _ wx=>wx=w9)
  case first =>
   clear HX HN HE HV HQ
   go_wp2
   go_meet
   rfl
  case rest =>
   subst hcut
   apply_assumption
   exact diEnd w _ HX (fun W' h1 h2 h3=>⟨rb,rc,_,_,_,_,_,_,by rw [HN.out,HV.out],by rw [HN.out,HE.out];exact h1,by rw [HV.out];exact h2,HQ.out,h3⟩)
end Go.Proofs.YtnbdlaglnefcbaaGreat
