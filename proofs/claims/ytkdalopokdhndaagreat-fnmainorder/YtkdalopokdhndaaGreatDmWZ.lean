import Derived.Test.YtkdalopokdhndaaGreatGwSZ
set_option maxHeartbeats 16000000
set_option maxRecDepth 100000
namespace Go.Proofs.YtkdalopokdhndaaGreat
open Go.RowKit
theorem Kb.cell {c:Nat}{w w':World}(h:Kb c w w'){b o:Nat}(hb:b<w.heap.size)(hn:b≠c):w'.cell? ⟨b,o,none⟩=w.cell? ⟨b,o,none⟩:=World.cell?_of_block (a:=⟨b,o,none⟩) (h.2 b hb hn)
theorem Kb.frz {c:Nat}{w w':World}(h:Kb c w w'){b o:Nat}(hb:b<w.heap.size)(hn:b≠c):w'.frozen? ⟨b,o,none⟩=w.frozen? ⟨b,o,none⟩:=World.frozen?_of_block (a:=⟨b,o,none⟩) (h.2 b hb hn)
theorem Kb.trans {c:Nat}{w w1 w2:World}(h:Kb c w w1)(h':Kb c w1 w2):Kb c w w2:=⟨nZ h.1 h'.1,fun b h1 h2=>(h'.2 b (nT h1 h.1) h2).trans (h.2 b h1 h2)⟩
theorem Kb.of {c:Nat}{w w':World}{row:Option Nat}(h:w.grownBy w' row)(hr:∀ b,row=some b->b=c):Kb c w w':=(Kb.refl c w).grow h (fun b hb=>Or.inl (hr b hb))
theorem SlS.kx {w w':World}{a:Option Addr}{n cap lo hi c:Nat}{S:Nat->ByteArray}(h:SlS w a n cap S)(hv:Iv a n lo hi)(hk:Kb c w w')(hr:c<lo∨hi<=c):SlS w' a n cap S:=by
 refine ⟨h.le,h.max,h.size,?_⟩;rcases hv with h0|⟨b,off,rfl,h1,h2⟩
 ·exact Or.inl h0
 refine h.cells.imp id fun ⟨b',off',e,hlt,hc⟩=>⟨b',off',e,nT hlt hk.1,fun i hi=>?_⟩
 have e2:b=b':=by injection e with e;injection e
 exact (hk.cell hlt (by omega)).trans (hc i hi)
theorem SlG.kx {w w':World}{a:Option Addr}{n cap lo hi c:Nat}{M:Nat->ByteArray}{L:Nat->Int}(h:SlG w a n cap M L)(hv:Iv a n lo hi)(hk:Kb c w w')(hr:c<lo∨hi<=c):SlG w' a n cap M L:=by
 refine ⟨h.le,h.max,h.size,?_⟩;rcases hv with h0|⟨b,off,rfl,h1,h2⟩
 ·exact Or.inl h0
 refine h.cells.imp id fun ⟨b',off',e,hlt,hc,hl⟩=>⟨b',off',e,nT hlt hk.1,fun i hi=>?_,fun i hi=>?_⟩
 all_goals
  have e2:b=b':=by injection e with e;injection e
 ·exact (hk.cell hlt (by omega)).trans (hc i hi)
 exact (hk.cell hlt (by omega)).trans (hl i hi)
theorem SlS.kl {w w':World}{a:Option Addr}{n cap lo c:Nat}{S:Nat->ByteArray}(h:SlS w a n cap S)(hv:LoS a n lo)(hk:Kb c w w')(hr:c<lo):SlS w' a n cap S:=by
 refine ⟨h.le,h.max,h.size,?_⟩;rcases hv with h0|⟨b,off,rfl,h1⟩
 ·exact Or.inl h0
 refine h.cells.imp id fun ⟨b',off',e,hlt,hc⟩=>⟨b',off',e,nT hlt hk.1,fun i hi=>?_⟩
 have e2:b=b':=by injection e with e;injection e
 exact (hk.cell hlt (by omega)).trans (hc i hi)
theorem SlG.kl {w w':World}{a:Option Addr}{n cap lo c:Nat}{M:Nat->ByteArray}{L:Nat->Int}(h:SlG w a n cap M L)(hv:LoS a n lo)(hk:Kb c w w')(hr:c<lo):SlG w' a n cap M L:=by
 refine ⟨h.le,h.max,h.size,?_⟩;rcases hv with h0|⟨b,off,rfl,h1⟩
 ·exact Or.inl h0
 refine h.cells.imp id fun ⟨b',off',e,hlt,hc,hl⟩=>⟨b',off',e,nT hlt hk.1,fun i hi=>?_,fun i hi=>?_⟩
 all_goals
  have e2:b=b':=by injection e with e;injection e
 ·exact (hk.cell hlt (by omega)).trans (hc i hi)
 exact (hk.cell hlt (by omega)).trans (hl i hi)
theorem EvOk.kl {w w':World}{e:Ev}{pa aa ga:Option Addr}{cp ca cg lo c:Nat}(h:EvOk w e pa cp aa ca ga cg)(hv:EvLo lo e pa aa ga)(hk:Kb c w w')(hr:c<lo):EvOk w' e pa cp aa ca ga cg :=
 ⟨h.hid,h.hsd,h.hty,h.hkey,h.hval,h.hp.kl hv.1 hk hr,h.ha.kl hv.2.1 hk hr,h.hg.kl hv.2.2 hk hr⟩
theorem SlE.kx {w w':World}{a:Option Addr}{cap c:Nat}{l:List Ent}(h:SlE w a cap l)(hk:Kb c w w')(hr:l.length=0∨∃ b off,a=some ⟨b,off,none⟩∧b≠c):SlE w' a cap l:=by
 refine ⟨h.le,h.max,h.size,?_⟩;rcases hr with h0|⟨b,off,rfl,h1⟩
 ·exact Or.inl (List.length_eq_zero_iff.1 h0)
 refine h.cells.imp id fun ⟨b',off',e,hlt,c1,c2,c3⟩=>?_
 have e2:b=b':=by injection e with e;injection e
 exact ⟨b',off',e,nT hlt hk.1,fun i hi=>(hk.cell hlt (by omega)).trans (c1 i hi),fun i hi=>(hk.cell hlt (by omega)).trans (c2 i hi),fun i hi=>(hk.cell hlt (by omega)).trans (c3 i hi)⟩
theorem QJ.kx {w w':World}{e:Ev}{t:Ls}{c:Nat}(h:QJ w e t)(hk:Kb c w w')(hr:c<t.lo∨t.hi<=c):QJ w' e t :=
 ⟨⟨h.ok.hid,h.ok.hsd,h.ok.hty,h.ok.hkey,h.ok.hval,h.ok.hp.kx h.ip hk hr,h.ok.ha.kx h.ia hk hr,h.ok.hg.kx h.ig hk hr⟩,h.ip,h.ia,h.ig,h.hh.1,nZ h.hh.2 hk.1⟩
theorem QO.kx {w w':World}{e:Ev}{t:Ls}{c:Nat}(h:QO w e t)(hk:Kb c w w')(hr:c<t.lo∨t.hi<=c):QO w' e t:=by
 have k1:∀ b,t.lo<=b->b<t.hi->b<w.heap.size->w'.heap[b]?=w.heap[b]?:=fun b h1 h2 hl=>hk.2 b hl (by omega)
 exact ⟨h.j.kx hk hr,ownsRow_k h.p (fun b hb hl=>k1 b (ownsRow_blk h.p b hb).1 (h.h b (Or.inl hb)) hl),ownsRow_k h.a (fun b hb hl=>k1 b (ownsRow_blk h.a b hb).1 (h.h b (Or.inr (Or.inl hb))) hl),ownsRow_k h.g (fun b hb hl=>k1 b (ownsRow_blk h.g b hb).1 (h.h b (Or.inr (Or.inr hb))) hl),h.d,h.h⟩
structure QK (Q:World->Ev->Ls->Prop):Prop where
 c:QC Q
 k:∀ {w w':World} {e:Ev} {t:Ls} {c:Nat},Q w e t->Kb c w w'->(c<t.lo∨t.hi<=c)->Q w' e t
theorem qkJ:QK QJ:=⟨qcJ,fun h hk hr=>h.kx hk hr⟩
theorem qkO:QK QO:=⟨qcO,fun h hk hr=>h.kx hk hr⟩
theorem RowV.kx {Q:World->Ev->Ls->Prop}(kq:QK Q){w w':World}{base n c:Nat}{v:Value}{E:Nat->Ev}{T:Nat->Ls}(h:RowV Q w base v n E T)(hk:Kb c w w')(ho:v.ownBlock≠some c)(hl:∀ i,i<n->c<(T i).lo∨(T i).hi<=c):RowV Q w' base v n E T :=
 ⟨ownsRow_k h.own (fun g hg hlt=>hk.2 g hlt (fun e=>ho (by rw [hg,e]))),fun i hi=>kq.k (h.q i hi) hk (hl i hi),h.low,h.ord,h.apart⟩
theorem RowV.kb {Q:World->Ev->Ls->Prop}(kq:QK Q){w w':World}{base n c:Nat}{v:Value}{E:Nat->Ev}{T:Nat->Ls}(h:RowV Q w base v n E T)(hk:Kb c w w')(hc:c<base):RowV Q w' base v n E T :=
 h.kx kq hk (fun e=>by have:=(ownsRow_blk h.own c e).1;omega) (fun i hi=>Or.inl (nT hc (h.low i hi)))
theorem RowV.lo {Q:World->Ev->Ls->Prop}{w:World}{base base' n:Nat}{v:Value}{E:Nat->Ev}{T:Nat->Ls}(h:RowV Q w base v n E T)(hb:base'<=base):RowV Q w base' v n E T :=
 ⟨ownsRow_lo h.own hb,h.q,fun i hi=>nZ hb (h.low i hi),h.ord,h.apart⟩
theorem RowV.at {Q:World->Ev->Ls->Prop}(kq:QK Q){w:World}{base n g cap:Nat}{E:Nat->Ev}{T:Nat->Ls}(h:RowV Q w base (.slice (some ⟨g,0,none⟩) n cap) n E T):g<w.heap.size∧base<=g∧SlV w (some ⟨g,0,none⟩) n cap E∧∀ i,i<n->EvCells w g (i * 10) (E i) (T i).pa (T i).cp (T i).aa (T i).ca (T i).ga (T i).cg:=by
 rcases h.cells with ⟨e,_⟩|⟨g',cap',e,hg,hlt,hn,hc,hx,_⟩
 ·cases e
 injection e with e1 _ e3
 injection e1 with e1
 injection e1 with e1 _ _
 subst e1 e3;exact ⟨hlt,hg,⟨hn,hc,Or.inr ⟨g,0,rfl,hlt,fun i hi=>by rw [Nat.zero_add];exact ⟨_,_,_,_,_,_,hx i hi,kq.c.ok (h.q i hi)⟩⟩⟩,hx⟩
theorem RowL.at {w:World}{base n g cap:Nat}{t:TypeId}{A:Nat->List Ent}{Aa:Nat->Option Addr}{Ca:Nat->Nat}(h:RowL List.length PE t w base (.slice (some ⟨g,0,none⟩) n cap) n A Aa Ca):g<w.heap.size∧base<=g∧n<=cap∧cap<=maxLen∧∀ i,i<n->w.cell? ⟨g,0+i,none⟩=some (.slice (Aa i) (A i).length (Ca i)):=by
 rcases h.cells with ⟨e,_⟩|⟨g',cap',e,hg,hlt,hn,hc,hx⟩
 ·cases e
 injection e with e1 _ e3
 injection e1 with e1
 injection e1 with e1 _ _
 subst e1 e3;exact ⟨hlt,hg,hn,hc,hx⟩
theorem RowL.kx {w w':World}{base n c:Nat}{t:TypeId}{v:Value}{A:Nat->List Ent}{Aa:Nat->Option Addr}{Ca:Nat->Nat}(h:RowL List.length PE t w base v n A Aa Ca)(hk:Kb c w w')(ho:v.ownBlock≠some c)(hl:∀ i,i<n->(A i).length=0∨∃ b off,Aa i=some ⟨b,off,none⟩∧b≠c):RowL List.length PE t w' base v n A Aa Ca :=
 ⟨ownsRow_k h.own (fun g hg hlt=>hk.2 g hlt (fun e=>ho (by rw [hg,e]))),fun i hi=>SlE.kx (h.sl i hi) hk (hl i hi),h.apart⟩
structure DrI (p:Nat)(w W:World)(bs:Nat->Nat)(m q n:Nat)(E:Nat->Ev)(na:Nat)(A:Nat->List Ent)(r5 b3 rb rc:Nat)(T:Nat->Ls)(sg sc:Nat)(Aa:Nat->Option Addr)(Ca:Nat->Nat)(fl fh fb:Nat)(Tf:Nat->Ls):Prop where
 dw:DwF p w W bs m q
 z:∃ v,W.cell? ⟨w.heap.size,0,none⟩=some v
 fz:W.frozen? ⟨w.heap.size,0,none⟩=false
 box:W.cell? ⟨r5,0,none⟩=some (.slice (some ⟨rb,0,none⟩) n rc)
 fbx:W.frozen? ⟨r5,0,none⟩=false
 lo:w.heap.size<r5
 hi:r5<W.heap.size
 b3l:w.heap.size<b3
 room:RowV QO W b3 (.slice (some ⟨rb,0,none⟩) n rc) n E T
 aft:RowL List.length PE 26 W (r5+1) (.slice (some ⟨sg,0,none⟩) na sc) na A Aa Ca
 alo:∀ i,i<na->(A i).length=0∨∃ b off,Aa i=some ⟨b,off,none⟩∧r5<b
 fll:r5<fl
 fst:RowV QJ W fl (.slice (some ⟨fb,0,none⟩) 5 5) 5 fstE Tf
 fhi:fb<fh∧fh<=W.heap.size∧∀ i,i<5->(Tf i).hi<=fh
 sgf:sg<fl∨fh<=sg
section
variable {p:Nat} {w W:World} {bs:Nat->Nat} {m q n:Nat} {E:Nat->Ev} {na:Nat} {A:Nat->List Ent} {r5 b3 rb rc:Nat} {T:Nat->Ls} {sg sc:Nat} {Aa:Nat->Option Addr} {Ca:Nat->Nat} {fl fh fb:Nat} {Tf:Nat->Ls}
theorem DrI.kb (h:DrI p w W bs m q n E na A r5 b3 rb rc T sg sc Aa Ca fl fh fb Tf)(hp:p<w.heap.size){W':World}{q':Nat}(hk:Kb p W W')(hd:DwF p w W' bs m q'):DrI p w W' bs m q' n E na A r5 b3 rb rc T sg sc Aa Ca fl fh fb Tf:=by
 have hlo:=h.lo;have hhi:=h.hi;have hb3:=h.b3l;have hfl:=h.fll;have hsg:=h.aft.at.2.1;refine ⟨hd,h.z.imp fun v hv=>(hk.cell (by omega) (by omega)).trans hv,(hk.frz (by omega) (by omega)).trans h.fz,(hk.cell hhi (by omega)).trans h.box,(hk.frz hhi (by omega)).trans h.fbx,hlo,nT hhi hk.1,hb3,h.room.kb qkO hk (by omega),h.aft.kx hk (fun e=>?_) (fun i hi=>(h.alo i hi).imp id fun ⟨b,off,e,hb⟩=>⟨b,off,e,by omega⟩),h.alo,hfl,h.fst.kb qkJ hk (by omega),⟨h.fhi.1,nZ h.fhi.2.1 hk.1,h.fhi.2.2⟩,h.sgf⟩
 have:sg=p:=by simpa [Value.ownBlock] using e
 omega
theorem DrI.below (h:DrI p w W bs m q n E na A r5 b3 rb rc T sg sc Aa Ca fl fh fb Tf)(hp:p<w.heap.size){W':World}(hb:Below W.heap.size W W'):DrI p w W' bs m q n E na A r5 b3 rb rc T sg sc Aa Ca fl fh fb Tf:=h.kb hp ((Kb.refl p W).below hb) (h.dw.below hb)
theorem DrI.far (h:DrI p w W bs m q n E na A r5 b3 rb rc T sg sc Aa Ca fl fh fb Tf)(hp:p<w.heap.size){W1:World}{b o:Nat}{x:Value}(hk:Kb p W W1)(hd:DwF p w W1 bs m q)(hb:W.heap.size<=b):DrI p w (W1.setCell ⟨b,o,none⟩ x) bs m q n E na A r5 b3 rb rc T sg sc Aa Ca fl fh fb Tf :=
 h.kb hp (hk.grow (Lib.grownBy_setCell W1 b o x) (fun c hc=>by injection hc with hc;exact Or.inr (by omega))) (hd.own (nZ h.dw.size hb) hp o x)
theorem DrI.gwK (h:DrI p w W bs m q n E na A r5 b3 rb rc T sg sc Aa Ca fl fh fb Tf)(hp:p<w.heap.size):GwK p W rb 0 n rc E sg 0 na A Aa Ca:=fun W' hg=>by
 have hlo:=h.lo;have hb3:=h.b3l;have hsg:=h.aft.at.2.1;have hk:Kb p W W':=Kb.of hg (fun b hb=>by injection hb with hb;exact hb.symm);have hr:=h.room.kb qkO hk (by omega);have ha:=h.aft.kx hk (fun e=>by have:sg=p:=(by simpa [Value.ownBlock] using e);omega) (fun i hi=>(h.alo i hi).imp id fun ⟨b,off,e,hb⟩=>⟨b,off,e,by omega⟩);exact ⟨(hr.at qkO).2.2.1,fun j hj=>by rw [Nat.zero_add];exact ⟨_,_,_,_,_,_,(hr.at qkO).2.2.2 j hj,(hr.q j hj).j.ok⟩,fun j hj=>⟨ha.at.2.2.2.2 j hj,ha.sl j hj⟩⟩
theorem DrI.setRoom (h:DrI p w W bs m q n E na A r5 b3 rb rc T sg sc Aa Ca fl fh fb Tf)(hp:p<w.heap.size){g c' n' b4:Nat}{E':Nat->Ev}{T':Nat->Ls}(hR:RowV QO W b4 (.slice (some ⟨g,0,none⟩) n' c') n' E' T')(hb4:r5<b4) :
  DrI p w (W.setCell ⟨r5,0,none⟩ (.slice (some ⟨g,0,none⟩) n' c')) bs m q n' E' na A r5 b4 g c' T' sg sc Aa Ca fl fh fb Tf:=by
 have hlo:=h.lo;have hhi:=h.hi;have hsg:=h.aft.at.2.1;have hfl:=h.fll;have hk:Kb r5 W (W.setCell ⟨r5,0,none⟩ (.slice (some ⟨g,0,none⟩) n' c')):=(Kb.refl _ _).set 0 _;refine ⟨h.dw.own (by omega) hp 0 _,h.z.imp fun v hv=>(hk.cell (by omega) (by omega)).trans hv,(hk.frz (by omega) (by omega)).trans h.fz,set_same ⟨_,h.box⟩,by rw [World.frozen?_setCell];exact h.fbx,hlo,nT hhi hk.1,by omega,hR.kb qkO hk hb4,h.aft.kx hk (fun e=>?_) (fun i hi=>(h.alo i hi).imp id fun ⟨b,off,e,hb⟩=>⟨b,off,e,by omega⟩),h.alo,hfl,h.fst.kb qkJ hk hfl,⟨h.fhi.1,nZ h.fhi.2.1 hk.1,h.fhi.2.2⟩,h.sgf⟩
 have:sg=r5:=by simpa [Value.ownBlock] using e
 omega
theorem DrI.snocA (h:DrI p w W bs m q n E na A r5 b3 rb rc T sg sc Aa Ca fl fh fb Tf)(hp:p<w.heap.size){X w8:World}{gg cq ec:Nat}{ea:Option Addr}{l:List Ent}(hX:Below W.heap.size W X)(hl:PE X ea ec l)(hea:l.length=0∨∃ b off,ea=some ⟨b,off,none⟩∧r5<b∧b≠sg)
  (hown:w8.ownsRow (r5+1) 26 1 (.slice (some ⟨gg,0,none⟩) (na+1) cq) (na+1) (encA List.length A Aa Ca na ++ [.slice ea l.length ec])) (hgr:X.grownBy w8 (some sg)) (hat:some sg=some gg∨X.heap.size<=gg) (hsb:sg<b3) :
  DrI p w w8 bs m q n E (na+1) (extF A na l) r5 b3 rb rc T gg cq (extF Aa na ea) (extF Ca na ec) fl fh fb Tf:=by
 have h1:=h.below hp hX;have hlo:=h1.lo;have hhi:=h1.hi;have hfl:=h1.fll;have hsg:=h1.aft.at.2.1;have hfb:=(h1.fst.at qkJ).2.1;have hk:Kb sg X w8:=Kb.of hgr (fun b hb=>by injection hb with hb;exact hb.symm);have hfhi:=h1.fhi;refine ⟨h1.dw.grow hgr (fun b hb=>by injection hb with hb;omega) hp,h1.z.imp fun v hv=>(hk.cell (by omega) (by omega)).trans hv,(hk.frz (by omega) (by omega)).trans h1.fz,(hk.cell hhi (by omega)).trans h1.box,(hk.frz hhi (by omega)).trans h1.fbx,hlo,nT hhi hk.1,h1.b3l,h1.room.kb qkO hk hsb,h1.aft.snoc lcE hl ?_ hown hgr hat,fun i hi=>?_,hfl,h1.fst.kx qkJ hk (fun e=>?_) (fun i hi=>?_),⟨hfhi.1,nZ hfhi.2.1 hk.1,hfhi.2.2⟩,?_⟩
 ·rcases hea with h0|⟨b,off,e,_,hn⟩
  ·exact Or.inl h0
  refine Or.inr fun b' off' e' q=>?_
  rw [e] at e';injection e' with e'
  injection e' with e1 _ _
  have:sg=b':=by simpa [Value.ownBlock] using q
  omega
 ·by_cases e:i=na
  ·subst e
   rw [extF_at,extF_at];exact hea.imp id fun ⟨b,off,e,hb,_⟩=>⟨b,off,e,hb⟩
  rw [extF_lt _ _ (by omega),extF_lt _ _ (by omega)];exact h1.alo i (by omega)
 ·have:fb=sg:=by simpa [Value.ownBlock] using e
  rcases h1.sgf with q|q <;> omega
 ·rcases h1.sgf with q|q
  ·exact Or.inl (nT q (h1.fst.low i hi))
  exact Or.inr (nZ (hfhi.2.2 i hi) q)
 rcases hat with q|q
 ·injection q with q
  subst q;exact h1.sgf
 exact Or.inr (nZ hfhi.2.1 q)
theorem DrI.fill (h:DrI p w W bs m q n E na A r5 b3 rb rc T sg sc Aa Ca fl fh fb Tf)(hp:p<w.heap.size){W4:World}{q' B:Nat}(hk:Kb p W W4)(hd:DwF p w W4 bs m q')(hB:W.heap.size<=B)(x0 x1 x2 x3 x4 x5 x6 x7 x8 x9:Value) :
  DrI p w ((((((((((W4.setCell ⟨B,0,none⟩ x0).setCell ⟨B,1,none⟩ x1).setCell ⟨B,2,none⟩ x2).setCell ⟨B,3,none⟩ x3).setCell ⟨B,4,none⟩ x4).setCell ⟨B,5,none⟩ x5).setCell ⟨B,6,none⟩ x6).setCell ⟨B,7,none⟩ x7).setCell ⟨B,8,none⟩ x8).setCell ⟨B,9,none⟩ x9) bs m q' n E na A r5 b3 rb rc T sg sc Aa Ca fl fh fb Tf:=by
 have hr:∀ b,some B=some b->b=p∨W.heap.size<=b:=fun b e=>by injection e with e;exact Or.inr (by omega)
 have hB':w.heap.size<=B:=nZ h.dw.size hB;exact h.kb hp ((((((((((hk.grow (Lib.grownBy_setCell _ B 0 x0) hr).grow (Lib.grownBy_setCell _ B 1 x1) hr).grow (Lib.grownBy_setCell _ B 2 x2) hr).grow (Lib.grownBy_setCell _ B 3 x3) hr).grow (Lib.grownBy_setCell _ B 4 x4) hr).grow (Lib.grownBy_setCell _ B 5 x5) hr).grow (Lib.grownBy_setCell _ B 6 x6) hr).grow (Lib.grownBy_setCell _ B 7 x7) hr).grow (Lib.grownBy_setCell _ B 8 x8) hr).grow (Lib.grownBy_setCell _ B 9 x9) hr) ((((((((((hd.own hB' hp 0 x0).own hB' hp 1 x1).own hB' hp 2 x2).own hB' hp 3 x3).own hB' hp 4 x4).own hB' hp 5 x5).own hB' hp 6 x6).own hB' hp 7 x7).own hB' hp 8 x8).own hB' hp 9 x9)
end
theorem set_cells {W:World}{B:Nat}{c:Nat->Value}(h:∀ o,o<10->W.cell? ⟨B,o,none⟩=some (c o))(o:Nat)(x:Value):∀ i,i<10->(W.setCell ⟨B,o,none⟩ x).cell? ⟨B,i,none⟩=some (if i=o then x else c i):=fun i hi=>by
 by_cases e:i=o
 ·subst e;rw [if_pos rfl];exact set_same ⟨_,h i hi⟩
 rw [if_neg e,set_far (by omega)];exact h i hi
theorem fill_cells {W4:World}{B:Nat}{c:Nat->Value}(h:∀ o,o<10->W4.cell? ⟨B,o,none⟩=some (c o))(x0 x1 x2 x3 x4 x5 x6 x7 x8 x9:Value):∀ o,o<10->((((((((((W4.setCell ⟨B,0,none⟩ x0).setCell ⟨B,1,none⟩ x1).setCell ⟨B,2,none⟩ x2).setCell ⟨B,3,none⟩ x3).setCell ⟨B,4,none⟩ x4).setCell ⟨B,5,none⟩ x5).setCell ⟨B,6,none⟩ x6).setCell ⟨B,7,none⟩ x7).setCell ⟨B,8,none⟩ x8).setCell ⟨B,9,none⟩ x9).cell? ⟨B,o,none⟩=some ((#[x0,x1,x2,x3,x4,x5,x6,x7,x8,x9]:Array Value)[o]?.getD undef):=fun o ho=>by
 refine ((set_cells (set_cells (set_cells (set_cells (set_cells (set_cells (set_cells (set_cells (set_cells (set_cells h 0 x0) 1 x1) 2 x2) 3 x3) 4 x4) 5 x5) 6 x6) 7 x7) 8 x8) 9 x9) o ho).trans ?_
 match o,ho with
 | 0,_=>rfl
 | 1,_=>rfl
 | 2,_=>rfl
 | 3,_=>rfl
 | 4,_=>rfl
 | 5,_=>rfl
 | 6,_=>rfl
 | 7,_=>rfl
 | 8,_=>rfl
 | 9,_=>rfl
theorem sls_blk {X:World}{b:Nat}{cs:Array Value}{t:TypeId}{l:List ByteArray}(h:X.heap[b]?=some (.cells cs t))(hc:cs.toList=l.map Value.string)(hs:∀ s ∈ l,s.size<=maxLen)(hl:l.length<=maxLen):SlS X (some ⟨b,0,none⟩) l.length l.length (getL l):=by
 have hlt:b<X.heap.size:=(Array.getElem?_eq_some_iff.1 h).1;refine ⟨nL,hl,fun i hi=>hs _ (getL_mem hi),Or.inr ⟨b,0,rfl,hlt,fun i hi=>?_⟩⟩
 have:cs[i]?=some (.string (getL l i)):=by
  rw [<- Array.getElem?_toList,hc,List.getElem?_map,getL_some hi];rfl
 simp [World.cell?,h,this]
theorem slg_blk {X:World}{b:Nat}{cs:Array Value}{t:TypeId}{l:List (ByteArray × Int)}(h:X.heap[b]?=some (.cells cs t))(hc:cs.toList=encG (gM l) (gL l) l.length)(hs:∀ i,i<l.length->(gM l i).size<=maxLen)(hl:l.length<=maxLen):SlG X (some ⟨b,0,none⟩) l.length l.length (gM l) (gL l):=by
 have hlt:b<X.heap.size:=(Array.getElem?_eq_some_iff.1 h).1;refine ⟨nL,hl,hs,Or.inr ⟨b,0,rfl,hlt,fun i hi=>?_,fun i hi=>?_⟩⟩
 ·have:cs[i * 2]?=some (.string (gM l i)):=by rw [<- Array.getElem?_toList,hc];exact (encG_get _ _ _ i hi).1
  simp [World.cell?,h,this]
 have:cs[i * 2+1]?=some (.int .i64 (gL l i)):=by rw [<- Array.getElem?_toList,hc];exact (encG_get _ _ _ i hi).2
 simp [World.cell?,h,this]
variable {j:Nat}{M S:Nat->ByteArray}
def fstW (W0:World):World:=((((((((((W0.alloc (.cells #[.string ⟨#[36,99,48]⟩] 9)).alloc (.cells #[.string ⟨#[36,99,48]⟩] 9)).alloc (.cells #[.string ⟨#[36,97,49]⟩] 9)).alloc (.cells #[.string ⟨#[36,99,48]⟩,.string ⟨#[36,97,49]⟩] 9)).alloc (.cells #[.string ⟨#[64,97]⟩,.int .i64 100,.string ⟨#[64,98]⟩,.int .i64 50] 166)).alloc (.cells #[.string ⟨#[36,112,50]⟩] 9)).alloc (.cells #[.string ⟨#[36,99,48]⟩,.string ⟨#[36,97,49]⟩,.string ⟨#[36,112,50]⟩] 9)).alloc (.cells #[.string ⟨#[36,106,51]⟩] 9)).alloc (.cells #[.string ⟨#[36,99,48]⟩,.string ⟨#[36,112,50]⟩,.string ⟨#[36,106,51]⟩] 9)).alloc (.cells #[.string ⟨#[36,99,48]⟩,.string ⟨#[64,97]⟩,.string ⟨#[99,114,101,97,116,101]⟩,.bool true,.string ⟨#[]⟩,.int .i64 1,.slice none 0 0,.slice none 0 0,.string ⟨#[]⟩,.slice none 0 0,.string ⟨#[36,97,49]⟩,.string ⟨#[64,97]⟩,.string ⟨#[109,101,109,98,101,114]⟩,.bool true,.string ⟨#[64,97]⟩,.int .i64 2,.slice (some ⟨W0.heap.size,0,none⟩) 1 1,.slice (some ⟨W0.heap.size+1,0,none⟩) 1 1,.string ⟨#[106,111,105,110]⟩,.slice none 0 0,.string ⟨#[36,112,50]⟩,.string ⟨#[64,97]⟩,.string ⟨#[112,111,119,101,114]⟩,.bool true,.string ⟨#[]⟩,.int .i64 3,.slice (some ⟨W0.heap.size+2,0,none⟩) 1 1,.slice (some ⟨W0.heap.size+3,0,none⟩) 2 2,.string ⟨#[]⟩,.slice (some ⟨W0.heap.size+4,0,none⟩) 2 2,.string ⟨#[36,106,51]⟩,.string ⟨#[64,97]⟩,.string ⟨#[106,111,105,110,95,114,117,108,101,115]⟩,.bool true,.string ⟨#[]⟩,.int .i64 4,.slice (some ⟨W0.heap.size+5,0,none⟩) 1 1,.slice (some ⟨W0.heap.size+6,0,none⟩) 3 3,.string ⟨#[112,117,98,108,105,99]⟩,.slice none 0 0,.string ⟨#[36,98,52]⟩,.string ⟨#[64,98]⟩,.string ⟨#[109,101,109,98,101,114]⟩,.bool true,.string ⟨#[64,98]⟩,.int .i64 5,.slice (some ⟨W0.heap.size+7,0,none⟩) 1 1,.slice (some ⟨W0.heap.size+8,0,none⟩) 3 3,.string ⟨#[106,111,105,110]⟩,.slice none 0 0] 30))
def fstT (b:Nat):Nat->Ls
 | 0=>⟨none,0,none,0,none,0,b,b,b,b⟩
 | 1=>⟨some ⟨b,0,none⟩,1,some ⟨b+1,0,none⟩,1,none,0,b,b,b,b+2⟩
 | 2=>⟨some ⟨b+2,0,none⟩,1,some ⟨b+3,0,none⟩,2,some ⟨b+4,0,none⟩,2,b+2,b+2,b+2,b+5⟩
 | 3=>⟨some ⟨b+5,0,none⟩,1,some ⟨b+6,0,none⟩,3,none,0,b+5,b+5,b+5,b+7⟩
 | _=>⟨some ⟨b+7,0,none⟩,1,some ⟨b+8,0,none⟩,3,none,0,b+7,b+7,b+7,b+9⟩
theorem fstW_size (W0:World):(fstW W0).heap.size=W0.heap.size+10:=by simp [fstW]
theorem heap_at (w:World)(o:Obj)(h:j=w.heap.size):(w.alloc o).heap[j]?=some o:=by subst h;show (w.heap.push o)[w.heap.size]?=_;simp
theorem heap_lt (w:World)(o:Obj)(h:j<w.heap.size):(w.alloc o).heap[j]?=w.heap[j]?:=by show (w.heap.push o)[j]?=_;rw [Array.getElem?_push,if_neg (by omega)]
theorem sls_nil {X:World}:SlS X none 0 0 S:=⟨nL,by decide,fun _ h=>absurd h (Nat.not_lt_zero _),Or.inl rfl⟩
theorem slg_nil {X:World}{L:Nat->Int}:SlG X none 0 0 M L:=⟨nL,by decide,fun _ h=>absurd h (Nat.not_lt_zero _),Or.inl rfl⟩
theorem small3 {l:List ByteArray}(h:l.all (fun s=>decide (s.size<=3))=true):∀ s ∈ l,s.size<=maxLen:=fun s hs=>nZ (of_decide_eq_true (List.all_eq_true.1 h s hs)) (by decide)
theorem fst_row (W0:World):RowV QJ (fstW W0) W0.heap.size (.slice (some ⟨W0.heap.size+9,0,none⟩) 5 5) 5 fstE (fstT W0.heap.size):=by
 have hsz:=fstW_size W0;have h0:(fstW W0).heap[W0.heap.size+0]?=some (.cells #[.string ⟨#[36,99,48]⟩] 9):=by unfold fstW;(iterate 9 rw [heap_lt _ _ (by simp <;> omega)]);exact heap_at _ _ (by simp <;> omega)
 have h1:(fstW W0).heap[W0.heap.size+1]?=some (.cells #[.string ⟨#[36,99,48]⟩] 9):=by unfold fstW;(iterate 8 rw [heap_lt _ _ (by simp <;> omega)]);exact heap_at _ _ (by simp <;> omega)
 have h2:(fstW W0).heap[W0.heap.size+2]?=some (.cells #[.string ⟨#[36,97,49]⟩] 9):=by unfold fstW;(iterate 7 rw [heap_lt _ _ (by simp <;> omega)]);exact heap_at _ _ (by simp <;> omega)
 have h3:(fstW W0).heap[W0.heap.size+3]?=some (.cells #[.string ⟨#[36,99,48]⟩,.string ⟨#[36,97,49]⟩] 9):=by unfold fstW;(iterate 6 rw [heap_lt _ _ (by simp <;> omega)]);exact heap_at _ _ (by simp <;> omega)
 have h4:(fstW W0).heap[W0.heap.size+4]?=some (.cells #[.string ⟨#[64,97]⟩,.int .i64 100,.string ⟨#[64,98]⟩,.int .i64 50] 166):=by unfold fstW;(iterate 5 rw [heap_lt _ _ (by simp <;> omega)]);exact heap_at _ _ (by simp <;> omega)
 have h5:(fstW W0).heap[W0.heap.size+5]?=some (.cells #[.string ⟨#[36,112,50]⟩] 9):=by unfold fstW;(iterate 4 rw [heap_lt _ _ (by simp <;> omega)]);exact heap_at _ _ (by simp <;> omega)
 have h6:(fstW W0).heap[W0.heap.size+6]?=some (.cells #[.string ⟨#[36,99,48]⟩,.string ⟨#[36,97,49]⟩,.string ⟨#[36,112,50]⟩] 9):=by unfold fstW;(iterate 3 rw [heap_lt _ _ (by simp <;> omega)]);exact heap_at _ _ (by simp <;> omega)
 have h7:(fstW W0).heap[W0.heap.size+7]?=some (.cells #[.string ⟨#[36,106,51]⟩] 9):=by unfold fstW;(iterate 2 rw [heap_lt _ _ (by simp <;> omega)]);exact heap_at _ _ (by simp <;> omega)
 have h8:(fstW W0).heap[W0.heap.size+8]?=some (.cells #[.string ⟨#[36,99,48]⟩,.string ⟨#[36,112,50]⟩,.string ⟨#[36,106,51]⟩] 9):=by unfold fstW;(iterate 1 rw [heap_lt _ _ (by simp <;> omega)]);exact heap_at _ _ (by simp <;> omega)
 have h9:(fstW W0).heap[W0.heap.size+9]?=some (.cells #[.string ⟨#[36,99,48]⟩,.string ⟨#[64,97]⟩,.string ⟨#[99,114,101,97,116,101]⟩,.bool true,.string ⟨#[]⟩,.int .i64 1,.slice none 0 0,.slice none 0 0,.string ⟨#[]⟩,.slice none 0 0,.string ⟨#[36,97,49]⟩,.string ⟨#[64,97]⟩,.string ⟨#[109,101,109,98,101,114]⟩,.bool true,.string ⟨#[64,97]⟩,.int .i64 2,.slice (some ⟨W0.heap.size,0,none⟩) 1 1,.slice (some ⟨W0.heap.size+1,0,none⟩) 1 1,.string ⟨#[106,111,105,110]⟩,.slice none 0 0,.string ⟨#[36,112,50]⟩,.string ⟨#[64,97]⟩,.string ⟨#[112,111,119,101,114]⟩,.bool true,.string ⟨#[]⟩,.int .i64 3,.slice (some ⟨W0.heap.size+2,0,none⟩) 1 1,.slice (some ⟨W0.heap.size+3,0,none⟩) 2 2,.string ⟨#[]⟩,.slice (some ⟨W0.heap.size+4,0,none⟩) 2 2,.string ⟨#[36,106,51]⟩,.string ⟨#[64,97]⟩,.string ⟨#[106,111,105,110,95,114,117,108,101,115]⟩,.bool true,.string ⟨#[]⟩,.int .i64 4,.slice (some ⟨W0.heap.size+5,0,none⟩) 1 1,.slice (some ⟨W0.heap.size+6,0,none⟩) 3 3,.string ⟨#[112,117,98,108,105,99]⟩,.slice none 0 0,.string ⟨#[36,98,52]⟩,.string ⟨#[64,98]⟩,.string ⟨#[109,101,109,98,101,114]⟩,.bool true,.string ⟨#[64,98]⟩,.int .i64 5,.slice (some ⟨W0.heap.size+7,0,none⟩) 1 1,.slice (some ⟨W0.heap.size+8,0,none⟩) 3 3,.string ⟨#[106,111,105,110]⟩,.slice none 0 0] 30):=by unfold fstW;exact heap_at _ _ (by simp)
 generalize fstW W0=X at *;generalize W0.heap.size=b at *;refine ⟨⟨by rw [encV_len],Or.inr ⟨b+9,5,_,rfl,by omega,h9,nL,by decide,rfl,rfl⟩⟩,fun i hi=>?_,fun i hi=>?_,fun i j hij hj=>?_,fun g hg i hi=>?_⟩
 ·have t1:=sls_blk (l:=[tC0]) h0 rfl (small3 (by decide)) (by decide)
  have t2:=sls_blk (l:=[tC0]) h1 rfl (small3 (by decide)) (by decide);have t3:=sls_blk (l:=[tA1]) h2 rfl (small3 (by decide)) (by decide);have t4:=sls_blk (l:=[tC0,tA1]) h3 rfl (small3 (by decide)) (by decide);have t5:=slg_blk (l:=[(tUa,100),(tUb,50)]) h4 rfl (fun i _=>nZ (gM_small (fun x hx=>by simp only [List.mem_cons,List.not_mem_nil,or_false] at hx;rcases hx with rfl|rfl <;> decide) i) (by decide)) (by decide);have t6:=sls_blk (l:=[tP2]) h5 rfl (small3 (by decide)) (by decide);have t7:=sls_blk (l:=[tC0,tA1,tP2]) h6 rfl (small3 (by decide)) (by decide);have t8:=sls_blk (l:=[tJ3]) h7 rfl (small3 (by decide)) (by decide);have t9:=sls_blk (l:=[tC0,tP2,tJ3]) h8 rfl (small3 (by decide)) (by decide);have I0:∀ {a:Option Addr} {lo hi:Nat},Iv a 0 lo hi:=Or.inl rfl;have I1:∀ {b' n lo hi:Nat},lo<=b'->b'<hi->Iv (some ⟨b',0,none⟩) n lo hi:=fun h1 h2=>Or.inr ⟨_,_,rfl,h1,h2⟩
  match i,hi with
  | 0,_=>exact ⟨⟨by decide,by decide,by decide,by decide,by decide,sls_nil,sls_nil,slg_nil⟩,I0,I0,I0,nL,by show b<=_;omega⟩
  | 1,_=>exact ⟨⟨by decide,by decide,by decide,by decide,by decide,t1,t2,slg_nil⟩,I1 nL (by show b<b+2;omega),I1 (by show b<=b+1;omega) (by show b+1<b+2;omega),I0,by show b<=b+2;omega,by show b+2<=_;omega⟩
  | 2,_=>exact ⟨⟨by decide,by decide,by decide,by decide,by decide,t3,t4,t5⟩,I1 (by show b+2<=b+2;omega) (by show b+2<b+5;omega),I1 (by show b+2<=b+3;omega) (by show b+3<b+5;omega),I1 (by show b+2<=b+4;omega) (by show b+4<b+5;omega),by show b+2<=b+5;omega,by show b+5<=_;omega⟩
  | 3,_=>exact ⟨⟨by decide,by decide,by decide,by decide,by decide,t6,t7,slg_nil⟩,I1 (by show b+5<=b+5;omega) (by show b+5<b+7;omega),I1 (by show b+5<=b+6;omega) (by show b+6<b+7;omega),I0,by show b+5<=b+7;omega,by show b+7<=_;omega⟩
  | 4,_=>exact ⟨⟨by decide,by decide,by decide,by decide,by decide,t8,t9,slg_nil⟩,I1 (by show b+7<=b+7;omega) (by show b+7<b+9;omega),I1 (by show b+7<=b+8;omega) (by show b+8<b+9;omega),I0,by show b+7<=b+9;omega,by show b+9<=_;omega⟩
 ·match i,hi with
  | 0,_=>exact nL
  | 1,_=>exact nL
  | 2,_=>exact Nat.le_add_right _ _
  | 3,_=>exact Nat.le_add_right _ _
  | 4,_=>exact Nat.le_add_right _ _
 ·have f1:∀ k,k<5->(fstT b k).lo=b+(if k<=1 then 0 else if k=2 then 2 else if k=3 then 5 else 7):=fun k hk=>by
   match k,hk with
   | 0,_=>rfl
   | 1,_=>rfl
   | 2,_=>rfl
   | 3,_=>rfl
   | 4,_=>rfl
  have f2:∀ k,k<5->(fstT b k).hi=b+(if k=0 then 0 else if k=1 then 2 else if k=2 then 5 else if k=3 then 7 else 9):=fun k hk=>by
   match k,hk with
   | 0,_=>rfl
   | 1,_=>rfl
   | 2,_=>rfl
   | 3,_=>rfl
   | 4,_=>rfl
  rw [f1 j hj,f2 i (by omega)]
  repeat' split
  all_goals omega
 have hg':b+9=g:=by simpa [Value.ownBlock] using hg
 subst hg';refine Or.inr ?_
 match i,hi with
 | 0,_=>exact Nat.le_add_right _ _
 | 1,_=>exact Nat.add_le_add_left (by decide) _
 | 2,_=>exact Nat.add_le_add_left (by decide) _
 | 3,_=>exact Nat.add_le_add_left (by decide) _
 | 4,_=>exact nL
theorem fst_hi (b:Nat):∀ i,i<5->(fstT b i).hi<=b+10:=fun i hi=>by
 match i,hi with
 | 0,_=>exact Nat.le_add_right _ _
 | 1,_=>exact Nat.add_le_add_left (by decide) _
 | 2,_=>exact Nat.add_le_add_left (by decide) _
 | 3,_=>exact Nat.add_le_add_left (by decide) _
 | 4,_=>exact Nat.add_le_add_left (by decide) _
end Go.Proofs.YtkdalopokdhndaaGreat
