import Derived.Test.YtkdalopokdhndaaGreatInSZ
set_option maxHeartbeats 16000000
set_option maxRecDepth 100000
namespace Go.Proofs.YtkdalopokdhndaaGreat
open Go.RowKit
theorem ownsRow_k {w w':World}{base st n:Nat}{t:TypeId}{v:Value}{xs:List Value}(h:w.ownsRow base t st v n xs)(hk:∀ g,v.ownBlock=some g->g<w.heap.size->w'.heap[g]?=w.heap[g]?):w'.ownsRow base t st v n xs:=by
 obtain ⟨h1,h2⟩:=h;refine ⟨h1,?_⟩;rcases h2 with h2|⟨g,cap,cur,hv,hg2,hh,r⟩
 ·exact Or.inl h2
 have hlt:g<w.heap.size:=(Array.getElem?_eq_some_iff.1 hh).1;exact Or.inr ⟨g,cap,cur,hv,hg2,by rw [hk g (by rw [hv];rfl) hlt];exact hh,r⟩
theorem ownsRow_blk {w:World}{base st n:Nat}{t:TypeId}{v:Value}{xs:List Value}(h:w.ownsRow base t st v n xs)(b:Nat)(hb:v.ownBlock=some b):base<=b∧b<w.heap.size:=by
 obtain ⟨h1,h2⟩:=h;rcases h2 with ⟨rfl,_⟩|⟨g,cap,cur,rfl,hg2,hh,r⟩
 ·cases hb
 have hlt:g<w.heap.size:=(Array.getElem?_eq_some_iff.1 hh).1
 have:g=b:=by simpa [Value.ownBlock] using hb
 omega
theorem ownsRow_lo {w:World}{base base' st n:Nat}{t:TypeId}{v:Value}{xs:List Value}(h:w.ownsRow base t st v n xs)(hb:base'<=base):w.ownsRow base' t st v n xs:=by
 obtain ⟨h1,h2⟩:=h;exact ⟨h1,h2.imp id fun ⟨g,cap,cur,e,hg,r⟩=>⟨g,cap,cur,e,nZ hb hg,r⟩⟩
def LoS (a:Option Addr)(n lo:Nat):Prop:=n=0∨∃ b off,a=some ⟨b,off,none⟩∧lo<=b
def EvLo (lo:Nat)(e:Ev)(pa aa ga:Option Addr):Prop:=LoS pa e.np lo∧LoS aa e.na lo∧LoS ga e.ng lo
theorem own_lo {w:World}{base lo st n n' cap:Nat}{t:TypeId}{a:Option Addr}{xs:List Value}(h:w.ownsRow base t st (.slice a n' cap) n xs)(hl:lo<=base):LoS a n' lo:=by
 obtain ⟨_,h2⟩:=h;rcases h2 with ⟨e,_⟩|⟨g,cap',cur,e,hg,_⟩
 ·injection e with _ e2 _
  exact Or.inl e2
 injection e with e1 _ _
 exact Or.inr ⟨g,0,e1,nZ hl hg⟩
def Kb (B:Nat)(w w':World):Prop:=w.heap.size<=w'.heap.size∧∀ b,b<w.heap.size->b≠B->w'.heap[b]?=w.heap[b]?
theorem Kb.refl (B:Nat)(w:World):Kb B w w:=⟨nL,fun _ _ _=>rfl⟩
theorem Kb.below {B:Nat}{w w1 w2:World}(h:Kb B w w1)(hb:Below w1.heap.size w1 w2):Kb B w w2:=⟨nZ h.1 hb.size,fun b h1 h2=>(hb.block b (nT h1 h.1)).trans (h.2 b h1 h2)⟩
theorem Kb.grow {B:Nat}{w w1 w2:World}{row:Option Nat}(h:Kb B w w1)(hg:w1.grownBy w2 row)(hr:∀ b,row=some b->b=B∨w.heap.size<=b):Kb B w w2:=⟨nZ h.1 hg.size,fun b h1 h2=>(hg.block b (nT h1 h.1) (fun q=>by rcases hr b q.symm with e|e <;> omega)).trans (h.2 b h1 h2)⟩
theorem Kb.set {B:Nat}{w w1:World}(h:Kb B w w1)(o:Nat)(x:Value):Kb B w (w1.setCell ⟨B,o,none⟩ x):=h.grow (Lib.grownBy_setCell w1 B o x) (fun b hb=>by injection hb with hb;exact Or.inl hb.symm)
theorem Kb.row {B:Nat}{w w':World}(h:Kb B w w'){base st n:Nat}{t:TypeId}{v:Value}{xs:List Value}(ho:w.ownsRow base t st v n xs)(hb:B<base):w'.ownsRow base t st v n xs:=ownsRow_k ho fun g hg hl=>h.2 g hl (fun e=>by have:=(ownsRow_blk ho g hg).1;omega)
structure GwT (p:Nat)(w W:World)(bs:Nat->Nat)(m q:Nat)(rv:Value)(B:Nat)(c:Nat->Value)(pl:List ByteArray)(sv:Value)(vals:List Value):Prop where
 g:GvB p w W bs m q rv B c
 o:OwnL W (B+1) (c 6) pl
 r:W.ownsRow (B+1) 26 1 sv vals.length vals
 ne:∀ b,(c 6).ownBlock=some b->sv.ownBlock≠some b
section
variable {p:Nat} {w W:World} {bs:Nat->Nat} {m q:Nat} {rv:Value} {B:Nat} {c:Nat->Value} {pl:List ByteArray} {sv:Value} {vals:List Value}
theorem GwT.below (h:GwT p w W bs m q rv B c pl sv vals){W':World}(hb:Below W.heap.size W W'):GwT p w W' bs m q rv B c pl sv vals:=⟨h.g.below hb,h.o.below hb,ownsRow_blw h.r hb,h.ne⟩
theorem GwT.draw (h:GwT p w W bs m q rv B c pl sv vals){W':World}{q':Nat}(hp:p<w.heap.size)(hd:DwF p W W' bs m q'):GwT p w W' bs m q' rv B c pl sv vals:=by
 have hlo:=h.g.lo;refine ⟨h.g.draw hp hd,ownsRow_k h.o fun g hg hl=>hd.2.block g hl (fun e=>?_),ownsRow_k h.r fun g hg hl=>hd.2.block g hl (fun e=>?_),h.ne⟩
 ·have:=(ownsRow_blk h.o g hg).1;injection e with e;omega
 have:=(ownsRow_blk h.r g hg).1;injection e with e;omega
theorem GwT.snocP (h:GwT p w W bs m q rv B c pl sv vals)(hp:p<w.heap.size){X w4:World}{gg cq:Nat}{x:ByteArray}(hX:Below W.heap.size W X)(hown:w4.ownsRow (B+1) 9 1 (.slice (some ⟨gg,0,none⟩) (pl.length+1) cq) (pl.length+1) (pl.map Value.string ++ [.string x]))(hgr:X.grownBy w4 (c 6).ownBlock)(hat:(c 6).ownBlock=some gg∨X.heap.size<=gg) :
  GwT p w (w4.setCell ⟨B,6,none⟩ (.slice (some ⟨gg,0,none⟩) (pl.length+1) cq)) bs m q rv B (fun i=>if i=6 then .slice (some ⟨gg,0,none⟩) (pl.length+1) cq else c i) (pl ++ [x]) sv vals:=by
 have h1:=h.below hX;have hs:=Lib.grownBy_setCell w4 B 6 (.slice (some ⟨gg,0,none⟩) (pl.length+1) cq);have hgg:B+1<=gg:=(ownsRow_blk hown gg rfl).1;refine ⟨(h1.g.grow hp hgr (fun b hb=>by have:=(ownsRow_blk h1.o b hb).1;omega)).set hp 6 (by decide) _,?_,?_,?_⟩
 ·have:OwnL w4 (B+1) (.slice (some ⟨gg,0,none⟩) (pl.length+1) cq) (pl ++ [x]):=OwnL.snoc hown
  exact ownsRow_k this fun g hg hl=>hs.block g hl (fun e=>by injection e with e;have hq:gg=g:=(by simpa [Value.ownBlock] using hg);omega)
 ·refine ownsRow_k (ownsRow_k h1.r fun g hg hl=>hgr.block g hl (fun e=>?_)) fun g hg hl=>hs.block g hl (fun e=>?_)
  ·exact h.ne g e.symm hg
  have:=(ownsRow_blk h1.r g hg).1;injection e with e;omega
 intro b hb e;have hb':gg=b:=by simpa [Value.ownBlock] using hb
 subst hb';rcases hat with hat|hat
 ·exact h.ne _ hat e
 have:=(ownsRow_blk h1.r _ e).2;omega
theorem GwT.snocS (h:GwT p w W bs m q rv B c pl sv vals)(hp:p<w.heap.size){X w4:World}{gg cq:Nat}{x:Value}(hX:Below W.heap.size W X)(hown:w4.ownsRow (B+1) 26 1 (.slice (some ⟨gg,0,none⟩) (vals.length+1) cq) (vals.length+1) (vals ++ [x]))(hgr:X.grownBy w4 sv.ownBlock)(hat:sv.ownBlock=some gg∨X.heap.size<=gg) :
  GwT p w w4 bs m q rv B c pl (.slice (some ⟨gg,0,none⟩) (vals.length+1) cq) (vals ++ [x]):=by
 have h1:=h.below hX;refine ⟨h1.g.grow hp hgr (fun b hb=>by have:=(ownsRow_blk h1.r b hb).1;omega),?_,by rw [List.length_append];exact hown,?_⟩
 ·exact ownsRow_k h1.o fun g hg hl=>hgr.block g hl (fun e=>h.ne g hg e.symm)
 intro b hb e;have hb':gg=b:=by simpa [Value.ownBlock] using e
 subst hb';rcases hat with hat|hat
 ·exact h.ne _ hb hat
 have:=(ownsRow_blk h1.o _ hb).2;omega
theorem GwT.congr (h:GwT p w W bs m q rv B c pl sv vals){c':Nat->Value}(hc:∀ o,o<10->c o=c' o):GwT p w W bs m q rv B c' pl sv vals:=⟨h.g.congr hc,by rw [<- hc 6 (by decide)];exact h.o,h.r,by rw [<- hc 6 (by decide)];exact h.ne⟩
theorem GvB.fill10 (h:GvB p w W bs m q rv B c)(hp:p<w.heap.size)(x0 x1 x2 x3 x4 x5 x6 x7 x8 x9:Value) :
  GvB p w ((((((((((W.setCell ⟨B,0,none⟩ x0).setCell ⟨B,1,none⟩ x1).setCell ⟨B,2,none⟩ x2).setCell ⟨B,3,none⟩ x3).setCell ⟨B,4,none⟩ x4).setCell ⟨B,5,none⟩ x5).setCell ⟨B,6,none⟩ x6).setCell ⟨B,7,none⟩ x7).setCell ⟨B,8,none⟩ x8).setCell ⟨B,9,none⟩ x9) bs m q rv B (fun o=>(#[x0,x1,x2,x3,x4,x5,x6,x7,x8,x9]:Array Value)[o]?.getD undef):=by
 refine ((((((((((h.set hp 0 (by decide) x0).set hp 1 (by decide) x1).set hp 2 (by decide) x2).set hp 3 (by decide) x3).set hp 4 (by decide) x4).set hp 5 (by decide) x5).set hp 6 (by decide) x6).set hp 7 (by decide) x7).set hp 8 (by decide) x8).set hp 9 (by decide) x9).congr fun o ho=>?_
 match o,ho with
 | 0,_=>rfl
 | 1,_=>rfl
 | 2,_=>rfl
 | 3,_=>rfl
 | 4,_=>rfl
 | 5,_=>rfl
 | 6,_=>rfl
 | 7,_=>rfl
 | 8,_=>rfl
 | 9,_=>rfl
theorem Kb.fill10 (B:Nat)(W:World)(x0 x1 x2 x3 x4 x5 x6 x7 x8 x9:Value) :
  Kb B W ((((((((((W.setCell ⟨B,0,none⟩ x0).setCell ⟨B,1,none⟩ x1).setCell ⟨B,2,none⟩ x2).setCell ⟨B,3,none⟩ x3).setCell ⟨B,4,none⟩ x4).setCell ⟨B,5,none⟩ x5).setCell ⟨B,6,none⟩ x6).setCell ⟨B,7,none⟩ x7).setCell ⟨B,8,none⟩ x8).setCell ⟨B,9,none⟩ x9) :=
 (((((((((((Kb.refl B W).set 0 x0).set 1 x1).set 2 x2).set 3 x3).set 4 x4).set 5 x5).set 6 x6).set 7 x7).set 8 x8).set 9 x9)
theorem ownsRow_ee {base:Nat}(h:W.ownsRow base 26 1 sv vals.length vals){L:Nat->List Ent}{Aa:Nat->Option Addr}{Ca:Nat->Nat}(hv:∀ i,i<vals.length->vals[i]?=some (.slice (Aa i) (L i).length (Ca i)))(hl:∀ i,i<vals.length->SlE W (Aa i) (Ca i) (L i)):∃ a cap,sv=.slice a vals.length cap∧SlEE W a vals.length cap L:=by
 obtain ⟨h1,h2⟩:=h;rcases h2 with ⟨rfl,h0⟩|⟨g,cap,cur,rfl,hg,hh,hn,hc,hcs,hx⟩
 ·rw [h0];exact ⟨none,0,rfl,⟨nL,by decide,Or.inl rfl⟩⟩
 have hlt:g<W.heap.size:=(Array.getElem?_eq_some_iff.1 hh).1;refine ⟨_,cap,rfl,⟨hn,hc,Or.inr ⟨g,0,rfl,hlt,fun i hi=>⟨Aa i,Ca i,?_,hl i hi⟩⟩⟩⟩;rw [<- hv i hi,<- hx,List.getElem?_take,if_pos (by omega),Nat.zero_add];simp [World.cell?,hh]
theorem OwnL.sls {base n cap:Nat}{a:Option Addr}{l:List ByteArray}(h:OwnL W base (.slice a n cap) l)(hs:∀ s ∈ l,s.size<=maxLen):n=l.length∧SlS W a l.length cap (getL l):=by
 obtain ⟨a',c',e,h2,_⟩:=h.sl hs;injection e with e1 e2 e3
 subst e1 e3;exact ⟨e2,h2⟩
theorem OwnG.slg {base n cap:Nat}{a:Option Addr}{M:Nat->ByteArray}{L:Nat->Int}(h:OwnG W base (.slice a n cap) n M L)(hs:∀ i,i<n->(M i).size<=maxLen):SlG W a n cap M L:=by
 rcases row_cells h with ⟨e,rfl⟩|⟨g,cap',e,hg,hlt,hn,hc,hx,hf⟩
 ·injection e with e1 e2 e3
  subst e1 e3;exact ⟨nL,by decide,hs,Or.inl rfl⟩
 injection e with e1 e2 e3
 subst e1 e3;refine ⟨hn,hc,hs,Or.inr ⟨g,0,rfl,hlt,fun i hi=>?_,fun i hi=>?_⟩⟩
 ·rw [show 0+i * 2=0+(i * 2) by omega,hx _ (by omega)];exact (encG_get M L n i hi).1
 rw [show 0+i * 2+1=0+(i * 2+1) by omega,hx _ (by omega)];exact (encG_get M L n i hi).2
end
structure GwU (p:Nat)(w W:World)(bs:Nat->Nat)(m q:Nat)(rv:Value)(B:Nat)(c1:Nat->Value)(w1:World)(al:List ByteArray)(av:Value):Prop where
 g:GvB p w W bs m q rv B (fun o=>if o=7 then av else c1 o)
 k:Kb B w1 W
 o:OwnL W w1.heap.size av al
 lo:B<w1.heap.size
section
variable {p:Nat} {w W:World} {bs:Nat->Nat} {m q:Nat} {rv:Value} {B:Nat} {c1:Nat->Value} {w1:World} {al:List ByteArray} {av:Value}
theorem GwU.below (h:GwU p w W bs m q rv B c1 w1 al av){W':World}(hb:Below W.heap.size W W'):GwU p w W' bs m q rv B c1 w1 al av:=⟨h.g.below hb,h.k.below hb,h.o.below hb,h.lo⟩
theorem GwU.snoc (h:GwU p w W bs m q rv B c1 w1 al av)(hp:p<w.heap.size){X w4:World}{gg cq:Nat}{x:ByteArray}(hX:Below W.heap.size W X)(hown:w4.ownsRow w1.heap.size 9 1 (.slice (some ⟨gg,0,none⟩) (al.length+1) cq) (al.length+1) (al.map Value.string ++ [.string x]))(hgr:X.grownBy w4 av.ownBlock) :
  GwU p w (w4.setCell ⟨B,7,none⟩ (.slice (some ⟨gg,0,none⟩) (al.length+1) cq)) bs m q rv B c1 w1 (al ++ [x]) (.slice (some ⟨gg,0,none⟩) (al.length+1) cq):=by
 have h1:=h.below hX;have hlo:=h.lo;have hs:=Lib.grownBy_setCell w4 B 7 (.slice (some ⟨gg,0,none⟩) (al.length+1) cq);have hgg:w1.heap.size<=gg:=(ownsRow_blk hown gg rfl).1;refine ⟨((h1.g.grow hp hgr (fun b hb=>by have:=(ownsRow_blk h1.o b hb).1;omega)).set hp 7 (by decide) _).congr fun o ho=>?_,(h1.k.grow hgr (fun b hb=>Or.inr (ownsRow_blk h1.o b hb).1)).set 7 _,?_,h.lo⟩
 ·by_cases e:o=7
  ·subst e;rfl
  rw [if_neg e,if_neg e,if_neg e]
 have:OwnL w4 w1.heap.size (.slice (some ⟨gg,0,none⟩) (al.length+1) cq) (al ++ [x]):=OwnL.snoc hown;exact ownsRow_k this fun g hg hl=>hs.block g hl (fun e=>by injection e with e;have hq:gg=g:=(by simpa [Value.ownBlock] using hg);omega)
theorem GwU.one (h:GwU p w W bs m q rv B c1 w1 al av)(hp:p<w.heap.size)(s:ByteArray):GwU p w ((W.alloc (.cells #[.string s] 9)).setCell ⟨B,7,none⟩ (.slice (some ⟨W.heap.size,0,none⟩) 1 1)) bs m q rv B c1 w1 [s] (.slice (some ⟨W.heap.size,0,none⟩) 1 1):=by
 have h1:=h.below (kB.alloc nL (.cells #[.string s] 9));have hlo:=h.g.hi;have hs:=Lib.grownBy_setCell (W.alloc (.cells #[.string s] 9)) B 7 (.slice (some ⟨W.heap.size,0,none⟩) 1 1);refine ⟨(h1.g.set hp 7 (by decide) _).congr fun o ho=>?_,h1.k.set 7 _,?_,h.lo⟩
 ·by_cases e:o=7
  ·subst e;rfl
  rw [if_neg e,if_neg e,if_neg e]
 have:OwnL (W.alloc (.cells #[.string s] 9)) w1.heap.size (.slice (some ⟨W.heap.size,0,none⟩) 1 1) [s]:=OwnL.one W _ h.k.1 s;exact ownsRow_k this fun g hg hl=>hs.block g hl (fun e=>by injection e with e;have hq:W.heap.size=g:=(by simpa [Value.ownBlock] using hg);omega)
end
end Go.Proofs.YtkdalopokdhndaaGreat
