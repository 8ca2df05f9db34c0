import Derived.Test.YtpfeegcdlikegaaGreatNdSZ
set_option maxHeartbeats 16000000
set_option maxRecDepth 100000
namespace Go.Proofs.YtpfeegcdlikegaaGreat
open Go.RowKit
variable {B m p q q':Nat}{W w W':World}{bs:Nat->Nat}{rv:Value}{cs:Array Value}
structure vO (p:Nat)(w W:World)(bs:Nat->Nat)(m q:Nat)(rv:Value):Prop where
 r:W.cell? ⟨w.heap.size,0,none⟩=some rv
 z:∀ o,o<10->∃ v,W.cell? ⟨w.heap.size+1,o,none⟩=some v
 f1:∀ o,W.frozen? ⟨w.heap.size+1,o,none⟩=false
 sz:w.heap.size+2<=W.heap.size
 dw:bR p w W bs m q
theorem vO.kept (h:vO p w W bs m q rv)(H:∀ b,w.heap.size<=b->b<w.heap.size+2->W'.heap[b]?=W.heap[b]?)(J:W.heap.size<=W'.heap.size)(N:bR p w W' bs m q'):vO p w W' bs m q' rv:=by
 have I:∀ b o,w.heap.size<=b->b<w.heap.size+2->W'.cell? ⟨b,o,none⟩=W.cell? ⟨b,o,none⟩:=fun b o u G=>World.cell?_of_block (a:=⟨b,o,none⟩) (H b u G)
 have hz:∀ b o,w.heap.size<=b->b<w.heap.size+2->W'.frozen? ⟨b,o,none⟩=W.frozen? ⟨b,o,none⟩:=fun b o u G=>World.frozen?_of_block (a:=⟨b,o,none⟩) (H b u G)
 exact ⟨(I _ _ (by omega) (by omega)).trans h.r,fun o O=>(h.z o O).imp fun v U=>(I _ _ (by omega) (by omega)).trans U,fun o=>(hz _ _ (by omega) (by omega)).trans (h.f1 o),nZ h.sz J,N⟩
theorem vO.below (h:vO p w W bs m q rv)(hb:Below W.heap.size W W'):vO p w W' bs m q rv :=
 h.kept (fun b _ u=>hb.block b (by have:=h.sz;omega)) hb.size (h.dw.below hb)
theorem vO.draw (h:vO p w W bs m q rv)(hp:p<w.heap.size)(u:bR p W W' bs m q'):vO p w W' bs m q' rv :=
 h.kept (fun b G H=>u.2.block b (by have:=h.sz;omega) (fun q=>by injection q with q;omega)) u.size (h.dw.trans u)
theorem vO.grow {row:Option Nat}(h:vO p w W bs m q rv)(hp:p<w.heap.size)(hg:W.grownBy W' row)(hr:∀ b,row=some b->w.heap.size+2<=b):vO p w W' bs m q rv :=
 h.kept (fun b u G=>hg.block b (by have:=h.sz;omega) (fun q=>by have:=hr b q.symm;omega)) hg.size (h.dw.grow hg (fun b hb=>by have:=hr b hb;omega) hp)
structure nF (p:Nat)(w W:World)(bs:Nat->Nat)(m q:Nat)(rv:Value)(B:Nat)(c:Nat->Value):Prop where
 a:vO p w W bs m q rv
 b:∀ o,o<10->W.cell? ⟨B,o,none⟩=some (c o)
 f0:∀ o,W.frozen? ⟨B,o,none⟩=false
 lo:w.heap.size+2<=B
 hi:B<W.heap.size
theorem nF.congr {c G:Nat->Value}(h:nF p w W bs m q rv B c)(H:∀ o,o<10->c o=G o):nF p w W bs m q rv B G:=⟨h.a,fun o u=>by rw [<- H o u];exact h.b o u,h.f0,h.lo,h.hi⟩
theorem nF.kept {c:Nat->Value}(h:nF p w W bs m q rv B c)(ha:vO p w W' bs m q' rv)(u:W'.heap[B]?=W.heap[B]?)(G:W.heap.size<=W'.heap.size):nF p w W' bs m q' rv B c :=
 ⟨ha,fun o H=>(World.cell?_of_block (a:=⟨B,o,none⟩) u).trans (h.b o H),fun o=>(World.frozen?_of_block (a:=⟨B,o,none⟩) u).trans (h.f0 o),h.lo,nT h.hi G⟩
theorem nF.below {c:Nat->Value}(h:nF p w W bs m q rv B c)(hb:Below W.heap.size W W'):nF p w W' bs m q rv B c:=h.kept (h.a.below hb) (hb.block B h.hi) hb.size
theorem nF.draw {c:Nat->Value}(h:nF p w W bs m q rv B c)(hp:p<w.heap.size)(u:bR p W W' bs m q'):nF p w W' bs m q' rv B c:=h.kept (h.a.draw hp u) (u.2.block B h.hi (fun q=>by injection q with q;have:=h.lo;omega)) u.size
theorem nF.grow {c:Nat->Value}{row:Option Nat}(h:nF p w W bs m q rv B c)(hp:p<w.heap.size)(hg:W.grownBy W' row)(hr:∀ b,row=some b->B<b):nF p w W' bs m q rv B c:=h.kept (h.a.grow hp hg (fun b hb=>by have:=hr b hb;have:=h.lo;omega)) (hg.block B h.hi (fun q=>by have:=hr B q.symm;omega)) hg.size
theorem nF.set {c:Nat->Value}(h:nF p w W bs m q rv B c)(hp:p<w.heap.size)(o:Nat)(G:o<10)(x:Value):nF p w (W.setCell ⟨B,o,none⟩ x) bs m q rv B (fun i=>if i=o then x else c i):=by
 have u:=h.lo;refine ⟨h.a.grow hp (Lib.grownBy_setCell W B o x) (fun b hb=>by injection hb with hb;omega),fun i hi=>?_,fun i=>by rw [World.frozen?_setCell];exact h.f0 i,h.lo,by have:=h.hi;simpa [World.setCell] using this⟩
 by_cases e:i=o
 ·subst e;rw [if_pos rfl];exact aZ ⟨_,h.b i hi⟩
 rw [if_neg e,aB (by omega)];exact h.b i hi
theorem oC {t:TypeId}(h:vO p w W bs m q rv)(G:cs.size=10):nF p w (W.alloc (.cells cs t)) bs m q rv W.heap.size (fun o=>cs[o]?.getD undef):=by
 refine ⟨h.below bA,fun o u=>?_,fun o=>kF rfl,h.sz,by simp⟩;rw [kA rfl,Array.getElem?_eq_getElem (by omega)];rfl
theorem oY {U:World}{t:TypeId}(x0 x1 G x3 u N J O I H:Value)(h:vO p w W bs m q rv)(hp:p<w.heap.size)(hc:cs.size=10)(hb:Below (W.alloc (.cells cs t)).heap.size (W.alloc (.cells cs t)) U) :
  nF p w ((((((((((U.setCell ⟨W.heap.size,0,none⟩ x0).setCell ⟨W.heap.size,1,none⟩ x1).setCell ⟨W.heap.size,2,none⟩ G).setCell ⟨W.heap.size,3,none⟩ x3).setCell ⟨W.heap.size,4,none⟩ u).setCell ⟨W.heap.size,5,none⟩ N).setCell ⟨W.heap.size,6,none⟩ J).setCell ⟨W.heap.size,7,none⟩ O).setCell ⟨W.heap.size,8,none⟩ I).setCell ⟨W.heap.size,9,none⟩ H) bs m q rv W.heap.size (fun o=>(#[x0,x1,G,x3,u,N,J,O,I,H]:Array Value)[o]?.getD undef):=by
 have Z:=(oC (t:=t) h hc).below hb;refine ((((((((((Z.set hp 0 (by decide) x0).set hp 1 (by decide) x1).set hp 2 (by decide) G).set hp 3 (by decide) x3).set hp 4 (by decide) u).set hp 5 (by decide) N).set hp 6 (by decide) J).set hp 7 (by decide) O).set hp 8 (by decide) I).set hp 9 (by decide) H).congr fun o Y=>?_
 match o,Y with
 | 0,_=>rfl
 | 1,_=>rfl
 | 2,_=>rfl
 | 3,_=>rfl
 | 4,_=>rfl
 | 5,_=>rfl
 | 6,_=>rfl
 | 7,_=>rfl
 | 8,_=>rfl
 | 9,_=>rfl
theorem aM {w w':World}{base st n:Nat}{t:TypeId}{v:Value}{xs:List Value}(h:w.ownsRow base t st v n xs)(N:∀ g,v.ownBlock=some g->g<w.heap.size->w'.heap[g]?=w.heap[g]?):w'.ownsRow base t st v n xs:=by
 obtain ⟨O,H⟩:=h;refine ⟨O,?_⟩;rcases H with H|⟨g,cap,u,J,G,hh,r⟩
 ·exact Or.inl H
 have I:g<w.heap.size:=(Array.getElem?_eq_some_iff.1 hh).1;exact Or.inr ⟨g,cap,u,J,G,by rw [N g (by rw [J];rfl) I];exact hh,r⟩
theorem aD {w:World}{base st n:Nat}{t:TypeId}{v:Value}{xs:List Value}(h:w.ownsRow base t st v n xs)(b:Nat)(hb:v.ownBlock=some b):base<=b/\b<w.heap.size:=by
 obtain ⟨J,H⟩:=h;rcases H with ⟨rfl,_⟩|⟨g,cap,u,rfl,G,hh,r⟩
 ·cases hb
 have I:g<w.heap.size:=(Array.getElem?_eq_some_iff.1 hh).1
 have:g=b:=by simpa [Value.ownBlock] using hb
 omega
theorem kD {w:World}{base base' st n:Nat}{t:TypeId}{v:Value}{xs:List Value}(h:w.ownsRow base t st v n xs)(hb:base'<=base):w.ownsRow base' t st v n xs:=by
 obtain ⟨G,H⟩:=h;exact ⟨G,H.imp id fun ⟨g,cap,u,e,hg,r⟩=>⟨g,cap,u,e,nZ hb hg,r⟩⟩
def YB (a:Option Addr)(n lo:Nat):Prop:=n=0\/∃ b off,a=some ⟨b,off,none⟩/\lo<=b
def RH (lo:Nat)(e:Ev)(pa aa ga:Option Addr):Prop:=YB pa e.np lo/\YB aa e.na lo/\YB ga e.ng lo
theorem iS {w:World}{base lo st n n' cap:Nat}{t:TypeId}{a:Option Addr}{xs:List Value}(h:w.ownsRow base t st (.slice a n' cap) n xs)(N:lo<=base):YB a n' lo:=by
 obtain ⟨_,J⟩:=h;rcases J with ⟨e,_⟩|⟨g,u,G,e,hg,_⟩
 ·injection e with _ H _
  exact Or.inl H
 injection e with I _ _
 exact Or.inr ⟨g,0,I,nZ N hg⟩
def Kb (B:Nat)(w w':World):Prop:=w.heap.size<=w'.heap.size/\∀ b,b<w.heap.size->b≠B->w'.heap[b]?=w.heap[b]?
theorem Kb.refl (B:Nat)(w:World):Kb B w w:=⟨nL,fun _ _ _=>rfl⟩
theorem Kb.below {B:Nat}{w w1 w2:World}(h:Kb B w w1)(hb:Below w1.heap.size w1 w2):Kb B w w2:=⟨nZ h.1 hb.size,fun b u G=>(hb.block b (nT u h.1)).trans (h.2 b u G)⟩
theorem Kb.grow {B:Nat}{w w1 w2:World}{row:Option Nat}(h:Kb B w w1)(hg:w1.grownBy w2 row)(hr:∀ b,row=some b->b=B\/w.heap.size<=b):Kb B w w2:=⟨nZ h.1 hg.size,fun b u G=>(hg.block b (nT u h.1) (fun q=>by rcases hr b q.symm with e|e <;> omega)).trans (h.2 b u G)⟩
theorem Kb.set {B:Nat}{w w1:World}(h:Kb B w w1)(o:Nat)(x:Value):Kb B w (w1.setCell ⟨B,o,none⟩ x):=h.grow (Lib.grownBy_setCell w1 B o x) (fun b hb=>by injection hb with hb;exact Or.inl hb.symm)
theorem Kb.row {B:Nat}{w w':World}(h:Kb B w w'){base st n:Nat}{t:TypeId}{v:Value}{xs:List Value}(u:w.ownsRow base t st v n xs)(hb:B<base):w'.ownsRow base t st v n xs:=aM u fun g hg G=>h.2 g G (fun e=>by have:=(aD u g hg).1;omega)
structure qU (p:Nat)(w W:World)(bs:Nat->Nat)(m q:Nat)(rv:Value)(B:Nat)(c:Nat->Value)(pl:List ByteArray)(sv:Value)(vals:List Value):Prop where
 g:nF p w W bs m q rv B c
 o:aH W (B+1) (c 6) pl
 r:W.ownsRow (B+1) 26 1 sv vals.length vals
 ne:∀ b,(c 6).ownBlock=some b->sv.ownBlock≠some b
section
variable {p:Nat} {w W:World} {bs:Nat->Nat} {m q:Nat} {rv:Value} {B:Nat} {c:Nat->Value} {pl:List ByteArray} {sv:Value} {vals:List Value}
theorem qU.below (h:qU p w W bs m q rv B c pl sv vals){W':World}(hb:Below W.heap.size W W'):qU p w W' bs m q rv B c pl sv vals:=⟨h.g.below hb,h.o.below hb,eK h.r hb,h.ne⟩
theorem qU.draw (h:qU p w W bs m q rv B c pl sv vals){W':World}{q':Nat}(hp:p<w.heap.size)(u:bR p W W' bs m q'):qU p w W' bs m q' rv B c pl sv vals:=by
 have H:=h.g.lo;refine ⟨h.g.draw hp u,aM h.o fun g hg G=>u.2.block g G (fun e=>?_),aM h.r fun g hg G=>u.2.block g G (fun e=>?_),h.ne⟩
 ·have:=(aD h.o g hg).1;injection e with e;omega
 have:=(aD h.r g hg).1;injection e with e;omega
theorem qU.snocP (h:qU p w W bs m q rv B c pl sv vals)(hp:p<w.heap.size){X N:World}{u cq:Nat}{x:ByteArray}(hX:Below W.heap.size W X)(H:N.ownsRow (B+1) 9 1 (.slice (some ⟨u,0,none⟩) (pl.length+1) cq) (pl.length+1) (pl.map Value.string ++ [.string x]))(I:X.grownBy N (c 6).ownBlock)(G:(c 6).ownBlock=some u\/X.heap.size<=u) :
  qU p w (N.setCell ⟨B,6,none⟩ (.slice (some ⟨u,0,none⟩) (pl.length+1) cq)) bs m q rv B (fun i=>if i=6 then .slice (some ⟨u,0,none⟩) (pl.length+1) cq else c i) (pl ++ [x]) sv vals:=by
 have J:=h.below hX;have Y:=Lib.grownBy_setCell N B 6 (.slice (some ⟨u,0,none⟩) (pl.length+1) cq);have Z:B+1<=u:=(aD H u rfl).1;refine ⟨(J.g.grow hp I (fun b hb=>by have:=(aD J.o b hb).1;omega)).set hp 6 (by decide) _,?_,?_,?_⟩
 ·have:aH N (B+1) (.slice (some ⟨u,0,none⟩) (pl.length+1) cq) (pl ++ [x]):=aH.snoc H
  exact aM this fun g hg O=>Y.block g O (fun e=>by injection e with e;have hq:u=g:=(by simpa [Value.ownBlock] using hg);omega)
 ·refine aM (aM J.r fun g hg O=>I.block g O (fun e=>?_)) fun g hg O=>Y.block g O (fun e=>?_)
  ·exact h.ne g e.symm hg
  have:=(aD J.r g hg).1;injection e with e;omega
 intro b hb e;have U:u=b:=by simpa [Value.ownBlock] using hb
 subst U;rcases G with G|G
 ·exact h.ne _ G e
 have:=(aD J.r _ e).2;omega
theorem qU.snocS (h:qU p w W bs m q rv B c pl sv vals)(hp:p<w.heap.size){X O:World}{H cq:Nat}{x:Value}(U:Below W.heap.size W X)(G:O.ownsRow (B+1) 26 1 (.slice (some ⟨H,0,none⟩) (vals.length+1) cq) (vals.length+1) (vals ++ [x]))(I:X.grownBy O sv.ownBlock)(u:sv.ownBlock=some H\/X.heap.size<=H) :
  qU p w O bs m q rv B c pl (.slice (some ⟨H,0,none⟩) (vals.length+1) cq) (vals ++ [x]):=by
 have J:=h.below U;refine ⟨J.g.grow hp I (fun b hb=>by have:=(aD J.r b hb).1;omega),?_,by rw [List.length_append];exact G,?_⟩
 ·exact aM J.o fun g hg Y=>I.block g Y (fun e=>h.ne g hg e.symm)
 intro b hb e;have N:H=b:=by simpa [Value.ownBlock] using e
 subst N;rcases u with u|u
 ·exact h.ne _ hb u
 have:=(aD J.o _ hb).2;omega
theorem qU.congr (h:qU p w W bs m q rv B c pl sv vals){G:Nat->Value}(u:∀ o,o<10->c o=G o):qU p w W bs m q rv B G pl sv vals:=⟨h.g.congr u,by rw [<- u 6 (by decide)];exact h.o,h.r,by rw [<- u 6 (by decide)];exact h.ne⟩
theorem nF.fill10 (h:nF p w W bs m q rv B c)(hp:p<w.heap.size)(x0 x1 N x3 u H J O I G:Value) :
  nF p w ((((((((((W.setCell ⟨B,0,none⟩ x0).setCell ⟨B,1,none⟩ x1).setCell ⟨B,2,none⟩ N).setCell ⟨B,3,none⟩ x3).setCell ⟨B,4,none⟩ u).setCell ⟨B,5,none⟩ H).setCell ⟨B,6,none⟩ J).setCell ⟨B,7,none⟩ O).setCell ⟨B,8,none⟩ I).setCell ⟨B,9,none⟩ G) bs m q rv B (fun o=>(#[x0,x1,N,x3,u,H,J,O,I,G]:Array Value)[o]?.getD undef):=by
 refine ((((((((((h.set hp 0 (by decide) x0).set hp 1 (by decide) x1).set hp 2 (by decide) N).set hp 3 (by decide) x3).set hp 4 (by decide) u).set hp 5 (by decide) H).set hp 6 (by decide) J).set hp 7 (by decide) O).set hp 8 (by decide) I).set hp 9 (by decide) G).congr fun o U=>?_
 match o,U with
 | 0,_=>rfl
 | 1,_=>rfl
 | 2,_=>rfl
 | 3,_=>rfl
 | 4,_=>rfl
 | 5,_=>rfl
 | 6,_=>rfl
 | 7,_=>rfl
 | 8,_=>rfl
 | 9,_=>rfl
theorem Kb.fill10 (B:Nat)(W:World)(x0 x1 N x3 u H J O I G:Value) :
  Kb B W ((((((((((W.setCell ⟨B,0,none⟩ x0).setCell ⟨B,1,none⟩ x1).setCell ⟨B,2,none⟩ N).setCell ⟨B,3,none⟩ x3).setCell ⟨B,4,none⟩ u).setCell ⟨B,5,none⟩ H).setCell ⟨B,6,none⟩ J).setCell ⟨B,7,none⟩ O).setCell ⟨B,8,none⟩ I).setCell ⟨B,9,none⟩ G) :=
 (((((((((((Kb.refl B W).set 0 x0).set 1 x1).set 2 N).set 3 x3).set 4 u).set 5 H).set 6 J).set 7 O).set 8 I).set 9 G)
theorem tF {base:Nat}(h:W.ownsRow base 26 1 sv vals.length vals){L:Nat->List aE}{Aa:Nat->Option Addr}{Ca:Nat->Nat}(Y:∀ i,i<vals.length->vals[i]?=some (.slice (Aa i) (L i).length (Ca i)))(Z:∀ i,i<vals.length->dF W (Aa i) (Ca i) (L i)):∃ a cap,sv=.slice a vals.length cap/\jN W a vals.length cap L:=by
 obtain ⟨h1,N⟩:=h;rcases N with ⟨rfl,J⟩|⟨g,cap,G,rfl,hg,hh,O,U,H,I⟩
 ·rw [J];exact ⟨none,0,rfl,⟨nL,by decide,Or.inl rfl⟩⟩
 have u:g<W.heap.size:=(Array.getElem?_eq_some_iff.1 hh).1;refine ⟨_,cap,rfl,⟨O,U,Or.inr ⟨g,0,rfl,u,fun i hi=>⟨Aa i,Ca i,?_,Z i hi⟩⟩⟩⟩;rw [<- Y i hi,<- I,List.getElem?_take,if_pos (by omega),Nat.zero_add];simp [World.cell?,hh]
theorem aH.sls {base n cap:Nat}{a:Option Addr}{l:List ByteArray}(h:aH W base (.slice a n cap) l)(u:∀ s ∈ l,s.size<=maxLen):n=l.length/\dE W a l.length cap (aG l):=by
 obtain ⟨O,N,e,J,_⟩:=h.sl u;injection e with I G H
 subst I H;exact ⟨G,J⟩
theorem bV.slg {base n cap:Nat}{a:Option Addr}{M:Nat->ByteArray}{L:Nat->Int}(h:bV W base (.slice a n cap) n M L)(I:∀ i,i<n->(M i).size<=maxLen):gN W a n cap M L:=by
 rcases cX h with ⟨e,rfl⟩|⟨g,N,e,hg,H,U,Y,J,Z⟩
 ·injection e with G O u
  subst G u;exact ⟨nL,by decide,I,Or.inl rfl⟩
 injection e with G O u
 subst G u;refine ⟨U,Y,I,Or.inr ⟨g,0,rfl,H,fun i hi=>?_,fun i hi=>?_⟩⟩
 ·rw [show 0+i * 2=0+(i * 2) by omega,J _ (by omega)];exact (gQ M L n i hi).1
 rw [show 0+i * 2+1=0+(i * 2+1) by omega,J _ (by omega)];exact (gQ M L n i hi).2
end
structure rI (p:Nat)(w W:World)(bs:Nat->Nat)(m q:Nat)(rv:Value)(B:Nat)(c1:Nat->Value)(w1:World)(al:List ByteArray)(av:Value):Prop where
 g:nF p w W bs m q rv B (fun o=>if o=7 then av else c1 o)
 k:Kb B w1 W
 o:aH W w1.heap.size av al
 lo:B<w1.heap.size
section
variable {p:Nat} {w W:World} {bs:Nat->Nat} {m q:Nat} {rv:Value} {B:Nat} {c1:Nat->Value} {w1:World} {al:List ByteArray} {av:Value}
theorem rI.below (h:rI p w W bs m q rv B c1 w1 al av){W':World}(hb:Below W.heap.size W W'):rI p w W' bs m q rv B c1 w1 al av:=⟨h.g.below hb,h.k.below hb,h.o.below hb,h.lo⟩
theorem rI.snoc (h:rI p w W bs m q rv B c1 w1 al av)(hp:p<w.heap.size){X I:World}{G cq:Nat}{x:ByteArray}(Y:Below W.heap.size W X)(u:I.ownsRow w1.heap.size 9 1 (.slice (some ⟨G,0,none⟩) (al.length+1) cq) (al.length+1) (al.map Value.string ++ [.string x]))(H:X.grownBy I av.ownBlock) :
  rI p w (I.setCell ⟨B,7,none⟩ (.slice (some ⟨G,0,none⟩) (al.length+1) cq)) bs m q rv B c1 w1 (al ++ [x]) (.slice (some ⟨G,0,none⟩) (al.length+1) cq):=by
 have J:=h.below Y;have O:=h.lo;have N:=Lib.grownBy_setCell I B 7 (.slice (some ⟨G,0,none⟩) (al.length+1) cq);have U:w1.heap.size<=G:=(aD u G rfl).1;refine ⟨((J.g.grow hp H (fun b hb=>by have:=(aD J.o b hb).1;omega)).set hp 7 (by decide) _).congr fun o ho=>?_,(J.k.grow H (fun b hb=>Or.inr (aD J.o b hb).1)).set 7 _,?_,h.lo⟩
 ·by_cases e:o=7
  ·subst e;rfl
  rw [if_neg e,if_neg e,if_neg e]
 have:aH I w1.heap.size (.slice (some ⟨G,0,none⟩) (al.length+1) cq) (al ++ [x]):=aH.snoc u;exact aM this fun g hg Z=>N.block g Z (fun e=>by injection e with e;have hq:G=g:=(by simpa [Value.ownBlock] using hg);omega)
theorem rI.one (h:rI p w W bs m q rv B c1 w1 al av)(hp:p<w.heap.size)(s:ByteArray):rI p w ((W.alloc (.cells #[.string s] 9)).setCell ⟨B,7,none⟩ (.slice (some ⟨W.heap.size,0,none⟩) 1 1)) bs m q rv B c1 w1 [s] (.slice (some ⟨W.heap.size,0,none⟩) 1 1):=by
 have u:=h.below (kB.alloc nL (.cells #[.string s] 9));have H:=h.g.hi;have G:=Lib.grownBy_setCell (W.alloc (.cells #[.string s] 9)) B 7 (.slice (some ⟨W.heap.size,0,none⟩) 1 1);refine ⟨(u.g.set hp 7 (by decide) _).congr fun o J=>?_,u.k.set 7 _,?_,h.lo⟩
 ·by_cases e:o=7
  ·subst e;rfl
  rw [if_neg e,if_neg e,if_neg e]
 have:aH (W.alloc (.cells #[.string s] 9)) w1.heap.size (.slice (some ⟨W.heap.size,0,none⟩) 1 1) [s]:=aH.one W _ h.k.1 s;exact aM this fun g hg I=>G.block g I (fun e=>by injection e with e;have hq:W.heap.size=g:=(by simpa [Value.ownBlock] using hg);omega)
end
end Go.Proofs.YtpfeegcdlikegaaGreat
