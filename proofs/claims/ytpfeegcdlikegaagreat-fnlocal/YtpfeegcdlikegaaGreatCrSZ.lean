import Derived.Test.YtpfeegcdlikegaaGreatAfS
set_option maxHeartbeats 16000000
set_option maxRecDepth 100000
namespace Go.Proofs.YtpfeegcdlikegaaGreat
open Go.RowKit Go.Proofs.Tryz
variable {Q:World->Ev->Ls->Prop}
structure CR (w wr:World)(a:Option Addr)(n cap:Nat)(v:Value):Prop where
 x0:wr.cell? ⟨w.heap.size,0,none⟩=some (.slice a n cap)
 x1:∃ u,wr.cell? ⟨w.heap.size+1,0,none⟩=some u
 x3:wr.cell? ⟨w.heap.size+1+1+1,0,none⟩=some v
 f1:wr.frozen? ⟨w.heap.size+1,0,none⟩=false
 f3:wr.frozen? ⟨w.heap.size+1+1+1,0,none⟩=false
 sz:w.heap.size+1+1+1<wr.heap.size
 bel:Below w.heap.size w wr
theorem XG (hQ:QS Q)(b off n cap:Nat)(E:Nat->Ev)(w:World)(hr:n * 168<=140737488351232)(hR:∀ i,i<n->eE (E i))(h:dW w (some ⟨b,off,none⟩) n cap E)(bw:0<n->b<w.heap.size)(hc:∀ i,i<n->mT w b (off+i * 10) (E i)) :
  Calls prog 126 #[.agg #[.slice (some ⟨b,off,none⟩) n cap]] w fun x w'=>∃ v T,x=.returned (.agg #[v])/\He (bY Q w' (w.heap.size+2) v n E T)/\Below w.heap.size w w':=by
 obtain ⟨i0,hi,bo,bc,bp⟩:=info_parts Tryz.infoEvent;have ba:=nZ h.le h.max;have bv:=ba;unfold maxLen at bv;obtain ⟨wa,ag⟩:∃ wa,wa=(((w.alloc (.cells #[.slice (some ⟨b,off,none⟩) n cap] 25)).alloc (.cells #[.slice none 0 0] 25)).alloc (.cells #[] 30)).alloc (.cells #[.slice (some ⟨w.heap.size+1+1,0,none⟩) 0 0] 25):=⟨_,rfl⟩
 have ax:CR w wa (some ⟨b,off,none⟩) n cap (.slice (some ⟨w.heap.size+1+1,0,none⟩) 0 0):=by
  rw [ag];refine ⟨?_,⟨.slice none 0 0,?_⟩,kA (by simp),?_,kF (by simp),by simp,((bA.alloc (by simp) _).alloc (by simp;omega) _).alloc (by simp;omega) _⟩
  ·rw [World.cell?_alloc_past _ _ _ (by simp;omega),World.cell?_alloc_past _ _ _ (by simp;omega),World.cell?_alloc_past _ _ _ (by simp)]
   exact kA rfl
  ·rw [World.cell?_alloc_past _ _ _ (by simp),World.cell?_alloc_past _ _ _ (by simp)]
   exact kA (by simp)
  rw [World.frozen?_alloc_past _ _ _ (by simp),World.frozen?_alloc_past _ _ _ (by simp)];exact kF (by simp)
 have ao:bY Q wa (w.heap.size+2) (.slice (some ⟨w.heap.size+1+1,0,none⟩) 0 0) 0 E (fun _=>⟨none,0,none,0,none,0,0,0,0,0⟩):=by
  have:=bY.new (Q:=Q) ((w.alloc (.cells #[.slice (some ⟨b,off,none⟩) n cap] 25)).alloc (.cells #[.slice none 0 0] 25)) (w.heap.size+2) (by simp) E (fun _=>⟨none,0,none,0,none,0,0,0,0,0⟩);simp only [World.size_alloc] at this;rw [ag];exact this.below hQ.c bA
 have HC:He (_):=hc;have HR:He (_):=hR;clear hc hR h
 go_enter func126,ntmps126
 go_wp2_with fail
 rw [<- ag];clear ag
 go_loopw [4] (fun iv wr=>∃ k:Nat,k<=n/\iv=.int .i64 (k:Int)/\∃ g c T,He (CR w wr (some ⟨b,off,none⟩) n cap (.slice (some ⟨g,0,none⟩) k c))/\He (bY Q wr (w.heap.size+2) (.slice (some ⟨g,0,none⟩) k c) k E T)/\g≠w.heap.size+1+1+1/\w.heap.size+2<=g/\He (∀ i,i<k->w.heap.size+1+1+1<(T i).lo)) (fun iv _=>n - (intOf iv).toNat)
 case atStart=>exact ⟨0,nz,rfl,w.heap.size+1+1,0,_,ax,ao,by omega,by omega,fun i hi=>absurd hi (Nat.not_lt_zero _)⟩
 case round =>
  clear ax ao;obtain ⟨k,hk,rfl,g,c,T,ay,O,cy,ci,hT⟩:=hrel;obtain ⟨x0,⟨u1,x1⟩,x3,f1,f3,ak,H⟩:=ay.o
  by_cases aq:k<n
  ·have hb:b<w.heap.size:=bw (by omega)
   obtain ⟨pa,cp,aa,ca,ga,cg,ap,aw⟩:=HC.o k aq;obtain ⟨c0,c1,c2,c3,c4,c5,c6,c7,c8,c9⟩:=ap.below H hb;have bh:b<wr.heap.size:=nT hb H.size;have dc:w.heap.size<wr.heap.size:=by omega
   have cx:b≠w.heap.size+1+1+1:=by omega
   have cf:b≠g:=by omega
   have bt:He (∀ W,Below wr.heap.size wr W->Calls prog 127 #[.agg (ec (E k) pa cp aa ca ga cg)] W fun x w'=>∃ t:Ls,x=.returned (.agg (ec (E k) t.pa t.cp t.aa t.ca t.ga t.cg))/\He (Q w' (E k) t)/\wr.heap.size<=t.lo/\Below wr.heap.size wr w'):=fun W hW=>by
    refine (hQ.cp (E k) W (HR.o k aq) (aw.below (H.trans (hW.mono H.size)))).mono ?_;rintro x w' ⟨t,h1,h2,h3,h4⟩;exact ⟨t,h1,h2,nZ hW.size h3,hW.trans (h4.mono hW.size)⟩
   have HZ:He (∀ (w1 X w3:World) (t:Ls) (J cc:Nat),Below wr.heap.size wr w1->Q w1 (E k) t->wr.heap.size<=t.lo->Below w1.heap.size w1 X->w3.ownsRow (w.heap.size+2) 30 10 (.slice (some ⟨J,0,none⟩) (k+1) cc) (k+1) (jY E T k ++ GF (E k) t)->X.grownBy w3 (some g)->(some g=some J\/X.heap.size<=J)->CR w (w3.setCell ⟨w.heap.size+1+1+1,0,none⟩ (.slice (some ⟨J,0,none⟩) (k+1) cc)) (some ⟨b,off,none⟩) n cap (.slice (some ⟨J,0,none⟩) (k+1) cc)/\bY Q (w3.setCell ⟨w.heap.size+1+1+1,0,none⟩ (.slice (some ⟨J,0,none⟩) (k+1) cc)) (w.heap.size+2) (.slice (some ⟨J,0,none⟩) (k+1) cc) (k+1) E (qF T k t)/\J≠w.heap.size+1+1+1/\w.heap.size+2<=J/\(∀ i,i<k+1->w.heap.size+1+1+1<(qF T k t i).lo)):=fun w1 X w3 t J cc h1 hq bx hX a3 I an=>by
    have Y:=h1.trans (hX.mono h1.size);have bi:=hQ.c.below hq hX;have bu:=O.o.below hQ.c Y
    have cb:g<wr.heap.size:=by
     rcases O.o.cells with ⟨q,_⟩|⟨g',cd,q,_,q2,_⟩
     ·injection q with q;cases q
     injection q with q
     injection q with q
     injection q with q
     omega
    have ab:=bu.snoc hQ.c bi (by omega) (fun i hi=>nZ (hQ.c.hi (O.o.q i hi)).2 bx) (fun q hq=>Or.inl (by
     have:some g=some q:=hq;injection this with this
     omega)) a3 I (by
     rcases an with q|q
     ·exact Or.inl q
     exact Or.inr q)
    have bj:wr.heap.size<=X.heap.size:=Y.size;have cj:X.heap.size<=w3.heap.size:=I.size
    have bz:J≠w.heap.size+1+1+1:=by
     rcases an with q|q
     ·injection q with q;omega
     omega
    have bm:w.heap.size+2<=J:=by
     rcases an with q|q
     ·injection q with q;omega
     omega
    have far:∀ q,q<wr.heap.size->q≠g->∀ o,w3.cell? ⟨q,o,none⟩=wr.cell? ⟨q,o,none⟩:=fun q h2 h3 o=>(I.cell_far _ (by show q<X.heap.size;omega) (fun e=>by
     have U:some q=some g:=e;injection U with U
     omega)).trans (Y.cell (by exact h2))
    have aj:∀ q,q<wr.heap.size->q≠g->∀ o,w3.frozen? ⟨q,o,none⟩=wr.frozen? ⟨q,o,none⟩:=fun q h2 h3 o=>(I.frozen_far _ (by show q<X.heap.size;omega) (fun e=>by
     have U:some q=some g:=e;injection U with U
     omega)).trans (Y.frozen (by exact h2))
    have a2:∀ i,i<k+1->w.heap.size+1+1+1<(qF T k t i).lo:=fun i hi=>by
     unfold qF
     by_cases e:i=k
     ·rw [if_pos e];omega
     rw [if_neg e];exact hT.o i (by omega)
    refine ⟨⟨?_,⟨u1,?_⟩,?_,?_,?_,by simp [World.setCell];omega,?_⟩,⟨jL ab.own (fun q hq=>Below.heap_setCell _ _ _ _ (by
     have:some J=some q:=hq;injection this with this
     show q≠w.heap.size+1+1+1
     omega)),fun i hi=>?_,ab.low,ab.ord,ab.apart⟩,bz,bm,a2⟩
    ·rw [fJ (by omega),far _ (by omega) (by omega)];exact x0
    ·rw [fJ (by omega),far _ (by omega) (by omega)];exact x1
    ·exact aZ ⟨_,(far _ (by omega) (by omega) 0).trans x3⟩
    ·rw [World.frozen?_setCell,aj _ (by omega) (by omega)];exact f1
    ·rw [World.frozen?_setCell,aj _ (by omega) (by omega)];exact f3
    ·refine Below.setCell ?_ (by show w.heap.size<=w.heap.size+1+1+1;omega) _
     exact (H.trans (Y.mono H.size)).grown I (by omega) (fun q hq=>by
      have:some g=some q:=hq;injection this with this
      omega)
    have q:=ab.q i hi;have l:=a2 i hi;exact hQ.s q (Or.inl l)
   have HO:He (∀ X,Below wr.heap.size wr X->X.ownsRow (w.heap.size+2) 30 10 (.slice (some ⟨g,0,none⟩) k c) k (jY E T k)):=fun X hX=>eK O.o.own hX
   have HF:He (∀ (X w3:World),Below wr.heap.size wr X->X.grownBy w3 (some g)->(∀ o,w3.cell? ⟨w.heap.size,o,none⟩=wr.cell? ⟨w.heap.size,o,none⟩)/\(∀ o,w3.cell? ⟨b,o,none⟩=wr.cell? ⟨b,o,none⟩)/\w3.cell? ⟨w.heap.size+1+1+1,0,none⟩=some (.slice (some ⟨g,0,none⟩) k c)/\w3.frozen? ⟨w.heap.size+1+1+1,0,none⟩=false):=fun X w3 hX I=>by
    have bj:=hX.size
    have far:∀ q,q<wr.heap.size->q≠g->∀ o,w3.cell? ⟨q,o,none⟩=wr.cell? ⟨q,o,none⟩:=fun q h2 h3 o=>(I.cell_far _ (by show q<X.heap.size;omega) (fun e=>by
     have U:some q=some g:=e;injection U with U
     omega)).trans (hX.cell (by exact h2))
    refine ⟨fun o=>far _ (by omega) (by omega) o,fun o=>far _ bh (by omega) o,(far _ ak (by omega) 0).trans x3,?_⟩
    exact (I.frozen_far _ (by show w.heap.size+1+1+1<X.heap.size;omega) (fun e=>by
     have U:some (w.heap.size+1+1+1)=some g:=e;injection U with U
     omega)).trans ((hX.frozen (by exact ak)).trans f3)
   clear ap aw ay hT;have bb:k+1<=maxLen:=by unfold maxLen;omega
   have bq:(k+1) * 168<=140737488355328:=by omega
   have ad:Below wr.heap.size wr wr:=kB;have au:(k:Int)<(n:Int):=by omega
   have cm:(0:Int)<=(k:Int):=by omega
   clear O;generalize E k=e at *
   go_wp2_with fail
   go_region_law ((first
     | (refine step_append_lies _ (by rfl) _ _ _ (by rfl) (w.heap.size+2) 30 i0 _ 10 168 underlying23 hi bo bc bp rfl (by decide) (.slice (some ⟨g,0,none⟩) k c) k (jY E T k) (by rfl) (HO.o _ (by first|exact G.alloc G.size _|exact (G.alloc G.size _).drew|exact (G.drew.alloc G.size _)|exact ((G.alloc G.size _).drew).drew)) ⟨w1.heap.size,0,none⟩ 1 1 (GF e t) (by rfl) (by rfl) (fun j u hj=>uQ w1 e t _ j u hj) (FO e t) (by decide) bb bq (by simp;have:=G.size;omega) (w1.heap.size+1) (by simp) ?_;intro J cc w3 ae N bn b7;obtain ⟨-,-,F3,Z3⟩:=HF.o _ w3 (by first|exact G.alloc G.size _|exact (G.alloc G.size _).drew|exact (G.drew.alloc G.size _)|exact ((G.alloc G.size _).drew).drew) N)
     | (go_simp;go_at_call 127;refine (bt.o _ (by with_reducible first|exact ad|exact ad.drew|exact ad.drew.drew|exact ad.drew.drew.drew|exact ad.drew.drew.drew.drew)).mono ?_;rintro x w1 ⟨t,rfl,bg,b0,G⟩;have bf:=(G.cell (by exact ak)).trans x3;have ch:∀ Z,(w1.alloc Z).cell? ⟨w.heap.size+1+1+1,0,none⟩=some (.slice (some ⟨g,0,none⟩) k c):=fun Z=>(bA.cell (by show w.heap.size+1+1+1<w1.heap.size;have:=G.size;omega)).trans bf;dsimp only)))
   all_goals
    obtain ⟨z1,z2,z4,z5,z6⟩:=HZ.o w1 _ w3 t J cc G bg.o b0 (by first|exact bA|exact bA.drew) ae N (bn.imp (fun q=>q) (fun q=>by simp;omega));have Y1:He (_):=z1;have Y2:He (_):=z2;have Y6:He (_):=z6;clear z1 z2 z6 ae N;go_wp2
    go_roundw
    case rel=>exact ⟨k+1,by omega,by go_num,J,cc,_,Y1,Y2,z4,z5,Y6⟩
    simp [intOf];omega
  have au:k=n:=by omega
  subst au;have bk:Below w.heap.size w (wr.setCell ⟨w.heap.size+1,0,none⟩ (.slice (some ⟨g,0,none⟩) k c)):=H.setCell (by exact Nat.le_add_right _ _) _
  have br:He (bY Q (wr.setCell ⟨w.heap.size+1,0,none⟩ (.slice (some ⟨g,0,none⟩) k c)) (w.heap.size+2) (.slice (some ⟨g,0,none⟩) k c) k E T):=by
   refine ⟨jL O.o.own (fun q hq=>Below.heap_setCell _ _ _ _ (by
    have:some g=some q:=hq;injection this with this
    show q≠w.heap.size+1
    omega)),fun i hi=>?_,O.o.low,O.o.ord,O.o.apart⟩
   have q:=O.o.q i hi;have l:=O.o.low i hi;exact hQ.s q (Or.inl (by omega))
  clear O HC HR;go_wp2
  refine bodyPost_ret (v:=.agg #[.slice (some ⟨g,0,none⟩) k c]) (by simp [results,results126,go_sem,x1]) rfl ⟨_,T,rfl,br,bk⟩
variable {w:World}{j ca cg cp base base':Nat}{v:Value}{T:Nat->Ls}{aa ga pa:Option Addr}
theorem bY.setB (u:∀ {w:World} {e:Ev} {t:Ls} {C j:Nat} {x:Value},Q w e t->(C<t.lo\/t.hi<=C)->Q (w.setCell ⟨C,j,none⟩ x) e t){n C:Nat}{x:Value}{E:Nat->Ev}(h:bY Q w base v n E T)(G:∀ g,v.ownBlock=some g->g≠C)(H:∀ i,i<n->C<(T i).lo\/(T i).hi<=C):bY Q (w.setCell ⟨C,j,none⟩ x) base v n E T :=
 ⟨jL h.own (fun g hg=>Below.heap_setCell _ _ _ _ (by exact G g hg)),fun i hi=>u (h.q i hi) (H i hi),h.low,h.ord,h.apart⟩
theorem bY.base_le {n:Nat}{E:Nat->Ev}(h:bY Q w base v n E T)(hb:base'<=base):bY Q w base' v n E T:=by
 refine ⟨?_,h.q,fun i hi=>nZ hb (h.low i hi),h.ord,h.apart⟩;obtain ⟨H,G⟩:=h.own;refine ⟨H,?_⟩;rcases G with G|⟨g,cap,u,I,hg,r⟩
 ·exact Or.inl G
 exact Or.inr ⟨g,cap,u,I,nZ hb hg,r⟩
def fY (E:Nat->Ev)(n:Nat)(e:Ev):Nat->Ev:=fun i=>if i=n then e else E i
theorem nS {E E':Nat->Ev}{T:Nat->Ls}:∀ {n},(∀ i,i<n->E i=E' i)->jY E T n=jY E' T n
 | 0,_=>rfl
 | n+1,h=>by rw [<- gG,<- gG,nS (fun i hi=>h i (by omega)),h n (by omega)]
theorem bY.congE {n:Nat}{E E':Nat->Ev}(h:bY Q w base v n E T)(u:∀ i,i<n->E i=E' i):bY Q w base v n E' T :=
 ⟨by rw [<- nS u];exact h.own,fun i hi=>by rw [<- u i hi];exact h.q i hi,h.low,h.ord,h.apart⟩
def KK (E:Nat->Ev)(n:Nat)(e:Ev):Nat:=if aO E n e=0 then n+1 else n
def wO (Q:World->Ev->Ls->Prop)(E:Nat->Ev)(n:Nat)(e:Ev)(w:World)(x:Ending)(w':World):Prop :=
 ∃ v T,x=.returned (.tuple #[.agg #[v],.int .i64 (aO E n e)])/\He (bY Q w' w.heap.size v (KK E n e) (fY E n e) T)/\Below w.heap.size w w'
theorem YR (hQ:QS Q)(b off n cap:Nat)(E:Nat->Ev)(e:Ev)(w:World)(hr:n * 168<=140737488351232)(hR:∀ i,i<n->eE (E i))(b9:eE e)(h:dW w (some ⟨b,off,none⟩) n cap E)(hb:0<n->b<w.heap.size)(hc:∀ i,i<n->mT w b (off+i * 10) (E i))(he:cI w e pa cp aa ca ga cg) :
  Calls prog 76 #[.agg #[.slice (some ⟨b,off,none⟩) n cap],.agg (ec e pa cp aa ca ga cg)] w (wO Q E n e w):=by
 obtain ⟨i0,hi,b5,br,b6⟩:=info_parts Tryz.infoEvent;have bp:=nZ h.le h.max;have ce:=bp;unfold maxLen at ce;obtain ⟨N,O⟩:∃ N,N=((w.alloc (.cells #[.slice (some ⟨b,off,none⟩) n cap] 25)).alloc (.cells (ec e pa cp aa ca ga cg) 30)).alloc (.cells #[.slice none 0 0] 25):=⟨_,rfl⟩;have d6:N.heap.size=w.heap.size+3:=by rw [O];simp
 have ad:Below w.heap.size w N:=by rw [O];exact (bA.alloc (by simp) _).alloc (by simp;omega) _
 have au:He (∀ W,Below N.heap.size N W->(W.cell? ⟨w.heap.size,0,none⟩=some (.slice (some ⟨b,off,none⟩) n cap))/\(∀ i,W.cell? ⟨w.heap.size+1,i,none⟩=((ec e pa cp aa ca ga cg):Array Value)[i]?)/\W.cell? ⟨w.heap.size+1+1,0,none⟩=some (.slice none 0 0)/\W.frozen? ⟨w.heap.size+1+1,0,none⟩=false):=fun W hW=>by
  refine ⟨(hW.cell (by show w.heap.size<N.heap.size;omega)).trans ?_,fun i=>(hW.cell (by show w.heap.size+1<N.heap.size;omega)).trans ?_,(hW.cell (by show w.heap.size+1+1<N.heap.size;omega)).trans ?_,(hW.frozen (by show w.heap.size+1+1<N.heap.size;omega)).trans ?_⟩
  ·rw [O,World.cell?_alloc_past _ _ _ (by simp;omega),World.cell?_alloc_past _ _ _ (by simp)]
   exact kA rfl
  ·rw [O,World.cell?_alloc_past _ _ _ (by simp)]
   exact kA (by simp)
  ·rw [O];exact kA (by simp)
  rw [O];exact kF (by simp)
 have r0:(((w.alloc (.cells #[.slice (some ⟨b,off,none⟩) n cap] 25)).alloc (.cells (ec e pa cp aa ca ga cg) 30)).alloc (.cells #[.slice none 0 0] 25)).cell? ⟨w.heap.size,0,none⟩=some (.slice (some ⟨b,off,none⟩) n cap):=by rw [<- O];exact (au.o _ kB).1
 go_enter func76,ntmps76
 go_wp2_with fail
 rw [<- O];clear O r0;refine (XG hQ b off n cap E N hr hR (h.below ad) (fun hn=>nT (hb hn) ad.size) (fun i hi=>(hc i hi).below ad (hb (by omega)))).mono ?_;rintro x w1 ⟨v0,T,rfl,bc,a5⟩;have hV:He (bY Q w1 N.heap.size v0 n E T):=bc.o.base_le (Nat.le_add_right _ 2);clear bc;obtain ⟨I,J,rfl,-⟩:=hV.o.slv hQ.c;obtain ⟨wb,ab⟩:∃ wb,wb=w1.alloc (.cells #[.slice I n J] 25):=⟨_,rfl⟩;have dc:N.heap.size<=w1.heap.size:=a5.size;have a6:Below w1.heap.size w1 wb:=by rw [ab];exact bA
 have dq:wb.heap.size=w1.heap.size+1:=by rw [ab];simp
 have am:Below N.heap.size N wb:=a5.trans (a6.mono a5.size);have hO:wb.cell? ⟨w1.heap.size,0,none⟩=some (.slice I n J):=by rw [ab];exact kA rfl
 have bv:wb.frozen? ⟨w1.heap.size,0,none⟩=false:=by rw [ab];exact kF rfl
 have z0:(w1.alloc (.cells #[.slice I n J] 25)).cell? ⟨w.heap.size,0,none⟩=some (.slice (some ⟨b,off,none⟩) n cap):=by rw [<- ab];exact (au.o _ am).1
 have zc:∀ i,(w1.alloc (.cells #[.slice I n J] 25)).cell? ⟨w.heap.size+1,i,none⟩=((ec e pa cp aa ca ga cg):Array Value)[i]?:=fun i=>by rw [<- ab];exact (au.o _ am).2.1 i
 have z1:=zc 0;have z2:=zc 1;have z3:=zc 2;have z4:=zc 3;have z5:=zc 4;have z6:=zc 5;have z7:=zc 6;have z8:=zc 7;have z9:=zc 8;have ci:=zc 9;have cm:w.heap.size≠w1.heap.size:=by omega
 have cv:w.heap.size+1≠w1.heap.size:=by omega
 clear zc;have ax:=ad.trans (am.mono ad.size);have HC:He (Calls prog 43 #[.agg #[.slice (some ⟨b,off,none⟩) n cap],.agg (ec e pa cp aa ca ga cg)] wb fun x w'=>x=.returned (.int .i64 (aO E n e))/\Below wb.heap.size wb w'):=tG e wb (h.below ax) (he.below ax);have hT:He (∀ i,i<n->N.heap.size<=(T i).lo/\(T i).hi<=w1.heap.size):=fun i hi=>⟨hV.o.low i hi,(hQ.c.hi (hV.o.q i hi)).2⟩
 have Y:He (∀ g,(Value.slice I n J).ownBlock=some g->N.heap.size<=g/\g<w1.heap.size):=fun g hg=>by
  rcases hV.o.cells with ⟨q,_⟩|⟨g',cu,q,q1,q2,_⟩
  ·rw [q] at hg;cases hg
  rw [q] at hg
  have:some g'=some g:=hg;injection this with this
  omega
 go_wp2_with fail
 rw [<- ab];clear ab z1 z2 z3 z4 z5 z6 z7 z8 z9 ci z0;refine HC.o.mono ?_;rintro x w2 ⟨rfl,ao⟩;have a2:=am.trans (ao.mono am.size);have cf:=a6.trans (ao.mono a6.size);have dm:w1.heap.size+1<=w2.heap.size:=by have:=ao.size;omega
 have y0:=(ao.cell (by show w1.heap.size<wb.heap.size;omega)).trans hO;have yz:=(ao.frozen (by show w1.heap.size<wb.heap.size;omega)).trans bv;obtain ⟨-,cE,cR,cF⟩:=au.o _ a2;have an:He (bY Q w2 N.heap.size (.slice I n J) n E T):=hV.o.below hQ.c cf;have ai:=ad.trans (a2.mono ad.size);have bb:=he.below ai;clear HC hV
 by_cases H:aO E n e=0
 case neg =>
  have ch:(aO E n e == 0)=false:=by simpa using H
  have hN:KK E n e=n:=if_neg H
  have a3:He (bY Q (w2.setCell ⟨w.heap.size+1+1,0,none⟩ (.slice I n J)) w.heap.size (.slice I n J) (KK E n e) (fY E n e) T):=by
   rw [hN];exact ((an.o.setB hQ.s (fun g hg=>by have:=Y.o g hg;omega) (fun i hi=>Or.inl (by have:=hT.o i hi;omega))).base_le (by omega)).congE (fun i hi=>(if_neg (by omega)).symm)
  have bg:Below w.heap.size w (w2.setCell ⟨w.heap.size+1+1,0,none⟩ (.slice I n J)):=ai.setCell (by exact Nat.le_add_right _ 2) _;clear hN H hT Y an;have b7:He (wO Q E n e w (.returned (.tuple #[.agg #[.slice I n J],.int .i64 (aO E n e)])) (w2.setCell ⟨w.heap.size+1+1,0,none⟩ (.slice I n J))):=⟨_,T,rfl,a3,bg⟩;clear a3 bg;go_wp2
  refine bodyPost_ret (v:=.tuple #[.agg #[.slice I n J],.int .i64 (aO E n e)]) (by simp [results,results76,go_sem,cR]) rfl b7.o
 case pos =>
  have ch:(aO E n e == 0)=true:=by simpa using H
  have hN:KK E n e=n+1:=if_pos H
  have b8:He (∀ W,Below w2.heap.size w2 W->Calls prog 127 #[.agg (ec e pa cp aa ca ga cg)] W fun x w'=>∃ t:Ls,x=.returned (.agg (ec e t.pa t.cp t.aa t.ca t.ga t.cg))/\He (Q w' e t)/\w2.heap.size<=t.lo/\Below w2.heap.size w2 w'):=fun W hW=>by
   refine (hQ.cp e W b9 (bb.below hW)).mono ?_;rintro x w' ⟨t,h1,h2,h3,h4⟩;exact ⟨t,h1,h2,nZ hW.size h3,hW.trans (h4.mono hW.size)⟩
  have HO:He (∀ X,Below w2.heap.size w2 X->X.ownsRow N.heap.size 30 10 (.slice I n J) n (jY E T n)):=fun X hX=>eK an.o.own hX
  have HF:He (∀ (X w3:World),Below w2.heap.size w2 X->X.grownBy w3 (Value.slice I n J).ownBlock->w3.cell? ⟨w1.heap.size,0,none⟩=some (.slice I n J)/\w3.frozen? ⟨w1.heap.size,0,none⟩=false/\w3.cell? ⟨w.heap.size+1+1,0,none⟩=some (.slice none 0 0)/\w3.frozen? ⟨w.heap.size+1+1,0,none⟩=false):=fun X w3 hX U=>by
   have b2:=hX.size;have n1:some w1.heap.size≠(Value.slice I n J).ownBlock:=fun q=>by have:=Y.o _ q.symm;omega
   have n2:some (w.heap.size+1+1)≠(Value.slice I n J).ownBlock:=fun q=>by have:=Y.o _ q.symm;omega
   exact ⟨(U.cell_far _ (by show w1.heap.size<X.heap.size;omega) n1).trans ((hX.cell (by show w1.heap.size<w2.heap.size;omega)).trans y0),(U.frozen_far _ (by show w1.heap.size<X.heap.size;omega) n1).trans ((hX.frozen (by show w1.heap.size<w2.heap.size;omega)).trans yz),(U.cell_far _ (by show w.heap.size+1+1<X.heap.size;omega) n2).trans ((hX.cell (by show w.heap.size+1+1<w2.heap.size;omega)).trans cR),(U.frozen_far _ (by show w.heap.size+1+1<X.heap.size;omega) n2).trans ((hX.frozen (by show w.heap.size+1+1<w2.heap.size;omega)).trans cF)⟩
  have HZ:He (∀ (w3 X w4:World) (t:Ls) (gg cc:Nat),Below w2.heap.size w2 w3->Q w3 e t->w2.heap.size<=t.lo->Below w3.heap.size w3 X->w4.ownsRow N.heap.size 30 10 (.slice (some ⟨gg,0,none⟩) (n+1) cc) (n+1) (jY E T n ++ GF e t)->X.grownBy w4 (Value.slice I n J).ownBlock->((Value.slice I n J).ownBlock=some gg\/X.heap.size<=gg)->wO Q E n e w (.returned (.tuple #[.agg #[.slice (some ⟨gg,0,none⟩) (n+1) cc],.int .i64 (aO E n e)])) ((w4.setCell ⟨w1.heap.size,0,none⟩ (.slice (some ⟨gg,0,none⟩) (n+1) cc)).setCell ⟨w.heap.size+1+1,0,none⟩ (.slice (some ⟨gg,0,none⟩) (n+1) cc))):=fun w3 X w4 t gg cc h1 hq d7 hX bn U bj=>by
   have a4:=h1.trans (hX.mono h1.size);have bh:∀ i,i<n->E i=fY E n e i:=fun i hi=>(if_neg (by omega)).symm
   have bi:fY E n e n=e:=if_pos rfl;have cd:=(an.o.below hQ.c a4).congE bh;have b0:Q X (fY E n e n) t:=by rw [bi];exact hQ.c.below hq hX
   have b2:w2.heap.size<=X.heap.size:=a4.size;have bw:=cd.snoc hQ.c b0 (by omega) (fun i hi=>by have:=hT.o i hi;omega) (fun q hq=>Or.inl (by have:=Y.o q hq;omega)) (by rw [bi,<- nS bh];exact bn) U bj
   have cj:w1.heap.size≠gg/\w.heap.size+1+1≠gg:=by
    rcases bj with q|q
    ·have:=Y.o gg q;omega
    omega
   have bk:∀ i,i<n+1->(w1.heap.size<(qF T n t i).lo\/(qF T n t i).hi<=w1.heap.size)/\w.heap.size+1+1<(qF T n t i).lo:=fun i hi=>by
    unfold qF
    by_cases q:i=n
    ·rw [if_pos q];exact ⟨Or.inl (by omega),by omega⟩
    rw [if_neg q];have:=hT.o i (by omega);exact ⟨Or.inr this.2,by omega⟩
   have d9:=U.size;refine ⟨_,qF T n t,rfl,?_,?_⟩
   ·unfold He
    rw [hN]
    exact (((bw.setB hQ.s (fun q hq=>by
     have:some gg=some q:=hq;injection this with this
     omega) (fun i hi=>(bk i hi).1)).setB hQ.s (fun q hq=>by
     have:some gg=some q:=hq;injection this with this
     omega) (fun i hi=>Or.inl (bk i hi).2)).base_le (by omega))
   refine Below.setCell (Below.setCell ?_ (by show w.heap.size<=w1.heap.size;omega) _) (by exact Nat.le_add_right _ 2) _;exact (ai.trans (a4.mono ai.size)).grown U (by have:=ai.size;omega) (fun q hq=>by have:=Y.o q hq;omega)
  clear hN H hT Y an bb;have bq:n+1<=maxLen:=by unfold maxLen;omega
  have cb:(n+1) * 168<=140737488355328:=by omega
  have ah:Below w2.heap.size w2 w2:=kB;have bu:w1.heap.size<w2.heap.size:=by omega
  go_wp2_with fail
  go_region_law ((first
   | (refine step_append_lies _ (by rfl) _ _ _ (by rfl) N.heap.size 30 i0 _ 10 168 underlying23 hi b5 br b6 rfl (by decide) (.slice I n J) n (jY E T n) (by rfl) (HO.o _ (by first|exact G.alloc G.size _|exact (G.alloc G.size _).drew|exact (G.drew.alloc G.size _))) ⟨w3.heap.size,0,none⟩ 1 1 (GF e t) (by rfl) (by rfl) (fun j u hj=>uQ w3 e t _ j u hj) (FO e t) (by decide) bq cb (by simp;have:=G.size;omega) (w3.heap.size+1) (by simp) ?_;intro gg cc w4 ap ae b4 cl;obtain ⟨F0,F1,F2,F3⟩:=HF.o _ w4 (by first|exact G.alloc G.size _|exact (G.alloc G.size _).drew|exact (G.drew.alloc G.size _)) ae)
   | (go_simp;go_at_call 127;refine (b8.o _ (by with_reducible first|exact ah|exact ah.drew|exact ah.drew.drew|exact ah.drew.drew.drew|exact ah.drew.drew.drew.drew)).mono ?_;rintro x w3 ⟨t,rfl,bx,bz,G⟩;have bt:=(G.cell (by exact bu)).trans y0;have db:∀ Z,(w3.alloc Z).cell? ⟨w1.heap.size,0,none⟩=some (.slice I n J):=fun Z=>(bA.cell (by show w1.heap.size<w3.heap.size;have:=G.size;omega)).trans bt;dsimp only)))
  all_goals
   have hz:=HZ.o w3 _ w4 t gg cc G bx.o bz (by first|exact bA|exact bA.drew) ap ae (b4.imp (fun q=>q) (fun q=>by simp;omega));have Hz:He (_):=hz;clear hz ap ae;go_wp2
   refine bodyPost_ret (v:=.tuple #[.agg #[.slice (some ⟨gg,0,none⟩) (n+1) cc],.int .i64 (aO E n e)]) (by simp [results,results76,go_sem,F2]) rfl Hz.o
def QI (id sd ty key val:ByteArray)(tm:Int)(H G:List ByteArray)(u:List (ByteArray × Int)):Ev :=
 { id:=id,sd:=sd,ty:=ty,key:=key,val:=val,st:=true,tm:=tm,np:=H.length,na:=G.length,ng:=u.length,Pv:=aG H,Av:=aG G,M:=gM u,L:=gL u }
abbrev LS:ByteArray:=⟨#[36,99,48]⟩
abbrev YA:ByteArray:=⟨#[36,97,49]⟩
abbrev YH:ByteArray:=⟨#[36,112,50]⟩
abbrev ZX:ByteArray:=⟨#[36,106,51]⟩
abbrev tB4:ByteArray:=⟨#[36,98,52]⟩
abbrev US:ByteArray:=⟨#[64,97]⟩
abbrev tUb:ByteArray:=⟨#[64,98]⟩
abbrev tCr:ByteArray:=⟨#[99,114,101,97,116,101]⟩
abbrev tMb:ByteArray:=⟨#[109,101,109,98,101,114]⟩
abbrev tPw:ByteArray:=⟨#[112,111,119,101,114]⟩
abbrev tJr:ByteArray:=⟨#[106,111,105,110,95,114,117,108,101,115]⟩
abbrev tJn:ByteArray:=⟨#[106,111,105,110]⟩
abbrev tPu:ByteArray:=⟨#[112,117,98,108,105,99]⟩
def gJ:Nat->Ev
 | 0=>QI LS US tCr ⟨#[]⟩ ⟨#[]⟩ 1 [] [] []
 | 1=>QI YA US tMb US tJn 2 [LS] [LS] []
 | 2=>QI YH US tPw ⟨#[]⟩ ⟨#[]⟩ 3 [YA] [LS,YA] [(US,100),(tUb,50)]
 | 3=>QI ZX US tJr ⟨#[]⟩ tPu 4 [YH] [LS,YA,YH] []
 | _=>QI tB4 tUb tMb tUb tJn 5 [ZX] [LS,YH,ZX] []
theorem CJ (i:Nat):eE (gJ i):=by
 unfold gJ;split <;> (unfold eE;decide)
theorem NP:tCr.toList=[99,114,101,97,116,101]:=by rw [ByteArray.toList_eq]
theorem XV:(⟨#[]⟩:ByteArray).toList=[]:=by rw [ByteArray.toList_eq]
theorem ON:aO (fun _=>gJ 0) 0 (gJ 0)=0:=by
 have u:(gJ 0).code=0:=by
  show bF LS US tCr ⟨#[]⟩ ⟨#[]⟩ true 1 0 0 0 _ _ _ _=0
  unfold bF kT;rw [NP,XV];decide
 unfold aO;rw [u,show (gJ 0).ty=tCr from rfl,NP];decide
section
variable {E E':Nat->Ev}
theorem wE {n:Nat}(h:∀ i,i<n->E' i=E i)(s:ByteArray):aL E' n s=aL E n s:=by
 induction n with
 | zero=>rfl
 | succ n ih=>unfold aL;rw [ih (fun i hi=>h i (by omega)),h n (by omega)]
theorem oH {n:Nat}(h:∀ i,i<n->E' i=E i)(S:Nat->ByteArray)(m:Nat):eM E' n S m=eM E n S m:=by
 induction m with
 | zero=>rfl
 | succ m ih=>unfold eM;rw [ih,wE h]
theorem kC {n:Nat}(h:∀ i,i<n->E' i=E i)(e:Ev):aO E' n e=aO E n e:=by
 unfold aO dC;rw [wE h,oH h,oH h]
theorem zC {n:Nat}(h:∀ i,i<n->E' i=E i):aF E' n=aF E n:=by
 induction n with
 | zero=>rfl
 | succ n ih=>unfold aF;rw [ih (fun i hi=>h i (by omega)),h n (by omega),kC (fun i hi=>h i (by omega))]
theorem oJ {n i:Nat}(e:Ev)(h:i<n):fY E n e i=E i:=by unfold fY;rw [if_neg (by omega)]
theorem FX (n:Nat)(e:Ev):fY E n e n=e:=by unfold fY;rw [if_pos rfl]
theorem sZ {n:Nat}{e:Ev}(h:aF E n=true)(hi:aO E n e=0):aF (fY E n e) (n+1)=true:=by
 unfold aF;rw [zC (fun i hi=>oJ e hi),h,FX,kC (fun i hi=>oJ e hi),hi];rfl
end
theorem WO {bs:Nat->Nat}{m q:Nat}{e:Ev}(h:e.ng<=11):(lG bs m q e).ng<=11:=by
 unfold lG LL
 repeat' split
 all_goals first
  | exact h
  | exact GX _ _ _ _ _ _
theorem JC.bd {bs:Nat->Nat}{m q:Nat}{E:Nat->Ev}{n:Nat}{A:Nat->List aE}{e:Ev}(h:JC bs m q E n A e):e.np<=1000/\e.na<=1000/\e.ng<=1000:=by
 obtain ⟨b,_,rfl⟩:=h
 have I:(YN bs m q E n b).np<=3:=by
  show (FA bs m q E n).np<=3
  unfold FA;rw [(BC _ _ _ _).2.2.2.1];exact nZ (pC _ _ _) (EV _).1
 have J:(YN bs m q E n b).ng<=11:=by
  show (FA bs m q E n).ng<=11
  exact WO nz
 have G:(YN bs m q E n b).na<=100:=by
  show (YC _ _ _ _).length<=100
  have H:=oU b (cD (FA bs m q E n)) (cD (FA bs m q E n)).length;have h5:=FT (FA bs m q E n)
  have u:(XF (eD bs m q) E (iG b (cD (FA bs m q E n)) (cD (FA bs m q E n)).length)).length<=8:=by
   unfold XF;split
   ·simp
   omega
  unfold YC;split
  ·simp only [List.length_append,List.length_singleton];omega
  omega
 omega
theorem JC.reach {bs:Nat->Nat}{m q:Nat}{E:Nat->Ev}{n:Nat}{A:Nat->List aE}{e:Ev}(h:JC bs m q E n A e):eE e:=by
 have:=h.bd;unfold eE;omega
structure qB where
 n:Nat
 E:Nat->Ev
 A:Nat->List aE
 q:Nat
noncomputable def gwF (bs:Nat->Nat)(m q:Nat)(E:Nat->Ev)(n:Nat)(A:Nat->List aE):Ev:=@Classical.epsilon Ev ⟨gJ 0⟩ (JC bs m q E n A)
theorem WR {bs:Nat->Nat}{m q:Nat}{E:Nat->Ev}{n:Nat}{A:Nat->List aE}{e:Ev}(h:JC bs m q E n A e):e=gwF bs m q E n A:=h.uniq (Classical.epsilon_spec ⟨e,h⟩)
noncomputable def afF (E:Nat->Ev)(n:Nat)(A:Nat->List aE)(i:Nat):List aE:=@Classical.epsilon (List aE) ⟨[]⟩ (LN E n A i)
theorem WZ {E:Nat->Ev}{n:Nat}{A:Nat->List aE}{i:Nat}{l:List aE}(h:LN E n A i l):l=afF E n A i:=h.uniq (Classical.epsilon_spec ⟨l,h⟩)
noncomputable def UJ (bs:Nat->Nat)(m st i:Nat)(s:qB):Ev:=if i<st then gJ i else gwF bs m s.q s.E s.n s.A
def VF (bs:Nat->Nat)(m st i:Nat)(s:qB):Nat:=if i<st then s.q else gwQ bs m s.q
def ZI (m u st i:Nat)(s:qB):Prop:=i<u/\(i<st\/s.q<m)
noncomputable def nP (bs:Nat->Nat)(m st i:Nat)(s:qB):qB :=
 if aO s.E s.n (UJ bs m st i s)=0 then ⟨s.n+1,fY s.E s.n (UJ bs m st i s),bM s.A s.n (afF (fY s.E s.n (UJ bs m st i s)) (s.n+1) s.A s.n),VF bs m st i s⟩ else ⟨s.n,s.E,s.A,VF bs m st i s⟩
open Classical in
noncomputable def lQ (bs:Nat->Nat)(m u st:Nat):Nat->Nat->qB->qB
 | 0,_,s=>s
 | f+1,i,s=>if ZI m u st i s then lQ bs m u st f (i+1) (nP bs m st i s) else s
def TJ (k:Nat):Nat:=if 5<1+k % 6\/64<=k then 5 else 1+k % 6
def WT (k m q:Nat):Nat:=if 15<TJ k+2+k / 6 % 3+(m - q) / 7 then 15 else TJ k+2+k / 6 % 3+(m - q) / 7
theorem PS (k:Nat):1<=TJ k/\TJ k<=5:=by
 unfold TJ;split <;> omega
theorem XN (k m q:Nat):WT k m q<=15/\1<=WT k m q:=by
 have:=PS k;unfold WT;split <;> omega
noncomputable def fU (bs:Nat->Nat)(m q:Nat):qB:=lQ bs m (WT (eD bs m q) m (aN m q)) (TJ (eD bs m q)) 16 0 ⟨0,fun _=>gJ 0,fun _=>[],aN m q⟩
structure sO (i:Nat)(s:qB):Prop where
 room:aF s.E s.n=true
 fit:∀ j,j<s.n->bB s.E s.n (s.A j)
 reach:∀ j,j<s.n->eE (s.E j)
 le:s.n<=i
 pos:0<i->0<s.n
theorem sO.zero (q:Nat):sO 0 ⟨0,fun _=>gJ 0,fun _=>[],q⟩:=⟨rfl,fun _ h=>absurd h (Nat.not_lt_zero _),fun _ h=>absurd h (Nat.not_lt_zero _),nL,fun h=>absurd h (Nat.lt_irrefl _)⟩
theorem sO.put {i q:Nat}{s:qB}(h:sO i s){e:Ev}{l:List aE}(hi:aO s.E s.n e=0)(hr:eE e)(N:LN (fY s.E s.n e) (s.n+1) s.A s.n l):sO (i+1) ⟨s.n+1,fY s.E s.n e,bM s.A s.n l,q⟩:=by
 have G:=sZ h.room hi;have J:∀ j,j<s.n->bB (fY s.E s.n e) (s.n+1) (s.A j):=fun j u=>(h.fit j u).grow G (Nat.le_succ _) (fun i hi=>oJ e hi)
 refine ⟨G,fun j u=>?_,fun j u=>?_,Nat.succ_le_succ h.le,fun _=>Nat.succ_pos _⟩
 ·by_cases I:j=s.n
  ·subst I
   show bB _ _ (bM s.A s.n l s.n)
   rw [cQ];exact N.fit G (Nat.lt_succ_self _) J
  show bB _ _ (bM s.A s.n l j)
  have H:j<s.n+1:=u;rw [cP _ _ (by omega)];exact J j (by omega)
 by_cases I:j=s.n
 ·subst I;show eE (fY s.E s.n e s.n);rw [FX];exact hr
 have H:j<s.n+1:=u
 show eE (fY s.E s.n e j)
 rw [oJ _ (by omega)];exact h.reach j (by omega)
theorem sO.leave {i q:Nat}{s:qB}(h:sO i s)(hi:0<i\/0<s.n):sO (i+1) ⟨s.n,s.E,s.A,q⟩:=⟨h.room,h.fit,h.reach,Nat.le_succ_of_le h.le,fun _=>hi.elim h.pos id⟩
end Go.Proofs.YtpfeegcdlikegaaGreat
