import Derived.Test.YtpfeegcdlikegaaGreatDfSZ
import Derived.Test.YtpfeegcdlikegaaGreatSpS
set_option maxHeartbeats 16000000
set_option maxRecDepth 100000
namespace Go.Proofs.YtpfeegcdlikegaaGreat
open Go.RowKit Go.Proofs.Tryz
variable {W w' wr:World}{a sa:Option Addr}{m n sc cap:Nat}{E:Nat->Ev}
theorem Tryz.infoRowT:(prog.info? 27).map (fun i=>(i.zero,i.size,i.bytes))=some (some (.slice none 0 0),1,24):=by kernel_rfl
def IdP (wr:World)(l:List aE)(ll:Nat)(e:Ending)(w':World):Prop:=∃ g cp,e=.returned (.slice (some ⟨g,0,none⟩) ll cp)/\aH w' wr.heap.size (.slice (some ⟨g,0,none⟩) ll cp) (l.map aE.id)/\Below wr.heap.size wr w'
def FuP (wr:World)(P:ByteArray->Prop)(e:Ending)(w':World):Prop:=∃ a c u l,e=.returned (.slice a u c)/\He (u=l.length)/\He (PT w' a c l)/\He (∀ q,q<wr.heap.size->XT a u (some q))/\He (pH l)/\He (∀ s,s ∈ l↔P s)/\Below wr.heap.size wr w'
def ZP (w1:World)(E:Nat->Ev)(n:Nat)(L:Nat->List aE)(k:Nat)(v:Value)(wr:World):Prop :=
 ∃ (g u:Nat) (F:Nat->List ByteArray) (A:Nat->Option Addr) (C:Nat->Nat),v=.slice (some ⟨g,0,none⟩) k u/\He (dQ List.length PT 27 wr w1.heap.size (.slice (some ⟨g,0,none⟩) k u) k F A C)/\He (∀ i,i<k->pH (F i)/\∀ s,s ∈ F i↔TZ E n (L i) s)/\Below w1.heap.size w1 wr
theorem XW {P:ByteArray->Prop}{e:Ending}(H:Below wr.heap.size wr W)(h:gH W P e w')(I:∀ s,P s->s.size<=maxLen):FuP wr P e w':=by
 obtain ⟨v,l,rfl,U,Y,N,hb⟩:=h;obtain ⟨a,c,rfl,J,_⟩:=U.sl (fun s h=>I s ((N s).1 h));refine ⟨a,c,l.length,l,rfl,rfl,J,fun q hq=>?_,Y,N,H.trans (hb.mono H.size)⟩;refine Or.inr fun b off u O=>?_
 injection O with O
 rcases U.shape with ⟨G,_⟩|⟨g,cap,G,Z,_⟩
 ·injection G with G;rw [G] at u;cases u
 injection G with G _ _
 rw [G] at u;injection u with u
 injection u with u _ _
 have:=H.size;omega
theorem RP {L:Nat->List aE}(w:World)(G:aF E n=true)(hm:m<=20)(hf:∀ i,i<m->bB E n (L i))(h:dW w a n cap E)(N:jN w sa m sc L) :
  Calls prog 156 #[.agg #[.slice a n cap],.slice sa m sc] w (gH w (RB E n L m)):=by
 obtain ⟨j0,hj,d6,d2,dt⟩:=info_parts Tryz.infoRowT;have Y:=dJ G;obtain ⟨J,au⟩:∃ J,J=w.alloc (.cells #[.slice a n cap] 25):=⟨_,rfl⟩;have U:Below w.heap.size w J:=by rw [au];exact bA
 have e7:w.heap.size<J.heap.size:=by rw [au];simp
 have cl:He (∀ wx,Below J.heap.size J wx->wx.cell? ⟨w.heap.size,0,none⟩=some (.slice a n cap)):=fun wx hx=>by subst au;exact aK (hx.mono (by simp)) 0
 have a5:iI L m=true:=pE G hf;have aj:nQ L m=true:=by unfold nQ;rw [a5,decide_eq_true hm];rfl
 have ap:He (∀ i,i<n->(E i).id.size<=maxLen):=fun i bm=>by
  rcases h.cells with h0|⟨b,off,_,_,hc⟩
  ·omega
  obtain ⟨_,_,_,_,_,_,_,a5⟩:=hc i bm;exact a5.hid
 have dk:He (∀ i,i<m->∀ s,TZ E n (L i) s->s.size<=maxLen):=fun i hi s N=>by
  obtain ⟨j,hj,rfl⟩:=CH G (hf i hi) N;exact ap.o j hj
 have db:He (∀ i,i<m->∀ l,pH l->(∀ s,s ∈ l↔TZ E n (L i) s)->l.length<=300):=fun i hi l h1 h2=>nZ (gO G h1.nodup (fun s N=>CH G (hf i hi) ((h2 s).1 N))) Y
 have cj:He (Calls prog 155 #[.slice sa m sc] J (pR J L m)):=LW J (N.below U);have HE:He (dW w a n cap E):=h;have Hs:He (jN w sa m sc L):=N;have H:He (_):=G;have Hf:He (∀ i,i<m->bB E n (L i)):=hf;have bj:He (nQ L m=true):=aj;clear G h N hf a5 aj
 go_enter func156,ntmps156
 go_wp2_with fail
 rw [<- au];clear au;refine cj.o.mono ?_;rintro e w1 ⟨ae,v1,u1,Se,Z,rfl,d5,cm,aj⟩
 have ah:He (vT L m Se Z):=by
  rcases aj with ⟨_,h1⟩|⟨h1,_⟩
  ·exact h1
  rw [bj.o] at h1;cases h1
 rw [bj.o];have cu:He (aH w1 J.heap.size u1 Z):=cm;clear aj d5 cm cj bj;have d8:=U.trans (ae.mono U.size);have er:J.heap.size<=w1.heap.size:=ae.size;have dd:dQ List.length PT 27 (w1.alloc (.cells #[] 27)) w1.heap.size (.slice (some ⟨w1.heap.size,0,none⟩) 0 0) 0 (fun _=>[]) (fun _=>none) (fun _=>0):=dQ.new w1 _ nL _ _ _;have b7:Below w1.heap.size w1 (w1.alloc (.cells #[] 27)):=bA;have cn:He (_):=dd;clear dd
 go_wp2_with fail
 go_loopw [8,9] (fun v i wr=>∃ k:Nat,k<=m/\i=.int .i64 (k:Int)/\ZP w1 E n L k v wr) (fun _ i _=>m - (intOf i).toNat)
 case atStart=>exact ⟨0,nz,rfl,_,_,_,_,_,rfl,cn.o,fun i hi=>absurd hi (Nat.not_lt_zero _),b7⟩
 case round =>
  clear b7 cn;obtain ⟨k,hk,rfl,g,cc,F,A,C,rfl,I,hF,hB⟩:=hrel;have ad:Below J.heap.size J wr:=ae.trans (hB.mono ae.size);have am:=U.trans (ad.mono U.size);have bo:w1.heap.size<=wr.heap.size:=hB.size
  have cv:He (w1.heap.size<=g/\g<wr.heap.size):=by
   rcases I.o.cells with ⟨q,_⟩|⟨g',el,q,q1,q2,_⟩
   ·cases q
   injection q with q _ _;injection q with q;injection q with q _ _
   subst q;exact ⟨q1,q2⟩
  by_cases bi:k<m
  ·rcases Hs.o.cells with h0|⟨sb,so,rfl,ch,de⟩
   ·omega
   obtain ⟨ea,ec,bw,b4⟩:=de k bi;have a8:=Hf.o k bi;have cw:(L k).length<=300:=nZ (a8.len H.o) Y;have b5:∀ W,Below wr.heap.size wr W->Calls prog 168 #[.slice ea (L k).length ec] W (IdP wr (L k) (L k).length):=fun W hW=>(QU W (by omega) ((b4.below am).below hW)).mono fun e w' ⟨g,cp,he,ho,hb⟩=>⟨g,cp,he,ho.mono hW.size,hW.trans (hb.mono hW.size)⟩
   have cz:∀ W g2 c2,Below wr.heap.size wr W->aH W wr.heap.size (.slice (some ⟨g2,0,none⟩) (L k).length c2) ((L k).map aE.id)->Calls prog 167 #[.agg #[.slice a n cap],.slice (some ⟨g2,0,none⟩) (L k).length c2] W (FuP wr (TZ E n (L k))):=fun W g2 c2 hW ho=>by
    obtain ⟨ia,ic,e1,ci,_⟩:=ho.sl (fun s N=>by
     obtain ⟨x,hx,rfl⟩:=List.mem_map.1 N;obtain ⟨p,hp,_,_,_,_,ei⟩:=dA (a8.fit x hx);rw [<- ei];exact ap.o p hp)
    rw [List.length_map] at e1 ci;injection e1 with bg _ bn
    subst bg bn;refine (AG W H.o ((HE.o.below am).below hW) ci cw (fun i hi=>?_)).mono fun e w' hp=>XW hW ?_ (dk.o k bi)
    ·have ak:aG ((L k).map aE.id) i ∈ (L k).map aE.id:=bO (by rw [List.length_map];exact hi)
     obtain ⟨x,hx,ex⟩:=List.mem_map.1 ak;obtain ⟨p,hp,ep,_⟩:=dA (a8.fit x hx);rw [<- ex,ep];omega
    obtain ⟨v,l,h1,h2,h3,h4,h5⟩:=hp;refine ⟨v,l,h1,h2,h3,fun s=>(h4 s).trans (or_congr_left ?_),h5⟩;constructor
    ·rintro ⟨i,hi,rfl⟩
     have ak:aG ((L k).map aE.id) i ∈ (L k).map aE.id:=bO (by rw [List.length_map];exact hi);obtain ⟨x,hx,ex⟩:=List.mem_map.1 ak;exact ⟨x,hx,ex⟩
    rintro ⟨x,hx,rfl⟩;obtain ⟨i,hi,e⟩:=dO (List.mem_map.2 ⟨x,hx,rfl⟩);exact ⟨i,by rwa [List.length_map] at hi,e⟩
   have bz:=(am.cell (p:=⟨sb,so+k,none⟩) (by exact ch)).trans bw;have x0:=cl.o _ ad;obtain ⟨ll,a6⟩:∃ ll,ll=(L k).length:=⟨_,rfl⟩;have HI:He (∀ W,Below wr.heap.size wr W->Calls prog 168 #[.slice ea ll ec] W (IdP wr (L k) ll)):=by rw [a6];exact b5
   have HF:He (∀ W g2 c2,Below wr.heap.size wr W->aH W wr.heap.size (.slice (some ⟨g2,0,none⟩) ll c2) ((L k).map aE.id)->Calls prog 167 #[.agg #[.slice a n cap],.slice (some ⟨g2,0,none⟩) ll c2] W (FuP wr (TZ E n (L k)))):=by rw [a6];exact cz
   rw [<- a6] at bz;clear b5 cz a6 bw b4 de a8 cw
   have b9:He (∀ W,Below w1.heap.size w1 W->W.cell? ⟨w.heap.size,0,none⟩=some (.slice a n cap)/\W.cell? ⟨sb,so+k,none⟩=some (.slice ea ll ec)):=fun W hW=>by
    have y0:=cl.o _ (ae.trans (hW.mono ae.size));refine ⟨y0,?_⟩
    have:sb<w1.heap.size:=nT ch d8.size;rw [hW.cell (p:=⟨sb,so+k,none⟩) (by exact this),<- hB.cell (p:=⟨sb,so+k,none⟩) (by exact this)];exact bz
   have HS:He (∀ W,Below wr.heap.size wr W->W.cell? ⟨w.heap.size,0,none⟩=some (.slice a n cap)/\W.cell? ⟨sb,so+k,none⟩=some (.slice ea ll ec)):=fun W hW=>b9.o W (hB.trans (hW.mono bo))
   have HO:He (∀ W,Below wr.heap.size wr W->W.ownsRow w1.heap.size 27 1 (.slice (some ⟨g,0,none⟩) k cc) k (lZ List.length F A C k)):=fun W hW=>(I.o.below YX hW).own
   have co:He (∀ X w4:World,Below wr.heap.size wr X->X.grownBy w4 (Value.slice (some ⟨g,0,none⟩) k cc).ownBlock->Below w1.heap.size w1 w4):=fun X w4 hX hg=>(hB.trans (hX.mono bo)).grown hg (nZ bo hX.size) (fun q hq=>by
    have:some g=some q:=hq;injection this with this
    have:=cv.o;omega)
   have bx:Below wr.heap.size wr wr:=kB;have dn:k+1<=maxLen:=by unfold maxLen;omega
   have a4:(k+1) * 24<=140737488355328:=by omega
   go_wp2_with fail
   refine wp_region_held_drew (S:=fun W=>W.cell? ⟨w.heap.size,0,none⟩=some (.slice a n cap)/\W.cell? ⟨sb,so+k,none⟩=some (.slice ea ll ec)) (by kernel_rfl) ?_ (fun hHeld=>?_)
   ·(try dsimp only);exact HS.o _ (by with_reducible (repeat refine .drew ?_);exact bx)
   refine tq 0 rfl ?_;simp only [si];refine tq 1 rfl ?_;simp only [si];refine tq 2 rfl ?_;simp only [si];refine tq 3 rfl ?_;simp only [si];refine tq 4 rfl ?_;simp only [si];refine tq 5 rfl ?_;simp only [si];refine rd 6 rfl fun K hK=>?_
   go_simp
   go_at_call 168
   refine (HI.o _ (by with_reducible (repeat refine .drew ?_);exact bx)).mono ?_;rintro e w2 ⟨g2,c2,rfl,ao,O⟩;clear HI;try dsimp only
   refine hK.out _ _ ?_ (fun hHeld=>?_)
   ·(try dsimp only);exact HS.o _ (by with_reducible (repeat refine .drew ?_);exact O)
   clear hK K;try simp only [si]
   refine rd 7 rfl fun K hK=>?_
   go_simp
   go_at_call 167
   refine (HF.o _ g2 c2 (by with_reducible (repeat refine .drew ?_);exact O) (aH.below ao (by first|with_reducible exact kB|with_reducible exact kB.drew|with_reducible exact kB.drew.drew))).mono ?_;rintro e w3 ⟨a3,c3,n3,l3,rfl,cx,di,b0,b2,ct,u⟩;clear HF ao;try dsimp only
   refine hK.out _ _ ?_ (fun hHeld=>?_)
   ·(try dsimp only);exact HS.o _ (by with_reducible (repeat refine .drew ?_);exact u)
   clear hK K;try simp only [si]
   refine rd 8 rfl fun K hK=>?_
   go_simp;refine hK.out _ _ ?_ (fun hHeld=>?_)
   ·(try dsimp only);exact HS.o _ (by first|exact u.alloc u.size _|exact (u.alloc u.size _).drew|exact (u.drew.alloc u.size _))
   clear hK K;try simp only [si]
   refine rd 9 rfl fun K hK=>?_
   refine step_append_lies _ (by rfl) _ _ _ (by rfl) w1.heap.size 27 j0 _ 1 24 underlying199 hj d6 d2 dt rfl (by decide) (.slice (some ⟨g,0,none⟩) k cc) k (lZ List.length F A C k) (by rfl) (HO.o _ (by first|exact u.alloc u.size _|exact (u.alloc u.size _).drew|exact (u.drew.alloc u.size _))) ⟨w3.heap.size,0,none⟩ 1 1 [.slice a3 n3 c3] (by rfl) (by rfl) (mJ _ _ _) (jT _ ⟨_,_,_,rfl⟩) (by decide) dn a4 (by simp;have:=u.size;omega) (w3.heap.size+1) (by simp) ?_;intro gg cq w4 aq ai bc b8;have bp:=co.o _ w4 (by first|exact u.alloc u.size _|exact (u.alloc u.size _).drew|exact (u.drew.alloc u.size _)) ai;refine hK.out _ _ ?_ (fun hHeld=>?_)
   ·(try dsimp only);exact b9.o _ bp
   clear hK K;try simp only [si]
   refine tq 10 rfl ?_;simp only [si];refine wpAnyH_done (by kernel_rfl) ?_ _
   have af:He (dQ List.length PT 27 w4 w1.heap.size (.slice (some ⟨gg,0,none⟩) (k+1) cq) (k+1) (bM F k l3) (bM A k a3) (bM C k c3)):=by
    have hX:∀ X,Below w3.heap.size w3 X->X.grownBy w4 (Value.slice (some ⟨g,0,none⟩) k cc).ownBlock->((Value.slice (some ⟨g,0,none⟩) k cc).ownBlock=some gg\/X.heap.size<=gg)->dQ List.length PT 27 w4 w1.heap.size (.slice (some ⟨gg,0,none⟩) (k+1) cq) (k+1) (bM F k l3) (bM A k a3) (bM C k c3):=fun X hX hg d4=>by
     have dq:=u.trans (hX.mono u.size);refine (I.o.below YX dq).snoc YX (YX.below di.o hX) ?_ (by rw [<- cx.o];exact aq) hg d4;rw [<- cx.o];exact b0.o g cv.o.2
    exact hX _ (by first|exact bA|exact bA.drew) ai (bc.imp (fun q=>q) (fun q=>by simp;omega))
   have dg:He (∀ i,i<k+1->pH (bM F k l3 i)/\∀ s,s ∈ bM F k l3 i↔TZ E n (L i) s):=fun i hi=>by
    by_cases e:i=k
    ·subst e;rw [cQ];exact ⟨b2.o,ct.o⟩
    rw [cP _ _ (by omega)];exact hF.o i (by omega)
   clear aq ai bc b8 I hF di b0 b2 ct HO co
   (try go_wp2)
   first
    | exact ⟨⟨k+1,by omega,by go_num,gg,cq,_,_,_,rfl,af.o,dg.o,bp⟩,by simp [intOf];omega⟩
    | exact ⟨⟨k+1,by omega,by go_num,gg,cq,_,_,_,rfl,af.o.below YX kB.drew,dg.o,bp.drew⟩,by simp [intOf];omega⟩
  have d1:m=k:=by omega
  subst d1;obtain ⟨ta,tc,e1,dj⟩:=I.o.tt;injection e1 with bg _ bn
  subst bg bn;have HD:He (Calls prog 169 #[.slice (some ⟨g,0,none⟩) m cc] wr (gH wr (KI (fun i s=>s ∈ F i) m))):=TL wr hm (fun i hi=>db.o i hi _ (hF.o i hi).1 (hF.o i hi).2) dj
  have cb:He (∀ s,KI (fun i s=>s ∈ F i) m s↔KI (fun i=>TZ E n (L i)) m s):=fun s=>by
   unfold KI;exact and_congr ⟨fun ⟨i,hi,q⟩=>⟨i,hi,((hF.o i hi).2 s).1 q⟩,fun ⟨i,hi,q⟩=>⟨i,hi,((hF.o i hi).2 s).2 q⟩⟩ ⟨fun ⟨i,hi,q⟩=>⟨i,hi,fun z=>q (((hF.o i hi).2 s).2 z)⟩,fun ⟨i,hi,q⟩=>⟨i,hi,fun z=>q (((hF.o i hi).2 s).1 z)⟩⟩
  clear dj I hF
  go_wp2_with fail
  refine HD.o.mono ?_;rintro e w2 ⟨v2,l2,rfl,ao,cf,a4,O⟩;clear HD;have ds:=hB.trans (O.mono hB.size);have eb:=am.trans (O.mono am.size);have bf:aH w2 J.heap.size u1 Z:=cu.o.below ds
  have ag:He (∀ s,s ∈ Z ++ l2↔RB E n L m s):=fun s=>by
   rw [List.mem_append,ah.o.memO,a4 s,cb.o s];rfl
  have a2:He (∀ s,s ∈ Z ++ l2->∃ j,j<n/\(E j).id=s):=fun s N=>EU H.o Hf.o ((ag.o s).1 N)
  have d7:Z.length<=300:=nZ (gO H.o ah.o.srtO.nodup (fun s N=>a2.o s (List.mem_append_left _ N))) Y;have dx:l2.length<=300:=nZ (gO H.o cf.nodup (fun s N=>a2.o s (List.mem_append_right _ N))) Y;obtain ⟨v3,w3,cy,cd,dh⟩:=SW w2 J.heap.size wr.heap.size u1 v2 Z l2 27 bf ao (by have:=ad.size;have:=O.size;omega) (by omega);have da:Below J.heap.size J w3:=(ad.trans (O.mono ad.size)).grown dh (by have:=ad.size;have:=O.size;omega) (fun q hq=>(World.ownsRow.lt bf q hq).1)
  obtain ⟨a3,c3,e3,ba,_⟩:=cd.sl (fun s N=>by
   obtain ⟨j,hj,rfl⟩:=a2.o s N;exact ap.o j hj)
  subst e3;have HC:He (Calls prog 132 #[.slice a3 (Z ++ l2).length c3] w3 (tE w3 (aG (Z ++ l2)) (Z ++ l2).length)):=lP w3 (by rw [List.length_append];omega) ba;have bq:=U.trans (da.mono U.size)
  have HA:He (∀ s,(∃ i,i<(Z ++ l2).length/\aG (Z ++ l2) i=s)↔RB E n L m s):=fun s=>by
   rw [<- ag.o s];exact ⟨fun ⟨i,bm,e⟩=>e ▸ bO bm,fun h=>dO h⟩
  clear ba cd dh bf ao cf a4 ag a2 d7 dx cb ah cu;generalize (Z ++ l2).length=nn at *;generalize aG (Z ++ l2)=GG at *
  go_wp2_with (at_builtin;refine bS rfl _ _ 27 rfl _ _ _ _ cy rfl rfl ?_;clear cy)
  refine HC.o.mono ?_;rintro e w4 ⟨v4,l4,rfl,bv,dc,ce,dv⟩;have HP:He (gH w (RB E n L m) (.returned v4) w4):=⟨v4,l4,rfl,bv.mono bq.size,dc,fun s=>(ce s).trans (HA.o s),bq.trans (dv.mono bq.size)⟩;clear bv dc ce HC HA;go_wp2
  go_ret;exact HP.o
end Go.Proofs.YtpfeegcdlikegaaGreat
