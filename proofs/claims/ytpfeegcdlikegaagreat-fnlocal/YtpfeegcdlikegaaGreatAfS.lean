import Derived.Test.YtpfeegcdlikegaaGreatRsSZ
set_option maxHeartbeats 16000000
set_option maxRecDepth 100000
namespace Go.Proofs.YtpfeegcdlikegaaGreat
open Go.RowKit Go.Proofs.Tryz
variable {w:World}{i m n be na oe sc cap base base':Nat}{v:Value}{l:List aE}{a sa:Option Addr}{E:Nat->Ev}{A:Nat->List aE}
theorem aU.low (h:aU w base v l)(hb:base'<=base):aU w base' v l:=by
 obtain ⟨q1,G⟩:=h;exact ⟨q1,G.imp id fun ⟨g,cap,u,e,hg,r⟩=>⟨g,cap,u,e,nZ hb hg,r⟩⟩
theorem TB {L:Nat->List aE}(w:World)(u:aF E n=true)(hm:m<=20)(hf:∀ i,i<m->bB E n (L i))(h:dW w a n cap E)(hs:jN w sa m sc L) :
  Calls prog 130 #[.agg #[.slice a n cap],.slice sa m sc] w (fun e w'=>e=.returned (.bool true)/\Below w.heap.size w w'):=by
 obtain ⟨G,N⟩:∃ G,G=w.alloc (.cells #[.slice a n cap] 25):=⟨_,rfl⟩;have J:Below w.heap.size w G:=by rw [N];exact bA
 have a4:w.heap.size<G.heap.size:=by rw [N];simp
 have an:He (∀ wx,Below G.heap.size G wx->wx.cell? ⟨w.heap.size,0,none⟩=some (.slice a n cap)):=fun wx hx=>by subst N;exact aK (hx.mono (by simp)) 0
 have af:He (Calls prog 14 #[.agg #[.slice a n cap]] G fun e w'=>e=.returned (.bool true)/\Below G.heap.size G w'):=by
  have:=lT G (h.below J);rw [u] at this;exact this
 have HE:He (dW w a n cap E):=h;have Hs:He (jN w sa m sc L):=hs;have Hf:He (∀ i,i<m->dY E n (L i)=true):=fun i hi=>(hf i hi).fitB u
 clear u h hs hf;have hm20:¬ (20:Int)<(m:Int):=by omega
 go_enter func130,ntmps130
 go_wp2_with fail
 rw [<- N];clear N;refine af.o.mono ?_;rintro e w1 ⟨rfl,Y⟩;clear af;have ap:=J.trans (Y.mono J.size)
 go_wp2_with fail
 go_loopw [5] (fun i wr=>∃ k:Nat,k<=m/\i=.int .i64 (k:Int)/\Below G.heap.size G wr) (fun i _=>m - (intOf i).toNat)
 case atStart=>exact ⟨0,nz,rfl,Y⟩
 case round =>
  clear Y ap;obtain ⟨k,hk,rfl,hB⟩:=hrel;have H:=J.trans (hB.mono J.size)
  by_cases ak:k<m
  ·rcases Hs.o.cells with h0|⟨sb,so,rfl,ah,ab⟩
   ·omega
   obtain ⟨ea,ec,ad,aj⟩:=ab k ak
   have I:∀ W,Below wr.heap.size wr W->Calls prog 15 #[.agg #[.slice a n cap],.slice ea (L k).length ec] W fun e w'=>e=.returned (.bool true)/\Below wr.heap.size wr w':=fun W U=>by
    have:=wP W ((HE.o.below H).below U) ((aj.below H).below U);rw [Hf.o k ak] at this;refine this.mono ?_;rintro e w' ⟨rfl,hb⟩;exact ⟨rfl,U.trans (hb.mono U.size)⟩
   have ag:=(H.cell (p:=⟨sb,so+k,none⟩) (by exact ah)).trans ad;obtain ⟨ll,ai⟩:∃ ll,ll=(L k).length:=⟨_,rfl⟩;rw [<- ai] at ag I;have Z:He (_):=I;clear ai ad aj ab I;have HS:He (∀ W,Below wr.heap.size wr W->W.cell? ⟨w.heap.size,0,none⟩=some (.slice a n cap)/\W.cell? ⟨sb,so+k,none⟩=some (.slice ea ll ec)):=fun W U=>⟨an.o _ (hB.trans (U.mono hB.size)),(U.cell (p:=⟨sb,so+k,none⟩) (by exact nT ah H.size)).trans ag⟩
   have ae:Below wr.heap.size wr wr:=kB
   go_wp2_with fail
   skip
   refine wp_region_held_drew (S:=fun W=>W.cell? ⟨w.heap.size,0,none⟩=some (.slice a n cap)/\W.cell? ⟨sb,so+k,none⟩=some (.slice ea ll ec)) (by kernel_rfl) ?_ (fun hHeld=>?_)
   ·(try dsimp only);exact HS.o _ (by with_reducible (repeat refine .drew ?_);exact ae)
   refine tq 0 rfl ?_;simp only [si];refine tq 1 rfl ?_;simp only [si];refine tq 2 rfl ?_;simp only [si];refine tq 3 rfl ?_;simp only [si];refine tq 4 rfl ?_;simp only [si];refine rd 5 rfl fun K hK=>?_
   go_simp
   go_at_call 15
   refine (Z.o _ (by with_reducible (repeat refine .drew ?_);exact ae)).mono ?_;rintro e w2 ⟨rfl,O⟩;clear Z;try dsimp only
   refine hK.out _ _ ?_ (fun hHeld=>?_)
   ·(try dsimp only);exact HS.o _ (by with_reducible (repeat refine .drew ?_);exact O)
   clear hK K;try simp only [si]
   refine tq 6 rfl ?_;simp only [si];refine wpAnyH_done (by kernel_rfl) ?_ _
   (try go_wp2)
   first
    | exact ⟨⟨k+1,by omega,by go_num,hB.trans (O.mono hB.size)⟩,by simp [intOf];omega⟩
    | exact ⟨⟨k+1,by omega,by go_num,(hB.trans (O.mono hB.size)).drew⟩,by simp [intOf];omega⟩
  go_wp2
  go_ret;exact ⟨rfl,H⟩
def MS (w:World)(E:Nat->Ev)(n:Nat)(L:Nat->List aE)(m:Nat)(e:Ending)(w':World):Prop:=∃ v l,e=.returned (.tuple #[v,.bool true])/\aU w' w.heap.size v l/\lE E n L m l/\Below w.heap.size w w'
theorem CC {L:Nat->List aE}(w:World)(u:aF E n=true)(hm:m<=20)(U:∀ i,i<m->bB E n (L i))(h:dW w a n cap E)(N:jN w sa m sc L) :
  Calls prog 82 #[.agg #[.slice a n cap],.slice sa m sc] w (MS w E n L m):=by
 have J:∀ o,Below w.heap.size w (w.alloc o):=fun o=>bA
 have HA:He (∀ W,Below w.heap.size w W->Calls prog 130 #[.agg #[.slice a n cap],.slice sa m sc] W (fun e w'=>e=.returned (.bool true)/\Below W.heap.size W w')):=fun W I=>TB W u hm U (h.below I) (N.below I)
 have HR:He (∀ W,Below w.heap.size w W->Calls prog 131 #[.agg #[.slice a n cap],.slice sa m sc] W (lM W E n L m)):=fun W I=>FN W u hm U (h.below I) (N.below I)
 clear u h N U
 go_enter func82,ntmps82
 go_wp2_with fail
 refine (HA.o _ (J _)).mono ?_;rintro e w1 ⟨rfl,H⟩;have Y:=H.mono (B':=w.heap.size+1) (by simp);have G:=(J _).trans (H.mono (by simp));have ag:=aK Y 0;clear H HA
 go_wp2_with fail
 refine (HR.o _ G).mono ?_;rintro e w2 ⟨v,l,rfl,ho,hr,O⟩;have Hr:He (lE E n L m l):=hr;have Ho:He (aU w2 w.heap.size v l):=ho.low G.size;clear hr ho HR;have Z:=G.trans (O.mono G.size);go_wp2
 exact bodyPost_ret (v:=.tuple #[v,.bool true]) (by simp [results,results82,go_sem]) rfl ⟨v,l,rfl,Ho.o,Hr.o,Z⟩
def a10 (u:World)(A:Nat->List aE)(P:Nat->Nat)(k:Nat)(v:Value)(wr:World):Prop :=
 ∃ (g G:Nat) (F:Nat->List aE) (H:Nat->Option Addr) (C:Nat->Nat),v=.slice (some ⟨g,0,none⟩) k G/\He (dQ List.length PE 26 wr u.heap.size (.slice (some ⟨g,0,none⟩) k G) k F H C)/\He (∀ i,i<k->F i=A (P i))/\Below u.heap.size u wr
def pG (E:Nat->Ev)(n i k:Nat):Nat:=(aL E n ((E i).Pv k)).toNat
theorem PR (w:World)(H:aF E n=true)(hi:i<n)(hna:i<=na)(hf:∀ j,j<i->bB E n (A j))(h:dW w (some ⟨be,oe,none⟩) n cap E)(da:be<w.heap.size)(ae:∀ q,q<n->mT w be (oe+q * 10) (E q))(hs:jN w sa na sc A) :
  Calls prog 128 #[.agg #[.slice (some ⟨be,oe,none⟩) n cap],.slice sa na sc,.int .i64 (i:Int)] w (lM w E n (fun k=>A (pG E n i k)) (E i).np):=by
 obtain ⟨j0,hj,df,dd,ct⟩:=info_parts Tryz.infoRowE;have bp:=dJ H;obtain ⟨wa,N⟩:∃ wa,wa=w.alloc (.cells #[.slice (some ⟨be,oe,none⟩) n cap] 25):=⟨_,rfl⟩;have Z:Below w.heap.size w wa:=by rw [N];exact bA
 have dc:w.heap.size<wa.heap.size:=by rw [N];simp
 have ax:He (wa.heap.size=w.heap.size+1):=by unfold He;rw [N];simp
 have a4:He (∀ wx,Below wa.heap.size wa wx->wx.cell? ⟨w.heap.size,0,none⟩=some (.slice (some ⟨be,oe,none⟩) n cap)):=fun wx hx=>by subst N;exact aK (hx.mono (by simp)) 0
 have x0:(w.alloc (.cells #[.slice (some ⟨be,oe,none⟩) n cap] 25)).cell? ⟨w.heap.size,0,none⟩=some (.slice (some ⟨be,oe,none⟩) n cap):=kA rfl;obtain ⟨pa,cp,aa,ca,ga,cg,cd,bz⟩:=ae i hi
 have bq:(w.alloc (.cells #[.slice (some ⟨be,oe,none⟩) n cap] 25)).cell? ⟨be,oe+i * 10+6,none⟩=some (.slice pa (E i).np cp):=by
  rw [<- N];exact (Z.cell (p:=⟨be,oe+i * 10+6,none⟩) (by exact da)).trans cd.c6
 have b0:(E i).np<=10:=(mP (cL H hi)).1
 have HP:He (∀ k,k<(E i).np->aL E n ((E i).Pv k)=((pG E n i k:Nat):Int)/\pG E n i k<i):=fun k hk=>by
  have:=pZ H hi hk;unfold pG;omega
 have HE:He (dW w (some ⟨be,oe,none⟩) n cap E):=h;have Hs:He (jN w sa na sc A):=hs;have Hp:He (dE w pa (E i).np cp (E i).Pv):=bz.hp
 have bc:He (∀ W a8 a5 F,Below w.heap.size w W->(∀ k,k<(E i).np->F k=A (pG E n i k))->jN W a8 (E i).np a5 F->Calls prog 131 #[.agg #[.slice (some ⟨be,oe,none⟩) n cap],.slice a8 (E i).np a5] W (lM W E n (fun k=>A (pG E n i k)) (E i).np)):=fun W a8 a5 F Y hF U=>by
  refine FN W H (by omega) (fun k hk=>hf _ (HP.o k hk).2) (h.below Y) ⟨U.le,U.max,?_⟩;exact U.cells.imp id fun ⟨b,off,e,ah,hc⟩=>⟨b,off,e,ah,fun k hk=>by have:=hc k hk;rw [hF k hk] at this;exact this⟩
 have d7:n<=300:=bp;have dy:(i:Int)<(n:Int):=by omega
 have d8:(0:Int)<=(i:Int):=by omega
 clear H h hs hf cd bz ae;obtain ⟨np,hnp⟩:∃ np,np=(E i).np:=⟨_,rfl⟩;rw [<- hnp] at bq b0 HP Hp bc ⊢;clear hnp;obtain ⟨Pv,cb⟩:∃ Pv,Pv=(E i).Pv:=⟨_,rfl⟩;rw [<- cb] at Hp HP;clear cb;have ay:n<=cap/\cap<=maxLen:=⟨HE.o.le,HE.o.max⟩;unfold maxLen at ay
 go_enter func128,ntmps128
 go_wp2_with fail
 rw [<- N];clear x0 bq;obtain ⟨G,cf⟩:∃ G,G=wa:=⟨_,rfl⟩;rw [<- cf] at Z dc a4 ax ⊢;clear N cf;have b8:dQ List.length PE 26 (G.alloc (.cells #[] 26)) G.heap.size (.slice (some ⟨G.heap.size,0,none⟩) 0 0) 0 (fun _=>[]) (fun _=>none) (fun _=>0):=dQ.new G _ nL _ _ _;have bt:Below G.heap.size G (G.alloc (.cells #[] 26)):=bA;have b2:He (dQ List.length PE 26 (G.alloc (.cells #[] 26)) G.heap.size (.slice (some ⟨w.heap.size+1,0,none⟩) 0 0) 0 (fun _=>[]) (fun _=>none) (fun _=>0)):=by rw [show w.heap.size+1=G.heap.size from ax.o.symm];exact b8
 clear b8 ax
 go_loopw [8,9] (fun v kv wr=>∃ k:Nat,k<=np/\kv=.int .i64 (k:Int)/\a10 G A (pG E n i) k v wr) (fun _ kv _=>np - (intOf kv).toNat)
 case atStart=>exact ⟨0,nz,rfl,_,_,_,_,_,rfl,b2.o,fun i hi=>absurd hi (Nat.not_lt_zero _),bt⟩
 case round =>
  clear bt b2;obtain ⟨k,hk,rfl,g,cc,F,A',C,rfl,I,hF,hB⟩:=hrel;have J:=Z.trans (hB.mono Z.size);have a6:G.heap.size<=wr.heap.size:=hB.size
  have b7:He (G.heap.size<=g/\g<wr.heap.size):=by
   rcases I.o.cells with ⟨q,_⟩|⟨g',dx,q,q1,q2,_⟩
   ·cases q
   injection q with q _ _;injection q with q;injection q with q _ _
   subst q;exact ⟨q1,q2⟩
  by_cases ah:k<np
  ·rcases Hp.o.cells with h0|⟨pb,po,rfl,b4,bw⟩
   ·omega
   obtain ⟨ap,co⟩:=HP.o k ah;rcases Hs.o.cells with h0|⟨ab,ao,rfl,b6,bx⟩
   ·omega
   obtain ⟨ea,ec,ae,au⟩:=bx (pG E n i k) (by omega);have br:=(J.cell (p:=⟨pb,po+k,none⟩) (by exact b4)).trans (bw k ah);have aw:=(J.cell (p:=⟨ab,ao+pG E n i k,none⟩) (by exact b6)).trans ae
   have ai:He (∀ q,G.heap.size<=q->XT ea (A (pG E n i k)).length (some q)):=fun q hq=>by
    rcases au.cells with h0|⟨b,off,e,hb,_⟩
    ·exact Or.inl (by rw [h0];rfl)
    refine Or.inr fun b' dv e' e2=>?_
    rw [e] at e';injection e' with e'
    injection e' with e1 _ _
    injection e2 with e2
    omega
   have b9:He (dF wr ea ec (A (pG E n i k))):=au.below J
   have O:∀ W,Below wr.heap.size wr W->Calls prog 44 #[.agg #[.slice (some ⟨be,oe,none⟩) n cap],.string (Pv k)] W fun e w'=>e=.returned (.int .i64 ((pG E n i k:Nat):Int))/\Below wr.heap.size wr w':=fun W Y=>by
    refine (iJ (Pv k) W ((HE.o.below J).below Y)).mono ?_;rintro e w' ⟨rfl,rfl⟩;exact ⟨by rw [ap],Y.alloc Y.size _⟩
   clear ap bw bx ae au;obtain ⟨p,hp⟩:∃ p,p=pG E n i k:=⟨_,rfl⟩;obtain ⟨x,hx⟩:∃ x,x=Pv k:=⟨_,rfl⟩;obtain ⟨ll,bb⟩:∃ ll,ll=(A (pG E n i k)).length:=⟨_,rfl⟩;have cl:He (ll=(A (pG E n i k)).length):=bb;rw [<- bb] at aw;rw [<- hp] at aw O co;rw [<- hx] at br O;have bo:He (_):=O;clear hp hx bb O
   have bv:He (∀ W,Below G.heap.size G W->W.cell? ⟨w.heap.size,0,none⟩=some (.slice (some ⟨be,oe,none⟩) n cap)/\W.cell? ⟨pb,po+k,none⟩=some (.string x)/\W.cell? ⟨ab,ao+p,none⟩=some (.slice ea ll ec)):=fun W Y=>by
    have h1:pb<G.heap.size:=nT b4 Z.size;have h2:ab<G.heap.size:=nT b6 Z.size;refine ⟨a4.o _ Y,?_,?_⟩
    ·rw [Y.cell (p:=⟨pb,po+k,none⟩) (by exact h1),<- hB.cell (p:=⟨pb,po+k,none⟩) (by exact h1)]
     exact br
    rw [Y.cell (p:=⟨ab,ao+p,none⟩) (by exact h2),<- hB.cell (p:=⟨ab,ao+p,none⟩) (by exact h2)];exact aw
   have HS:He (∀ W,Below wr.heap.size wr W->W.cell? ⟨w.heap.size,0,none⟩=some (.slice (some ⟨be,oe,none⟩) n cap)/\W.cell? ⟨pb,po+k,none⟩=some (.string x)/\W.cell? ⟨ab,ao+p,none⟩=some (.slice ea ll ec)):=fun W Y=>bv.o W (hB.trans (Y.mono a6))
   have HO:He (∀ W,Below wr.heap.size wr W->W.ownsRow G.heap.size 26 1 (.slice (some ⟨g,0,none⟩) k cc) k (lZ List.length F A' C k)):=fun W Y=>(I.o.below VG Y).own
   have b5:He (∀ X w4:World,Below wr.heap.size wr X->X.grownBy w4 (Value.slice (some ⟨g,0,none⟩) k cc).ownBlock->Below G.heap.size G w4):=fun X w4 hX hg=>(hB.trans (hX.mono a6)).grown hg (nZ a6 hX.size) (fun q hq=>by
    have:some g=some q:=hq;injection this with this
    have:=b7.o;omega)
   have bn:Below wr.heap.size wr wr:=kB;have cm:k+1<=maxLen:=by unfold maxLen;omega
   have cy:(k+1) * 24<=140737488355328:=by omega
   have d4:(p:Int)<(na:Int):=by omega
   have d1:(0:Int)<=(p:Int):=by omega
   have dk:p<na:=by omega
   go_wp2_with fail
   refine wp_region_held_drew (S:=fun W=>W.cell? ⟨w.heap.size,0,none⟩=some (.slice (some ⟨be,oe,none⟩) n cap)/\W.cell? ⟨pb,po+k,none⟩=some (.string x)/\W.cell? ⟨ab,ao+p,none⟩=some (.slice ea ll ec)) (by kernel_rfl) ?_ (fun hHeld=>?_)
   ·(try dsimp only);exact HS.o _ (by with_reducible (repeat refine .drew ?_);exact bn)
   refine tq 0 rfl ?_;simp only [si];refine tq 1 rfl ?_;simp only [si];refine tq 2 rfl ?_;simp only [si];refine tq 3 rfl ?_;simp only [si];refine tq 4 rfl ?_;simp only [si];refine tq 5 rfl ?_;simp only [si];refine tq 6 rfl ?_;simp only [si];refine rd 7 rfl fun K hK=>?_
   go_simp
   go_at_call 44
   refine (bo.o _ (by with_reducible (repeat refine .drew ?_);exact bn)).mono ?_;rintro e w2 ⟨rfl,u⟩;clear bo;try dsimp only
   refine hK.out _ _ ?_ (fun hHeld=>?_)
   ·(try dsimp only);exact HS.o _ (by with_reducible (repeat refine .drew ?_);exact u)
   clear hK K;try simp only [si]
   refine tq 8 rfl ?_;simp only [si];refine tq 9 rfl ?_;simp only [si];refine rd 10 rfl fun K hK=>?_
   go_simp;refine hK.out _ _ ?_ (fun hHeld=>?_)
   ·(try dsimp only);exact HS.o _ (by first|exact u.alloc u.size _|exact (u.alloc u.size _).drew|exact (u.drew.alloc u.size _))
   clear hK K;try simp only [si]
   refine rd 11 rfl fun K hK=>?_
   refine step_append_lies _ (by rfl) _ _ _ (by rfl) G.heap.size 26 j0 _ 1 24 underlying77 hj df dd ct rfl (by decide) (.slice (some ⟨g,0,none⟩) k cc) k (lZ List.length F A' C k) (by rfl) (HO.o _ (by first|exact u.alloc u.size _|exact (u.alloc u.size _).drew|exact (u.drew.alloc u.size _))) ⟨w2.heap.size,0,none⟩ 1 1 [.slice ea ll ec] (by rfl) (by rfl) (mJ _ _ _) (jT _ ⟨_,_,_,rfl⟩) (by decide) cm cy (by simp;have:=u.size;omega) (w2.heap.size+1) (by simp) ?_;intro gg cq w4 ag af ak bu;have ba:=b5.o _ w4 (by first|exact u.alloc u.size _|exact (u.alloc u.size _).drew|exact (u.drew.alloc u.size _)) af;refine hK.out _ _ ?_ (fun hHeld=>?_)
   ·(try dsimp only);exact bv.o _ ba
   clear hK K;try simp only [si]
   refine tq 12 rfl ?_;simp only [si];refine wpAnyH_done (by kernel_rfl) ?_ _
   have ad:He (dQ List.length PE 26 w4 G.heap.size (.slice (some ⟨gg,0,none⟩) (k+1) cq) (k+1) (bM F k (A (pG E n i k))) (bM A' k ea) (bM C k ec)):=by
    have hX:∀ X,Below w2.heap.size w2 X->X.grownBy w4 (Value.slice (some ⟨g,0,none⟩) k cc).ownBlock->((Value.slice (some ⟨g,0,none⟩) k cc).ownBlock=some gg\/X.heap.size<=gg)->dQ List.length PE 26 w4 G.heap.size (.slice (some ⟨gg,0,none⟩) (k+1) cq) (k+1) (bM F k (A (pG E n i k))) (bM A' k ea) (bM C k ec):=fun X hX hg de=>by
     have bm:=u.trans (hX.mono u.size);exact (I.o.below VG bm).snoc VG (VG.below b9.o bm) (ai.o g b7.o.1) (by rw [<- cl.o];exact ag) hg de
    exact hX _ (by first|exact bA|exact bA.drew) af (ak.imp (fun q=>q) (fun q=>by simp;omega))
   have ce:He (∀ j,j<k+1->bM F k (A (pG E n i k)) j=A (pG E n i j)):=fun j hj=>by
    by_cases e:j=k
    ·subst e;rw [cQ]
    rw [cP _ _ (by omega)];exact hF.o j (by omega)
   clear ag af ak bu I hF HO b5 b9 ai
   (try go_wp2)
   first
    | exact ⟨⟨k+1,by omega,by go_num,gg,cq,_,_,_,rfl,ad.o,ce.o,ba⟩,by simp [intOf];omega⟩
    | exact ⟨⟨k+1,by omega,by go_num,gg,cq,_,_,_,rfl,ad.o.below VG kB.drew,ce.o,ba.drew⟩,by simp [intOf];omega⟩
  have cz:np=k:=by omega
  subst cz;obtain ⟨ta,tc,e1,U⟩:=I.o.ee;injection e1 with cn _ db
  subst cn db;have HR:He (Calls prog 131 #[.agg #[.slice (some ⟨be,oe,none⟩) n cap],.slice (some ⟨g,0,none⟩) np cc] wr (lM wr E n (fun k=>A (pG E n i k)) np)):=bc.o wr _ _ F J hF.o U;have xr:=a4.o _ hB;clear U I hF bc
  go_wp2_with fail
  refine HR.o.mono ?_;rintro e w2 ⟨v,l,rfl,ho,hr,u⟩;have dh:He (lM w E n (fun k=>A (pG E n i k)) np (.returned v) w2):=⟨v,l,rfl,ho.low J.size,hr,J.trans (u.mono J.size)⟩;clear HR hr ho;go_wp2
  go_ret;exact dh.o
def LN (E:Nat->Ev)(n:Nat)(A:Nat->List aE)(i:Nat)(l:List aE):Prop:=∃ s,lE E n (fun k=>A (pG E n i k)) (E i).np s/\l=if (E i).st=true/\lJ (iZ E n s) (E i)=0 then dG s ⟨(E i).ty,(E i).key,(E i).id⟩ false else s
def lR (w:World)(E:Nat->Ev)(n:Nat)(A:Nat->List aE)(i:Nat)(e:Ending)(w':World):Prop:=∃ v l,e=.returned v/\aU w' w.heap.size v l/\LN E n A i l/\Below w.heap.size w w'
theorem LN.fit (hr:aF E n=true)(hi:i<n)(I:∀ j,j<i->bB E n (A j))(h:LN E n A i l):bB E n l:=by
 obtain ⟨s,G,rfl⟩:=h;have u:=G.fit hr (fun k H=>I _ (by have:=pZ hr hi H;unfold pG;omega));split
 ·rename_i hc
  exact u.set fun _=>mG hr hi hc.1
 exact u
theorem LN.uniq {G:List aE}(h:LN E n A i l)(H:LN E n A i G):l=G:=by
 obtain ⟨s,I,rfl⟩:=h;obtain ⟨J,u,rfl⟩:=H;rw [I.uniq u]
theorem NM (w:World)(u:aF E n=true)(hi:i<n)(hna:i<=na)(hf:∀ j,j<i->bB E n (A j))(h:dW w (some ⟨be,oe,none⟩) n cap E)(ba:be<w.heap.size)(ag:∀ q,q<n->mT w be (oe+q * 10) (E q))(hs:jN w sa na sc A) :
  Calls prog 77 #[.agg #[.slice (some ⟨be,oe,none⟩) n cap],.slice sa na sc,.int .i64 (i:Int)] w (lR w E n A i):=by
 have bm:=dJ u;obtain ⟨pa,cp,aa,ca,ga,cg,bv,bq⟩:=ag i hi;obtain ⟨wa,J⟩:∃ wa,wa=w.alloc (.cells #[.slice (some ⟨be,oe,none⟩) n cap] 25):=⟨_,rfl⟩;have bb:Below w.heap.size w wa:=by rw [J];exact bA
 have cx:w.heap.size<wa.heap.size:=by rw [J];simp
 have ap:=bv.below bb ba;have a5:He (∀ W,Below w.heap.size w W->Calls prog 128 #[.agg #[.slice (some ⟨be,oe,none⟩) n cap],.slice sa na sc,.int .i64 (i:Int)] W (lM W E n (fun k=>A (pG E n i k)) (E i).np)):=fun W I=>PR W u hi hna hf (h.below I) (nT ba I.size) (fun q hq=>(ag q hq).below I ba) (hs.below I)
 have Z:He (∀ l,lE E n (fun k=>A (pG E n i k)) (E i).np l->bB E n l):=fun l h1=>h1.fit u (fun k hk=>hf _ (by have:=pZ u hi hk;unfold pG;omega))
 have bc:He (∀ W l va vc,Below w.heap.size w W->bB E n l->dF W va vc l->Calls prog 16 #[.agg #[.slice (some ⟨be,oe,none⟩) n cap],.slice va l.length vc,(E i).val' pa cp aa ca ga cg] W fun x w'=>x=.returned (.int .i64 (lJ (iZ E n l) (E i)))/\Below W.heap.size W w'):=fun W l va vc I hl hv=>xQ (E i) pa cp aa ca ga cg W (rJ (h.below I) hv) (xC u (hl.fitB u)) (bq.below I) (cL u hi)
 have bj:He (∀ l,bB E n l->(E i).st=true->bB E n (dG l ⟨(E i).ty,(E i).key,(E i).id⟩ false)):=fun l hl H=>hl.set fun _=>mG u hi H
 have bf:He (∀ s,lE E n (fun k=>A (pG E n i k)) (E i).np s->((E i).st=false\/lJ (iZ E n s) (E i)≠0)->LN E n A i s):=fun s h1 h2=>⟨s,h1,by
  rw [if_neg];rintro ⟨q1,q2⟩;rcases h2 with h2|h2
  ·rw [h2] at q1;cases q1
  exact h2 q2⟩
 have ax:He (∀ s,lE E n (fun k=>A (pG E n i k)) (E i).np s->(E i).st=true->lJ (iZ E n s) (E i)=0->LN E n A i (dG s ⟨(E i).ty,(E i).key,(E i).id⟩ false)):=fun s h1 h2 h3=>⟨s,h1,by rw [if_pos ⟨h2,h3⟩]⟩
 have Hz:He (∀ j,j<n->(E j).ty.size<=maxLen/\(E j).key.size<=maxLen/\(E j).id.size<=maxLen):=fun j hj=>by
  obtain ⟨_,_,_,_,_,_,_,hk⟩:=ag j hj;exact ⟨hk.hty,hk.hkey,hk.hid⟩
 have au:He (∀ l,bB E n l->l.length<=300):=fun l hl=>nZ (hl.len u) bm
 have a3:n<=cap/\cap<=maxLen:=⟨h.le,h.max⟩;unfold maxLen at a3;have ck:(i:Int)<(n:Int):=by omega
 have cy:(0:Int)<=(i:Int):=by omega
 clear u h hs hf bq ag bv hna;obtain ⟨ev,bi⟩:∃ ev,ev=E i:=⟨_,rfl⟩;rw [<- bi] at ap bc bj bf ax a5 Z;clear bi;obtain ⟨c0,c1,c2,c3,c4,c5,c6,c7,c8,c9⟩:=ap;rw [J] at c0 c1 c2 c3 c4 c5 c6 c7 c8 c9;have x0:(w.alloc (.cells #[.slice (some ⟨be,oe,none⟩) n cap] 25)).cell? ⟨w.heap.size,0,none⟩=some (.slice (some ⟨be,oe,none⟩) n cap):=kA rfl
 go_enter func77,ntmps77
 go_wp2_with fail
 clear c0 c1 c2 c3 c4 c5 c6 c7 c8 c9 x0;rw [<- J];obtain ⟨wb,ad⟩:∃ wb,wb=wa.alloc (.cells #[.string ev.id,.string ev.sd,.string ev.ty,.bool ev.st,.string ev.key,.int .i64 ev.tm,.slice pa ev.np cp,.slice aa ev.na ca,.string ev.val,.slice ga ev.ng cg] 30):=⟨_,rfl⟩;have br:Below wa.heap.size wa wb:=by rw [ad];exact bA
 have O:=bb.trans (br.mono bb.size);have bt:wa.heap.size=w.heap.size+1:=by rw [J];simp
 have b6:wb.heap.size=wa.heap.size+1:=by rw [ad];simp
 have HC:He (∀ W,Below wb.heap.size wb W->W.cell? ⟨w.heap.size,0,none⟩=some (.slice (some ⟨be,oe,none⟩) n cap)/\∀ o,W.cell? ⟨w.heap.size+1,o,none⟩=(#[.string ev.id,.string ev.sd,.string ev.ty,.bool ev.st,.string ev.key,.int .i64 ev.tm,.slice pa ev.np cp,.slice aa ev.na ca,.string ev.val,.slice ga ev.ng cg]:Array Value)[o]?):=fun W I=>by
  refine ⟨(I.cell (by show w.heap.size<wb.heap.size;omega)).trans ((br.cell (by show w.heap.size<wa.heap.size;omega)).trans (by rw [J];exact kA rfl)),fun o=>(I.cell (by show w.heap.size+1<wb.heap.size;omega)).trans ?_⟩;rw [ad];exact kA bt.symm
 rw [<- ad];clear ad J bt b6;obtain ⟨y0,yc⟩:=HC.o wb kB;clear yc
 go_wp2_with fail
 refine (a5.o _ O).mono ?_;rintro e w1 ⟨v1,s,rfl,bh,a4,aj⟩;have ab:=O.trans (aj.mono O.size);have am:=Z.o s a4;have a6:He (_):=a4;obtain ⟨ta,tc,e1,a2⟩:=bh.sl (fun i hi=>(am.ok Hz.o).at i hi);subst e1;have b7:=au.o s am;have N:He (ev.st=false\/lJ (iZ E n s) ev≠0->∀ W,Below w1.heap.size w1 W->lR w E n A i (.returned (.slice ta s.length tc)) W):=fun h1 W I=>⟨_,s,rfl,(bh.below I).low O.size,bf.o s a6.o h1,ab.trans (I.mono ab.size)⟩
 have G:He (Calls prog 16 #[.agg #[.slice (some ⟨be,oe,none⟩) n cap],.slice ta s.length tc,.agg #[.string ev.id,.string ev.sd,.string ev.ty,.bool ev.st,.string ev.key,.int .i64 ev.tm,.slice pa ev.np cp,.slice aa ev.na ca,.string ev.val,.slice ga ev.ng cg]] w1 fun x w'=>x=.returned (.int .i64 (lJ (iZ E n s) ev))/\Below w1.heap.size w1 w'):=bc.o w1 s ta tc ab am a2
 have U:He (ev.st=true->lJ (iZ E n s) ev=0->∀ W,Below w1.heap.size w1 W->Calls prog 24 #[.slice ta s.length tc,eS ⟨ev.ty,ev.key,ev.id⟩,.bool false] W (lR w E n A i)):=fun h1 h2 W I=>by
  refine (nH ⟨ev.ty,ev.key,ev.id⟩ false W (by omega) (a2.below I)).mono ?_;rintro e w' ⟨v,rfl,ho,hb⟩;have a8:=ab.trans (I.mono ab.size);exact ⟨v,_,rfl,ho.low a8.size,ax.o s a6.o h1 h2,a8.trans (hb.mono a8.size)⟩
 obtain ⟨sl,aq⟩:∃ sl,sl=s.length:=⟨_,rfl⟩;rw [<- aq] at N G U b7 ⊢;obtain ⟨al,ao⟩:∃ al,al=lJ (iZ E n s) ev:=⟨_,rfl⟩;rw [<- ao] at N G U;clear aq ao bh a4 a6 am a2 bf ax bc bj a5 Z Hz au y0;obtain ⟨d0,Y⟩:=HC.o w1 aj;have d1:=Y 0;have d2:=Y 1;have d3:=Y 2;have d4:=Y 3;have d5:=Y 4;have d6:=Y 5;have d7:=Y 6;have d8:=Y 7;have d9:=Y 8;have bo:=Y 9;clear Y;simp only [List.getElem?_toArray,List.getElem?_cons_zero,List.getElem?_cons_succ] at d1 d2 d3 d4 d5 d6 d7 d8 d9 bo;cases H:ev.st
 case false =>
  rw [H] at d4;have HP:He (∀ W,Below w1.heap.size w1 W->lR w E n A i (.returned (.slice ta sl tc)) W):=N.o (Or.inl H);clear N U G H;go_wp2
  go_ret;exact HP.o _ kB
 case true =>
  have bg:(.agg #[.string ev.id,.string ev.sd,.string ev.ty,.bool ev.st,.string ev.key,.int .i64 ev.tm,.slice pa ev.np cp,.slice aa ev.na ca,.string ev.val,.slice ga ev.ng cg]:Value)=.agg #[.string ev.id,.string ev.sd,.string ev.ty,.bool true,.string ev.key,.int .i64 ev.tm,.slice pa ev.np cp,.slice aa ev.na ca,.string ev.val,.slice ga ev.ng cg]:=by rw [H]
  rw [bg] at G;rw [H] at d4
  by_cases ak:al=0
  ·subst ak
   have bn:He (∀ W,Below w1.heap.size w1 W->Calls prog 24 #[.slice ta sl tc,eS ⟨ev.ty,ev.key,ev.id⟩,.bool false] W (lR w E n A i)):=U.o H rfl;clear N U H bg
   go_wp2_with fail
   refine G.o.mono ?_;rintro e w2 ⟨rfl,an⟩;obtain ⟨g0,gc⟩:=HC.o w2 (aj.trans (an.mono aj.size));have g1:=gc 0;have g3:=gc 2;have g5:=gc 4;clear gc d0 d1 d2 d3 d4 d5 d6 d7 d8 d9 bo G;simp only [List.getElem?_toArray,List.getElem?_cons_zero,List.getElem?_cons_succ] at g1 g3 g5
   go_wp2_with fail
   refine (bn.o _ an).mono ?_;rintro e w3 ⟨v,l,rfl,ho,hr,b4⟩;have HP:He (lR w E n A i (.returned v) w3):=⟨v,l,rfl,ho,hr,b4⟩;clear ho hr bn;go_wp2
   go_ret;exact HP.o
  have HP:He (∀ W,Below w1.heap.size w1 W->lR w E n A i (.returned (.slice ta sl tc)) W):=N.o (Or.inr ak);have cd:(al == 0)=false:=by simpa using ak
  clear N U H bg ak
  go_wp2_with fail
  refine G.o.mono ?_;rintro e w2 ⟨rfl,an⟩;clear G;go_wp2
  go_ret;exact HP.o _ an
end Go.Proofs.YtpfeegcdlikegaaGreat
