import Derived.Test.YtpfeegcdlikegaaGreatTrS
import Derived.Test.YtpfeegcdlikegaaGreatCfS
import Derived.Test.YtpfeegcdlikegaaGreatMbSZ
set_option maxHeartbeats 16000000
set_option maxRecDepth 100000
namespace Go.Proofs.YtpfeegcdlikegaaGreat
open Go.RowKit Go.Proofs.Tryz
variable {k m n sc cap:Nat}{E:Nat->Ev}{a sa:Option Addr}
def lM (w:World)(E:Nat->Ev)(n:Nat)(L:Nat->List aE)(m:Nat)(e:Ending)(w':World):Prop:=∃ v l,e=.returned v/\aU w' w.heap.size v l/\lE E n L m l/\Below w.heap.size w w'
theorem BE (l:List ByteArray):kY (aG l) l.length=l:=by
 refine List.ext_getElem (by rw [mQ]) fun i G u=>?_
 simp [kY,aG,List.getD,List.getElem?_eq_getElem u]
theorem RW {L:Nat->List aE}{G:List aE}{H:List ByteArray}(u:iI L m=true)(h:vT L m G H):G=lC L m m :=
 (yI h (zI u h.srtO (fun t=>(h.memO t).trans (xT L m t m).symm))).1
theorem ST {s:ByteArray}(h:s=⟨#[]⟩\/0<=aL E n s)(hr:aF E n=true):nK E (aL E n s)=s:=by
 unfold nK;rcases h with rfl|h
 ·rw [kV hr EX,if_neg (by decide)]
 obtain ⟨p,hp,e,u⟩:=iY h;rw [if_pos h,e,Int.toNat_natCast,u]
def tN (f o:List ByteArray)(k:Nat):List ByteArray:=(f.take k).filter fun s=>!bD (aG o) o.length s
theorem TE {f o:List ByteArray}(u:k<f.length)(h:aG f k ∉ o):tN f o (k+1)=tN f o k ++ [aG f k]:=by
 unfold tN;have e:f[k]=aG f k:=by simp [aG,List.getD,List.getElem?_eq_getElem u]
 have G:bD (aG o) o.length (aG f k)=false:=by
  cases q:bD (aG o) o.length (aG f k)
  ·rfl
  exact absurd ((mN o _).1 q) h
 rw [List.take_succ_eq_append_getElem u,List.filter_append,e];simp [G]
theorem XI {f o:List ByteArray}(u:k<f.length)(h:aG f k ∈ o):tN f o (k+1)=tN f o k:=by
 unfold tN;have e:f[k]=aG f k:=by simp [aG,List.getD,List.getElem?_eq_getElem u]
 have G:bD (aG o) o.length (aG f k)=true:=(mN o _).2 h;rw [List.take_succ_eq_append_getElem u,List.filter_append,e];simp [G]
theorem SU (f o:List ByteArray)(s:ByteArray):s ∈ tN f o f.length↔s ∈ f/\s ∉ o:=by
 unfold tN;rw [List.take_length,List.mem_filter,<- mN o s];cases bD (aG o) o.length s <;> simp
def MiP (wr:World)(E:Nat->Ev)(n:Nat)(D:Nat->Nat)(R:List ByteArray)(e:Ending)(w':World):Prop :=
 ∃ a c u l,e=.returned (.slice a u c)/\He (u=l.length)/\He (dE w' a u c (aG l))/\He (kO E n D l)/\He (∀ s,s ∈ l↔s ∈ R)/\Below wr.heap.size wr w'
def TiP (wr:World)(l:List aE)(e:Ending)(w':World):Prop:=∃ a c G u,e=.returned (.slice a G c)/\He (G=u.length)/\He (dF w' a c u)/\He (u=l)/\Below wr.heap.size wr w'
theorem FN {L:Nat->List aE}(w:World)(G:aF E n=true)(hm:m<=20)(hf:∀ i,i<m->bB E n (L i))(h:dW w a n cap E)(U:jN w sa m sc L) :
  Calls prog 131 #[.agg #[.slice a n cap],.slice sa m sc] w (lM w E n L m):=by
 obtain ⟨i0,hi,fu,fj,fx⟩:=info_parts Tryz.infoString;have ak:=dJ G;obtain ⟨wb,bc⟩:∃ wb,wb=w.alloc (.cells #[.slice a n cap] 25):=⟨_,rfl⟩;have Z:Below w.heap.size w wb:=by rw [bc];exact bA
 have h8:w.heap.size<wb.heap.size:=by rw [bc];simp
 have a5:He (∀ wx,Below wb.heap.size wb wx->wx.cell? ⟨w.heap.size,0,none⟩=some (.slice a n cap)):=fun wx hx=>by subst bc;exact aK (hx.mono (by simp)) 0
 have ag:iI L m=true:=pE G hf;have ay:nQ L m=true:=by unfold nQ;rw [ag,decide_eq_true hm];rfl
 have Hz:He (∀ i,i<n->(E i).ty.size<=maxLen/\(E i).key.size<=maxLen/\(E i).id.size<=maxLen):=fun i ci=>by
  rcases h.cells with h0|⟨b,off,_,_,hc⟩
  ·omega
  obtain ⟨_,_,_,_,_,_,_,ag⟩:=hc i ci;exact ⟨ag.hty,ag.hkey,ag.hid⟩
 have a6:He (bB E n (lC L m m)):=AA G hf;have ef:He (Calls prog 155 #[.slice sa m sc] wb (pR wb L m)):=LW wb (U.below Z);have d7:He (∀ W,Below w.heap.size w W->Calls prog 156 #[.agg #[.slice a n cap],.slice sa m sc] W (gH W (RB E n L m))):=fun W hW=>RP W G hm hf (h.below hW) (U.below hW)
 have f5:He (∀ s,RB E n L m s->∃ j,j<n/\(E j).id=s):=fun s hc=>EU G hf hc
 have HE:He (dW w a n cap E):=h;have u:He (_):=G;have gk:He (iI L m=true):=ag;have ce:He (nQ L m=true):=ay;clear G h U hf ag ay
 go_enter func131,ntmps131
 go_wp2_with fail
 rw [<- bc];clear bc;refine ef.o.mono ?_;rintro e w1 ⟨bq,v1,u1,Se,So,rfl,es,f8,ay⟩
 have fw:Se=lC L m m:=by
  rcases ay with ⟨_,h1⟩|⟨h1,_⟩
  ·exact RW gk.o h1
  rw [ce.o] at h1;cases h1
 rw [ce.o];subst fw;have gl:=Z.trans (bq.mono Z.size);have x1:=a5.o _ bq;obtain ⟨ea,ec,e1,ds⟩:=es.sl (fun i hi=>(a6.o.ok Hz.o).at i hi);subst e1;have cz:He (dF w1 ea ec (lC L m m)):=ds;have ew:(lC L m m).length<=300:=nZ (a6.o.len u.o) ak;clear ay es f8 ef ce ds;obtain ⟨H,b9⟩:∃ H,H=lC L m m:=⟨_,rfl⟩
 have HR:He (∀ (f r:List ByteArray) (o:List Nat),(pH f/\∀ s,s ∈ f↔RB E n L m s)->nE E n (aG f) f.length o->(kO E n (fun p:Nat=>dp E n (ln E n (aL E n (aQ (eA E n H (o.map fun p=>(E p).id)) aX aJ))) (p:Int)) r/\∀ s,s ∈ r↔s ∈ f/\s ∉ o.map fun p=>(E p).id)->lE E n L m (lL (eA E n (eA E n H (o.map fun p=>(E p).id)) r) H H.length)):=fun f r o h1 h2 h3=>by
  subst b9;exact ⟨f,r,o,h1,h2,h3,rfl⟩
 rw [<- b9] at cz a6 ew ⊢;clear b9;obtain ⟨sl,bp⟩:∃ sl,sl=H.length:=⟨_,rfl⟩;rw [<- bp];have b2:He (sl=H.length):=bp;rw [<- bp] at ew;clear bp
 go_wp2_with fail
 refine (d7.o _ gl).mono ?_;rintro e w2 ⟨v2,f,rfl,eg,cd,a4,cx⟩;have bm:=bq.trans (cx.mono bq.size);have f2:=Z.trans (bm.mono Z.size);have x2:=a5.o _ bm;have gi:He (pH f/\∀ s,s ∈ f↔RB E n L m s):=⟨cd,a4⟩;have cl:He (∀ s ∈ f,∃ j,j<n/\(E j).id=s):=fun s U=>f5.o s ((a4 s).1 U)
 have et:He (∀ s ∈ f,0<=aL E n s):=fun s U=>by
  obtain ⟨j,hj,rfl⟩:=cl.o s U;rw [aP u.o hj];omega
 have dx:f.length<=300:=nZ (gO u.o cd.nodup cl.o) ak
 obtain ⟨fa,fc,e2,cw,_⟩:=eg.sl (fun s U=>by
  obtain ⟨j,hj,rfl⟩:=cl.o s U;exact (Hz.o j hj).2.2)
 subst e2;have cn:He (Calls prog 157 #[.agg #[.slice a n cap],.slice fa f.length fc] w2 (EP w2 E n (aG f) f.length)):=SO w2 u.o dx (fun i hi=>et.o _ (bO hi)) (HE.o.below f2) cw;have b6:He (dE w2 fa f.length fc (aG f)):=cw;obtain ⟨fl,bb⟩:∃ fl,fl=f.length:=⟨_,rfl⟩;rw [<- bb] at cn dx b6 ⊢;have db:He (fl=f.length):=bb;clear bb cw eg cd a4 d7 x1
 go_wp2_with fail
 refine cn.o.mono ?_;rintro e w3 ⟨v3,o,rfl,cc,ai,bi⟩;have bk:=bm.trans (bi.mono bm.size);have gm:=Z.trans (bk.mono Z.size);have x3:=a5.o _ bk;have ex:He (nE E n (aG f) f.length o):=by have:=ai;rw [db.o] at this;exact this
 have br:He (∀ t ∈ o.map (fun p=>(E p).id),0<=aL E n t):=VD u.o ai
 have da:(o.map fun p=>(E p).id).length<=300:=by
  rw [List.length_map]
  have b5:(o.map fun p=>(E p).id).Nodup:=List.pairwise_map.2 (List.Pairwise.imp_of_mem (fun {p q} hp hq gd e=>by
   have h1:=aP u.o (ai.lt p hp);have h2:=aP u.o (ai.lt q hq);rw [e,h2] at h1;exact gd (by omega)) ai.1.nodup)
  have:=gO u.o b5 (fun s U=>by
   obtain ⟨p,hp,rfl⟩:=List.mem_map.1 U;exact ⟨p,ai.lt p hp,rfl⟩)
  rw [List.length_map] at this;omega
 obtain ⟨O,hO⟩:∃ O,O=o.map fun p=>(E p).id:=⟨_,rfl⟩
 have ct:He (∀ r:List ByteArray,(kO E n (fun p:Nat=>dp E n (ln E n (aL E n (aQ (eA E n H O) aX aJ))) (p:Int)) r/\∀ s,s ∈ r↔s ∈ f/\s ∉ O)->lE E n L m (lL (eA E n (eA E n H O) r) H H.length)):=fun r h3=>by
  subst hO;exact HR.o f r o gi.o ex.o h3
 rw [<- hO] at cc br da;clear hO ai ex HR cn x2
 have fr:He (∀ s ∈ O,s.size<=maxLen):=fun s U=>by
  obtain ⟨p,hp,_,ei⟩:=iY (br.o s U);rw [<- ei];exact (Hz.o p hp).2.2
 obtain ⟨oa,oc,e3,cv,_⟩:=cc.sl fr.o;subst e3;have ax:Below w1.heap.size w1 w3:=cx.trans (bi.mono cx.size)
 have aj:He (Calls prog 158 #[.agg #[.slice a n cap],.slice ea sl ec,.slice oa O.length oc] w3 (pO w3 (eA E n H O))):=by
  have:=zY (S:=aG O) w3 u.o a6.o da (fun i hi=>br.o _ (bO hi)) (HE.o.below gm) (cz.o.below ax) cv;rw [BE,<- b2.o] at this;exact this
 have b4:He (dE w3 oa O.length oc (aG O)):=cv;obtain ⟨ol,ba⟩:∃ ol,ol=O.length:=⟨_,rfl⟩;have el:He (∀ s,bD (aG O) ol s=true↔s ∈ O):=fun s=>by rw [ba];exact mN O s
 rw [<- ba] at aj b4 da ⊢;clear ba cv cc;have ao:He (bB E n (eA E n H O)):=bB.tryL u.o a6.o br.o;obtain ⟨s1,an⟩:∃ s1,s1=eA E n H O:=⟨_,rfl⟩;rw [<- an] at aj ao ct;clear an
 go_wp2_with fail
 refine aj.o.mono ?_;rintro e N ⟨ta,tc,rfl,d1,bo⟩;have cy:=bk.trans (bo.mono bk.size);have dt:=Z.trans (cy.mono Z.size);have d8:Below w3.heap.size w3 N:=bo;have em:=bi.trans (bo.mono bi.size);have ed:=ax.trans (bo.mono ax.size);have b8:He (dF N ta tc s1):=d1;have ek:s1.length<=300:=nZ (ao.o.len u.o) ak;obtain ⟨tn,a8⟩:∃ tn,tn=s1.length:=⟨_,rfl⟩;rw [<- a8] at ek ⊢;have dh:He (tn=s1.length):=a8;clear a8 d1 aj x3;have dj:aH (N.alloc (.cells #[] 9)) N.heap.size (.slice (some ⟨N.heap.size,0,none⟩) 0 0) (tN f O 0):=aH.new N _ nL;have dv:Below N.heap.size N (N.alloc (.cells #[] 9)):=bA
 go_wp2_with fail
 go_loopw [11,12] (fun v i wr=>∃ (k g mm cp:Nat),k<=fl/\i=.int .i64 (k:Int)/\v=.slice (some ⟨g,0,none⟩) mm cp/\He (mm=(tN f O k).length)/\mm<=k/\aH wr N.heap.size (.slice (some ⟨g,0,none⟩) mm cp) (tN f O k)/\Below N.heap.size N wr) (fun _ i _=>fl - (intOf i).toNat)
 case atStart=>exact ⟨0,_,0,0,nz,rfl,rfl,rfl,nL,dj,dv⟩
 case round =>
  clear dv dj;obtain ⟨k,g,mm,cp,hk,rfl,rfl,J,hv,Y,hB⟩:=hrel;have hl:N.heap.size<=wr.heap.size:=hB.size;have fp:=em.trans (hB.mono em.size);have gq:=d8.trans (hB.mono d8.size)
  by_cases du:k<fl
  ·rcases b6.o.cells with h0|⟨bf,of,rfl,gj,ej⟩
   ·omega
   have bj:k<f.length:=by rw [<- db.o];exact du
   have ck:=(fp.cell (p:=⟨bf,of+k,none⟩) (by exact gj)).trans (ej k du);have HY:He (aG f k ∈ O->tN f O (k+1)=tN f O k):=fun h=>XI bj h
   have HN:He (aG f k ∉ O->tN f O (k+1)=tN f O k ++ [aG f k]):=fun h=>TE bj h
   have ad:=el.o (aG f k);have HH:He (∀ b1,bD (aG O) ol (aG f k)=b1->Calls prog 80 #[.slice oa ol oc,.string (aG f k)] wr fun e w'=>e=.returned (.bool b1)/\w'=wr):=fun b1 e1=>by rw [<- e1];exact kM _ wr (b4.o.below gq)
   obtain ⟨x,hx⟩:∃ x,x=aG f k:=⟨_,rfl⟩;rw [<- hx] at ck HY HN ad HH;clear hx ej;cases hh:bD (aG O) ol x
   case true =>
    have Hn:He (tN f O (k+1)=tN f O k):=HY.o (ad.1 hh);have H1:He (Calls prog 80 #[.slice oa ol oc,.string x] wr fun e w'=>e=.returned (.bool true)/\w'=wr):=HH.o _ hh;clear HY HN ad HH hh
    go_wp2_with fail
    refine H1.o.mono ?_;rintro e w5 ⟨rfl,rfl⟩;go_wp2
    exact ⟨⟨k+1,g,mm,cp,by omega,by go_num,rfl,by rw [Hn.o];exact J,by omega,by rw [Hn.o];exact Y,hB⟩,by simp [intOf];omega⟩
   case false =>
    have Hn:He (tN f O (k+1)=tN f O k ++ [x]):=HN.o (fun q=>by have:=ad.2 q;rw [hh] at this;cases this);have H1:He (Calls prog 80 #[.slice oa ol oc,.string x] wr fun e w'=>e=.returned (.bool false)/\w'=wr):=HH.o _ hh;clear HY HN ad HH hh;generalize tN f O k=lk at *;have fi:mm+1<=maxLen:=by unfold maxLen;omega
    have a4:(mm+1) * 16<=140737488355328:=by omega
    have cm:∀ o,N.heap.size<=(wr.alloc o).heap.size:=fun o=>by simp;omega
    have di:He (∀ q,(Value.slice (some ⟨g,0,none⟩) mm cp).ownBlock=some q->N.heap.size<=q):=fun q hq=>(World.ownsRow.lt Y q hq).1
    have a2:wr.ownsRow N.heap.size 9 1 (.slice (some ⟨g,0,none⟩) mm cp) mm (lk.map Value.string):=by have:=Y;unfold aH at this;rw [<- J.o] at this;exact this
    go_wp2_with fail
    refine H1.o.mono ?_;rintro e w5 ⟨rfl,rfl⟩;clear H1
    go_wp2_with (at_builtin;refine wpList_append_lies _ rfl _ _ 27 rfl N.heap.size 9 i0 (.string ByteArray.empty) 1 16 underlying27 hi fu fj fx rfl (by decide) _ _ _ rfl (World.ownsRow.alloc a2 _) ⟨w5.heap.size,0,none⟩ 1 1 [.string x] rfl rfl (aV _ _ _) (bL _) (by decide) fi a4 (cm _) (w5.heap.size+1) (by simp) ?_;intro gg cq w7 ah am eo gu)
    have co:aH w7 N.heap.size (.slice (some ⟨gg,0,none⟩) (mm+1) cq) (tN f O (k+1)):=by
     rw [Hn.o];rw [J.o] at ah ⊢;exact aH.snoc ah
    have cf:Below N.heap.size N w7:=(hB.alloc hB.size _).grown am (cm _) di.o;clear ah am eo a2 cm di;exact ⟨⟨k+1,gg,mm+1,cq,by omega,by go_num,rfl,by unfold He;rw [Hn.o,List.length_append,<- J.o];rfl,by omega,co,cf⟩,by simp [intOf];omega⟩
  have bj:fl=k:=by omega
  subst bj;have bt:He (∀ s,s ∈ tN f O fl↔s ∈ f/\s ∉ O):=fun s=>by rw [db.o];exact SU f O s
  have bn:=dt.trans (hB.mono dt.size);have b7:=cy.trans (hB.mono cy.size);obtain ⟨R,hR⟩:∃ R,R=tN f O fl:=⟨_,rfl⟩;rw [<- hR] at bt Y J;clear hR;have ap:He (∀ s ∈ R,0<=aL E n s):=fun s U=>et.o s ((bt.o s).1 U).1
  have dc:He (∀ s ∈ R,s.size<=maxLen):=fun s U=>by
   obtain ⟨p,hp,_,ei⟩:=iY (ap.o s U);rw [<- ei];exact (Hz.o p hp).2.2
  have fk:R.length<=300:=by rw [<- J.o];omega
  obtain ⟨h9,hw,e5,au,_⟩:=Y.sl dc.o;rw [<- J.o] at e5 au;injection e5 with fm _ gc
  subst fm gc;have x4:=a5.o _ b7;have HS:He (∀ W,Below wr.heap.size wr W->W.cell? ⟨w.heap.size,0,none⟩=some (.slice a n cap)):=fun W hW=>a5.o _ (b7.trans (hW.mono b7.size))
  have eu:Below N.heap.size N wr:=hB;obtain ⟨I,ae⟩:∃ I,I=aQ s1 aX aJ:=⟨_,rfl⟩
  have b0:He (I=⟨#[]⟩\/0<=aL E n I):=by
   rcases BG s1 aX aJ with h0|⟨z,hz,_,_,e3⟩
   ·exact Or.inl (ae.trans h0)
   right
   rw [ae,e3];obtain ⟨p,hp,ep,_⟩:=dA (ao.o.fit z hz);omega
  have d5:He (∀ W,Below wr.heap.size wr W->Calls prog 25 #[.slice ta tn tc,.string ⟨#[112,111,119,101,114]⟩,.string ⟨#[]⟩] W fun e w'=>e=.returned (.string I)/\Below wr.heap.size wr w'):=fun W hW=>by
   rw [dh.o,ae];refine (iL aX aJ W ((b8.o.below eu).below hW)).mono ?_;rintro e w' ⟨rfl,hb⟩;exact ⟨rfl,hW.trans (hb.mono hW.size)⟩
  have d2:He (∀ W,Below wr.heap.size wr W->Calls prog 159 #[.agg #[.slice a n cap],.slice (some ⟨g,0,none⟩) mm cp,.string I] W (MiP wr E n (fun p:Nat=>dp E n (ln E n (aL E n I)) (p:Int)) R)):=fun W hW=>by
   have hq:=cJ E I n
   have:=OW (aL E n I) W u.o hq.1 hq.2 (show mm<=300 by omega) (fun i hi=>ap.o _ (bO (by rw [<- J.o];exact hi))) ((HE.o.below bn).below hW) (au.below hW);rw [ST b0.o u.o] at this;refine this.mono ?_;rintro e w' ⟨v,l,rfl,ho,dm,d4,hb⟩;have aw:∀ s,s ∈ l↔s ∈ R:=fun s=>(d4 s).trans ⟨fun ⟨i,ci,e⟩=>e ▸ bO (by rw [<- J.o];exact ci),fun h=>by rw [J.o];exact dO h⟩
   obtain ⟨a1,c1,rfl,an,_⟩:=ho.sl (fun s U=>dc.o s ((aw s).1 U));exact ⟨a1,c1,_,l,rfl,rfl,an,dm,aw,hW.trans (hb.mono hW.size)⟩
  have ey:He (∀ W ra rc rn r,Below wr.heap.size wr W->He (rn=List.length r)->He (dE W ra rn rc (aG r))->He (∀ s,s ∈ r↔s ∈ R)->He (kO E n (fun p:Nat=>dp E n (ln E n (aL E n I)) (p:Int)) r)->Calls prog 158 #[.agg #[.slice a n cap],.slice ta tn tc,.slice ra rn rc] W (TiP wr (eA E n s1 r))):=fun W ra rc rn r hW h1 h2 h3 h4=>by
   have b5:r.length<=300:=nZ (gO u.o (h4.o.imp fun {a b} gh e=>by subst e;exact absurd gh (jW.irrefl _)) (fun s U=>by
    obtain ⟨p,hp,_,ei⟩:=iY (ap.o s ((h3.o s).1 U));exact ⟨p,hp,ei⟩)) ak
   rw [dh.o];rw [h1.o] at h2 ⊢
   have:=zY (S:=aG r) W u.o ao.o b5 (fun i hi=>ap.o _ ((h3.o _).1 (bO hi))) ((HE.o.below bn).below hW) ((b8.o.below eu).below hW) h2.o;rw [BE] at this;refine this.mono ?_;rintro e w' ⟨a1,c1,rfl,an,hb⟩;exact ⟨a1,c1,_,_,rfl,rfl,an,rfl,hW.trans (hb.mono hW.size)⟩
  have dn:Below wr.heap.size wr wr:=kB;have bw:He (dF wr ea ec H):=cz.o.below (ed.trans (hB.mono ed.size));have bx:He (∀ r,kO E n (fun p:Nat=>dp E n (ln E n (aL E n I)) (p:Int)) r->(∀ s,s ∈ r↔s ∈ R)->lE E n L m (lL (eA E n s1 r) H H.length)):=fun r h1 h2=>ct.o r ⟨by rw [<- ae];exact h1,fun s=>(h2 s).trans (bt.o s)⟩
  have eb:He (∀ r,(∀ s,s ∈ r↔s ∈ R)->bB E n (eA E n s1 r)):=fun r h2=>bB.tryL u.o ao.o (fun t ht=>ap.o t ((h2 t).1 ht))
  clear ae b0 au Y ct bt ap dc J fk ao b8 el b4 b6
  go_wp2_with fail
  refine wp_region_held_drew (S:=fun W=>W.cell? ⟨w.heap.size,0,none⟩=some (.slice a n cap)) (by kernel_rfl) ?_ (fun hHeld=>?_)
  ·(try dsimp only);exact HS.o _ (by with_reducible (repeat refine .drew ?_);exact dn)
  refine tq 0 rfl ?_;simp only [si];refine tq 1 rfl ?_;simp only [si];refine tq 2 rfl ?_;simp only [si];refine tq 3 rfl ?_;simp only [si];refine tq 4 rfl ?_;simp only [si];refine rd 5 rfl fun K hK=>?_
  go_simp
  go_at_call 25
  refine (d5.o _ (by with_reducible (repeat refine .drew ?_);exact dn)).mono ?_;rintro e w6 ⟨rfl,d6⟩;clear d5;try dsimp only
  refine hK.out _ _ ?_ (fun hHeld=>?_)
  ·(try dsimp only);exact HS.o _ (by with_reducible (repeat refine .drew ?_);exact d6)
  clear hK K;try simp only [si]
  refine rd 6 rfl fun K hK=>?_
  go_simp
  go_at_call 159
  refine (d2.o _ (by with_reducible (repeat refine .drew ?_);exact d6)).mono ?_;rintro e w7 ⟨ra,rc,rn,r,rfl,en,d9,cu,bu,dq⟩;clear d2;try dsimp only
  refine hK.out _ _ ?_ (fun hHeld=>?_)
  ·(try dsimp only);exact HS.o _ (by with_reducible (repeat refine .drew ?_);exact dq)
  clear hK K;try simp only [si]
  refine rd 7 rfl fun K hK=>?_
  go_simp
  go_at_call 158
  refine (ey.o _ ra rc rn r (by with_reducible (repeat refine .drew ?_);exact dq) en (d9.o.below (by first|with_reducible exact kB|with_reducible exact kB.drew|with_reducible exact kB.drew.drew)) bu cu).mono ?_;rintro e w8 ⟨xa,xc,xn,x,rfl,dk,dr,cb,ch⟩;clear ey;try dsimp only
  refine hK.out _ _ ?_ (fun hHeld=>?_)
  ·(try dsimp only);exact HS.o _ (by with_reducible (repeat refine .drew ?_);exact ch)
  clear hK K;try simp only [si]
  refine tq 8 rfl ?_;simp only [si];refine wpAnyH_done (by kernel_rfl) ?_ _
  have Hx:He (Calls prog 160 #[.slice xa xn xc,.slice ea sl ec] w8 fun e w'=>∃ v,e=.returned v/\aU w' w8.heap.size v (lL x H H.length)/\Below w8.heap.size w8 w'):=by
   rw [dk.o,b2.o];exact FD w8 (by rw [cb.o];have:=(eb.o r bu.o).len u.o;omega) (by rw [<- b2.o];omega) dr.o (bw.o.below ch)
  have bv:He (lE E n L m (lL x H H.length)):=by unfold He;rw [cb.o];exact bx.o r cu.o bu.o
  clear bx eb cu bu d9 en dr cb dk bw;have cj:=bn.trans (ch.mono bn.size);generalize lL x H H.length=fin at *
  go_wp2_with fail
  refine Hx.o.mono ?_;rintro e w9 ⟨v9,rfl,dy,gn⟩
  have HP:He (lM w E n L m (.returned v9) w9):=by
   refine ⟨v9,fin,rfl,?_,bv.o,cj.trans (gn.mono cj.size)⟩;obtain ⟨q1,q2⟩:=dy;exact ⟨q1,q2.imp id fun ⟨g,cap,f6,e,hg,r⟩=>⟨g,cap,f6,e,nZ cj.size hg,r⟩⟩
  clear dy bv Hx;go_wp2
  go_ret;exact HP.o
variable {l:List aE}
def TW (l:List aE)(kind key:ByteArray):ByteArray:=if qV l then aQ l kind key else ⟨#[]⟩
def DR (l:List aE)(kind key:ByteArray):Bool:=qV l && !((aQ l kind key).toList == [])
theorem PO (kind key:ByteArray)(w:World)(h:dF w a cap l) :
  Calls prog 84 #[.slice a l.length cap,.string kind,.string key] w fun e w'=>e=.returned (.tuple #[.string (TW l kind key),.bool (DR l kind key)])/\Below w.heap.size w w':=by
 go_enter func84,ntmps84
 go_wp2_with fail
 refine (pN _ h).mono ?_;rintro e w1 ⟨rfl,u⟩;cases hst:qV l
 case false =>
  have G:He (TW l kind key=⟨#[]⟩/\DR l kind key=false):=⟨by simp [TW,hst],by simp [DR,hst]⟩;go_wp2
  refine bodyPost_ret (v:=.tuple #[.string ⟨#[]⟩,.bool false]) (by simp [results,results84,go_sem]) rfl ⟨by rw [G.o.1,G.o.2],u⟩
 case true =>
  have G:He (TW l kind key=aQ l kind key/\DR l kind key=!((aQ l kind key).toList == [])):=⟨by simp [TW,hst],by simp [DR,hst]⟩
  go_wp2_with fail
  refine (iL kind key _ (h.below u)).mono ?_;rintro e w2 ⟨rfl,I⟩;have H:=u.trans (I.mono u.size);generalize aQ l kind key=id at *;cases he:(id.toList == [])
  ·rw [he] at G
   go_wp2
   refine bodyPost_ret (v:=.tuple #[.string id,.bool true]) (by simp [results,results84,go_sem]) rfl ⟨by rw [G.o.1,G.o.2];rfl,H⟩
  rw [he] at G;go_wp2
  refine bodyPost_ret (v:=.tuple #[.string id,.bool false]) (by simp [results,results84,go_sem]) rfl ⟨by rw [G.o.1,G.o.2];rfl,H⟩
variable {i q:Nat}{bs:Nat->Nat}{A:Nat->List aE}{e:Ev}
def tZ (k n i:Nat):Nat:=if k % 3=0 then n - 1 - i % n else n - 1 - (k / 8 % 4+i * 3) % n
theorem CL (h:0<n):tZ k n i<n:=by
 unfold tZ;split <;> omega
def DJ (k:Nat):Nat:=if 5<=k % 8 then 2+k % 8 / 7 else 1
theorem EV (k:Nat):DJ k<=3/\1<=DJ k:=by
 unfold DJ;split <;> omega
def kH (k n:Nat):Nat->List Nat
 | 0=>[]
 | i+1=>if tZ k n i ∈ kH k n i then kH k n i else kH k n i ++ [tZ k n i]
theorem pC (k n:Nat):∀ i,(kH k n i).length<=i
 | 0=>nL
 | i+1=>by
  have:=pC k n i;unfold kH;split
  ·omega
  simp;omega
theorem rQ {k n:Nat}(u:0<n):∀ i,∀ x ∈ kH k n i,x<n
 | 0,x,h=>by cases h
 | i+1,x,h=>by
  unfold kH at h;split at h
  ·exact rQ u i x h
  rcases List.mem_append.1 h with h|h
  ·exact rQ u i x h
  rw [List.mem_singleton] at h;subst h;exact CL u
def qwB:ByteArray:=⟨#[113,119,101,114,116,121,117,105,111,112,97,115,100,102]⟩
def LH (k n:Nat):ByteArray:=⟨#[36]⟩ ++ qwB.extract ((k+n) % 14) ((k+n) % 14+1) ++ gY n
def gw0 (k n:Nat)(E:Nat->Ev):Ev :=
 { id:=LH k n,sd:=vR (k / 4 % 16 % 5),ty:=⟨#[]⟩,key:=⟨#[]⟩,val:=⟨#[]⟩,st:=false,tm:=100+((k % 7:Nat):Int),np:=(kH k n (DJ k)).length,na:=0,ng:=0,Pv:=aG ((kH k n (DJ k)).map fun p=>(E p).id),Av:=aG [],M:=gM [],L:=gL [] }
def FA (bs:Nat->Nat)(m q:Nat)(E:Nat->Ev)(n:Nat):Ev:=lG bs m (aN m q) (gw0 (eD bs m q) n E)
def iG (b u:List aE):Nat->List ByteArray
 | 0=>[]
 | j+1=>if DR b (aI u j).ty (aI u j).key=true then iG b u j ++ [TW b (aI u j).ty (aI u j).key] else iG b u j
theorem oU (b u:List aE):∀ j,(iG b u j).length<=j
 | 0=>nL
 | j+1=>by
  have:=oU b u j;unfold iG;split
  ·simp;omega
  omega
def XF (k:Nat)(E:Nat->Ev)(l:List ByteArray):List ByteArray:=if l.length=0\/k % 32=31 then [(E 0).id] else l
def YC (k n:Nat)(E:Nat->Ev)(l:List ByteArray):List ByteArray:=if k % 16=7/\bD (aG l) l.length (E (n - 1)).id=false then l ++ [(E (n - 1)).id] else l
def YN (bs:Nat->Nat)(m q:Nat)(E:Nat->Ev)(n:Nat)(b:List aE):Ev :=
 { FA bs m q E n with na:=(YC (eD bs m q) n E (XF (eD bs m q) E (iG b (cD (FA bs m q E n)) (cD (FA bs m q E n)).length))).length,Av:=aG (YC (eD bs m q) n E (XF (eD bs m q) E (iG b (cD (FA bs m q E n)) (cD (FA bs m q E n)).length))) }
def JC (bs:Nat->Nat)(m q:Nat)(E:Nat->Ev)(n:Nat)(A:Nat->List aE)(e:Ev):Prop :=
 ∃ b,lE E n (fun i=>A ((kH (eD bs m q) n (DJ (eD bs m q))).getD i 0)) (kH (eD bs m q) n (DJ (eD bs m q))).length b/\e=YN bs m q E n b
theorem JC.uniq {G:Ev}(h:JC bs m q E n A e)(I:JC bs m q E n A G):e=G:=by
 obtain ⟨b,H,rfl⟩:=h;obtain ⟨J,u,rfl⟩:=I;rw [H.uniq u]
def gwQ (bs:Nat->Nat)(m q:Nat):Nat:=nA bs m (aN m q)
theorem QE (h:∀ i,i<l.length->(aI l i).id.size<=maxLen)(kind key:ByteArray):(TW l kind key).size<=maxLen:=by
 unfold TW aQ jI
 repeat' split
 all_goals first
  | exact nz
  | (refine h _ ?_;simp only [Int.toNat_natCast];assumption)
  | omega
theorem qE {l G:List aE}(h:∀ i,i<l.length->(aI l i).id.size<=maxLen):∀ j,∀ s ∈ iG l G j,s.size<=maxLen
 | 0,s,u=>by cases u
 | j+1,s,u=>by
  unfold iG at u;split at u
  ·rcases List.mem_append.1 u with u|u
   ·exact qE h j s u
   rw [List.mem_singleton] at u;subst u;exact QE h _ _
  exact qE h j s u
theorem FT (e:Ev):(cD e).length<=8:=by
 have:=(xB e).1;unfold cD jF
 repeat' split
 all_goals (simp;try omega)
theorem KE (i:Nat):(nM i).size<=8:=by
 unfold nM;split <;> decide
theorem pV (bs:Nat->Nat)(m k bits q:Nat):∀ i x,x ∈ (cM bs m k bits q i).2->x.1.size<=8
 | 0,x,h=>by cases h
 | i+1,x,h=>by
  unfold cM at h;split at h
  ·rcases List.mem_append.1 h with h|h
   ·exact pV bs m k bits q i x h
   rw [List.mem_singleton] at h;subst h;exact KE i
  exact pV bs m k bits q i x h
theorem rU {l:List (ByteArray × Int)}(h:∀ x ∈ l,x.1.size<=8)(i:Nat):(gM l i).size<=8:=by
 unfold gM
 by_cases hi:i<l.length
 ·rw [List.getD_eq_getElem?_getD,List.getElem?_eq_getElem hi];exact h _ (List.getElem_mem hi)
 rw [List.getD_eq_getElem?_getD,List.getElem?_eq_none (by omega)];exact nz
theorem BC (bs:Nat->Nat)(m q:Nat)(e:Ev):(lG bs m q e).id=e.id/\(lG bs m q e).sd=e.sd/\(lG bs m q e).tm=e.tm/\(lG bs m q e).np=e.np/\(lG bs m q e).Pv=e.Pv/\(lG bs m q e).na=e.na/\(lG bs m q e).Av=e.Av:=by
 unfold lG LL
 repeat' split
 all_goals exact ⟨rfl,rfl,rfl,rfl,rfl,rfl,rfl⟩
theorem CS (i:Nat):(PJ i).size<=100:=by
 unfold PJ
 repeat' split
 all_goals decide
theorem DV (i:Nat):(NG i).size<=100:=by
 unfold NG
 repeat' split
 all_goals decide
theorem mB (k:Nat):(vR k).size<=100:=by rw [AC];decide
theorem tW (k:Nat)(h:k<256):((⟨#[116]⟩:ByteArray) ++ gY (k / 16)).size<=100:=by
 rw [ByteArray.size_append]
 have:=jS (k / 16) (by omega)
 show 1+_<=100
 omega
theorem KT (I:eD bs m q<256)(J:e.sd.size<=100)(G:e.key.size<=100)(H:e.val.size<=100)(u:∀ i,(e.M i).size<=100):(lG bs m q e).ty.size<=100/\(lG bs m q e).key.size<=100/\(lG bs m q e).val.size<=100/\∀ i,((lG bs m q e).M i).size<=100:=by
 unfold lG LL
 repeat' split
 ·exact ⟨by dsimp only;decide,mB _,CS _,u⟩
 ·exact ⟨by dsimp only;decide,J,by dsimp only;decide,u⟩
 ·exact ⟨by dsimp only;decide,G,H,fun i=>nZ (rU (pV _ _ _ _ _ _) i) (by decide)⟩
 ·exact ⟨by dsimp only;decide,G,DV _,u⟩
 ·exact ⟨by dsimp only;decide,mB _,tW _ I,u⟩
 ·exact ⟨by dsimp only;decide,G,tW _ I,u⟩
 exact ⟨by dsimp only;decide,G,H,u⟩
end Go.Proofs.YtpfeegcdlikegaaGreat
