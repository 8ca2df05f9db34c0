import Derived.Test.YtpfeegcdlikegaaGreatSpS
import Derived.Deep.RegionLaw
set_option maxHeartbeats 16000000
set_option maxRecDepth 100000
namespace Go.Proofs.YtpfeegcdlikegaaGreat
open Go.RowKit Go.Proofs.Tryz
variable {W w' wr:World}{l s:List aE}{a ia sa:Option Addr}{m n be oe sc cap icap:Nat}{E:Nat->Ev}{S:Nat->ByteArray}
def pO (w:World)(l:List aE)(e:Ending)(w':World):Prop:=∃ a c,e=.returned (.slice a l.length c)/\dF w' a c l/\Below w.heap.size w w'
def VE (G:World)(l:List aE)(v:Value)(wr:World):Prop:=∃ a c H u,v=.slice a H c/\He (H=u.length)/\He (dF wr a c u)/\He (u=l)/\Below G.heap.size G wr
def YW (wr:World)(l:List aE)(e:Ending)(w':World):Prop:=∃ a c G u,e=.returned (.slice a G c)/\He (G=u.length)/\He (dF w' a c u)/\He (u=l)/\Below wr.heap.size wr w'
theorem MG {e:Ending}(u:Below wr.heap.size wr W)(h:∃ v,e=.returned v/\aU w' W.heap.size v l/\Below W.heap.size W w')(I:bK l):YW wr l e w':=by
 obtain ⟨v,rfl,H,hb⟩:=h;obtain ⟨a,c,rfl,G⟩:=H.sl (fun i hi=>I.at i hi);exact ⟨a,c,_,l,rfl,rfl,G,rfl,u.trans (hb.mono u.size)⟩
theorem DF (w:World)(G:dF w sa sc s) :
  Calls prog 158 #[.agg #[.slice a n cap],.slice sa s.length sc,.slice ia 0 icap] w (pO w s):=by
 have u:∀ o,Below w.heap.size w (w.alloc o):=fun o=>bA
 have H:He (∀ o,pO w s (.returned (.slice sa s.length sc)) (w.alloc o)):=fun o=>⟨sa,sc,rfl,G.below (u o),u o⟩
 clear G
 go_enter func158,ntmps158
 go_wp2_with fail
 refine wp_loop_rounds 1 ?_;rw [rounds_succ];go_wp2
 go_ret;exact H.o _
theorem KL (w:World)(af:aF E n=true)(cv:bB E n s)(hm:m<=300)(dh:∀ i,i<m->0<=aL E n (S i))(h:dW w (some ⟨be,oe,none⟩) n cap E)(eb:be<w.heap.size)(db:∀ q,q<n->mT w be (oe+q * 10) (E q))(hs:dF w sa sc s)(cw:dE w ia m icap S) :
  Calls prog 158 #[.agg #[.slice (some ⟨be,oe,none⟩) n cap],.slice sa s.length sc,.slice ia m icap] w (pO w (eA E n s (kY S m))):=by
 obtain ⟨wb,b4⟩:∃ wb,wb=w.alloc (.cells #[.slice (some ⟨be,oe,none⟩) n cap] 25):=⟨_,rfl⟩;have ax:Below w.heap.size w wb:=by rw [b4];exact bA
 have ic:w.heap.size<wb.heap.size:=by rw [b4];simp
 have dj:He (∀ wx,Below wb.heap.size wb wx->wx.cell? ⟨w.heap.size,0,none⟩=some (.slice (some ⟨be,oe,none⟩) n cap)):=fun wx hx=>by subst b4;exact aK (hx.mono (by simp)) 0
 have gk:=dJ af;have e4:He (∀ i,i<m->∃ y,y<n/\aL E n (S i)=(y:Int)/\(E y).id=S i):=fun i fm=>iY (dh i fm)
 have Hz:He (∀ i,i<n->(E i).ty.size<=maxLen/\(E i).key.size<=maxLen/\(E i).id.size<=maxLen):=fun i hi=>by
  obtain ⟨_,_,_,_,_,_,_,a8⟩:=db i hi;exact ⟨a8.hty,a8.hkey,a8.hid⟩
 have eo:He (∀ k,k<=m->bB E n (eA E n s (kY S k))):=fun k hk=>bB.tryL af cv (fun t ht=>by
  obtain ⟨i,hi,rfl⟩:=GJ.1 ht;exact dh i (by omega))
 have HE:He (dW w (some ⟨be,oe,none⟩) n cap E):=h;have fq:He (∀ q,q<n->mT w be (oe+q * 10) (E q)):=db;have HI:He (dE w ia m icap S):=cw;have u:He (_):=af;have fo:He (dF wb sa sc s):=hs.below ax;clear af h cw dh cv hs db
 go_enter func158,ntmps158
 go_wp2_with fail
 rw [<- b4];clear b4;generalize hsl:s.length=sl;have e2:He (sl=s.length):=hsl.symm;clear hsl
 go_loopw [1,7] (fun v i wr=>∃ k:Nat,k<=m/\i=.int .i64 (k:Int)/\VE wb (eA E n s (kY S k)) v wr) (fun _ i _=>m - (intOf i).toNat)
 case atStart=>exact ⟨0,nz,rfl,sa,sc,sl,s,rfl,e2.o,fo.o,rfl,kB⟩
 case round =>
  obtain ⟨k,hk,rfl,ta,tc,tn,l,rfl,aw,bo,ba,hB⟩:=hrel;have bp:=ax.trans (hB.mono ax.size);have fi:wb.heap.size<=wr.heap.size:=hB.size;have x0:=dj.o _ hB;have cb:bB E n l:=by rw [ba.o];exact eo.o k hk
  by_cases dx:k<m
  ·rcases HI.o.cells with h0|⟨bi,oi,rfl,du,dt⟩
   ·omega
   obtain ⟨y,hy,ey,dy⟩:=e4.o k dx;have dc:wr.cell? ⟨bi,oi+k,none⟩=some (.string (E y).id):=by rw [dy];exact (bp.cell (by exact du)).trans (dt k dx)
   obtain ⟨pa,cp,aa,ca,ga,cg,em,a8⟩:=fq.o y hy;have au:(E y).code=0:=cL u.o hy
   have b6:He (∀ W,Below wr.heap.size wr W->Calls prog 171 #[.agg #[.slice (some ⟨be,oe,none⟩) n cap],.string (E y).id] W (fun x w'=>x=.returned ((E y).val' pa cp aa ca ga cg)/\Below W.heap.size W w')):=fun W G=>by
    have hw:=bp.trans (G.mono bp.size);exact PK _ W (HE.o.below hw) (nT eb hw.size) (em.below hw eb) hy (aP u.o hy)
   have aj:Below wr.heap.size wr wr:=kB;have Z:Below wr.heap.size wr (wr.alloc (.cells #[.string ⟨#[]⟩,.string ⟨#[]⟩,.string ⟨#[]⟩,.bool false,.string ⟨#[]⟩,.int .i64 0,.slice none 0 0,.slice none 0 0,.string ⟨#[]⟩,.slice none 0 0] 30)):=bA;have gd:bi<wr.heap.size:=nT du bp.size;have gy:w.heap.size<wr.heap.size:=by omega
   have cx:(wr.alloc (.cells #[.string ⟨#[]⟩,.string ⟨#[]⟩,.string ⟨#[]⟩,.bool false,.string ⟨#[]⟩,.int .i64 0,.slice none 0 0,.slice none 0 0,.string ⟨#[]⟩,.slice none 0 0] 30)).drew.cell? ⟨bi,oi+k,none⟩=some (.string (E y).id):=(Z.drew.cell (by show bi<wr.heap.size;omega)).trans dc;have fr:(wr.alloc (.cells #[.string ⟨#[]⟩,.string ⟨#[]⟩,.string ⟨#[]⟩,.bool false,.string ⟨#[]⟩,.int .i64 0,.slice none 0 0,.slice none 0 0,.string ⟨#[]⟩,.slice none 0 0] 30)).drew.cell? ⟨w.heap.size,0,none⟩=some (.slice (some ⟨be,oe,none⟩) n cap):=(Z.drew.cell (by show w.heap.size<wr.heap.size;omega)).trans x0
   have bc:He ((E y).st=false\/lJ (iZ E n (jB E n l (E y))) (E y)≠0->eA E n s (kY S (k+1))=l):=fun hn=>by
    rw [ba.o] at hn ⊢;exact XM ey hn
   have ao:He ((E y).st=true->lJ (iZ E n (jB E n l (E y))) (E y)=0->eA E n s (kY S (k+1))=dG l ⟨(E y).ty,(E y).key,(E y).id⟩ false):=fun h1 h2=>by
    rw [ba.o] at h2 ⊢;exact TX ey h1 h2
   have a6:He (∀ j,bB E n (jE E n l (E y) j)):=AV u.o cb hy;have cj:He (cI w (E y) pa cp aa ca ga cg):=a8;have bf:He (∀ W,Below w.heap.size w W->Calls prog 83 #[(E y).val' pa cp aa ca ga cg] W (rM W (E y))):=fun W G=>GL (E y) W (cj.o.below G)
   have ae:He (∀ W kind key,Below w.heap.size w W->Calls prog 173 #[.agg #[.slice (some ⟨be,oe,none⟩) n cap],(E y).val' pa cp aa ca ga cg,.string kind,.string key] W fun x w'=>x=.returned (.string (yM E n (uN kind key) (E y)))/\Below W.heap.size W w'):=fun W kind key G=>uV kind key W u.o hy (HE.o.below G) (cj.o.below G)
   have bb:He (∀ W va vc,Below w.heap.size w W->dF W va vc (jB E n l (E y))->Calls prog 16 #[.agg #[.slice (some ⟨be,oe,none⟩) n cap],.slice va (jB E n l (E y)).length vc,(E y).val' pa cp aa ca ga cg] W fun x w'=>x=.returned (.int .i64 (lJ (iZ E n (jB E n l (E y))) (E y)))/\Below W.heap.size W w'):=fun W va vc G hv=>xQ (E y) pa cp aa ca ga cg W (rJ (HE.o.below G) hv) (xC u.o ((a6.o _).fitB u.o)) (cj.o.below G) au
   have a5:He (cD (E y)≠[]):=by
    unfold He cD;rw [if_pos au];split <;> simp
   have df:=Hz.o y hy
   have bw:He (gB E n ⟨(E y).ty,(E y).key,(E y).id⟩=true\/(E y).st=false):=by
    cases hst:(E y).st
    ·exact Or.inr rfl
    exact Or.inl (mG u.o hy hst)
   clear dt ey dy em a8 au;obtain ⟨ev,cy⟩:∃ ev,ev=E y:=⟨_,rfl⟩;rw [<- cy] at b6 dc cx bc ao a6 bf ae bb a5 df bw;clear cy cj;have ft:He (ev.ty.size<=maxLen/\ev.key.size<=maxLen/\ev.id.size<=maxLen):=df;clear df
   go_wp2_with fail
   go_cut [8] from 13 to 91 (fun pv wx=>TI wr ev pa cp aa ca ga cg pv wx)
   case first =>
    clear bc ao a6 bf ae bb a5 bw ft bo ba aw cb
    go_region_with (first
     | (go_at_call 171;refine (b6.o _ (by with_reducible (repeat refine .drew ?_);exact aj)).mono ?_;rintro e w2 ⟨bm,ad⟩;have di:e=.returned (.agg #[.string ev.id,.string ev.sd,.string ev.ty,.bool ev.st,.string ev.key,.int .i64 ev.tm,.slice pa ev.np cp,.slice aa ev.na ca,.string ev.val,.slice ga ev.ng cg]):=bm;clear bm;subst di;have dk:Below wr.heap.size wr w2:=Below.trans (by with_reducible (repeat refine .drew ?_);exact aj) ad)
     | (go_at_call 171;(refine (b6.o _ (by with_reducible (repeat refine .drew ?_);exact Z)).mono ?_;rintro e w2 ⟨bm,ad⟩;have di:e=.returned (.agg #[.string ev.id,.string ev.sd,.string ev.ty,.bool ev.st,.string ev.key,.int .i64 ev.tm,.slice pa ev.np cp,.slice aa ev.na ca,.string ev.val,.slice ga ev.ng cg]):=bm;clear bm;subst di;have ff:wr.heap.size<w2.heap.size:=nT (by simp) ad.size;have dk:Below wr.heap.size wr w2:=Below.trans (by with_reducible (repeat refine .drew ?_);exact Z) (ad.mono (by simp));have hz:∀ o,o<10->∃ v,w2.cell? ⟨wr.heap.size,o,none⟩=some v:=fun o ho=>(yK wr o ho).imp fun v hv=>(ad.cell (p:=⟨wr.heap.size,o,none⟩) (by simp)).trans hv;obtain ⟨z0,y0⟩:=hz 0 (by decide);obtain ⟨z1,y1⟩:=hz 1 (by decide);obtain ⟨z2,y2⟩:=hz 2 (by decide);obtain ⟨z3,y3⟩:=hz 3 (by decide);obtain ⟨z4,y4⟩:=hz 4 (by decide);obtain ⟨z5,y5⟩:=hz 5 (by decide);obtain ⟨z6,y6⟩:=hz 6 (by decide);obtain ⟨z7,y7⟩:=hz 7 (by decide);obtain ⟨z8,y8⟩:=hz 8 (by decide);obtain ⟨z9,y9⟩:=hz 9 (by decide);clear hz;have hf:∀ o,w2.frozen? ⟨wr.heap.size,o,none⟩=false:=fun o=>(ad.frozen (p:=⟨wr.heap.size,o,none⟩) (by simp)).trans (kF rfl))))
    all_goals (try go_wp2_with fail)
    all_goals go_meet
    all_goals first
     | with_reducible exact MN dk
     | with_reducible exact NB dk ff y0 y1 y2 y3 y4 y5 y6 y7 y8 y9
   case rest =>
    obtain ⟨B,rfl,U,cf,cd⟩:=hcut;obtain ⟨w5,fg⟩:∃ w5:World,w5=wc:=⟨_,rfl⟩;subst fg;have ai:=hB.trans (cd.mono fi);have er:=ax.trans (ai.mono ax.size);have hl:=dj.o _ ai;obtain ⟨c0,c1,c2,c3,c4,c5,c6,c7,c8,c9⟩:=cf;simp only [Nat.zero_add] at c1 c2 c3 c4 c5 c6 c7 c8 c9;have a2:He (dF w5 ta tc l):=bo.o.below cd;clear dc cx fr Z b6 x0 bo aj;cases hst:ev.st
    case false =>
     rw [hst] at c3;have HN:He (eA E n s (kY S (k+1))=l):=bc.o (Or.inl hst);clear bc ao a6 bf ae bb a5 bw hst;go_wp2
     go_roundw
     case rel=>exact ⟨k+1,by omega,by go_num,ta,tc,tn,l,rfl,aw.o,a2.o,HN.o.symm,ai⟩
     simp [intOf];omega
    case true =>
     have hc:He (gB E n ⟨ev.ty,ev.key,ev.id⟩=true):=by
      rcases bw.o with h1|h1
      ·exact h1
      rw [hst] at h1;cases h1
     have eh:ev.val' pa cp aa ca ga cg=.agg #[.string ev.id,.string ev.sd,.string ev.ty,.bool true,.string ev.key,.int .i64 ev.tm,.slice pa ev.np cp,.slice aa ev.na ca,.string ev.val,.slice ga ev.ng cg]:=by
      show (.agg #[.string ev.id,.string ev.sd,.string ev.ty,.bool ev.st,.string ev.key,.int .i64 ev.tm,.slice pa ev.np cp,.slice aa ev.na ca,.string ev.val,.slice ga ev.ng cg]:Value)=.agg #[.string ev.id,.string ev.sd,.string ev.ty,.bool true,.string ev.key,.int .i64 ev.tm,.slice pa ev.np cp,.slice aa ev.na ca,.string ev.val,.slice ga ev.ng cg]
      rw [hst]
     rw [hst] at c3;have N:He (∀ W,Below w5.heap.size w5 W->W.cell? ⟨w.heap.size,0,none⟩=some (.slice (some ⟨be,oe,none⟩) n cap)/\W.cell? ⟨B,0,none⟩=some (.string ev.id)/\W.cell? ⟨B,1,none⟩=some (.string ev.sd)/\W.cell? ⟨B,2,none⟩=some (.string ev.ty)/\W.cell? ⟨B,3,none⟩=some (.bool true)/\W.cell? ⟨B,4,none⟩=some (.string ev.key)/\W.cell? ⟨B,5,none⟩=some (.int .i64 ev.tm)/\W.cell? ⟨B,6,none⟩=some (.slice pa ev.np cp)/\W.cell? ⟨B,7,none⟩=some (.slice aa ev.na ca)/\W.cell? ⟨B,8,none⟩=some (.string ev.val)/\W.cell? ⟨B,9,none⟩=some (.slice ga ev.ng cg)):=fun W G=>⟨dj.o _ (ai.trans (G.mono ai.size)),(G.cell (by exact U)).trans c0,(G.cell (by exact U)).trans c1,(G.cell (by exact U)).trans c2,(G.cell (by exact U)).trans c3,(G.cell (by exact U)).trans c4,(G.cell (by exact U)).trans c5,(G.cell (by exact U)).trans c6,(G.cell (by exact U)).trans c7,(G.cell (by exact U)).trans c8,(G.cell (by exact U)).trans c9⟩
     have a4:He (lJ (iZ E n (jB E n l ev)) ev≠0->eA E n s (kY S (k+1))=l):=fun hn=>bc.o (Or.inr hn)
     have ag:He (lJ (iZ E n (jB E n l ev)) ev=0->eA E n s (kY S (k+1))=dG l ⟨ev.ty,ev.key,ev.id⟩ false):=ao.o hst;rw [eh] at bf ae bb;have cl:He (Calls prog 83 #[.agg #[.string ev.id,.string ev.sd,.string ev.ty,.bool true,.string ev.key,.int .i64 ev.tm,.slice pa ev.np cp,.slice aa ev.na ca,.string ev.val,.slice ga ev.ng cg]] w5 (rM w5 ev)):=bf.o w5 er;clear bc ao bf bw hst eh
     go_wp2_with fail
     refine cl.o.mono ?_;rintro e w6 ⟨v6,rfl,dq,d5⟩;have h4:=cd.trans (d5.mono cd.size);obtain ⟨na,nc,e6,ct⟩:=dq.sl;subst e6;rcases ct.cells with hq|⟨nb,no,rfl,d4,d8,eg⟩
     ·exact absurd hq a5.o
     have d2:He (∀ i,i<(cD ev).length->w6.cell? ⟨nb,no+i * 2,none⟩=some (.string (aI (cD ev) i).ty)/\w6.cell? ⟨nb,no+i * 2+1,none⟩=some (.string (aI (cD ev) i).key)):=fun i hi=>⟨d8 i hi,eg i hi⟩
     have gb:=UD ev;obtain ⟨nl,a3⟩:∃ nl,nl=(cD ev).length:=⟨_,rfl⟩;rw [<- a3] at gb;have d9:He (nl=(cD ev).length):=a3;rw [<- a3];clear a3 d8 eg ct dq cl;have ea:Below w5.heap.size w5 w6:=d5;have ds:aU (w6.alloc (.cells #[] 66)) w6.heap.size (.slice (some ⟨w6.heap.size,0,none⟩) 0 0) []:=aU.new w6 _ nL;obtain ⟨wn,ch⟩:∃ wn,wn=w6.alloc (.cells #[] 66):=⟨_,rfl⟩;have bn:Below w6.heap.size w6 wn:=by rw [ch];exact bA
     have dv:=ea.trans (bn.mono ea.size)
     have ep:He (dF wn (some ⟨w6.heap.size,0,none⟩) 0 []):=by
      rw [ch];obtain ⟨a1,h9,e1,fa⟩:=ds.sl (fun i hi=>absurd hi (Nat.not_lt_zero _));injection e1 with e5 _ fp
      subst e5 fp;exact fa
     clear ds
     go_wp2_with fail
     rw [<- ch];clear ch
     go_loopw [10,11] (fun v jv wi=>∃ j:Nat,j<=nl/\jv=.int .i64 (j:Int)/\VE wn (jE E n l ev j) v wi) (fun _ jv _=>nl - (intOf jv).toNat)
     case atStart=>exact ⟨0,nz,rfl,_,0,0,[],rfl,rfl,ep.o,rfl,kB⟩
     case round =>
      clear ep;obtain ⟨j,hj,rfl,br,bk,gn,vl,rfl,de,cz,ce,ab⟩:=hrel;have ef:=bn.trans (ab.mono bn.size);have am:=dv.trans (ab.mono dv.size);have en:=ai.trans (am.mono ai.size);have b0:=ax.trans (en.mono ax.size)
      by_cases ed:j<nl
      ·obtain ⟨y1,y2⟩:=d2.o j (by rw [<- d9.o];exact ed)
       have dg:He (∀ z,z=(if (aQ l (aI (cD ev) j).ty (aI (cD ev) j).key).toList.isEmpty then yM E n (uN (aI (cD ev) j).ty (aI (cD ev) j).key) ev else aQ l (aI (cD ev) j).ty (aI (cD ev) j).key)->dG vl ⟨(aI (cD ev) j).ty,(aI (cD ev) j).key,z⟩ false=jE E n l ev (j+1)):=fun z hz=>by
        subst hz;rw [ce.o];rfl
       obtain ⟨x,hx⟩:∃ x,x=aI (cD ev) j:=⟨_,rfl⟩;rw [<- hx] at y1 y2 dg;clear hx
       have ah:He (∀ W,Below wr.heap.size wr W->W.cell? ⟨nb,no+j * 2,none⟩=some (.string x.ty)/\W.cell? ⟨nb,no+j * 2+1,none⟩=some (.string x.key)):=fun W G=>by
        have dr:=ef.trans (G.mono ef.size);exact ⟨(dr.cell (by exact d4)).trans y1,(dr.cell (by exact d4)).trans y2⟩
       have b2:He (∀ W,Below wr.heap.size wr W->W.cell? ⟨w.heap.size,0,none⟩=some (.slice (some ⟨be,oe,none⟩) n cap)/\W.cell? ⟨B,0,none⟩=some (.string ev.id)/\W.cell? ⟨B,1,none⟩=some (.string ev.sd)/\W.cell? ⟨B,2,none⟩=some (.string ev.ty)/\W.cell? ⟨B,3,none⟩=some (.bool true)/\W.cell? ⟨B,4,none⟩=some (.string ev.key)/\W.cell? ⟨B,5,none⟩=some (.int .i64 ev.tm)/\W.cell? ⟨B,6,none⟩=some (.slice pa ev.np cp)/\W.cell? ⟨B,7,none⟩=some (.slice aa ev.na ca)/\W.cell? ⟨B,8,none⟩=some (.string ev.val)/\W.cell? ⟨B,9,none⟩=some (.slice ga ev.ng cg)/\W.cell? ⟨nb,no+j * 2,none⟩=some (.string x.ty)/\W.cell? ⟨nb,no+j * 2+1,none⟩=some (.string x.key)):=fun W G=>by
        obtain ⟨f0,f1,f2,f3,f4,f5,f6,f7,f8,f9,gc⟩:=N.o W (am.trans (G.mono am.size));exact ⟨f0,f1,f2,f3,f4,f5,f6,f7,f8,f9,gc,ah.o W G⟩
       have d7:(vl).length<=1000:=by rw [ce.o];have:=(a6.o j).len u.o;omega
       have an:∀ z,z=(if (aQ l x.ty x.key).toList.isEmpty then yM E n (uN x.ty x.key) ev else aQ l x.ty x.key)->∀ W,Below wr.heap.size wr W->Calls prog 24 #[.slice br gn bk,eS ⟨x.ty,x.key,z⟩,.bool false] W (YW wr (jE E n l ev (j+1))):=fun z hz W G=>by
        rw [de.o];refine (nH ⟨x.ty,x.key,z⟩ false W (by omega) (cz.o.below G)).mono fun e w' hp=>?_
        rw [dg.o z hz] at hp;exact MG G hp ((a6.o (j+1)).ok Hz.o)
       have bv:∀ W,Below wr.heap.size wr W->Calls prog 25 #[.slice ta tn tc,.string x.ty,.string x.key] W fun e w'=>e=.returned (.string (aQ l x.ty x.key))/\Below wr.heap.size wr w':=fun W G=>by
        rw [aw.o];have fu:=am.trans (G.mono am.size);refine (iL x.ty x.key W (a2.o.below fu)).mono ?_;rintro e w' ⟨rfl,hb⟩;exact ⟨rfl,G.trans (hb.mono G.size)⟩
       have bx:∀ W,Below wr.heap.size wr W->Calls prog 173 #[.agg #[.slice (some ⟨be,oe,none⟩) n cap],.agg #[.string ev.id,.string ev.sd,.string ev.ty,.bool true,.string ev.key,.int .i64 ev.tm,.slice pa ev.np cp,.slice aa ev.na ca,.string ev.val,.slice ga ev.ng cg],.string x.ty,.string x.key] W fun e w'=>e=.returned (.string (yM E n (uN x.ty x.key) ev))/\Below wr.heap.size wr w':=fun W G=>by
        refine (ae.o W x.ty x.key (b0.trans (G.mono b0.size))).mono ?_;rintro e w' ⟨rfl,hb⟩;exact ⟨rfl,G.trans (hb.mono G.size)⟩
       obtain ⟨ay,bu⟩:∃ ay,ay=aQ l x.ty x.key:=⟨_,rfl⟩;obtain ⟨b9,bq⟩:∃ b9,b9=yM E n (uN x.ty x.key) ev:=⟨_,rfl⟩;rw [<- bu,<- bq] at an;rw [<- bu] at bv;rw [<- bq] at bx;have cc:He (_):=bv;have dd:He (_):=bx;have aj:Below wr.heap.size wr wr:=kB;have gx:(j:Int)<9223372036854775807:=by omega
       clear bu bq bv bx y1 y2 dg d7;cases hemp:ay.toList.isEmpty
       case false =>
        have bt:He (∀ z,z=ay->∀ W,Below wr.heap.size wr W->Calls prog 24 #[.slice br gn bk,eS ⟨x.ty,x.key,z⟩,.bool false] W (YW wr (jE E n l ev (j+1)))):=fun z hz=>an z (by rw [hz,hemp];rfl)
        clear an;have N:=b2
        go_wp2_with fail
        refine wp_region_held_drew (S:=fun W=>W.cell? ⟨nb,no+j * 2,none⟩=some (.string x.ty)/\W.cell? ⟨nb,no+j * 2+1,none⟩=some (.string x.key)) (by kernel_rfl) ?_ (fun hHeld=>?_)
        ·(try dsimp only);exact ah.o _ (by with_reducible (repeat refine .drew ?_);exact aj)
        refine tq 0 rfl ?_;simp only [si];refine tq 1 rfl ?_;simp only [si];refine tq 2 rfl ?_;simp only [si];refine tq 3 rfl ?_;simp only [si];refine tq 4 rfl ?_;simp only [si];refine tq 5 rfl ?_;simp only [si];refine tq 6 rfl ?_;simp only [si];refine tq 7 rfl ?_;simp only [si];refine tq 8 rfl ?_;simp only [si];refine tq 9 rfl ?_;simp only [si];refine tq 10 rfl ?_;simp only [si];refine rd 11 rfl fun K hK=>?_
        go_simp
        go_at_call 25
        refine (cc.o _ (by with_reducible (repeat refine .drew ?_);exact aj)).mono ?_;rintro e w8 ⟨rfl,Y⟩;try dsimp only
        refine hK.out _ _ ?_ (fun hHeld=>?_)
        ·(try dsimp only);exact ah.o _ (by with_reducible (repeat refine .drew ?_);exact Y)
        clear hK K;try simp only [si]
        refine tq 12 rfl ?_;simp only [si];refine wpAnyH_done (by kernel_rfl) ?_ _
        go_wp2_with fail
        refine wp_region_held_drew (S:=fun W=>W.cell? ⟨nb,no+j * 2,none⟩=some (.string x.ty)/\W.cell? ⟨nb,no+j * 2+1,none⟩=some (.string x.key)) (by kernel_rfl) ?_ (fun hHeld=>?_)
        ·(try dsimp only);exact ah.o _ (by with_reducible (repeat refine .drew ?_);exact Y)
        refine tq 0 rfl ?_;simp only [si];refine tq 1 rfl ?_;simp only [si];refine tq 2 rfl ?_;simp only [si];refine tq 3 rfl ?_;simp only [si];refine tq 4 rfl ?_;simp only [si];refine tq 5 rfl ?_;simp only [si];refine tq 6 rfl ?_;simp only [si];refine tq 7 rfl ?_;simp only [si];refine tq 8 rfl ?_;simp only [si];refine tq 9 rfl ?_;simp only [si];refine tq 10 rfl ?_;simp only [si];refine tq 11 rfl ?_;simp only [si];refine tq 12 rfl ?_;simp only [si];refine rd 13 rfl fun K hK=>?_
        go_simp
        go_at_call 24
        refine (bt.o ay rfl _ (by with_reducible (repeat refine .drew ?_);exact Y)).mono ?_;rintro e e8 ⟨va,vc,vn,ak,rfl,H,J,I,O⟩;try dsimp only
        refine hK.out _ _ ?_ (fun hHeld=>?_)
        ·(try dsimp only);exact ah.o _ (by with_reducible (repeat refine .drew ?_);exact O)
        clear hK K;try simp only [si]
        refine tq 14 rfl ?_;simp only [si];refine wpAnyH_done (by kernel_rfl) ?_ _;clear cc dd bt
        (try go_wp2)
        first
         | exact ⟨⟨j+1,by omega,by go_num,va,vc,vn,ak,rfl,H,J,I.o,ab.trans (O.mono ab.size)⟩,by simp [intOf];omega⟩
         | exact ⟨⟨j+1,by omega,by go_num,va,vc,vn,ak,rfl,H,J.o.below kB.drew,I.o,(ab.trans (O.mono ab.size)).drew⟩,by simp [intOf];omega⟩
       case true =>
        have bt:He (∀ z,z=b9->∀ W,Below wr.heap.size wr W->Calls prog 24 #[.slice br gn bk,eS ⟨x.ty,x.key,z⟩,.bool false] W (YW wr (jE E n l ev (j+1)))):=fun z hz=>an z (by rw [hz,hemp];rfl)
        clear an;have N:=b2
        have fk:ay=⟨#[]⟩:=by
         refine wT ?_
         have:ay.toList=[]:=by simpa using hemp
         rw [ByteArray.toList_eq] at this;exact this
        subst fk
        go_wp2_with fail
        refine wp_region_held_drew (S:=fun W=>W.cell? ⟨nb,no+j * 2,none⟩=some (.string x.ty)/\W.cell? ⟨nb,no+j * 2+1,none⟩=some (.string x.key)) (by kernel_rfl) ?_ (fun hHeld=>?_)
        ·(try dsimp only);exact ah.o _ (by with_reducible (repeat refine .drew ?_);exact aj)
        refine tq 0 rfl ?_;simp only [si];refine tq 1 rfl ?_;simp only [si];refine tq 2 rfl ?_;simp only [si];refine tq 3 rfl ?_;simp only [si];refine tq 4 rfl ?_;simp only [si];refine tq 5 rfl ?_;simp only [si];refine tq 6 rfl ?_;simp only [si];refine tq 7 rfl ?_;simp only [si];refine tq 8 rfl ?_;simp only [si];refine tq 9 rfl ?_;simp only [si];refine tq 10 rfl ?_;simp only [si];refine rd 11 rfl fun K hK=>?_
        go_simp
        go_at_call 25
        refine (cc.o _ (by with_reducible (repeat refine .drew ?_);exact aj)).mono ?_;rintro e w8 ⟨rfl,Y⟩;try dsimp only
        refine hK.out _ _ ?_ (fun hHeld=>?_)
        ·(try dsimp only);exact ah.o _ (by with_reducible (repeat refine .drew ?_);exact Y)
        clear hK K;try simp only [si]
        refine tq 12 rfl ?_;simp only [si];refine wpAnyH_done (by kernel_rfl) ?_ _
        go_wp2_with fail
        refine wp_region_held_drew (S:=fun W=>W.cell? ⟨w.heap.size,0,none⟩=some (.slice (some ⟨be,oe,none⟩) n cap)/\W.cell? ⟨B,0,none⟩=some (.string ev.id)/\W.cell? ⟨B,1,none⟩=some (.string ev.sd)/\W.cell? ⟨B,2,none⟩=some (.string ev.ty)/\W.cell? ⟨B,3,none⟩=some (.bool true)/\W.cell? ⟨B,4,none⟩=some (.string ev.key)/\W.cell? ⟨B,5,none⟩=some (.int .i64 ev.tm)/\W.cell? ⟨B,6,none⟩=some (.slice pa ev.np cp)/\W.cell? ⟨B,7,none⟩=some (.slice aa ev.na ca)/\W.cell? ⟨B,8,none⟩=some (.string ev.val)/\W.cell? ⟨B,9,none⟩=some (.slice ga ev.ng cg)/\W.cell? ⟨nb,no+j * 2,none⟩=some (.string x.ty)/\W.cell? ⟨nb,no+j * 2+1,none⟩=some (.string x.key)) (by kernel_rfl) ?_ (fun hHeld=>?_)
        ·(try dsimp only);exact N.o _ (by with_reducible (repeat refine .drew ?_);exact Y)
        refine tq 0 rfl ?_;simp only [si];refine tq 1 rfl ?_;simp only [si];refine tq 2 rfl ?_;simp only [si];refine tq 3 rfl ?_;simp only [si];refine tq 4 rfl ?_;simp only [si];refine tq 5 rfl ?_;simp only [si];refine tq 6 rfl ?_;simp only [si];refine tq 7 rfl ?_;simp only [si];refine tq 8 rfl ?_;simp only [si];refine tq 9 rfl ?_;simp only [si];refine tq 10 rfl ?_;simp only [si];refine tq 11 rfl ?_;simp only [si];refine rd 12 rfl fun K hK=>?_
        go_simp
        go_at_call 173
        refine (dd.o _ (by with_reducible (repeat refine .drew ?_);exact Y)).mono ?_;rintro e w9 ⟨rfl,dl⟩;try dsimp only
        refine hK.out _ _ ?_ (fun hHeld=>?_)
        ·(try dsimp only);exact N.o _ (by with_reducible (repeat refine .drew ?_);exact dl)
        clear hK K;try simp only [si]
        refine tq 13 rfl ?_;simp only [si];refine wpAnyH_done (by kernel_rfl) ?_ _
        go_wp2_with fail
        refine wp_region_held_drew (S:=fun W=>W.cell? ⟨nb,no+j * 2,none⟩=some (.string x.ty)/\W.cell? ⟨nb,no+j * 2+1,none⟩=some (.string x.key)) (by kernel_rfl) ?_ (fun hHeld=>?_)
        ·(try dsimp only);exact ah.o _ (by with_reducible (repeat refine .drew ?_);exact dl)
        refine tq 0 rfl ?_;simp only [si];refine tq 1 rfl ?_;simp only [si];refine tq 2 rfl ?_;simp only [si];refine tq 3 rfl ?_;simp only [si];refine tq 4 rfl ?_;simp only [si];refine tq 5 rfl ?_;simp only [si];refine tq 6 rfl ?_;simp only [si];refine tq 7 rfl ?_;simp only [si];refine tq 8 rfl ?_;simp only [si];refine tq 9 rfl ?_;simp only [si];refine tq 10 rfl ?_;simp only [si];refine tq 11 rfl ?_;simp only [si];refine tq 12 rfl ?_;simp only [si];refine rd 13 rfl fun K hK=>?_
        go_simp
        go_at_call 24
        refine (bt.o b9 rfl _ (by with_reducible (repeat refine .drew ?_);exact dl)).mono ?_;rintro e e8 ⟨va,vc,vn,ak,rfl,H,J,I,O⟩;try dsimp only
        refine hK.out _ _ ?_ (fun hHeld=>?_)
        ·(try dsimp only);exact ah.o _ (by with_reducible (repeat refine .drew ?_);exact O)
        clear hK K;try simp only [si]
        refine tq 14 rfl ?_;simp only [si];refine wpAnyH_done (by kernel_rfl) ?_ _;clear cc dd bt
        (try go_wp2)
        first
         | exact ⟨⟨j+1,by omega,by go_num,va,vc,vn,ak,rfl,H,J,I.o,ab.trans (O.mono ab.size)⟩,by simp [intOf];omega⟩
         | exact ⟨⟨j+1,by omega,by go_num,va,vc,vn,ak,rfl,H,J.o.below kB.drew,I.o,(ab.trans (O.mono ab.size)).drew⟩,by simp [intOf];omega⟩
      have fw:nl=j:=by omega
      subst fw;have ci:He (vl=jB E n l ev):=by unfold He jB;rw [<- d9.o];exact ce.o
      have HA:He (Calls prog 16 #[.agg #[.slice (some ⟨be,oe,none⟩) n cap],.slice br gn bk,.agg #[.string ev.id,.string ev.sd,.string ev.ty,.bool true,.string ev.key,.int .i64 ev.tm,.slice pa ev.np cp,.slice aa ev.na ca,.string ev.val,.slice ga ev.ng cg]] wr fun x w'=>x=.returned (.int .i64 (lJ (iZ E n (jB E n l ev)) ev))/\Below wr.heap.size wr w'):=by
       have:=bb.o wr br bk b0 (by rw [<- ci.o];exact cz.o);rw [<- ci.o,<- de.o] at this;rw [<- ci.o];exact this
      obtain ⟨q0,q1,q2,q3,q4,q5,q6,q7,q8,q9,el⟩:=N.o _ am;obtain ⟨al,cn⟩:∃ al,al=lJ (iZ E n (jB E n l ev)) ev:=⟨_,rfl⟩;rw [<- cn] at HA a4 ag;clear cn bb ae cz ce ci de
      go_wp2_with fail
      refine HA.o.mono ?_;rintro e w7 ⟨rfl,e9⟩;have b8:=am.trans (e9.mono am.size);have bz:=ai.trans (b8.mono ai.size)
      by_cases Z:al=0
      ·subst Z
       have d1:He (Calls prog 24 #[.slice ta tn tc,eS ⟨ev.ty,ev.key,ev.id⟩,.bool false] w7 (YW w7 (eA E n s (kY S (k+1))))):=by
        rw [aw.o];refine (nH ⟨ev.ty,ev.key,ev.id⟩ false w7 (by have:=cb.len u.o;omega) (a2.o.below b8)).mono fun e w' hp=>?_
        rw [<- ag.o rfl] at hp;exact MG kB hp ((eo.o (k+1) (by omega)).ok Hz.o)
       obtain ⟨p0,p1,p2,p3,p4,p5,p6,p7,p8,p9,ii⟩:=N.o _ b8;clear HA ag a4 q0 q1 q2 q3 q4 q5 q6 q7 q8 q9 el
       go_wp2_with fail
       refine d1.o.mono ?_;rintro e w8 ⟨va,vc,vn,ak,rfl,H,J,I,Y⟩;clear d1;go_wp2
       first
        | exact ⟨⟨k+1,by omega,by go_num,va,vc,vn,ak,rfl,H,J,I.o,bz.trans (Y.mono bz.size)⟩,by simp [intOf];omega⟩
        | exact ⟨⟨k+1,by omega,by go_num,va,vc,vn,ak,rfl,H,J.o.below kB.drew,I.o,(bz.trans (Y.mono bz.size)).drew⟩,by simp [intOf];omega⟩
      have HN:He (eA E n s (kY S (k+1))=l):=a4.o Z;have ih:(al == 0)=false:=by simpa using Z
      have d6:He (dF w7 ta tc l):=a2.o.below b8;clear HA ag a4 Z q0 q1 q2 q3 q4 q5 q6 q7 q8 q9 el;go_wp2
      exact ⟨⟨k+1,by omega,by go_num,ta,tc,tn,l,rfl,aw.o,d6.o,HN.o.symm,bz⟩,by simp [intOf];omega⟩
  have fn:m=k:=by omega
  subst fn
  have HP:He (pO w (eA E n s (kY S m)) (.returned (.slice ta tn tc)) wr):=by
   rw [aw.o,<- ba.o];exact ⟨ta,tc,rfl,bo.o,bp⟩
  clear bo ba aw cb;go_wp2
  go_ret;exact HP.o
theorem zY (w:World)(u:aF E n=true)(G:bB E n s)(Y:m<=300)(I:∀ i,i<m->0<=aL E n (S i))(h:dW w a n cap E)(U:dF w sa sc s)(H:dE w ia m icap S) :
  Calls prog 158 #[.agg #[.slice a n cap],.slice sa s.length sc,.slice ia m icap] w (pO w (eA E n s (kY S m))):=by
 rcases Nat.eq_zero_or_pos m with rfl|O
 ·exact DF w U
 rcases h.cells with Z|⟨be,oe,rfl,N,J⟩
 ·have:=I 0 O
  have:=cJ E (S 0) n;omega
 exact KL w u G Y I h N J U H
end Go.Proofs.YtpfeegcdlikegaaGreat
