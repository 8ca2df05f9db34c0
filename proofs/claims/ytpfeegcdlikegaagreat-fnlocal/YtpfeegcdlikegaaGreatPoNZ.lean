import Derived.Test.YtpfeegcdlikegaaGreatPoAZ
set_option maxHeartbeats 16000000
set_option maxRecDepth 100000
namespace Go.Proofs.YtpfeegcdlikegaaGreat
open Go.RowKit Go.Proofs.Tryz
variable {E:Nat->Ev}{k n p q cap:Nat}{out:List Nat}{a:Option Addr}
abbrev fS (E:Nat->Ev)(l:List Nat):Nat->ByteArray:=fun k=>(E (lX l k).toNat).id
theorem mI {l:List Nat}(hr:aF E n=true)(I:∀ p ∈ l,p<n)(hp:p<n):bD (fS E l) l.length (E p).id=true↔p ∈ l:=by
 have key:∀ m,m<=l.length->(bD (fS E l) m (E p).id=true↔∃ k,k<m/\l.getD k 0=p):=fun m=>by
  induction m with
  | zero=>intro _;simp [bD]
  | succ m ih =>
   intro J;rw [bD,Bool.or_eq_true,ih (by omega)]
   have hq:l.getD m 0<n:=I _ (by
    rw [List.getD,List.getElem?_eq_getElem (by omega:m<l.length)];exact List.getElem_mem _)
   have G:((fS E l m).toList == (E p).id.toList)=true↔l.getD m 0=p:=by
    show ((E (lX l m).toNat).id.toList == (E p).id.toList)=true↔_
    unfold lX;rw [Int.toNat_natCast];constructor
    ·intro h
     have H:=aP hr hp;rw [<- bC h,aP hr hq] at H;omega
    intro h;rw [h];simp
   rw [G];constructor
   ·rintro (⟨k,u,e⟩|e)
    ·exact ⟨k,by omega,e⟩
    exact ⟨m,by omega,e⟩
   rintro ⟨k,u,e⟩
   by_cases h:k=m
   ·subst h;exact Or.inr e
   exact Or.inl ⟨k,by omega,e⟩
 rw [key _ nL];constructor
 ·rintro ⟨k,u,e⟩
  rw [<- e,List.getD,List.getElem?_eq_getElem u];exact List.getElem_mem _
 intro h;obtain ⟨k,u,e⟩:=List.mem_iff_getElem.1 h;exact ⟨k,u,by rw [List.getD,List.getElem?_eq_getElem u];exact e⟩
theorem TK {L:List Nat}(hr:aF E n=true)(I:∀ p ∈ L,p<n)(H:∀ p ∈ out,p<n)(hp:p<n):gE (E p).Av (fS E L) L.length (fS E out) out.length (E p).na=true↔Rdy E n (fun q=>q ∈ L) out p:=by
 rw [vB];constructor
 ·rintro h q ⟨k,G,e⟩ hq
  obtain ⟨J,hid⟩:=GD hr hp G e;have u:=h k G;rw [<- hid,mI hr I (by omega),mI hr H (by omega)] at u;exact u hq
 intro h k G u;obtain ⟨j,N,e,hid⟩:=cZ hr hp G;rw [<- hid] at u ⊢;rw [mI hr I (by omega)] at u;rw [mI hr H (by omega)];exact h j ⟨k,G,e⟩ u
def FB (w:World)(E:Nat->Ev)(n:Nat)(L out:List Nat)(e:Ending)(w':World):Prop:=∃ s,e=.returned (.string s)/\((∃ p,UM E n (fun q=>q ∈ L) (KG E n) out p/\s=(E p).id)\/∀ p,¬ mU E n (fun q=>q ∈ L) out p)/\Below w.heap.size w w'
def tY (E:Nat->Ev)(n:Nat)(L out:List Nat)(k:Nat)(b:Int):Prop :=
 (b=-1/\∀ j,j<k->j<L.length->¬ mU E n (fun q=>q ∈ L) out (L.getD j 0)) \/
 ∃ p:Nat,b=(p:Int)/\p<n/\mU E n (fun q=>q ∈ L) out p/\∀ j,j<k->j<L.length->mU E n (fun q=>q ∈ L) out (L.getD j 0)->L.getD j 0=p\/jW E (KG E n) p (L.getD j 0)
theorem tY.skip {L:List Nat}{b:Int}(h:tY E n L out k b)(I:¬ mU E n (fun q=>q ∈ L) out (L.getD k 0)):tY E n L out (k+1) b:=by
 rcases h with ⟨u,G⟩|⟨p,u,G,N,U⟩
 ·refine Or.inl ⟨u,fun j O H=>?_⟩
  by_cases e:j=k
  ·subst e;exact I
  exact G j (by omega) H
 refine Or.inr ⟨p,u,G,N,fun j O H J=>?_⟩
 by_cases e:j=k
 ·subst e;exact absurd J I
 exact U j (by omega) H J
theorem tY.first {L:List Nat}(h:tY E n L out k (-1))(hp:p<n)(G:L.getD k 0=p)(I:mU E n (fun q=>q ∈ L) out p):tY E n L out (k+1) (p:Int):=by
 rcases h with ⟨_,H⟩|⟨q,O,_⟩
 ·refine Or.inr ⟨p,rfl,hp,I,fun j N J u=>?_⟩
  by_cases e:j=k
  ·subst e;exact Or.inl G
  exact absurd u (H j (by omega) J)
 omega
theorem tY.keep {L:List Nat}(hr:aF E n=true)(h:tY E n L out k (q:Int))(hp:p<n)(J:L.getD k 0=p)(I:¬ jW E (KG E n) p q):tY E n L out (k+1) (q:Int):=by
 rcases h with ⟨U,_⟩|⟨y,U,H,N,O⟩
 ·omega
 have:y=q:=by omega
 subst this;refine Or.inr ⟨y,rfl,H,N,fun j Z Y u=>?_⟩
 by_cases e:j=k
 ·subst e
  rw [J]
  by_cases G:p=y
  ·exact Or.inl G
  rcases jW.total (D:=KG E n) hr hp H G with h5|h5
  ·exact absurd h5 I
  exact Or.inr h5
 exact O j (by omega) Y u
theorem tY.take {L:List Nat}(h:tY E n L out k (q:Int))(hp:p<n)(H:L.getD k 0=p)(N:mU E n (fun q=>q ∈ L) out p)(G:jW E (KG E n) p q):tY E n L out (k+1) (p:Int):=by
 rcases h with ⟨J,_⟩|⟨y,J,Z,U,I⟩
 ·omega
 have:y=q:=by omega
 subst this;refine Or.inr ⟨p,rfl,hp,N,fun j Y O u=>?_⟩
 by_cases e:j=k
 ·subst e;exact Or.inl H
 rcases I j (by omega) O u with h5|h5
 ·rw [h5];exact Or.inr G
 exact Or.inr (G.trans h5)
theorem tY.fin {L:List Nat}{b:Int}(h:tY E n L out L.length b):(∃ p,UM E n (fun q=>q ∈ L) (KG E n) out p/\nK E b=(E p).id)\/∀ p,¬ mU E n (fun q=>q ∈ L) out p:=by
 have u:∀ p,mU E n (fun q=>q ∈ L) out p->∃ j,j<L.length/\L.getD j 0=p:=fun p H=>by
  obtain ⟨k,I,e⟩:=List.mem_iff_getElem.1 H.1;exact ⟨k,I,by rw [List.getD,List.getElem?_eq_getElem I];exact e⟩
 rcases h with ⟨_,J⟩|⟨p,U,J,N,O⟩
 ·refine Or.inr fun p H=>?_
  obtain ⟨j,G,rfl⟩:=u p H;exact J j G G H
 refine Or.inl ⟨p,⟨N,fun q hq=>?_⟩,by unfold nK;rw [if_pos (by omega),U,Int.toNat_natCast]⟩;obtain ⟨j,G,rfl⟩:=u q hq;exact O j G G hq
theorem RD {la:Option Addr}{lc:Nat}{L:List Nat}{oa:Option Addr}{oc:Nat}(w:World)(ap:aF E n=true)(hL:∀ p ∈ L,p<n)(ho:∀ p ∈ out,p<n)(h:dW w a n cap E)(hl:dE w la L.length lc (fS E L))(hO:dE w oa out.length oc (fS E out)) :
  Calls prog 172 #[.agg #[.slice a n cap],.slice la L.length lc,.slice oa out.length oc] w (FB w E n L out):=by
 have ek:=nZ hl.le hl.max;unfold maxLen at ek;obtain ⟨wb,a5⟩:∃ wb,wb=w.alloc (.cells #[.slice a n cap] 25):=⟨_,rfl⟩;have b9:Below w.heap.size w wb:=by rw [a5];exact bA
 have fc:wb.heap.size=w.heap.size+1:=by rw [a5];simp
 have b8:He (∀ wx,Below (w.heap.size+1) wb wx->wx.cell? ⟨w.heap.size,0,none⟩=some (.slice a n cap)):=fun wx hx=>by subst a5;exact aK hx 0
 have H:He (_):=ap;have HE:He (dW w a n cap E):=h;have Hl:He (dE w la L.length lc (fS E L)):=hl;have HO:He (dE w oa out.length oc (fS E out)):=hO;have dh:He (∀ p ∈ L,p<n):=hL;have dc:He (∀ p ∈ out,p<n):=ho;clear ap h hl hO hL ho
 go_enter func172,ntmps172
 go_wp2_with fail
 rw [<- a5];clear a5
 go_loopw [7,8] (fun s i wr=>∃ (k:Nat) (b:Int),k<=L.length/\i=.int .i64 k/\s=.string (nK E b)/\He (tY E n L out k b)/\Below (w.heap.size+1) wb wr) (fun _ i _=>L.length - (intOf i).toNat)
 case atStart=>exact ⟨0,-1,nz,rfl,rfl,Or.inl ⟨rfl,fun j hj=>by omega⟩,kB⟩
 case round =>
  obtain ⟨k,b,hk,rfl,rfl,hB,bh⟩:=hrel;have ao:=b9.trans (bh.mono (by omega));have bi:w.heap.size+1<=wr.heap.size:=by have:=bh.size;omega
  have x0:=b8.o _ bh
  by_cases b6:k<L.length
  ·rcases Hl.o.cells with h0|⟨bl,ol,rfl,df,cv⟩
   ·omega
   obtain ⟨y,hy,ey⟩:∃ y,y<n/\L.getD k 0=y:=⟨_,dh.o _ (by rw [List.getD,List.getElem?_eq_getElem b6];exact List.getElem_mem _),rfl⟩;rcases HE.o.cells with h0|⟨be,oe,rfl,bj,b5⟩
   ·omega
   obtain ⟨pa,cp,aa,ca,ga,cg,dd,cu⟩:=b5 y hy
   have bg:wr.cell? ⟨bl,ol+k,none⟩=some (.string (E y).id):=by
    have:=(ao.cell (p:=⟨bl,ol+k,none⟩) df).trans (cv k b6);rw [this]
    show some (Value.string (E (lX L k).toNat).id)=_
    unfold lX;rw [ey,Int.toNat_natCast]
   have bf:He (∀ W,Below wr.heap.size wr W->Calls prog 171 #[.agg #[.slice (some ⟨be,oe,none⟩) n cap],.string (E y).id] W (fun x w'=>x=.returned ((E y).val' pa cp aa ca ga cg)/\Below W.heap.size W w')):=fun W hW=>by
    have hw:=ao.trans (hW.mono ao.size);exact PK _ W (HE.o.below hw) (nT bj hw.size) (dd.below hw bj) hy (aP H.o hy)
   have ch:Below wr.heap.size wr wr:=kB;have aw:Below wr.heap.size wr (wr.alloc (.cells #[.string ⟨#[]⟩,.string ⟨#[]⟩,.string ⟨#[]⟩,.bool false,.string ⟨#[]⟩,.int .i64 0,.slice none 0 0,.slice none 0 0,.string ⟨#[]⟩,.slice none 0 0] 30)):=bA;have ce:bl<wr.heap.size:=nT df ao.size;have bw:(wr.alloc (.cells #[.string ⟨#[]⟩,.string ⟨#[]⟩,.string ⟨#[]⟩,.bool false,.string ⟨#[]⟩,.int .i64 0,.slice none 0 0,.slice none 0 0,.string ⟨#[]⟩,.slice none 0 0] 30)).drew.cell? ⟨bl,ol+k,none⟩=some (.string (E y).id):=(aw.drew.cell (by show bl<wr.heap.size;omega)).trans bg;have ei:(wr.alloc (.cells #[.string ⟨#[]⟩,.string ⟨#[]⟩,.string ⟨#[]⟩,.bool false,.string ⟨#[]⟩,.int .i64 0,.slice none 0 0,.slice none 0 0,.string ⟨#[]⟩,.slice none 0 0] 30)).drew.cell? ⟨w.heap.size,0,none⟩=some (.slice (some ⟨be,oe,none⟩) n cap):=(aw.drew.cell (by show w.heap.size<wr.heap.size;omega)).trans x0
   have HC:He (∀ b1 b2,bD (fS E out) out.length (E y).id=b1->gE (E y).Av (fS E L) L.length (fS E out) out.length (E y).na=b2->(mU E n (fun q=>q ∈ L) out y↔b1=false/\b2=true)):=fun b1 b2 e1 e2=>by
    have q1:=mI H.o dc.o hy;have q2:=TK H.o dh.o dc.o hy;rw [e1] at q1;rw [e2] at q2;have ds:y ∈ L:=by rw [<- ey,List.getD,List.getElem?_eq_getElem b6];exact List.getElem_mem _
    constructor
    ·rintro ⟨_,h2,h3⟩
     refine ⟨?_,q2.2 h3⟩;cases b1
     ·rfl
     exact absurd (q1.1 rfl) h2
    rintro ⟨h1,h2⟩;refine ⟨ds,fun h=>?_,q2.1 h2⟩
    have:=q1.2 h;rw [h1] at this;cases this
   have a4:He (L.getD k 0=y):=ey;have cy:He (cI w (E y) pa cp aa ca ga cg):=cu;have el:He (∀ q,q<n->mT w be (oe+q * 10) (E q)):=b5;have am:He (∀ W q pb dp ab da gb dg,q<n->Below w.heap.size w W->cI W (E q) pb dp ab da gb dg->Calls prog 178 #[.agg #[.slice (some ⟨be,oe,none⟩) n cap],(E y).val' pa cp aa ca ga cg,(E q).val' pb dp ab da gb dg] W fun x w'=>x=.returned (.bool (nY E n y q))/\Below W.heap.size W w'):=fun W q pb dp ab da gb dg hq hW ej=>SH W H.o hy hq (HE.o.below hW) (cy.o.below hW) ej
   have ad:He (∀ W,Below w.heap.size w W->Calls prog 80 #[.slice oa out.length oc,.string (E y).id] W fun e w'=>e=.returned (.bool (bD (fS E out) out.length (E y).id))/\w'=W):=fun W hW=>kM _ W (HO.o.below hW)
   have an:He (∀ W,Below w.heap.size w W->Calls prog 177 #[(E y).val' pa cp aa ca ga cg,.slice (some ⟨bl,ol,none⟩) L.length lc,.slice oa out.length oc] W fun x w'=>x=.returned (.bool (gE (E y).Av (fS E L) L.length (fS E out) out.length (E y).na))/\Below W.heap.size W w'):=fun W hW=>TY W (cy.o.below hW).ha (Hl.o.below hW) (HO.o.below hW)
   have ax:He ((E y).id=nK E (y:Int)):=by unfold He nK;rw [if_pos (by omega),Int.toNat_natCast]
   have ai:He (∀ q,q<n->(nY E n y q=true↔jW E (KG E n) y q)):=fun q hq=>PL H.o hy hq
   clear b5 dd cu cv ey;generalize bD (fS E out) out.length (E y).id=h1 at *;generalize gE (E y).Av (fS E L) L.length (fS E out) out.length (E y).na=h2 at *;have aj:He (mU E n (fun q=>q ∈ L) out y↔h1=false/\h2=true):=HC.o _ _ rfl rfl;clear HC;obtain ⟨ev,ay⟩:∃ ev,ev=E y:=⟨_,rfl⟩;rw [<- ay] at bf bg bw am ad an ax;have eu:He (ev=E y):=ay;clear ay
   go_wp2_with fail
   go_cut [9] from 10 to 48 (fun pv wx=>TI wr ev pa cp aa ca ga cg pv wx)
   case first =>
    go_region_with (first
     | (go_at_call 171;refine (bf.o _ (by with_reducible (repeat refine .drew ?_);exact ch)).mono ?_;rintro e w2 ⟨Z,O⟩;have aq:e=.returned (.agg (ec ev pa cp aa ca ga cg)):=Z;clear Z;subst aq;have cb:Below wr.heap.size wr w2:=Below.trans (by with_reducible (repeat refine .drew ?_);exact ch) O)
     | (go_at_call 171;(refine (bf.o _ (by with_reducible (repeat refine .drew ?_);exact aw)).mono ?_;rintro e w2 ⟨Z,O⟩;have aq:e=.returned (.agg (ec ev pa cp aa ca ga cg)):=Z;clear Z;subst aq;have dv:wr.heap.size<w2.heap.size:=nT (by simp) O.size;have cb:Below wr.heap.size wr w2:=Below.trans (by with_reducible (repeat refine .drew ?_);exact aw) (O.mono (by simp));have hz:∀ o,o<10->∃ v,w2.cell? ⟨wr.heap.size,o,none⟩=some v:=fun o ho=>(yK wr o ho).imp fun v hv=>(O.cell (p:=⟨wr.heap.size,o,none⟩) (by simp)).trans hv;obtain ⟨z0,y0⟩:=hz 0 (by decide);obtain ⟨z1,y1⟩:=hz 1 (by decide);obtain ⟨z2,y2⟩:=hz 2 (by decide);obtain ⟨z3,y3⟩:=hz 3 (by decide);obtain ⟨z4,y4⟩:=hz 4 (by decide);obtain ⟨z5,y5⟩:=hz 5 (by decide);obtain ⟨z6,y6⟩:=hz 6 (by decide);obtain ⟨z7,y7⟩:=hz 7 (by decide);obtain ⟨z8,y8⟩:=hz 8 (by decide);obtain ⟨z9,y9⟩:=hz 9 (by decide);clear hz;have hf:∀ o,w2.frozen? ⟨wr.heap.size,o,none⟩=false:=fun o=>(O.frozen (p:=⟨wr.heap.size,o,none⟩) (by simp)).trans (kF rfl))))
    all_goals (try go_wp2_with fail)
    all_goals go_meet
    all_goals first
     | with_reducible exact MN cb
     | with_reducible exact NB cb dv y0 y1 y2 y3 y4 y5 y6 y7 y8 y9
   case rest =>
    obtain ⟨B,rfl,N,bk,ag⟩:=hcut;obtain ⟨w5,dx⟩:∃ w5:World,w5=wc:=⟨_,rfl⟩;subst dx;have a2:=bh.trans (ag.mono bi);have ae:=b9.trans (a2.mono (by omega));have dt:=b8.o _ a2;have bx:w5.cell? ⟨bl,ol+k,none⟩=some (.string ev.id):=(ag.cell (p:=⟨bl,ol+k,none⟩) ce).trans bg;obtain ⟨c0,c1,c2,c3,c4,c5,c6,c7,c8,c9⟩:=bk;clear bg bw ei aw bf x0;cases h1
    case true =>
     have U:He (tY E n L out (k+1) b):=hB.o.skip (by rw [a4.o];exact fun h=>by have:=(aj.o.1 h).1;cases this);clear an am aj ai hB
     go_wp2_with fail
     refine (ad.o _ ae).mono ?_;rintro e w6 ⟨rfl,rfl⟩;go_wp2
     go_roundw
     case rel=>exact ⟨k+1,b,by omega,by go_num,rfl,U,a2⟩
     simp [intOf];omega
    case false =>
     cases h2
     case false =>
      have U:He (tY E n L out (k+1) b):=hB.o.skip (by rw [a4.o];exact fun h=>by have:=(aj.o.1 h).2;cases this);clear am aj ai hB
      go_wp2_with fail
      refine (ad.o _ ae).mono ?_;rintro e w6 ⟨rfl,rfl⟩
      go_wp2_with fail
      refine (an.o _ ae).mono ?_;rintro e Y ⟨rfl,G⟩;go_wp2
      go_roundw
      case rel=>exact ⟨k+1,b,by omega,by go_num,rfl,U,a2.trans (G.mono (nZ bi ag.size))⟩
      simp [intOf];omega
     case true =>
      have cl:He (mU E n (fun q=>q ∈ L) out y):=aj.o.2 ⟨rfl,rfl⟩;clear aj
      go_wp2_with fail
      refine (ad.o _ ae).mono ?_;rintro e w6 ⟨rfl,rfl⟩
      go_wp2_with fail
      refine (an.o _ ae).mono ?_;rintro e Y ⟨rfl,G⟩;have ak:=a2.trans (G.mono (nZ bi ag.size));have ah:=b9.trans (ak.mono (by omega));have cc:=b8.o _ ak;have dq:w.heap.size+1<=Y.heap.size:=nZ (nZ bi ag.size) G.size;have bq:Y.cell? ⟨bl,ol+k,none⟩=some (.string ev.id):=(G.cell (p:=⟨bl,ol+k,none⟩) (by show bl<w6.heap.size;have:=ag.size;omega)).trans bx;have d0:=(G.cell (p:=⟨B,0,none⟩) N).trans c0;have d1:=(G.cell (p:=⟨B,0+1,none⟩) N).trans c1;have d2:=(G.cell (p:=⟨B,0+2,none⟩) N).trans c2;have d3:=(G.cell (p:=⟨B,0+3,none⟩) N).trans c3;have d4:=(G.cell (p:=⟨B,0+4,none⟩) N).trans c4;have d5:=(G.cell (p:=⟨B,0+5,none⟩) N).trans c5;have d6:=(G.cell (p:=⟨B,0+6,none⟩) N).trans c6;have d7:=(G.cell (p:=⟨B,0+7,none⟩) N).trans c7;have d8:=(G.cell (p:=⟨B,0+8,none⟩) N).trans c8;have d9:=(G.cell (p:=⟨B,0+9,none⟩) N).trans c9;clear c0 c1 c2 c3 c4 c5 c6 c7 c8 c9 bx dt ad an;have u:B<Y.heap.size:=nT N G.size;have cz:w.heap.size<Y.heap.size:=by omega
      simp only [Nat.zero_add] at d0 d1 d2 d3 d4 d5 d6 d7 d8 d9;rcases Classical.em (b=-1) with b7|b7
      ·subst b7
       have U:He (tY E n L out (k+1) (y:Int)):=hB.o.first hy a4.o cl.o;have e0:nK E (-1)=⟨#[]⟩:=rfl;rw [e0];clear am ai hB
       go_wp2_with fail
       go_region
       all_goals
        go_wp2
        go_roundw
        case rel=>exact ⟨k+1,(y:Int),by omega,by go_num,by rw [ax.o],U,by first|exact ak|exact ak.drew|exact ak.drew.drew⟩
        simp [intOf];omega
      obtain ⟨q,rfl,hq⟩:∃ q:Nat,b=(q:Int)/\q<n:=by
       rcases hB.o with ⟨h1,_⟩|⟨q,h1,h2,_⟩
       ·exact absurd h1 b7
       exact ⟨q,h1,h2⟩
      obtain ⟨pb,dp,ab,da,gb,dg,b4,bv⟩:=el.o q hq
      have a3:He (∀ W,Below Y.heap.size Y W->Calls prog 171 #[.agg #[.slice (some ⟨be,oe,none⟩) n cap],.string (E q).id] W (fun x w'=>x=.returned ((E q).val' pb dp ab da gb dg)/\Below W.heap.size W w')):=fun W hW=>by
       have hw:=ah.trans (hW.mono ah.size);exact PK _ W (HE.o.below hw) (nT bj hw.size) (b4.below hw bj) hq (aP H.o hq)
      have au:He (∀ W,Below Y.heap.size Y W->Calls prog 178 #[.agg #[.slice (some ⟨be,oe,none⟩) n cap],ev.val' pa cp aa ca ga cg,(E q).val' pb dp ab da gb dg] W fun x w'=>x=.returned (.bool (nY E n y q))/\Below W.heap.size W w'):=fun W hW=>by
       have hw:=ah.trans (hW.mono ah.size);exact am.o W q pb dp ab da gb dg hq hw (bv.below hw)
      have e0:nK E (q:Int)=(E q).id:=by unfold nK;rw [if_pos (by omega),Int.toNat_natCast]
      have bo:He (_=_):=e0;have eh:(E q).id.toList.isEmpty=false:=BQ (cL H.o hq);have HT:He (nY E n y q=true->tY E n L out (k+1) (y:Int)):=fun h=>hB.o.take hy a4.o cl.o ((ai.o q hq).1 h)
      have HK:He (nY E n y q=false->tY E n L out (k+1) (q:Int)):=fun h=>hB.o.keep H.o hy a4.o (fun h'=>by have:=(ai.o q hq).2 h';rw [h] at this;cases this)
      have bn:Below Y.heap.size Y Y:=kB;rw [e0];clear am ai hB b4 bv e0;generalize nY E n y q=sq at *;obtain ⟨eq,cn⟩:∃ eq,eq=E q:=⟨_,rfl⟩;rw [<- cn] at a3 au eh bo ⊢;clear cn
      go_wp2_with fail
      go_cut [44] from 10 to 48 (fun pv wx=>pv=.bool sq/\Below Y.heap.size Y wx)
      case first =>
       go_region_held3 (fun W=>W.cell? ⟨w.heap.size,0,none⟩=some (.slice (some ⟨be,oe,none⟩) n cap)/\W.cell? ⟨B,0,none⟩=some (.string ev.id)/\W.cell? ⟨B,1,none⟩=some (.string ev.sd)/\W.cell? ⟨B,2,none⟩=some (.string ev.ty)/\W.cell? ⟨B,3,none⟩=some (.bool ev.st)/\W.cell? ⟨B,4,none⟩=some (.string ev.key)/\W.cell? ⟨B,5,none⟩=some (.int .i64 ev.tm)/\W.cell? ⟨B,6,none⟩=some (.slice pa ev.np cp)/\W.cell? ⟨B,7,none⟩=some (.slice aa ev.na ca)/\W.cell? ⟨B,8,none⟩=some (.string ev.val)/\W.cell? ⟨B,9,none⟩=some (.slice ga ev.ng cg))
        (first|(with_reducible exact ⟨cc,d0,d1,d2,d3,d4,d5,d6,d7,d8,d9⟩)|go_keep)
        (first
         | (go_at_call 171;refine (a3.o _ (by with_reducible (repeat refine .drew ?_);exact bn)).mono ?_;rintro e w8 ⟨Z,bz⟩;have aq:e=.returned (.agg (ec eq pb dp ab da gb dg)):=Z;clear Z;subst aq;have I:Below Y.heap.size Y w8:=Below.trans (by with_reducible (repeat refine .drew ?_);exact bn) bz;clear bz;have kr:=(I.cell (p:=⟨w.heap.size,0,none⟩) cz).trans cc;have k0:=(I.cell (p:=⟨B,0,none⟩) u).trans d0;have k1:=(I.cell (p:=⟨B,1,none⟩) u).trans d1;have k2:=(I.cell (p:=⟨B,2,none⟩) u).trans d2;have k3:=(I.cell (p:=⟨B,3,none⟩) u).trans d3;have k4:=(I.cell (p:=⟨B,4,none⟩) u).trans d4;have k5:=(I.cell (p:=⟨B,5,none⟩) u).trans d5;have k6:=(I.cell (p:=⟨B,6,none⟩) u).trans d6;have k7:=(I.cell (p:=⟨B,7,none⟩) u).trans d7;have k8:=(I.cell (p:=⟨B,8,none⟩) u).trans d8;have k9:=(I.cell (p:=⟨B,9,none⟩) u).trans d9)
         | (go_at_call 178;refine (au.o _ (by with_reducible (repeat refine .drew ?_);exact I)).mono ?_;rintro e w9 ⟨rfl,bm⟩;have J:Below Y.heap.size Y w9:=Below.trans (by with_reducible (repeat refine .drew ?_);exact I) (bm.mono I.size);clear bm;have jr:=(J.cell (p:=⟨w.heap.size,0,none⟩) cz).trans cc;have j0:=(J.cell (p:=⟨B,0,none⟩) u).trans d0;have j1:=(J.cell (p:=⟨B,1,none⟩) u).trans d1;have j2:=(J.cell (p:=⟨B,2,none⟩) u).trans d2;have j3:=(J.cell (p:=⟨B,3,none⟩) u).trans d3;have j4:=(J.cell (p:=⟨B,4,none⟩) u).trans d4;have j5:=(J.cell (p:=⟨B,5,none⟩) u).trans d5;have j6:=(J.cell (p:=⟨B,6,none⟩) u).trans d6;have j7:=(J.cell (p:=⟨B,7,none⟩) u).trans d7;have j8:=(J.cell (p:=⟨B,8,none⟩) u).trans d8;have j9:=(J.cell (p:=⟨B,9,none⟩) u).trans d9))
       all_goals (try go_wp2_with fail)
       all_goals go_meet
       all_goals exact ⟨rfl,by first|exact J|exact J.drew⟩
      case rest =>
       obtain ⟨rfl,cm⟩:=hcut;obtain ⟨wz,dn⟩:∃ wz:World,wz=wc:=⟨_,rfl⟩;subst dn;have co:=ak.trans (cm.mono dq);have en:wz.cell? ⟨bl,ol+k,none⟩=some (.string ev.id):=(cm.cell (p:=⟨bl,ol+k,none⟩) (by show bl<Y.heap.size;have:=ag.size;have:=G.size;omega)).trans bq;clear d0 d1 d2 d3 d4 d5 d6 d7 d8 d9 a3 au bq;cases sq
       case true =>
        have U:He (tY E n L out (k+1) (y:Int)):=HT.o rfl;clear HT HK;go_wp2
        go_roundw
        case rel=>exact ⟨k+1,(y:Int),by omega,by go_num,by rw [ax.o],U,co⟩
        simp [intOf];omega
       case false =>
        have U:He (tY E n L out (k+1) (q:Int)):=HK.o rfl;clear HT HK;go_wp2
        go_roundw
        case rel=>exact ⟨k+1,(q:Int),by omega,by go_num,by rw [bo.o],U,co⟩
        simp [intOf];omega
  have dy:L.length=k:=by omega
  subst dy;have HP:He (∀ W,Below w.heap.size w W->FB w E n L out (.returned (.string (nK E b))) W):=fun W hW=>⟨_,rfl,(hB.o.fin).imp (fun ⟨p,h1,h2⟩=>⟨p,h1,h2⟩) id,hW⟩
  go_wp2
  go_ret;exact HP.o _ ao
variable {i m base:Nat}{S:Nat->ByteArray}{D:Nat->Nat}{w:World}{v:Value}{P:Nat->Prop}
inductive ChQ (E:Nat->Ev) (n:Nat) (G:ByteArray->Prop):ByteArray->Prop
 | base {p k:Nat}:p<n->G (E p).id->k<(E p).na->ChQ E n G ((E p).Av k)
 | step {s:ByteArray} {k p:Nat}:ChQ E n G s->p<n->(E p).id=s->k<(E p).na->ChQ E n G ((E p).Av k)
theorem RG {s:ByteArray}:Chn E n S m s↔ChQ E n (fun t=>∃ i,i<m/\S i=t) s:=by
 constructor
 ·intro h
  induction h with
  | base hi hp e hk=>exact ChQ.base hp ⟨_,hi,e.symm⟩ hk
  | step _ hp e hk ih=>exact ChQ.step ih hp e hk
 intro h
 induction h with
 | base hp hG hk=>obtain ⟨i,hi,e⟩:=hG;exact Chn.base hi hp e.symm hk
 | step _ hp e hk ih=>exact Chn.step ih hp e hk
theorem ChQ.mono {G u:ByteArray->Prop}(H:∀ t,G t->u t){s:ByteArray}(h:ChQ E n G s):ChQ E n u s:=by
 induction h with
 | base hp h1 hk=>exact ChQ.base hp (H _ h1) hk
 | step _ hp e hk ih=>exact ChQ.step ih hp e hk
def BZ (E:Nat->Ev)(n:Nat)(S:Nat->ByteArray)(m p:Nat):Prop:=∃ i,i<m/\aL E n (S i)=(p:Int)
def WN (E:Nat->Ev)(n:Nat)(S:Nat->ByteArray)(m:Nat)(t:ByteArray):Prop:=∃ q,q<n/\BZ E n S m q/\lW (E q)=true/\(E q).id=t
def TkP (E:Nat->Ev)(n:Nat)(S:Nat->ByteArray)(m p:Nat):Prop:=p<n/\BZ E n S m p/\(WN E n S m (E p).id\/ChQ E n (WN E n S m) (E p).id)
theorem kQ.congr {T u:Nat->Prop}{l:List Nat}(h:kQ E n T D l)(G:∀ p,T p↔u p):kQ E n u D l:=by
 have:T=u:=funext fun p=>propext (G p)
 rw [<- this];exact h
def nE (E:Nat->Ev)(n:Nat)(S:Nat->ByteArray)(m:Nat)(o:List Nat):Prop:=kQ E n (TkP E n S m) (KG E n) o/\∀ p,TkP E n S m p->p ∈ o
theorem nE.uniq {o o':List Nat}(h:nE E n S m o)(u:nE E n S m o'):o=o':=h.1.uniq u.1 h.2 u.2
theorem nE.lt {o:List Nat}(h:nE E n S m o):∀ p ∈ o,p<n:=fun p hp=>(h.1.sub p hp).1
theorem zG {l:List Nat}(hi:i<l.length):fS E l i=aG (l.map fun p=>(E p).id) i:=by
 show (E (lX l i).toNat).id=_
 unfold lX aG;rw [Int.toNat_natCast];simp [List.getD,List.getElem?_eq_getElem hi]
theorem aH.nsl {l:List Nat}(h:aH w base v (l.map fun p=>(E p).id))(H:∀ p ∈ l,(E p).id.size<=maxLen):∃ a cap,v=.slice a l.length cap/\dE w a l.length cap (fS E l):=by
 obtain ⟨a,cap,e,u,_⟩:=h.sl (fun s G=>by
  obtain ⟨p,hp,rfl⟩:=List.mem_map.1 G;exact H p hp)
 rw [List.length_map] at e u;refine ⟨a,cap,e,u.le,u.max,fun i hi=>by rw [zG hi];exact u.size i hi,?_⟩;rcases u.cells with J|⟨b,off,I,hb,N⟩
 ·exact Or.inl J
 exact Or.inr ⟨b,off,I,hb,fun i hi=>by rw [zG hi];exact N i hi⟩
theorem BD {l:List Nat}(u:k<l.length):l.getD k 0 ∈ l:=by
 rw [List.getD,List.getElem?_eq_getElem u];exact List.getElem_mem _
theorem oQ {y:Nat}{l u:List Nat}(I:aL E n (S k)=(y:Int))(h:∀ q,q ∈ l↔BZ E n S k q/\P q)(H:∀ q,q ∈ u↔q ∈ l\/(q=y/\P y))(q:Nat):q ∈ u↔BZ E n S (k+1) q/\P q:=by
 rw [H,h];constructor
 ·rintro (⟨⟨i,hi,e⟩,hp⟩|⟨rfl,hp⟩)
  ·exact ⟨⟨i,by omega,e⟩,hp⟩
  exact ⟨⟨k,by omega,I⟩,hp⟩
 rintro ⟨⟨i,hi,e⟩,hp⟩
 by_cases G:i=k
 ·subst G
  have:q=y:=by omega
  subst this;exact Or.inr ⟨rfl,hp⟩
 exact Or.inl ⟨⟨i,by omega,e⟩,hp⟩
theorem EN {l o:List Nat}(H:l.Nodup)(h:o.length<l.length):∃ p,p ∈ l/\p ∉ o:=by
 apply Classical.byContradiction;intro u
 have:∀ p ∈ l,p ∈ o:=fun p hp=>Classical.byContradiction fun G=>u ⟨p,hp,G⟩
 have:=H.length_le_of_subset this;omega
theorem RE {l o:List Nat}(G:o.Nodup)(u:∀ p ∈ o,p ∈ l)(h:l.length<=o.length):∀ p ∈ l,p ∈ o:=by
 intro p hp;apply Classical.byContradiction;intro I;have H:(p :: o).Nodup:=List.nodup_cons.2 ⟨I,G⟩
 have:=H.length_le_of_subset (l₂:=l) (fun q hq=>by
  rcases List.mem_cons.1 hq with rfl|hq
  ·exact hp
  exact u q hq)
 simp at this;omega
variable {e:Ev}{l:List aE}
def dM:aE:=⟨⟨#[99,114,101,97,116,101]⟩,⟨#[]⟩,ByteArray.empty⟩
def pK:aE:=⟨⟨#[106,111,105,110,95,114,117,108,101,115]⟩,⟨#[]⟩,ByteArray.empty⟩
def cW (u:ByteArray):aE:=⟨⟨#[109,101,109,98,101,114]⟩,u,ByteArray.empty⟩
def gZ:aE:=⟨⟨#[112,111,119,101,114]⟩,⟨#[]⟩,ByteArray.empty⟩
def dV (e:Ev):Bool:=e.ty.toList == [99,114,101,97,116,101]
def bE (e:Ev):Bool:=e.ty.toList == [109,101,109,98,101,114]
def eZ (e:Ev):Bool:=e.val.toList == [106,111,105,110]
def uq (e:Ev):List ByteArray:=if bE e=false\/e.sd=e.key then [e.sd] else if e.sd.data.toList<e.key.data.toList then [e.sd,e.key] else [e.key,e.sd]
def us (e:Ev):List ByteArray:=if bE e=false then [e.sd] else if e.sd=e.key then [e.sd,e.sd] else if e.sd.data.toList<e.key.data.toList then [e.sd,e.key] else [e.key,e.sd]
def VA (e:Ev):List aE:=if bE e then [cW e.key] else []
def jF (e:Ev):List aE:=if bE e && eZ e then [pK] else []
def NJ (e:Ev):List aE:=[dM,gZ,cW e.sd] ++ VA e ++ jF e
def xW (e:Ev):List aE:=dM :: (jF e ++ (us e).map cW ++ [gZ])
def cD (e:Ev):List aE:=if e.code=0 then (if dV e then [dM] else dM :: (jF e ++ (uq e).map cW ++ [gZ])) else []
theorem zV {a b:ByteArray}(h:a≠b)(G:¬ a.data.toList<b.data.toList):b.data.toList<a.data.toList:=by
 rcases iP a.data.toList b.data.toList with ⟨u,_⟩|⟨u,_⟩|⟨u,_⟩
 ·exact absurd u G
 ·exact absurd (lK u) h
 exact u
theorem PU (e:Ev):pH (uq e):=by
 unfold uq;split
 ·exact List.pairwise_singleton _ _
 rename_i h;rw [not_or] at h;split
 ·rename_i h2
  exact List.pairwise_cons.2 ⟨fun b hb=>by rw [List.mem_singleton] at hb;subst hb;exact h2,List.pairwise_singleton _ _⟩
 rename_i h2;exact List.pairwise_cons.2 ⟨fun b hb=>by rw [List.mem_singleton] at hb;subst hb;exact zV h.2 h2,List.pairwise_singleton _ _⟩
theorem pM (e:Ev)(s:ByteArray):s ∈ uq e↔s=e.sd\/(bE e=true/\s=e.key):=by
 unfold uq;split
 ·rename_i h
  rw [List.mem_singleton];constructor
  ·exact Or.inl
  rintro (u|⟨u,G⟩)
  ·exact u
  rcases h with h|h
  ·rw [h] at u;cases u
  rw [h];exact G
 rename_i h;rw [not_or] at h
 have H:bE e=true:=by
  cases hq:bE e
  ·exact absurd hq h.1
  rfl
 split <;> simp [H,or_comm]
theorem SC (e:Ev):((us e).map cW).Perm (cW e.sd :: VA e):=by
 unfold us VA
 by_cases u:bE e=false
 ·rw [if_pos u,u];exact List.Perm.refl _
 have G:bE e=true:=by
  cases hq:bE e
  ·exact absurd hq u
  rfl
 rw [if_neg u,G,if_pos rfl]
 by_cases H:e.sd=e.key
 ·rw [if_pos H,<- H];exact List.Perm.refl _
 rw [if_neg H];split
 ·exact List.Perm.refl _
 exact List.Perm.swap _ _ _
theorem FR (e:Ev):(xW e).Perm (NJ e):=by
 unfold xW NJ;refine List.Perm.cons _ ?_;have u:(jF e ++ (us e).map cW ++ [gZ]).Perm ([gZ] ++ (jF e ++ (us e).map cW)):=List.perm_append_comm;refine u.trans (List.Perm.cons _ ?_)
 show (jF e ++ (us e).map cW).Perm ((cW e.sd :: VA e) ++ jF e)
 have G:(jF e ++ (us e).map cW).Perm ((us e).map cW ++ jF e):=List.perm_append_comm;exact G.trans ((SC e).append_right _)
theorem AR:Lt dM pK:=Or.inl (by decide)
theorem AX (u:ByteArray):Lt dM (cW u):=Or.inl (by show _<([109,101,109,98,101,114]:List UInt8);decide)
theorem NA:Lt dM gZ:=Or.inl (by decide)
theorem zX (u:ByteArray):Lt pK (cW u):=Or.inl (by show _<([109,101,109,98,101,114]:List UInt8);decide)
theorem MW:Lt pK gZ:=Or.inl (by decide)
theorem tV (u:ByteArray):Lt (cW u) gZ:=Or.inl (by show ([109,101,109,98,101,114]:List UInt8)<_;decide)
theorem EM {u v:ByteArray}(h:u.data.toList<v.data.toList):Lt (cW u) (cW v):=Or.inr ⟨rfl,h⟩
theorem BN {R:aE->aE->Prop}(H:∀ a b,Lt a b->R a b)(e:Ev){U:List ByteArray}(N:(U.map cW).Pairwise R):(dM :: (jF e ++ U.map cW ++ [gZ])).Pairwise R:=by
 have J:∀ x ∈ jF e,x=pK:=fun x G=>by
  unfold jF at G;split at G
  ·exact List.mem_singleton.1 G
  cases G
 have I:(jF e).Pairwise R:=by
  unfold jF;split
  ·exact List.pairwise_singleton _ _
  exact List.Pairwise.nil
 refine List.pairwise_cons.2 ⟨fun x G=>?_,List.pairwise_append.2 ⟨List.pairwise_append.2 ⟨I,N,fun a ha b hb=>?_⟩,List.pairwise_singleton _ _,fun a ha b hb=>?_⟩⟩
 ·rw [List.mem_append,List.mem_append,List.mem_singleton,List.mem_map] at G
  rcases G with (G|⟨u,_,rfl⟩)|rfl
  ·rw [J x G];exact H _ _ AR
  ·exact H _ _ (AX u)
  exact H _ _ NA
 ·rw [List.mem_map] at hb
  obtain ⟨u,_,rfl⟩:=hb;rw [J a ha];exact H _ _ (zX u)
 rw [List.mem_singleton] at hb;subst hb;rw [List.mem_append,List.mem_map] at ha;rcases ha with ha|⟨u,_,rfl⟩
 ·rw [J a ha];exact H _ _ MW
 exact H _ _ (tV u)
theorem QB (e:Ev):((us e).map cW).Pairwise fun a b=>¬ Lt b a:=by
 unfold us;split
 ·exact List.pairwise_singleton _ _
 split
 ·exact List.pairwise_cons.2 ⟨fun b hb=>by rw [List.mem_singleton.1 hb];exact Lt.irrefl _,List.pairwise_singleton _ _⟩
 rename_i h;split
 ·rename_i h2
  exact List.pairwise_cons.2 ⟨fun b hb=>by rw [List.mem_singleton.1 hb];exact (EM h2).asymm,List.pairwise_singleton _ _⟩
 rename_i h2;exact List.pairwise_cons.2 ⟨fun b hb=>by rw [List.mem_singleton.1 hb];exact (EM (zV h h2)).asymm,List.pairwise_singleton _ _⟩
theorem KO (e:Ev):(xW e).Pairwise fun a b=>¬ Lt b a:=BN (fun _ _ h=>h.asymm) e (QB e)
theorem EC (e:Ev):(dM :: (jF e ++ (uq e).map cW ++ [gZ])).Pairwise Lt:=BN (fun _ _ h=>h) e (List.pairwise_map.2 ((PU e).imp fun h=>EM h))
theorem MV (e:Ev):∀ x ∈ xW e,x.id=ByteArray.empty:=fun x G=>by
 unfold xW at G;rw [List.mem_cons,List.mem_append,List.mem_append,List.mem_map,List.mem_singleton] at G;rcases G with rfl|(G|⟨u,_,rfl⟩)|rfl
 ·rfl
 ·unfold jF at G
  split at G
  ·rw [List.mem_singleton.1 G];rfl
  cases G
 ·rfl
 rfl
theorem pY (hp:l.Perm (NJ e))(J:l.Pairwise fun a b=>¬ Lt b a):l=xW e:=by
 have u:l.Perm (xW e):=hp.trans (FR e).symm;refine List.Perm.eq_of_pairwise (le:=fun a b=>¬ Lt b a) (fun a b ha hb H G=>?_) J (KO e) u;have ia:=MV e a (u.mem_iff.1 ha);have I:=MV e b hb;rcases YJ a b with ⟨h,_⟩|⟨h,_⟩|⟨h,_⟩
 ·exact absurd h G
 ·obtain ⟨t1,Y,O⟩:=a
  obtain ⟨Z,U,N⟩:=b;simp only at h ia I;rw [h.1,h.2,ia,I]
 exact absurd h H
theorem KB (h:l.Pairwise Lt):∀ i,i+1<l.length->¬ ((aI l (i+1)).ty=(aI l i).ty/\(aI l (i+1)).key=(aI l i).key):=fun i hi e=>by
 rw [bP l (i+1) hi,bP l i (by omega)] at e
 have:=List.pairwise_iff_getElem.1 h i (i+1) (by omega) hi (Nat.lt_succ_self i);exact this.ne ⟨e.1.symm,e.2.symm⟩
end Go.Proofs.YtpfeegcdlikegaaGreat
