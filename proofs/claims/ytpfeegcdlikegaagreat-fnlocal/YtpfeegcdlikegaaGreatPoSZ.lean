import Derived.Test.YtpfeegcdlikegaaGreatPoFZ
set_option maxHeartbeats 16000000
set_option maxRecDepth 100000
namespace Go.Proofs.YtpfeegcdlikegaaGreat
open Go.RowKit Go.Proofs.Tryz
variable {a ia:Option Addr}{m n cap icap:Nat}{E:Nat->Ev}{S:Nat->ByteArray}
def UP (w1:World)(base:Nat)(E:Nat->Ev)(n:Nat)(S:Nat->ByteArray)(m:Nat)(P:Nat->Prop)(u:Prop)(v i:Value)(wr:World):Prop :=
 ∃ (k:Nat) (l:List Nat) (g cp G:Nat),k<=m/\i=.int .i64 (k:Int)/\v=.slice (some ⟨g,0,none⟩) G cp/\He (G=l.length)/\G<=k/\aH wr base (.slice (some ⟨g,0,none⟩) G cp) (l.map fun p=>(E p).id)/\He (∀ q,q ∈ l↔BZ E n S k q/\P q)/\He (u->l.Nodup)/\Below w1.heap.size w1 wr
def NY:Value->Nat
 | .slice _ n _=>n
 | _=>0
def EP (w:World)(E:Nat->Ev)(n:Nat)(S:Nat->ByteArray)(m:Nat)(e:Ending)(w':World):Prop:=∃ v o,e=.returned v/\aH w' w.heap.size v (o.map fun p=>(E p).id)/\nE E n S m o/\Below w.heap.size w w'
theorem IU (E:Nat->Ev)(n:Nat)(S:Nat->ByteArray)(P:Nat->Prop)(q:Nat):q ∈ ([]:List Nat)↔BZ E n S 0 q/\P q:=by
 constructor
 ·intro h;cases h
 rintro ⟨⟨i,hi,_⟩,_⟩;omega
theorem SO (w:World)(a2:aF E n=true)(hm:m<=300)(ea:∀ i,i<m->0<=aL E n (S i))(h:dW w a n cap E)(ck:dE w ia m icap S) :
  Calls prog 157 #[.agg #[.slice a n cap],.slice ia m icap] w (EP w E n S m):=by
 obtain ⟨i0,hi,da,cu,db⟩:=info_parts Tryz.infoString;obtain ⟨wb,bt⟩:∃ wb,wb=w.alloc (.cells #[.slice a n cap] 25):=⟨_,rfl⟩;have fq:Below w.heap.size w wb:=by rw [bt];exact bA
 have fp:wb.heap.size=w.heap.size+1:=by rw [bt];simp
 have dg:He (∀ wx,Below wb.heap.size wb wx->wx.cell? ⟨w.heap.size,0,none⟩=some (.slice a n cap)):=fun wx hx=>by subst bt;exact aK (hx.mono (by simp)) 0
 have d4:=dJ a2
 have au:He (∀ i,i<n->(E i).id.size<=maxLen):=fun i ab=>by
  rcases h.cells with h0|⟨b,off,_,_,hc⟩
  ·omega
  obtain ⟨_,_,_,_,_,_,_,fm⟩:=hc i ab;exact fm.hid
 have ct:He (∀ i,i<m->∃ y,y<n/\aL E n (S i)=(y:Int)/\(E y).id=S i):=fun i ab=>by
  obtain ⟨y,hy,e,hb⟩:=dU E (S i) n (ea i ab);exact ⟨y,hy,e,bC hb⟩
 have HE:He (dW w a n cap E):=h;have HI:He (dE w ia m icap S):=ck;have N:He (_):=a2;clear a2 h ck ea
 go_enter func157,ntmps157
 go_wp2_with fail
 rw [<- bt];clear bt;have d6:Below wb.heap.size wb (wb.alloc (.cells #[] 9)):=bA;have di:aH (wb.alloc (.cells #[] 9)) wb.heap.size (.slice (some ⟨wb.heap.size,0,none⟩) 0 0) (([]:List Nat).map fun p=>(E p).id):=aH.new wb _ nL;rw [fp] at di
 go_loopw [5,6] (fun v i wr=>UP wb (w.heap.size+1) E n S m (fun q=>lW (E q)=true) False v i wr) (fun _ i _=>m - (intOf i).toNat)
 case atStart=>exact ⟨0,[],_,_,0,nz,rfl,rfl,rfl,nL,di,IU E n S _,fun h=>h.elim,d6⟩
 case round =>
  clear d6 di;obtain ⟨k,l,g,cp,mm,hk,rfl,rfl,U,e5,u,H,an,G⟩:=hrel;have Z:=fq.trans (G.mono (by omega));have ft:w.heap.size+1<=wr.heap.size:=by have:=G.size;omega
  have x0:=dg.o _ G
  by_cases ax:k<m
  ·rcases HI.o.cells with h0|⟨bi,oi,rfl,bz,bg⟩
   ·omega
   obtain ⟨y,hy,ey,b0⟩:=ct.o k ax;have ao:wr.cell? ⟨bi,oi+k,none⟩=some (.string (E y).id):=by rw [b0];exact (Z.cell (by exact bz)).trans (bg k ax)
   have cn:He (∀ W,Below wr.heap.size wr W->Calls prog 171 #[.agg #[.slice a n cap],.string (E y).id] W (eY W (E y))):=fun W hW=>fB _ W (HE.o.below (Z.trans (hW.mono Z.size))) hy (aP N.o hy)
   have cw:Below wr.heap.size wr wr:=kB;have ce:w.heap.size<wr.heap.size:=by omega
   have bc:bi<wr.heap.size:=nT bz Z.size
   have br:He (lW (E y)=true->∀ q,q ∈ l ++ [y]↔BZ E n S (k+1) q/\lW (E q)=true):=fun ht=>oQ (P:=fun q=>lW (E q)=true) ey H.o (fun q=>by
    rw [List.mem_append,List.mem_singleton];exact or_congr_right ⟨fun e=>⟨e,ht⟩,fun e=>e.1⟩)
   have dr:He (lW (E y)=false->∀ q,q ∈ l↔BZ E n S (k+1) q/\lW (E q)=true):=fun hf=>oQ (P:=fun q=>lW (E q)=true) ey H.o (fun q=>by
    rw [hf];simp)
   have Hw:He (lW (E y)=lW (E y)):=rfl;clear bg ey H;generalize hwt:lW (E y)=wt at *;have HW:He (∀ (pa:Option Addr) (cp:Nat) (aa:Option Addr) (ca:Nat) (ga:Option Addr) (cg:Nat) (W:World),Calls prog 170 #[(E y).val' pa cp aa ca ga cg] W fun x w'=>x=.returned (.bool wt)/\Below W.heap.size W w'):=fun pa cp aa ca ga cg W=>by rw [<- hwt];exact PG _ _ _ _ _ _ _ W
   clear hwt Hw;obtain ⟨ev,bo⟩:∃ ev,ev=E y:=⟨_,rfl⟩;rw [<- bo] at ao cn HW;have ej:He (ev=E y):=bo;clear bo
   go_wp2_with fail
   go_cut [24] from 12 to 31 (fun pv wx=>pv=.bool wt/\Below wr.heap.size wr wx)
   case first =>
    go_region_held3 (fun W=>W.cell? ⟨w.heap.size,0,none⟩=some (.slice a n cap)/\W.cell? ⟨bi,oi+k,none⟩=some (.string ev.id))
     (first|(with_reducible exact ⟨x0,ao⟩)|go_keep)
     (first
      | (go_at_call 171;refine (cn.o _ (by with_reducible (repeat refine .drew ?_);exact cw)).mono ?_;rintro e w2 ⟨cb,fn,fa,fy,fg,fu,fd,d2,-⟩;have fi:e=.returned (.agg (ec ev fn fa fy fg fu fd)):=d2;clear d2;subst fi;have ak:Below wr.heap.size wr w2:=Below.trans (by with_reducible (repeat refine .drew ?_);exact cw) cb;clear cb;have k0:=(ak.cell (p:=⟨w.heap.size,0,none⟩) ce).trans x0;have k1:=(ak.cell (p:=⟨bi,oi+k,none⟩) bc).trans ao)
      | (go_at_call 170;refine (HW.o _ _ _ _ _ _ _).mono ?_;rintro e w3 ⟨rfl,cl⟩;have bx:Below wr.heap.size wr w3:=Below.trans (by with_reducible (repeat refine .drew ?_);exact ak) (cl.mono ak.size);clear cl;have j0:=(bx.cell (p:=⟨w.heap.size,0,none⟩) ce).trans x0;have j1:=(bx.cell (p:=⟨bi,oi+k,none⟩) bc).trans ao))
    all_goals (try go_wp2_with fail)
    all_goals go_meet
    all_goals exact ⟨rfl,by first|exact bx|exact bx.drew⟩
   case rest =>
    obtain ⟨rfl,b2⟩:=hcut;obtain ⟨wz,ez⟩:∃ wz:World,wz=wc:=⟨_,rfl⟩;subst ez;have df:=G.trans (b2.mono (by omega));have f4:=(b2.cell (p:=⟨bi,oi+k,none⟩) bc).trans ao;have a4:=u.below b2;have gh:w.heap.size+1<=wz.heap.size:=by have:=b2.size;omega
    clear cn HW cw u x0 ao;cases wt
    case false =>
     have Hn:He (∀ q,q ∈ l↔BZ E n S (k+1) q/\lW (E q)=true):=dr.o rfl;clear br dr;go_wp2
     go_roundw
     case rel=>exact ⟨k+1,l,g,cp,mm,by omega,by go_num,rfl,U.o,by omega,a4,Hn.o,an.o,df⟩
     simp [intOf];omega
    case true =>
     have Hn:He (∀ q,q ∈ l ++ [y]↔BZ E n S (k+1) q/\lW (E q)=true):=br.o rfl;clear br dr;have bb:mm+1<=maxLen:=by unfold maxLen;omega
     have bm:(mm+1) * 16<=140737488355328:=by omega
     have af:∀ o,w.heap.size+1<=(wz.alloc o).heap.size:=fun o=>by simp;omega
     have am:He (∀ q,(Value.slice (some ⟨g,0,none⟩) mm cp).ownBlock=some q->wb.heap.size<=q):=fun q hq=>by have:=World.ownsRow.lt a4 q hq;have:=this.1;omega
     have O:wz.ownsRow (w.heap.size+1) 9 1 (.slice (some ⟨g,0,none⟩) mm cp) mm ((l.map fun p=>(E p).id).map Value.string):=by have:=a4;unfold aH at this;rw [List.length_map,<- U.o] at this;exact this
     go_wp2_with (at_builtin;refine wpList_append_lies _ rfl _ _ 27 rfl (w.heap.size+1) 9 i0 (.string ByteArray.empty) 1 16 underlying27 hi da cu db rfl (by decide) _ _ _ rfl (World.ownsRow.alloc O _) ⟨wz.heap.size,0,none⟩ 1 1 [.string ev.id] rfl rfl (aV _ _ _) (bL _) (by decide) bb bm (af _) (wz.heap.size+1) (by simp) ?_;intro gg cq w2 I J aq cc)
     have ag:aH w2 (w.heap.size+1) (.slice (some ⟨gg,0,none⟩) (mm+1) cq) ((l ++ [y]).map fun p=>(E p).id):=by
      have h1:(l ++ [y]).map (fun p=>(E p).id)=(l.map fun p=>(E p).id) ++ [ev.id]:=by rw [List.map_append,ej.o];rfl
      rw [h1];rw [U.o] at I ⊢
      have:=aH.snoc (w:=w2) (base:=(w.heap.size+1)) (v:=(.slice (some ⟨gg,0,none⟩) (l.length+1) cq)) (l:=(l.map fun p=>(E p).id)) (x:=ev.id) (by rw [List.length_map];exact I);exact this
     have a3:Below wb.heap.size wb w2:=(df.alloc df.size _).grown J (by have:=af (.cells #[.string ev.id] 9);omega) am.o;clear I J aq O af am;go_roundw
     case rel=>exact ⟨k+1,l ++ [y],gg,cq,mm+1,by omega,by go_num,rfl,by unfold He;rw [List.length_append,<- U.o];rfl,by omega,ag,Hn.o,fun h=>h.elim,a3⟩
     simp [intOf];omega
  have dc:m=k:=by omega
  subst dc;have bh:=U.o;subst bh
  have ae:He (∀ q ∈ l,q<n):=fun q hq=>by
   obtain ⟨⟨i,_,e⟩,_⟩:=(H.o q).1 hq
   have:=cJ E (S i) n;omega
  obtain ⟨la,lc,e1,ay⟩:=u.nsl (fun p hp=>au.o p (ae.o p hp));injection e1 with cv _ dk
  subst cv dk;have bj:He (∀ i,i<l.length->∃ q,q ∈ l/\q<n/\fS E l i=(E q).id):=fun i ab=>⟨l.getD i 0,BD ab,ae.o _ (BD ab),by show (E (lX l i).toNat).id=_;unfold lX;rw [Int.toNat_natCast]⟩
  have HG:He (∀ s,(∃ i,i<l.length/\fS E l i=s)↔WN E n S m s):=fun s=>by
   constructor
   ·rintro ⟨i,ab,e⟩
    obtain ⟨q,hq,b5,eq⟩:=bj.o i ab;obtain ⟨h1,h2⟩:=(H.o q).1 hq;exact ⟨q,b5,h1,h2,eq.symm.trans e⟩
   rintro ⟨q,b5,h1,h2,rfl⟩;obtain ⟨i,ab,e⟩:=List.mem_iff_getElem.1 ((H.o q).2 ⟨h1,h2⟩);refine ⟨i,ab,?_⟩
   show (E (lX l i).toNat).id=_
   unfold lX;rw [Int.toNat_natCast,List.getD,List.getElem?_eq_getElem ab]
   show (E (l[i])).id=_
   rw [e]
  have HU:He (∀ s,((∃ i,i<l.length/\fS E l i=s)\/Chn E n (fS E l) l.length s)↔(WN E n S m s\/ChQ E n (WN E n S m) s)):=fun s=>by
   rw [HG.o s,RG];exact or_congr_right ⟨ChQ.mono (fun t ht=>(HG.o t).1 ht),ChQ.mono (fun t ht=>(HG.o t).2 ht)⟩
  have HF:He (Calls prog 167 #[.agg #[.slice a n cap],.slice (some ⟨g,0,none⟩) l.length cp] wr (gH wr (fun s=>(∃ i,i<l.length/\fS E l i=s)\/Chn E n (fS E l) l.length s))):=AG wr N.o (HE.o.below Z) ay (by omega) (fun i ab=>by
   obtain ⟨q,_,b5,eq⟩:=bj.o i ab;rw [eq,aP N.o b5];omega)
  clear H u ay HG bj ae an U;generalize l.length=ll at *
  go_wp2_with fail
  refine (HF.o).mono ?_;rintro e w2 ⟨v2,Y,rfl,eg,dy,ed,ak⟩;have cf:=Z.trans (ak.mono Z.size);have e4:=G.trans (ak.mono G.size);have gj:w.heap.size+1<=w2.heap.size:=by have:=ak.size;omega
  have b7:He (∀ s,s ∈ Y↔(WN E n S m s\/ChQ E n (WN E n S m) s)):=fun s=>(ed s).trans (HU.o s)
  have cz:He (∀ s ∈ Y,∃ j,j<n/\(E j).id=s):=fun s hs=>by
   rcases (b7.o s).1 hs with ⟨q,hq,_,_,e⟩|h1
   ·exact ⟨q,hq,e⟩
   cases h1 with
   | base hp _ hk=>obtain ⟨j,hj,_,e1⟩:=cZ N.o hp hk;exact ⟨j,by omega,e1⟩
   | step _ hp e hk=>obtain ⟨j,hj,_,e1⟩:=cZ N.o hp hk;exact ⟨j,by omega,e1⟩
  have en:He (Y.length<=300):=nZ (gO N.o dy.nodup cz.o) d4
  obtain ⟨ua,uc,rfl,dv,_⟩:=eg.sl (fun s hs=>by
   obtain ⟨j,hj,rfl⟩:=cz.o s hs;exact au.o j hj)
  have d7:He (dE w2 ua Y.length uc (aG Y)):=dv;have eb:He (∀ W,Below w2.heap.size w2 W->∀ s b1,bD (aG Y) Y.length s=b1->Calls prog 80 #[.slice ua Y.length uc,.string s] W fun e w'=>e=.returned (.bool b1)/\w'=W):=fun W hW s b1 e1=>by rw [<- e1];exact kM s W (d7.o.below hW)
  have d1:He (∀ s,bD (aG Y) Y.length s=true↔s ∈ Y):=fun s=>by
   have:=jK Y s Y.length nL;rw [List.take_length] at this;exact this
  have cd:Below w2.heap.size w2 (w2.alloc (.cells #[] 9)):=bA;have cj:aH (w2.alloc (.cells #[] 9)) w2.heap.size (.slice (some ⟨w2.heap.size,0,none⟩) 0 0) (([]:List Nat).map fun p=>(E p).id):=aH.new w2 _ nL;have b6:He (Below wb.heap.size wb w2):=e4;clear dv ed dy eg HF HU ak Z G cz en;generalize Y.length=lul at *
  go_wp2_with fail
  go_loopw [8,9] (fun v i wr=>UP w2 w2.heap.size E n S m (fun q=>(E q).id ∈ Y) True v i wr) (fun _ i _=>m - (intOf i).toNat)
  case atStart=>exact ⟨0,[],_,_,0,nz,rfl,rfl,rfl,nL,cj,IU E n S _,fun _=>List.nodup_nil,cd⟩
  case round =>
   clear cd cj;obtain ⟨k,l,g,cp,mm,hk,rfl,rfl,U,e5,u,H,an,G⟩:=hrel;have Z:=cf.trans (G.mono cf.size);have ft:w2.heap.size<=wr.heap.size:=G.size
   have ae:He (∀ q ∈ l,q<n):=fun q hq=>by
    obtain ⟨⟨i,_,e⟩,_⟩:=(H.o q).1 hq
    have:=cJ E (S i) n;omega
   by_cases ax:k<m
   ·rcases HI.o.cells with h0|⟨bi,oi,rfl,bz,bg⟩
    ·omega
    obtain ⟨y,hy,ey,b0⟩:=ct.o k ax;have ao:wr.cell? ⟨bi,oi+k,none⟩=some (.string (E y).id):=by rw [b0];exact (Z.cell (by exact bz)).trans (bg k ax)
    have H1:He (∀ b1,bD (aG Y) lul (E y).id=b1->Calls prog 80 #[.slice ua lul uc,.string (E y).id] wr fun e w'=>e=.returned (.bool b1)/\w'=wr):=fun b1 e1=>eb.o wr G _ b1 e1
    have H2:He (∀ b1,(b1=true↔y ∈ l)->Calls prog 80 #[.slice (some ⟨g,0,none⟩) mm cp,.string (E y).id] wr fun e w'=>e=.returned (.bool b1)/\w'=wr):=fun b1 e1=>by
     obtain ⟨la,lc,e2,ay⟩:=u.nsl (fun p hp=>au.o p (ae.o p hp));rw [<- U.o] at e2;injection e2 with dm _ dn
     subst dm dn;have hq:=mI N.o ae.o hy
     have:bD (fS E l) l.length (E y).id=b1:=by
      cases hb:bD (fS E l) l.length (E y).id
      ·cases b1
       ·rfl
       rw [hb] at hq;exact absurd (hq.2 (e1.1 rfl)) (by simp)
      rw [hb] at hq;exact (e1.2 (hq.1 rfl)).symm
     rw [<- this,U.o];exact kM _ wr ay
    have bq:He (((E y).id ∈ Y->y ∈ l)->∀ q,q ∈ l↔BZ E n S (k+1) q/\(E q).id ∈ Y):=fun hs=>oQ (P:=fun q=>(E q).id ∈ Y) ey H.o (fun q=>⟨Or.inl,fun h=>h.elim id fun ⟨e,h2⟩=>by rw [e];exact hs h2⟩)
    have bw:He ((E y).id ∈ Y->∀ q,q ∈ l ++ [y]↔BZ E n S (k+1) q/\(E q).id ∈ Y):=fun hs=>oQ (P:=fun q=>(E q).id ∈ Y) ey H.o (fun q=>by
     rw [List.mem_append,List.mem_singleton];exact or_congr_right ⟨fun e=>⟨e,hs⟩,fun e=>e.1⟩)
    have b4:He (bD (aG Y) lul (E y).id=true↔(E y).id ∈ Y):=d1.o _;clear bg ey H b0;cases hu:bD (aG Y) lul (E y).id
    case false =>
     have Hn:He (∀ q,q ∈ l↔BZ E n S (k+1) q/\(E q).id ∈ Y):=bq.o (fun h=>by have:=b4.o.2 h;rw [hu] at this;cases this);have ba:He (Calls prog 80 #[.slice ua lul uc,.string (E y).id] wr fun e w'=>e=.returned (.bool false)/\w'=wr):=H1.o _ hu;clear H1 H2 bq bw b4 hu
     go_wp2_with fail
     refine (ba.o).mono ?_;rintro e w5 ⟨rfl,rfl⟩;go_wp2
     go_roundw
     case rel=>exact ⟨k+1,l,g,cp,mm,by omega,by go_num,rfl,U.o,by omega,u,Hn.o,an.o,G⟩
     simp [intOf];omega
    case true =>
     have fj:He ((E y).id ∈ Y):=b4.o.1 hu;have ba:He (Calls prog 80 #[.slice ua lul uc,.string (E y).id] wr fun e w'=>e=.returned (.bool true)/\w'=wr):=H1.o _ hu;clear H1 b4 hu
     by_cases a8:y ∈ l
     ·have Hn:He (∀ q,q ∈ l↔BZ E n S (k+1) q/\(E q).id ∈ Y):=bq.o (fun _=>a8)
      have bf:He (Calls prog 80 #[.slice (some ⟨g,0,none⟩) mm cp,.string (E y).id] wr fun e w'=>e=.returned (.bool true)/\w'=wr):=H2.o true ⟨fun _=>a8,fun _=>rfl⟩;clear H2 bq bw a8
      go_wp2_with fail
      refine (ba.o).mono ?_;rintro e w5 ⟨rfl,rfl⟩
      go_wp2_with fail
      refine (bf.o).mono ?_;rintro e w6 ⟨rfl,rfl⟩;go_wp2
      go_roundw
      case rel=>exact ⟨k+1,l,g,cp,mm,by omega,by go_num,rfl,U.o,by omega,u,Hn.o,an.o,G⟩
      simp [intOf];omega
     have Hn:He (∀ q,q ∈ l ++ [y]↔BZ E n S (k+1) q/\(E q).id ∈ Y):=bw.o fj.o;have eo:He (True->(l ++ [y]).Nodup):=fun _=>List.nodup_append.2 ⟨an.o trivial,by simp,fun p hp q hq e=>by rw [List.mem_singleton] at hq;subst hq;subst e;exact a8 hp⟩
     have bf:He (Calls prog 80 #[.slice (some ⟨g,0,none⟩) mm cp,.string (E y).id] wr fun e w'=>e=.returned (.bool false)/\w'=wr):=H2.o false ⟨fun h=>absurd h (by decide),fun h=>absurd h a8⟩;clear H2 bq bw a8;have bb:mm+1<=maxLen:=by unfold maxLen;omega
     have bm:(mm+1) * 16<=140737488355328:=by omega
     have af:∀ o,w2.heap.size<=(wr.alloc o).heap.size:=fun o=>by simp;omega
     have am:He (∀ q,(Value.slice (some ⟨g,0,none⟩) mm cp).ownBlock=some q->w2.heap.size<=q):=fun q hq=>(World.ownsRow.lt u q hq).1
     have O:wr.ownsRow w2.heap.size 9 1 (.slice (some ⟨g,0,none⟩) mm cp) mm ((l.map fun p=>(E p).id).map Value.string):=by have:=u;unfold aH at this;rw [List.length_map,<- U.o] at this;exact this
     obtain ⟨sy,de⟩:∃ sy,sy=(E y).id:=⟨_,rfl⟩;rw [<- de] at ao ba bf;have e7:He (sy=(E y).id):=de;clear de
     go_wp2_with fail
     refine (ba.o).mono ?_;rintro e w5 ⟨rfl,rfl⟩
     go_wp2_with fail
     refine (bf.o).mono ?_;rintro e w6 ⟨rfl,rfl⟩;clear ba bf
     go_wp2_with (at_builtin;refine wpList_append_lies _ rfl _ _ 27 rfl w2.heap.size 9 i0 (.string ByteArray.empty) 1 16 underlying27 hi da cu db rfl (by decide) _ _ _ rfl (World.ownsRow.alloc O _) ⟨w6.heap.size,0,none⟩ 1 1 [.string sy] rfl rfl (aV _ _ _) (bL _) (by decide) bb bm (af _) (w6.heap.size+1) (by simp) ?_;intro gg cq w7 I J aq cc)
     have ag:aH w7 w2.heap.size (.slice (some ⟨gg,0,none⟩) (mm+1) cq) ((l ++ [y]).map fun p=>(E p).id):=by
      have h1:(l ++ [y]).map (fun p=>(E p).id)=(l.map fun p=>(E p).id) ++ [sy]:=by rw [List.map_append,e7.o];rfl
      rw [h1];rw [U.o] at I ⊢
      have:=aH.snoc (w:=w7) (base:=w2.heap.size) (v:=(.slice (some ⟨gg,0,none⟩) (l.length+1) cq)) (l:=(l.map fun p=>(E p).id)) (x:=sy) (by rw [List.length_map];exact I);exact this
     have a3:Below w2.heap.size w2 w7:=(G.alloc G.size _).grown J (af _) am.o;clear I J aq O af am;go_roundw
     case rel=>exact ⟨k+1,l ++ [y],gg,cq,mm+1,by omega,by go_num,rfl,by unfold He;rw [List.length_append,<- U.o];rfl,by omega,ag,Hn.o,eo.o,a3⟩
     simp [intOf];omega
   have dc:m=k:=by omega
   subst dc;have bh:=U.o;subst bh
   have HT:He (∀ p,p ∈ l↔TkP E n S m p):=fun p=>by
    refine (H.o p).trans ?_
    show BZ E n S m p/\(E p).id ∈ Y↔_
    rw [b7.o];exact ⟨fun ⟨h1,h2⟩=>⟨ae.o p ((H.o p).2 ⟨h1,(b7.o _).2 h2⟩),h1,h2⟩,fun ⟨_,h1,h2⟩=>⟨h1,h2⟩⟩
   have fr:He (l.Nodup):=an.o trivial;obtain ⟨la,lc,e1,ay⟩:=u.nsl (fun p hp=>au.o p (ae.o p hp));injection e1 with cv _ dk
   subst cv dk;have ex:He (dE wr (some ⟨g,0,none⟩) l.length cp (fS E l)):=ay;obtain ⟨w3,fx⟩:∃ w3:World,w3=wr:=⟨_,rfl⟩;subst fx;have b9:Below w3.heap.size w3 (w3.alloc (.cells #[] 9)):=bA;have ci:aH (w3.alloc (.cells #[] 9)) w3.heap.size (.slice (some ⟨w3.heap.size,0,none⟩) 0 0) (([]:List Nat).map fun p=>(E p).id):=aH.new w3 _ nL;have fw:He (∀ W,Below w3.heap.size w3 W->W.cell? ⟨w.heap.size,0,none⟩=some (.slice a n cap)):=fun W hW=>dg.o _ ((b6.o.trans (G.mono b6.o.size)).trans (hW.mono (by have:=b6.o.size;omega)))
   clear ay u H an U eb d1 d7 b7 dg b6 ct;generalize hL:l.length=ll at *;have HL:He (l.length=ll):=hL;clear hL
   go_wp2_with fail
   go_loopw [10] (fun v wr=>∃ (o:List Nat) (g cp mm:Nat),v=.slice (some ⟨g,0,none⟩) mm cp/\He (mm=o.length)/\mm<=ll/\aH wr w3.heap.size (.slice (some ⟨g,0,none⟩) mm cp) (o.map fun p=>(E p).id)/\He (kQ E n (fun q=>q ∈ l) (KG E n) o)/\Below w3.heap.size w3 wr) (fun v _=>ll - NY v)
   case atStart=>exact ⟨[],_,_,0,rfl,rfl,nz,ci,kQ.nil _ _ _ _,b9⟩
   case round =>
    clear b9 ci;obtain ⟨o,go,co,mo,rfl,ap,gq,u,ai,ah⟩:=hrel;have cm:=Z.trans (ah.mono Z.size);have ei:w3.heap.size<=wr.heap.size:=ah.size;have x3:=fw.o _ ah;have d5:He (∀ q ∈ o,q<n):=fun q hq=>ae.o q (ai.o.sub q hq)
    by_cases ax:mo<ll
    ·have HN:He (Calls prog 172 #[.agg #[.slice a n cap],.slice (some ⟨g,0,none⟩) ll cp,.slice (some ⟨go,0,none⟩) mo co] wr (FB wr E n l o)):=by
      obtain ⟨oa,oc,e2,e8⟩:=u.nsl (fun p hp=>au.o p (d5.o p hp));rw [<- ap.o] at e2;injection e2 with dm _ dn
      subst dm dn;unfold He;rw [ap.o,<- HL.o];exact RD wr N.o ae.o d5.o (HE.o.below cm) (by have:=ex.o.below ah;rw [<- HL.o] at this;exact this) e8
     have d8:He (∃ q,mU E n (fun q=>q ∈ l) o q):=by
      obtain ⟨p,e9,e6⟩:=EN fr.o (show o.length<l.length by rw [<- ap.o,HL.o];exact ax);exact SV N.o ae.o p e9 e6
     have bb:mo+1<=maxLen:=by unfold maxLen;omega
     have bm:(mo+1) * 16<=140737488355328:=by omega
     have O:∀ W,Below wr.heap.size wr W->W.ownsRow w3.heap.size 9 1 (.slice (some ⟨go,0,none⟩) mo co) mo ((o.map fun p=>(E p).id).map Value.string):=fun W hW=>by have:=u.below hW;unfold aH at this;rw [List.length_map,<- ap.o] at this;exact this
     have bn:He (_):=O;have am:He (∀ q,(Value.slice (some ⟨go,0,none⟩) mo co).ownBlock=some q->w3.heap.size<=q):=fun q hq=>(World.ownsRow.lt u q hq).1
     clear O
     go_wp2_with fail
     refine (HN.o).mono ?_;rintro e w5 ⟨s,rfl,hs,dl⟩
     obtain ⟨p,hp,es⟩:∃ p,UM E n (fun q=>q ∈ l) (KG E n) o p/\s=(E p).id:=by
      rcases hs with hs|hs
      ·exact hs
      obtain ⟨q,hq⟩:=d8.o;exact absurd hq (hs q)
     have fk:He (s=(E p).id):=es;have dq:He (kQ E n (fun q=>q ∈ l) (KG E n) (o ++ [p])):=ai.o.snoc hp;have bp:=bn.o w5 dl;have em:=ah.trans (dl.mono ei);have af:∀ o,w3.heap.size<=(w5.alloc o).heap.size:=fun o=>by have:=dl.size;simp;omega
     clear hs hp es HN d8 bn
     go_wp2_with (at_builtin;refine wpList_append_lies _ rfl _ _ 27 rfl w3.heap.size 9 i0 (.string ByteArray.empty) 1 16 underlying27 hi da cu db rfl (by decide) _ _ _ rfl (World.ownsRow.alloc bp _) ⟨w5.heap.size,0,none⟩ 1 1 [.string s] rfl rfl (aV _ _ _) (bL _) (by decide) bb bm (af _) (w5.heap.size+1) (by simp) ?_;intro gg cq w7 I J aq cc)
     have ag:aH w7 w3.heap.size (.slice (some ⟨gg,0,none⟩) (mo+1) cq) ((o ++ [p]).map fun p=>(E p).id):=by
      have h1:(o ++ [p]).map (fun p=>(E p).id)=(o.map fun p=>(E p).id) ++ [s]:=by rw [List.map_append,fk.o];rfl
      rw [h1];rw [ap.o] at I ⊢
      have:=aH.snoc (w:=w7) (base:=w3.heap.size) (v:=(.slice (some ⟨gg,0,none⟩) (o.length+1) cq)) (l:=(o.map fun p=>(E p).id)) (x:=s) (by rw [List.length_map];exact I);exact this
     have ds:Below w3.heap.size w3 w7:=(em.alloc em.size _).grown J (af _) am.o;clear I J aq bp af am;go_roundw
     case rel=>exact ⟨o ++ [p],gg,cq,mo+1,rfl,by unfold He;rw [List.length_append,<- ap.o];rfl,by omega,ag,dq.o,ds⟩
     simp [NY];omega
    have HP:He (EP w E n S m (.returned (.slice (some ⟨go,0,none⟩) mo co)) wr):=⟨_,o,rfl,u.mono (by have:=Z.size;omega),⟨ai.o.congr HT.o,fun p hp=>RE ai.o.nodup ai.o.sub (by rw [HL.o,<- ap.o];omega) p ((HT.o p).2 hp)⟩,cm⟩;clear ai ap;go_wp2
    go_ret;exact HP.o
variable {b:Nat}
def UO (E:Nat->Ev)(l:List Nat)(k:Nat):ByteArray:=(E (lX l k).toNat).id
theorem VR {a:Nat}(h:aF E n=true)(ha:a<n)(hb:b<n)(u:a≠b):((E a).id.toList == (E b).id.toList)=false:=by
 cases hq:((E a).id.toList == (E b).id.toList)
 ·rfl
 have e:=bC hq;have G:=aP h ha;rw [e,aP h hb] at G;omega
def ZA (u:World)(B:Nat)(E:Nat->Ev)(n:Nat)(l:List Nat)(G:Int)(s:Value)(wr:World):Prop :=
 ∃ q:Int,s=.string (nK E q)/\-1<=q/\q<n/\He (dp E n l G=dp E n l q)/\Below B u wr
theorem tS {la:Option Addr}{lc:Nat}{l:List Nat}(q0:Int)(w:World)(H:aF E n=true)(h1:-1<=q0)(h2:q0<n)(hl:∀ i ∈ l,i<n)(cc:l.length<=300)(h:dW w a n cap E)(hL:dE w la l.length lc (UO E l)) :
  Calls prog 180 #[.agg #[.slice a n cap],.slice la l.length lc,.string (nK E q0)] w fun x w'=>x=.returned (.int .i64 (dp E n l q0:Int))/\Below w.heap.size w w':=by
 have bz:=dJ H;obtain ⟨wb,J⟩:∃ wb,wb=w.alloc (.cells #[.slice a n cap] 25):=⟨_,rfl⟩;have a5:Below w.heap.size w wb:=by rw [J];exact bA
 have cb:wb.heap.size=w.heap.size+1:=by rw [J];simp
 have aw:He (∀ wx,Below (w.heap.size+1) wb wx->wx.cell? ⟨w.heap.size,0,none⟩=some (.slice a n cap)):=fun wx hx=>by subst J;exact aK hx 0
 have u:He (_):=H;have HE:He (dW w a n cap E):=h;have bb:He (dE w la l.length lc (UO E l)):=hL;have Hl:He (_):=hl;clear H h hL hl
 go_enter func180,ntmps180
 go_wp2_with fail
 rw [<- J];clear J
 go_loopw [2] (fun s wr=>ZA wb (w.heap.size+1) E n l q0 s wr) (fun s _=>(iW E n s+1).toNat)
 case atStart=>exact ⟨q0,rfl,h1,h2,rfl,kB⟩
 case round =>
  obtain ⟨q,rfl,b0,b8,ab,ae⟩:=hrel;have U:=a5.trans (ae.mono (by omega));have a4:w.heap.size+1<=wr.heap.size:=by have:=ae.size;omega
  by_cases ai:q=-1
  ·subst ai
   have hid:nK E (-1)=⟨#[]⟩:=rfl;have Hd:He ((l.length:Int)=(dp E n l q0:Int)):=by unfold He;rw [ab.o,WE _ _ _ (by decide)]
   rw [hid];go_wp2
   go_ret;exact ⟨aA Hd.o,U⟩
  obtain ⟨y,rfl⟩:∃ y:Nat,q=(y:Int):=⟨q.toNat,by omega⟩;have G:y<n:=by omega
  have hid:nK E (y:Int)=(E y).id:=by unfold nK;rw [if_pos (by omega),Int.toNat_natCast]
  have N:He (∀ z,z=wY E n y->(iW E n (.string z)+1).toNat<(iW E n (.string (E y).id)+1).toNat):=fun z hz=>by
   have bt:=kU u.o G;rw [hz,rD,kJ u.o bt.1 (by omega),<- hid,kJ u.o (by omega) (by omega)];omega
  rw [hid];have ad:He (_/\_):=kU u.o G;have ce:(E y).id.toList.isEmpty=false:=BQ (cL u.o G);clear ai hid;obtain ⟨wo,a8⟩:∃ wo:World,wo=wr:=⟨_,rfl⟩;subst a8
  go_wp2_with fail
  go_loop [7] (fun iv=>∃ k:Nat,k<=l.length/\iv=.int .i64 k/\He (∀ i,i<k->l.getD i 0≠y)) (fun iv=>l.length - (intOf iv).toNat)
  case atStart=>exact ⟨0,nz,rfl,fun i hi=>absurd hi (Nat.not_lt_zero _)⟩
  case round =>
   obtain ⟨k,hk,rfl,I⟩:=hrel
   by_cases ag:k<l.length
   ·rcases bb.o.cells with h0|⟨lb,lo,rfl,bj,ak⟩
    ·omega
    have hp:l.getD k 0<n:=Hl.o _ (by simp [List.getD,List.getElem?_eq_getElem ag])
    have bo:wo.cell? ⟨lb,lo+k,none⟩=some (.string (E (l.getD k 0)).id):=by
     have:=(U.cell (by exact bj)).trans (ak k ag);unfold UO lX at this;rw [Int.toNat_natCast] at this;exact this
    by_cases he:l.getD k 0=y
    ·have Hd:He ((k:Int)=(dp E n l q0:Int)):=by
      have hh:=UB ag I.o he;unfold He;rw [ab.o,a60 G (by rw [hh];exact ag),hh]
     rw [he] at bo;have ba:((E y).id.toList == (E y).id.toList)=true:=by simp
     clear ak I he;go_wp2
     go_ret;exact ⟨aA Hd.o,U⟩
    have ba:=VR u.o hp G he
    have bm:He (∀ i,i<k+1->l.getD i 0≠y):=fun i hi=>by
     by_cases e:i=k
     ·subst e;exact he
     exact I.o i (by omega)
    clear ak I he hp;generalize (E (l.getD k 0)).id=s at *;go_wp2
    go_round
    case rel=>exact ⟨k+1,by omega,by go_num,bm⟩
    simp [intOf];omega
   have Y:=PH (line:=l) (p:=y) (fun i hi=>I.o i (by omega));have aq:He (dp E n l q0=dp E n l (pI E n y)):=ab.o.trans (SA u.o G Y);have b4:=aw.o _ ae;have a2:Below wo.heap.size wo wo:=kB;have au:He (∀ W,Below wo.heap.size wo W->Calls prog 171 #[.agg #[.slice a n cap],.string (E y).id] W (eY W (E y))):=fun W hW=>fB _ W (HE.o.below (U.trans (hW.mono U.size))) G (aP u.o G)
   clear I Y ab
   go_wp2_with fail
   go_region_with (first
    | (go_at_call 171;refine (au.o _ (by with_reducible (repeat refine .drew ?_);exact a2)).mono ?_;rintro e w3 ⟨ah,bh,bn,a6,bp,bq,bk,rfl,O⟩;have ap:He (cI w3 (E y) bh bn a6 bp bq bk):=O;have ax:Below wo.heap.size wo w3:=Below.trans (by with_reducible (repeat refine .drew ?_);exact a2) ah;clear O ah;have am:=ae.trans (ax.mono a4);have b7:=aw.o _ am;have a3:=a5.trans (am.mono (by omega));have Z:Below w3.heap.size w3 w3:=kB)
    | (go_at_call 179;refine (sX (a:=a) (n:=n) (cap:=cap) (E:=E) (q:=y) _ u.o G ((HE.o.below a3).below (by with_reducible (repeat refine .drew ?_);exact Z)) (ap.o.below (by with_reducible (repeat refine .drew ?_);exact Z))).mono ?_;rintro e w4 ⟨rfl,aj⟩;have br:Below w3.heap.size w3 w4:=Below.trans (by with_reducible (repeat refine .drew ?_);exact Z) aj;clear aj))
   all_goals
    have ay:=am.trans (br.mono (nZ a4 ax.size));have Hz:He (wY E n y=nK E (pI E n y)):=rD E n y;have bg:He ((iW E n (.string (wY E n y))+1).toNat<(iW E n (.string (E y).id)+1).toNat):=N.o _ rfl;clear N au;generalize wY E n y=z at *;go_wp2
    go_roundw
    case rel=>first|exact ⟨pI E n y,by rw [Hz.o],ad.o.1,by have:=ad.o.2;omega,aq,ay⟩|((repeat apply Exists.intro);exact ⟨⟨pI E n y,by rw [Hz.o],ad.o.1,by have:=ad.o.2;omega,aq,ay⟩,rfl⟩)
    exact bg.o
end Go.Proofs.YtpfeegcdlikegaaGreat
