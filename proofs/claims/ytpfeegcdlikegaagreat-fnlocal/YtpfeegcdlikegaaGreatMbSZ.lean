import Derived.Test.YtpfeegcdlikegaaGreatPoSZ
set_option maxHeartbeats 16000000
set_option maxRecDepth 100000
namespace Go.Proofs.YtpfeegcdlikegaaGreat
open Go.RowKit Go.Proofs.Tryz
variable {a:Option Addr}{n p q cap:Nat}{E:Nat->Ev}
def qY (G u:Nat)(x y:Ev):Bool:=if G=u then (if x.tm=y.tm then Op.bytesLess x.id.toList y.id.toList else decide (x.tm<y.tm)) else decide (u<G)
theorem PX (E:Nat->Ev)(D:Nat->Nat)(a b:Nat):qY (D a) (D b) (E a) (E b)=true↔jW E D a b:=by
 unfold qY jW
 by_cases u:D a=D b
 ·rw [if_pos u]
  by_cases G:(E a).tm=(E b).tm
  ·rw [if_pos G,ByteArray.toList_eq,ByteArray.toList_eq,bytesLess_eq,decide_eq_true_eq]
   constructor
   ·exact fun h=>Or.inr ⟨u,Or.inr ⟨G,h⟩⟩
   rintro (h|⟨_,h|⟨_,h⟩⟩)
   ·omega
   ·omega
   exact h
  rw [if_neg G,decide_eq_true_eq];constructor
  ·exact fun h=>Or.inr ⟨u,Or.inl h⟩
  rintro (h|⟨_,h|⟨h,_⟩⟩)
  ·omega
  ·exact h
  exact absurd h G
 rw [if_neg u,decide_eq_true_eq];constructor
 ·exact Or.inl
 rintro (h|⟨h,_⟩)
 ·exact h
 exact absurd h u
theorem LX {la:Option Addr}{lc:Nat}{l:List Nat}(w:World)(ax:aF E n=true)(hp:p<n)(hq:q<n)(hl:∀ i ∈ l,i<n)(bw:l.length<=300)(h:dW w a n cap E)(hL:dE w la l.length lc (UO E l)) :
  Calls prog 175 #[.agg #[.slice a n cap],.slice la l.length lc,.string (E p).id,.string (E q).id] w fun x w'=>x=.returned (.bool (qY (dp E n l (p:Int)) (dp E n l (q:Int)) (E p) (E q)))/\Below w.heap.size w w':=by
 obtain ⟨wb,bg⟩:∃ wb,wb=w.alloc (.cells #[.slice a n cap] 25):=⟨_,rfl⟩;have bj:Below w.heap.size w wb:=by rw [bg];exact bA
 have cj:wb.heap.size=w.heap.size+1:=by rw [bg];simp
 have O:He (∀ wx,Below (w.heap.size+1) wb wx->wx.cell? ⟨w.heap.size,0,none⟩=some (.slice a n cap)):=fun wx hx=>by subst bg;exact aK hx 0
 have hid:∀ i:Nat,i<n->nK E (i:Int)=(E i).id:=fun i hi=>by unfold nK;rw [if_pos (by omega),Int.toNat_natCast]
 have bx:He (∀ W,Below w.heap.size w W->Calls prog 180 #[.agg #[.slice a n cap],.slice la l.length lc,.string (E p).id] W fun x w'=>x=.returned (.int .i64 (dp E n l (p:Int):Int))/\Below W.heap.size W w'):=fun W hW=>by
  have:=tS (p:Int) W ax (by omega) (by omega) hl bw (h.below hW) (hL.below hW);rw [hid p hp] at this;exact this
 have bp:He (∀ W,Below w.heap.size w W->Calls prog 180 #[.agg #[.slice a n cap],.slice la l.length lc,.string (E q).id] W fun x w'=>x=.returned (.int .i64 (dp E n l (q:Int):Int))/\Below W.heap.size W w'):=fun W hW=>by
  have:=tS (q:Int) W ax (by omega) (by omega) hl bw (h.below hW) (hL.below hW);rw [hid q hq] at this;exact this
 have hex:He (∀ W,Below w.heap.size w W->Calls prog 171 #[.agg #[.slice a n cap],.string (E p).id] W (eY W (E p))):=fun W hW=>fB _ W (h.below hW) hp (aP ax hp)
 have bi:He (∀ W,Below w.heap.size w W->Calls prog 171 #[.agg #[.slice a n cap],.string (E q).id] W (eY W (E q))):=fun W hW=>fB _ W (h.below hW) hq (aP ax hq)
 have cb:=UF E n l (p:Int);have cd:=UF E n l (q:Int);clear hid ax hl h hL;generalize dp E n l (p:Int)=dx at *;generalize dp E n l (q:Int)=dy at *;generalize E p=x at *;generalize E q=y at *;have ch:∀ (pa:Option Addr) (cp:Nat) (aa:Option Addr) (ca:Nat) (ga:Option Addr) (cg:Nat) (W:World),(Instr.field 30 (.agg (ec x pa cp aa ca ga cg)) 5).run prog W=.ok (.int .i64 x.tm) W:=fun _ _ _ _ _ _ _=>by kernel_rfl
 have cf:∀ (pa:Option Addr) (cp:Nat) (aa:Option Addr) (ca:Nat) (ga:Option Addr) (cg:Nat) (W:World),(Instr.field 30 (.agg (ec y pa cp aa ca ga cg)) 5).run prog W=.ok (.int .i64 y.tm) W:=fun _ _ _ _ _ _ _=>by kernel_rfl
 go_enter func175,ntmps175
 go_wp2_with fail
 rw [<- bg];clear bg;refine (bx.o _ bj).mono ?_;rintro e w1 ⟨rfl,bz⟩;have bf:=bz.mono (B':=w.heap.size+1) (by omega);have bu:=bj.trans (bf.mono (by omega));have bt:w.heap.size+1<=w1.heap.size:=by have:=bf.size;omega
 have b4:=O.o _ bf
 go_wp2_with fail
 refine (bp.o _ bu).mono ?_;rintro e wq ⟨rfl,br⟩;have Z:=bf.trans (br.mono bt);have U:=bj.trans (Z.mono (by omega));have a2:w.heap.size+1<=wq.heap.size:=by have:=Z.size;omega
 have b9:=O.o _ Z;clear bx bp bz br bf bu bt b4
 by_cases hd:dx=dy
 case neg =>
  have Hr:He (decide (dy<dx)=qY dx dy x y):=by unfold He qY;rw [if_neg hd]
  have ci:((dx:Int) == (dy:Int))=false:=by simp;omega
  have ck:((dx:Int) != (dy:Int))=true:=by simp;omega
  have b6:decide ((dy:Int)<(dx:Int))=decide (dy<dx):=by simp
  clear hd;go_wp2
  go_ret;exact ⟨by first|(rw [<- Hr.o,<- b6];done)|(rw [<- Hr.o];simp),U⟩
 case pos =>
  subst hd;have ab:He (∀ W,Below wq.heap.size wq W->Calls prog 171 #[.agg #[.slice a n cap],.string x.id] W (eY W x)):=fun W hW=>hex.o W (U.trans (hW.mono U.size))
  have ad:He (∀ W,Below wq.heap.size wq W->Calls prog 171 #[.agg #[.slice a n cap],.string y.id] W (eY W y)):=fun W hW=>bi.o W (U.trans (hW.mono U.size))
  have Y:Below wq.heap.size wq wq:=kB
  by_cases ht:x.tm=y.tm
  case pos =>
   have Hr:He (Op.bytesLess x.id.toList y.id.toList=qY dx dx x y):=by unfold He qY;rw [if_pos rfl,if_pos ht]
   have bm:(x.tm != y.tm)=false:=by simp [ht]
   clear ht hex bi
   go_wp2_with fail
   go_region_with (first
    | (go_at_call_of 171 x.id;refine (ab.o _ (by with_reducible (repeat refine .drew ?_);exact Y)).mono ?_;rintro e wA ⟨J,ah,aj,ay,am,ao,aw,u,-⟩;have G:e=.returned (.agg (ec x ah aj ay am ao aw)):=u;clear u;subst G;have hA:Below wq.heap.size wq wA:=Below.trans (by with_reducible (repeat refine .drew ?_);exact Y) J;have a8:=O.o _ (Z.trans (hA.mono a2)))
    | (go_at_call_of 171 y.id;refine (ad.o _ (by with_reducible (repeat refine .drew ?_);exact Y)).mono ?_;rintro e wB ⟨N,au,ap,ai,aq,ak,ag,u,-⟩;have G:e=.returned (.agg (ec y au ap ai aq ak ag)):=u;clear u;subst G;have hB:Below wq.heap.size wq wB:=Below.trans (by with_reducible (repeat refine .drew ?_);exact Y) N;have bc:=O.o _ (Z.trans (hB.mono a2)))
    | (go_at_call_of 171 x.id;refine (ab.o _ (by with_reducible (repeat refine .drew ?_);exact hB)).mono ?_;rintro e wA ⟨J,ah,aj,ay,am,ao,aw,u,-⟩;have G:e=.returned (.agg (ec x ah aj ay am ao aw)):=u;clear u;subst G;have hA:Below wq.heap.size wq wA:=Below.trans (by with_reducible (repeat refine .drew ?_);exact hB) (J.mono hB.size);have a8:=O.o _ (Z.trans (hA.mono a2)))
    | (go_at_call_of 171 y.id;refine (ad.o _ (by with_reducible (repeat refine .drew ?_);exact hA)).mono ?_;rintro e wB ⟨N,au,ap,ai,aq,ak,ag,u,-⟩;have G:e=.returned (.agg (ec y au ap ai aq ak ag)):=u;clear u;subst G;have hB:Below wq.heap.size wq wB:=Below.trans (by with_reducible (repeat refine .drew ?_);exact hA) (N.mono hA.size);have bc:=O.o _ (Z.trans (hB.mono a2))))
   all_goals
    go_wp2
    go_ret;exact ⟨aC Hr.o,by first|exact U.trans (hA.mono U.size)|exact U.trans (hB.mono U.size)|exact (U.trans (hA.mono U.size)).drew|exact (U.trans (hB.mono U.size)).drew⟩
  case neg =>
   have Hr:He (decide (x.tm<y.tm)=qY dx dx x y):=by unfold He qY;rw [if_pos rfl,if_neg ht]
   have bm:(x.tm != y.tm)=true:=by simpa using ht
   have ba:He (∀ W,Below w.heap.size w W->Calls prog 171 #[.agg #[.slice a n cap],.string x.id] W (eY W x)):=hex;have a6:He (∀ W,Below w.heap.size w W->Calls prog 171 #[.agg #[.slice a n cap],.string y.id] W (eY W y)):=bi;clear ht hex bi
   go_wp2_with fail
   go_cut [33] from 11 to 45 (fun v wx=>v=.bool true/\Below wq.heap.size wq wx)
   case first =>
    go_region_with (first
     | (go_at_call_of 171 x.id;refine (ab.o _ (by with_reducible (repeat refine .drew ?_);exact Y)).mono ?_;rintro e wA ⟨J,ah,aj,ay,am,ao,aw,u,-⟩;have G:e=.returned (.agg (ec x ah aj ay am ao aw)):=u;clear u;subst G;have hA:Below wq.heap.size wq wA:=Below.trans (by with_reducible (repeat refine .drew ?_);exact Y) J;have a8:=O.o _ (Z.trans (hA.mono a2)))
     | (go_at_call_of 171 y.id;refine (ad.o _ (by with_reducible (repeat refine .drew ?_);exact Y)).mono ?_;rintro e wB ⟨N,au,ap,ai,aq,ak,ag,u,-⟩;have G:e=.returned (.agg (ec y au ap ai aq ak ag)):=u;clear u;subst G;have hB:Below wq.heap.size wq wB:=Below.trans (by with_reducible (repeat refine .drew ?_);exact Y) N;have bc:=O.o _ (Z.trans (hB.mono a2)))
     | (go_at_call_of 171 x.id;refine (ab.o _ (by with_reducible (repeat refine .drew ?_);exact hB)).mono ?_;rintro e wA ⟨J,ah,aj,ay,am,ao,aw,u,-⟩;have G:e=.returned (.agg (ec x ah aj ay am ao aw)):=u;clear u;subst G;have hA:Below wq.heap.size wq wA:=Below.trans (by with_reducible (repeat refine .drew ?_);exact hB) (J.mono hB.size);have a8:=O.o _ (Z.trans (hA.mono a2)))
     | (go_at_call_of 171 y.id;refine (ad.o _ (by with_reducible (repeat refine .drew ?_);exact hA)).mono ?_;rintro e wB ⟨N,au,ap,ai,aq,ak,ag,u,-⟩;have G:e=.returned (.agg (ec y au ap ai aq ak ag)):=u;clear u;subst G;have hB:Below wq.heap.size wq wB:=Below.trans (by with_reducible (repeat refine .drew ?_);exact hA) (N.mono hA.size);have bc:=O.o _ (Z.trans (hB.mono a2))))
    all_goals (try go_wp2_with fail)
    all_goals go_meet
    all_goals exact ⟨by first|rfl|rw [bm],by first|exact hA|exact hB|exact hA.drew|exact hB.drew⟩
   case rest =>
    obtain ⟨rfl,bo⟩:=hcut;obtain ⟨I,bv⟩:∃ I:World,I=wc:=⟨_,rfl⟩;subst bv;have an:=Z.trans (bo.mono a2);have H:=bj.trans (an.mono (by omega));have a4:w.heap.size+1<=I.heap.size:=by have:=an.size;omega
    have cc:=O.o _ an;clear ab ad Y Z U a2 b9 bo bm;have ab:He (∀ W,Below I.heap.size I W->Calls prog 171 #[.agg #[.slice a n cap],.string x.id] W (eY W x)):=fun W hW=>ba.o W (H.trans (hW.mono H.size))
    have ad:He (∀ W,Below I.heap.size I W->Calls prog 171 #[.agg #[.slice a n cap],.string y.id] W (eY W y)):=fun W hW=>a6.o W (H.trans (hW.mono H.size))
    have Y:Below I.heap.size I I:=kB;clear ba a6
    go_wp2_with fail
    go_region_with (first
     | (go_at_call_of 171 x.id;refine (ab.o _ (by with_reducible (repeat refine .drew ?_);exact Y)).mono ?_;rintro e wA ⟨J,ah,aj,ay,am,ao,aw,u,-⟩;have G:e=.returned (.agg (ec x ah aj ay am ao aw)):=u;clear u;subst G;have hA:Below I.heap.size I wA:=Below.trans (by with_reducible (repeat refine .drew ?_);exact Y) J;have a8:=O.o _ (an.trans (hA.mono a4)))
     | (go_at_call_of 171 y.id;refine (ad.o _ (by with_reducible (repeat refine .drew ?_);exact Y)).mono ?_;rintro e wB ⟨N,au,ap,ai,aq,ak,ag,u,-⟩;have G:e=.returned (.agg (ec y au ap ai aq ak ag)):=u;clear u;subst G;have hB:Below I.heap.size I wB:=Below.trans (by with_reducible (repeat refine .drew ?_);exact Y) N;have bc:=O.o _ (an.trans (hB.mono a4)))
     | (go_at_call_of 171 x.id;refine (ab.o _ (by with_reducible (repeat refine .drew ?_);exact hB)).mono ?_;rintro e wA ⟨J,ah,aj,ay,am,ao,aw,u,-⟩;have G:e=.returned (.agg (ec x ah aj ay am ao aw)):=u;clear u;subst G;have hA:Below I.heap.size I wA:=Below.trans (by with_reducible (repeat refine .drew ?_);exact hB) (J.mono hB.size);have a8:=O.o _ (an.trans (hA.mono a4)))
     | (go_at_call_of 171 y.id;refine (ad.o _ (by with_reducible (repeat refine .drew ?_);exact hA)).mono ?_;rintro e wB ⟨N,au,ap,ai,aq,ak,ag,u,-⟩;have G:e=.returned (.agg (ec y au ap ai aq ak ag)):=u;clear u;subst G;have hB:Below I.heap.size I wB:=Below.trans (by with_reducible (repeat refine .drew ?_);exact hA) (N.mono hA.size);have bc:=O.o _ (an.trans (hB.mono a4))))
    all_goals
     go_wp2
     go_ret;exact ⟨aC Hr.o,by first|exact H.trans (hA.mono H.size)|exact H.trans (hB.mono H.size)|exact (H.trans (hA.mono H.size)).drew|exact (H.trans (hB.mono H.size)).drew⟩
variable {ia:Option Addr}{m icap:Nat}{S:Nat->ByteArray}
def ZQ (w1:World)(E:Nat->Ev)(n:Nat)(D:Nat->Nat)(S:Nat->ByteArray)(m:Nat)(v i:Value)(wr:World):Prop :=
 ∃ (k:Nat) (l:List ByteArray) (g cp u:Nat),k<=m/\i=.int .i64 (k:Int)/\v=.slice (some ⟨g,0,none⟩) u cp/\He (u=l.length)/\u<=k/\aH wr w1.heap.size (.slice (some ⟨g,0,none⟩) u cp) l/\He (kO E n D l)/\He (∀ s,s ∈ l↔∃ i,i<k/\S i=s)/\Below w1.heap.size w1 wr
def am0 (w1:World)(E:Nat->Ev)(n:Nat)(D:Nat->Nat)(H u cq:Nat)(l:List ByteArray)(s:ByteArray)(I:Value)(G:World):Prop :=
 ∃ j:Nat,I=.int .i64 (j:Int)/\j<=u/\aH G w1.heap.size (.slice (some ⟨H,0,none⟩) (u+1) cq) (bQ l j s)/\He (∀ i,j<=i->i<l.length->jW E D (jG E n s) (jG E n (aG l i)))/\Below w1.heap.size w1 G
theorem OW (q0:Int)(w:World)(N:aF E n=true)(h1:-1<=q0)(h2:q0<n)(hm:m<=300)(ce:∀ i,i<m->0<=aL E n (S i))(h:dW w a n cap E)(bf:dE w ia m icap S) :
  Calls prog 159 #[.agg #[.slice a n cap],.slice ia m icap,.string (nK E q0)] w (XJ w E n (fun p:Nat=>dp E n (ln E n q0) (p:Int)) S m):=by
 obtain ⟨i0,hi,df,cz,dh⟩:=info_parts Tryz.infoString;obtain ⟨wb,ay⟩:∃ wb,wb=w.alloc (.cells #[.slice a n cap] 25):=⟨_,rfl⟩;have ct:Below w.heap.size w wb:=by rw [ay];exact bA
 have es:wb.heap.size=w.heap.size+1:=by rw [ay];simp
 have dk:He (∀ wx,Below (w.heap.size+1) wb wx->wx.cell? ⟨w.heap.size,0,none⟩=some (.slice a n cap)):=fun wx hx=>by subst ay;exact aK hx 0
 have db:=NN E n q0;have b9:=dJ N;have bx:=VK N h2
 have bg:∀ i,i<n->(E i).id.size<=maxLen:=fun i ai=>by
  rcases h.cells with h0|⟨b,off,_,_,hc⟩
  ·omega
  obtain ⟨_,_,_,_,_,_,_,dl⟩:=hc i ai;exact dl.hid
 obtain ⟨D,hD⟩:∃ D:Nat->Nat,D=fun p:Nat=>dp E n (ln E n q0) (p:Int):=⟨_,rfl⟩
 rw [<- hD];have cv:He (∀ W,Below w.heap.size w W->Calls prog 174 #[.agg #[.slice a n cap],.string (nK E q0)] W (QQ W E (ln E n q0))):=fun W hW=>KF q0 W N h1 h2 (h.below hW)
 have cd:He (∀ (W:World) (la:Option Addr) (lc p q:Nat),p<n->q<n->Below w.heap.size w W->dE W la (ln E n q0).length lc (UO E (ln E n q0))->Calls prog 175 #[.agg #[.slice a n cap],.slice la (ln E n q0).length lc,.string (E p).id,.string (E q).id] W fun x w'=>x=.returned (.bool (qY (D p) (D q) (E p) (E q)))/\Below W.heap.size W w'):=fun W la lc p q hp hq hW hL=>by
  have:=LX (p:=p) (q:=q) W N hp hq bx (by omega) (h.below hW) hL;rw [hD];exact this
 have cn:He (∀ k,k<(ln E n q0).length->(UO E (ln E n q0) k).size<=maxLen):=fun k hk=>by
  obtain ⟨p,hp,e⟩:=aj0 bx hk;unfold UO;rw [e,Int.toNat_natCast];exact bg p hp
 have b4:He (∀ s:ByteArray,0<=aL E n s->jG E n s<n/\(E (jG E n s)).id=s):=fun s hs=>by
  obtain ⟨i,ai,e,hb⟩:=dU E s n hs;unfold jG;rw [e,Int.toNat_natCast];exact ⟨ai,bC hb⟩
 have co:He (_):=ce;have an:He (_):=N;generalize ln E n q0=line at *;clear hD bx bg ce N db
 go_enter func159,ntmps159
 go_wp2_with fail
 rw [<- ay];clear ay;refine (cv.o _ ct).mono ?_;rintro e w1 ⟨v1,rfl,cx,cf⟩;have a6:=cf.mono (B':=w.heap.size+1) (by omega);have ax:=ct.trans (a6.mono (by omega));have b8:w.heap.size+1<=w1.heap.size:=by have:=a6.size;omega
 obtain ⟨la,lc,rfl,cj⟩:=cx.sl cn.o;have ba:dE w1 la line.length lc (UO E line):=cj;have cc:Below w1.heap.size w1 (w1.alloc (.cells #[] 9)):=bA;have ck:aH (w1.alloc (.cells #[] 9)) w1.heap.size (.slice (some ⟨w1.heap.size,0,none⟩) 0 0) []:=aH.new w1 _ nL;clear cv cx cj cf
 go_wp2_with fail
 go_loopw [8,9] (fun v i wr=>ZQ w1 E n D S m v i wr) (fun _ i _=>m - (intOf i).toNat)
 case atStart=>exact ⟨0,[],_,_,0,nz,rfl,rfl,rfl,nL,ck,List.Pairwise.nil,fun s=>by simp,cc⟩
 case round =>
  clear cc ck;obtain ⟨k,l,g,cp,I,hk,rfl,rfl,J,eh,ad,ae,O,Z⟩:=hrel;have bp:=ax.trans (Z.mono ax.size);have dn:=a6.trans (Z.mono b8);have eu:w1.heap.size<=wr.heap.size:=Z.size
  by_cases cb:k<m
  ·rcases bf.cells with h0|⟨bi,oi,rfl,dc,bk⟩
   ·omega
   have de:wr.cell? ⟨bi,oi+k,none⟩=some (.string (S k)):=(bp.cell (by exact dc)).trans (bk k cb);have cm:∀ i,i<I->wr.cell? ⟨g,0+i,none⟩=some (.string (aG l i)):=fun i ai=>by rw [Nat.zero_add];exact ad.cell J.o (by rw [<- J.o];exact ai)
   have Hc:He (_):=bk;clear bk
   go_wp2_with fail
   refine (iK g 0 I cp (aG l) (S k) wr (by unfold maxLen;omega) cm).mono ?_;rintro e ak ⟨rfl,cw⟩;subst cw;have ab:=jK l (S k) I (by rw [J.o];exact nL);rw [J.o,List.take_length,<- J.o] at ab;clear cm;cases hh:bD (aG l) I (S k)
   case true =>
    rw [hh] at ab;have aq:He (S k ∈ l):=ab.1 rfl;clear ab;go_wp2
    go_roundw
    case rel=>first|exact ⟨k+1,l,g,cp,I,by omega,by go_num,rfl,J.o,by omega,ad,ae.o,iM O.o (fun s=>⟨Or.inr,fun h=>h.elim (fun e=>e ▸ aq.o) id⟩),Z⟩|((repeat apply Exists.intro);exact ⟨⟨k+1,l,g,cp,I,by omega,by go_num,rfl,J.o,by omega,ad,ae.o,iM O.o (fun s=>⟨Or.inr,fun h=>h.elim (fun e=>e ▸ aq.o) id⟩),Z⟩,rfl⟩)
    simp [intOf];omega
   case false =>
    rw [hh] at ab;have aq:He (S k ∉ l):=fun h=>by cases ab.2 h
    have bo:He (0<=aL E n (S k)):=co.o k cb
    have aw:He (∀ s ∈ l,0<=aL E n s):=fun s hs=>by
     obtain ⟨i,ai,rfl⟩:=(O.o s).1 hs;exact co.o i (by omega)
    clear ab hh;have b2:I+1<=maxLen:=by unfold maxLen;omega
    have ci:(I+1) * 16<=140737488355328:=by omega
    have bu:∀ o,w1.heap.size<=(ak.alloc o).heap.size:=fun o=>by simp;omega
    have b5:He (∀ q,(Value.slice (some ⟨g,0,none⟩) I cp).ownBlock=some q->w1.heap.size<=q):=fun q hq=>by have:=World.ownsRow.lt ad q hq;exact this.1
    have ao:ak.ownsRow w1.heap.size 9 1 (.slice (some ⟨g,0,none⟩) I cp) I (l.map Value.string):=by have:=ad;unfold aH at this;rw [<- J.o] at this;exact this
    go_wp2_with (at_builtin;refine wpList_append_lies _ rfl _ _ 27 rfl w1.heap.size 9 i0 (.string ByteArray.empty) 1 16 underlying27 hi df cz dh rfl (by decide) _ _ _ rfl (World.ownsRow.alloc ao _) ⟨ak.heap.size,0,none⟩ 1 1 [.string (S k)] rfl rfl (aV _ _ _) (bL _) (by decide) b2 ci (bu _) (ak.heap.size+1) (by simp) ?_;intro U cq w2 af ah cu dx)
    have au:aH w2 w1.heap.size (.slice (some ⟨U,0,none⟩) (I+1) cq) (bQ l I (S k)):=by
     rw [J.o,uS];rw [J.o] at af;exact aH.snoc af
    have ap:=(Z.alloc Z.size _).grown ah (bu _) b5.o;clear af ah cu ao ad b2 ci bu b5 de;obtain ⟨wo,cy⟩:∃ wo:World,wo=ak:=⟨_,rfl⟩;subst cy
    go_loopw [10] (fun jv wi=>am0 w1 E n D U I cq l (S k) jv wi) (fun jv _=>(intOf jv).toNat)
    case atStart=>exact ⟨I,by go_num,nL,au,fun i h1 h2=>absurd h1 (by rw [J.o];omega),ap⟩
    case round =>
     clear au ap;obtain ⟨j,rfl,hj,G,a2,u⟩:=hrel;have Y:I+1=(bQ l j (S k)).length:=by rw [qG (by rw [<- J.o];exact hj),<- J.o]
     have bw:I<=l.length:=by rw [J.o];exact nL
     have am:=ax.trans (u.mono ax.size);have bt:=dk.o _ (a6.trans (u.mono b8));have b6:=ba.below u;have a5:w1.heap.size<=wr.heap.size:=u.size
     by_cases h0:0<j
     ·obtain ⟨q,rfl⟩:∃ q,j=q+1:=⟨j - 1,by omega⟩
      have c1:wr.cell? ⟨U,q+1,none⟩=some (.string (S k)):=by rw [G.cell Y (by omega),vW (by omega)]
      have c2:wr.cell? ⟨U,q,none⟩=some (.string (aG l q)):=by rw [G.cell Y (by omega),oX (by omega)]
      have f1:=G.frozen Y (q+1);have f2:=G.frozen Y q;have aj:U<wr.heap.size:=(World.ownsRow.lt G U rfl).2;have dd:He (0<=aL E n (aG l q)):=aw.o _ (bO (by omega))
      have bv:He (∀ W,Below wr.heap.size wr W->Calls prog 175 #[.agg #[.slice a n cap],.slice la line.length lc,.string (S k),.string (aG l q)] W fun x w'=>x=.returned (.bool (qY (D (jG E n (S k))) (D (jG E n (aG l q))) (E (jG E n (S k))) (E (jG E n (aG l q)))))/\Below W.heap.size W w'):=fun W hW=>by
       obtain ⟨p1,e1⟩:=b4.o _ bo.o;obtain ⟨p2,e2⟩:=b4.o _ dd.o
       have:=cd.o W la lc _ _ p1 p2 (am.trans (hW.mono am.size)) (b6.below hW);rw [e1,e2] at this;exact this
      have bm:Below wr.heap.size wr wr:=kB;obtain ⟨bq,bn⟩:∃ bq,bq=qY (D (jG E n (S k))) (D (jG E n (aG l q))) (E (jG E n (S k))) (E (jG E n (aG l q))):=⟨_,rfl⟩;have a3:He (bq=true↔jW E D (jG E n (S k)) (jG E n (aG l q))):=by unfold He;rw [bn];exact PX E D _ _
      rw [<- bn] at bv;have HL:He (_):=Y;have a4:He (w1.heap.size<=U):=by have:=World.ownsRow.lt G U rfl;exact this.1
      clear bn Y;have da:w.heap.size<wr.heap.size:=by omega
      have y1:q<I:=by omega
      have y2:q<=I:=by omega
      have y3:(q:Int)<(I:Int):=by omega
      have y4:(q:Int)<=(I:Int):=by omega
      have y5:(0:Int)<=(q:Int):=by omega
      have y6:(0:Int)<=(q:Int)+1:=by omega
      have y7:IntKind.i64.wrap ((q:Int)+1 - 1)=(q:Int):=by rw [IntKind.wrap_i64];omega
      have y8:IntKind.i64.wrap (q:Int)=(q:Int):=by rw [IntKind.wrap_i64];omega
      have x1:((q+1:Nat):Int)<((I+1:Nat):Int):=by omega
      have x2:(q:Int)+1<(I:Int)+1:=by omega
      have x3:(q:Int)<(I:Int)+1:=by omega
      have x4:(0:Int)<(q:Int)+1:=by omega
      have d7:decide ((0:Int)<((q+1:Nat):Int))=true:=decide_eq_true (by omega);have ek:decide ((0:Int)<(q:Int)+1)=true:=decide_eq_true (by omega);clear cd cn h bf Hc b9 h1 h2 ba am dn bp
      go_wp2_with fail
      go_cut [53] from 38 to 72 (fun v wx=>v=.bool bq/\Below wr.heap.size wr wx)
      case first =>
       go_region_held3 (fun W=>W.cell? ⟨w.heap.size,0,none⟩=some (.slice a n cap)/\W.cell? ⟨U,q+1,none⟩=some (.string (S k))/\W.cell? ⟨U,q,none⟩=some (.string (aG l q)))
        (first|(with_reducible exact ⟨bt,c1,c2⟩)|go_keep)
        ((go_at_call 175;refine (bv.o _ (by with_reducible (repeat refine .drew ?_);exact bm)).mono ?_;rintro e w5 ⟨rfl,a8⟩;have H:Below wr.heap.size wr w5:=Below.trans (by with_reducible (repeat refine .drew ?_);exact bm) a8;clear a8;have ed:=(H.cell (by exact da)).trans bt;have d6:=(H.cell (by exact aj)).trans c1;have et:=(H.cell (by exact aj)).trans c2))
       all_goals (try go_wp2_with fail)
       all_goals go_meet
       all_goals exact ⟨rfl,H⟩
      case rest =>
       obtain ⟨rfl,H⟩:=hcut;obtain ⟨w5,dg⟩:∃ w5:World,w5=wc:=⟨_,rfl⟩;subst dg;have ef:=(H.cell (by exact aj)).trans c1;have dr:=(H.cell (by exact aj)).trans c2;have ew:=(H.frozen (p:=⟨U,q+1,none⟩) aj).trans f1;have dt:=(H.frozen (p:=⟨U,q,none⟩) aj).trans f2;clear bv bm c1 c2 f1 f2 bt b6;cases bq
       case false =>
        have Hs:He (kO E n D (bQ l (q+1) (S k))):=yU an.o aw.o bo.o ae.o aq.o (by omega) a2.o (Or.inr ⟨q,rfl,fun h=>by have:=a3.o.2 h;cases this⟩);clear bw a3;go_wp2
        go_roundw
        case rel=>first|exact ⟨k+1,bQ l (q+1) (S k),U,cq,I+1,by omega,by go_num,rfl,HL.o,by omega,G.below H,Hs.o,iM O.o (fun s=>iQ),u.trans (H.mono a5)⟩|((repeat apply Exists.intro);exact ⟨⟨k+1,bQ l (q+1) (S k),U,cq,I+1,by omega,by go_num,rfl,HL.o,by omega,G.below H,Hs.o,iM O.o (fun s=>iQ),u.trans (H.mono a5)⟩,rfl⟩)
        simp [intOf];omega
       case true =>
        have Hl:He (jW E D (jG E n (S k)) (jG E n (aG l q))):=a3.o.1 rfl
        have dj:He (∀ W,Below wr.heap.size wr W->aH ((W.setCell ⟨U,q+1,none⟩ (.string (aG l q))).setCell ⟨U,q,none⟩ (.string (S k))) w1.heap.size (.slice (some ⟨U,0,none⟩) (I+1) cq) (bQ l q (S k))):=fun W hW=>by
         have h5:=(((G.below hW).put HL.o (q+1) (aG l q)).put (by rw [List.length_set];exact HL.o) q (S k));rw [tD (by omega)] at h5;exact h5
        clear bw a3;have el:(w5.setCell ⟨U,q+1,none⟩ (.string (aG l q))).cell? ⟨U,q,none⟩=some (.string (aG l q)):=by rw [aB (by omega)];exact dr
        have f35:(w5.setCell ⟨U,q+1,none⟩ (.string (aG l q))).frozen? ⟨U,q,none⟩=false:=by rw [World.frozen?_setCell];exact dt
        have Ho:He (aH ((w5.setCell ⟨U,q+1,none⟩ (.string (aG l q))).setCell ⟨U,q,none⟩ (.string (S k))) w1.heap.size (.slice (some ⟨U,0,none⟩) (I+1) cq) (bQ l q (S k))):=dj.o w5 H;go_wp2
        go_roundw
        case rel=>first|exact ⟨q,by go_num,by omega,Ho.o,fun i h1 h2=>by (by_cases e:i=q;(subst e;exact Hl.o);exact a2.o i (by omega) h2),((u.trans (H.mono a5)).setCell a4.o _).setCell a4.o _⟩|((repeat apply Exists.intro);exact ⟨⟨q,by go_num,by omega,Ho.o,fun i h1 h2=>by (by_cases e:i=q;(subst e;exact Hl.o);exact a2.o i (by omega) h2),((u.trans (H.mono a5)).setCell a4.o _).setCell a4.o _⟩,rfl⟩)
        simp [intOf]
     have dq:j=0:=by omega
     subst dq;have Hs:He (kO E n D (bQ l 0 (S k))):=yU an.o aw.o bo.o ae.o aq.o (by omega) a2.o (Or.inl rfl);have HL:He (_):=Y;clear Y bw
     go_wp2_with fail
     go_region
     all_goals
      go_wp2
      go_roundw
      case rel=>first|exact ⟨k+1,bQ l 0 (S k),U,cq,I+1,by omega,by go_num,rfl,HL.o,by omega,G.kept (fun _ _ _=>rfl),Hs.o,iM O.o (fun s=>iQ),by first|exact u|exact u.drew|exact u.drew.drew⟩|((repeat apply Exists.intro);exact ⟨⟨k+1,bQ l 0 (S k),U,cq,I+1,by omega,by go_num,rfl,HL.o,by omega,G.kept (fun _ _ _=>rfl),Hs.o,iM O.o (fun s=>iQ),by first|exact u|exact u.drew|exact u.drew.drew⟩,rfl⟩)
      simp [intOf];omega
  have dm:k=m:=by omega
  subst dm;go_wp2
  go_ret;exact ⟨_,l,rfl,ad.mono ax.size,ae.o,O.o,bp⟩
end Go.Proofs.YtpfeegcdlikegaaGreat
