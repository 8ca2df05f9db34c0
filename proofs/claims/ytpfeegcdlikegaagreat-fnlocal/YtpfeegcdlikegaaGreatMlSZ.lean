import Derived.Test.YtpfeegcdlikegaaGreatRmSZ
set_option maxHeartbeats 16000000
set_option maxRecDepth 100000
namespace Go.Proofs.YtpfeegcdlikegaaGreat
open Go.RowKit Go.Proofs.Tryz
variable {E:Nat->Ev}{n p q ca cg cp cap:Nat}{a aa ga pa:Option Addr}
theorem TO (h:aF E n=true):∀ i,i<n->uN ⟨#[112,111,119,101,114]⟩ ⟨#[]⟩ (E i)=aT (E i):=fun i hi=>by
 have u:(⟨#[112,111,119,101,114]⟩:ByteArray).toList=[112,111,119,101,114]:=by rw [ByteArray.toList_eq]
 have I:(⟨#[]⟩:ByteArray).toList=[]:=by rw [ByteArray.toList_eq]
 unfold uN;rw [u,I];cases hp:aT (E i)
 ·unfold aT at hp
  rw [hp];simp
 obtain ⟨G,H⟩:=WY (cL h hi) hp;unfold aT at hp;rw [hp,G]
 have:(E i).key.toList=[]:=by simpa using H
 rw [this];rfl
def wY (E:Nat->Ev)(n p:Nat):ByteArray:=if 0<=pI E n p then (E (pI E n p).toNat).id else ⟨#[]⟩
theorem WD (h:aF E n=true)(hp:p<n):yM E n (uN ⟨#[112,111,119,101,114]⟩ ⟨#[]⟩) (E p)=wY E n p:=by
 unfold yM wY pI;rw [sI h hp (TO h) _ nL]
theorem sX (w:World)(u:aF E n=true)(hq:q<n)(h:dW w a n cap E)(J:cI w (E q) pa cp aa ca ga cg) :
  Calls prog 179 #[.agg #[.slice a n cap],(E q).val' pa cp aa ca ga cg] w fun x w'=>x=.returned (.string (wY E n q))/\Below w.heap.size w w':=by
 have N:He (∀ W,Below w.heap.size w W->Calls prog 173 #[.agg #[.slice a n cap],(E q).val' pa cp aa ca ga cg,.string ⟨#[112,111,119,101,114]⟩,.string ⟨#[]⟩] W fun x w'=>x=.returned (.string (wY E n q))/\Below W.heap.size W w'):=fun W I=>by
  have:=uV ⟨#[112,111,119,101,114]⟩ ⟨#[]⟩ W u hq (h.below I) (J.below I);rw [WD u hq] at this;exact this
 have G:Below w.heap.size w (nD w a n cap (E q) pa cp aa ca ga cg):=bA.alloc (by simp) _;clear u hq h J;generalize wY E n q=z at *;generalize E q=ev at *
 go_enter func179,ntmps179
 go_wp2_with fail
 refine (N.o _ G).mono ?_;rintro e w1 ⟨rfl,H⟩;go_wp2
 go_ret;exact ⟨rfl,G.trans (H.mono G.size)⟩
def nK (E:Nat->Ev)(q:Int):ByteArray:=if 0<=q then (E q.toNat).id else ⟨#[]⟩
theorem rD (E:Nat->Ev)(n p:Nat):wY E n p=nK E (pI E n p):=rfl
def iW (E:Nat->Ev)(n:Nat):Value->Int
 | .string t=>aL E n t
 | _=>-1
theorem kJ (h:aF E n=true){q:Int}(G:-1<=q)(H:q<n):iW E n (.string (nK E q))=q:=by
 show aL E n (nK E q)=q
 unfold nK
 by_cases u:0<=q
 ·rw [if_pos u,aP h (show q.toNat<n by omega)]
  omega
 rw [if_neg u,kV h (by rw [ByteArray.toList_eq];rfl)];omega
def QQ (w:World)(E:Nat->Ev)(l:List Nat)(e:Ending)(w':World):Prop :=
 ∃ v,e=.returned v/\bU w' w.heap.size v l.length (fun k=>(E (lX l k).toNat).id)/\Below w.heap.size w w'
def ZR (w u:World)(E:Nat->Ev)(n:Nat)(l:List Nat)(s v:Value)(wr:World):Prop :=
 ∃ (q:Int) (k:Nat),s=.string (nK E q)/\-1<=q/\q<n/\k<=l.length/\He (l.drop k=ln E n q)/\bU wr (w.heap.size+1) v k (fun k=>(E (lX l k).toNat).id)/\Below (w.heap.size+1) u wr
theorem KF (q0:Int)(w:World)(H:aF E n=true)(h1:-1<=q0)(h2:q0<n)(h:dW w a n cap E) :
  Calls prog 174 #[.agg #[.slice a n cap],.string (nK E q0)] w (QQ w E (ln E n q0)):=by
 have b8:=dJ H;obtain ⟨i0,hi,bv,bk,bx⟩:=info_parts Tryz.infoString;obtain ⟨l,hl⟩:∃ l,l=ln E n q0:=⟨_,rfl⟩;have cv:l.length<=300:=by rw [hl];have:=NN E n q0;omega
 have bb:He (l.drop 0=ln E n q0):=by unfold He;rw [<- hl];rfl
 rw [<- hl];clear hl;obtain ⟨N,ab⟩:∃ N,N=w.alloc (.cells #[.slice a n cap] 25):=⟨_,rfl⟩;have au:Below w.heap.size w N:=by rw [ab];exact bA
 have b4:N.heap.size=w.heap.size+1:=by rw [ab];simp
 have a8:Below (w.heap.size+1) N (N.alloc (.cells #[] 9)):=kB.alloc (by omega) _;have aw:bU (N.alloc (.cells #[] 9)) (w.heap.size+1) (.slice (some ⟨N.heap.size,0,none⟩) 0 0) 0 (fun k=>(E (lX l k).toNat).id):=bU.new N _ (by omega) _;rw [b4] at aw;have bc:He (∀ wx,Below (w.heap.size+1) N wx->wx.cell? ⟨w.heap.size,0,none⟩=some (.slice a n cap)):=fun wx hx=>by subst ab;exact aK hx 0
 have u:He (_):=H;have HE:He (dW w a n cap E):=h;clear H h
 go_enter func174,ntmps174
 go_wp2_with fail
 rw [<- ab];clear ab
 go_loopw [1,5] (fun s v wr=>ZR w N E n l s v wr) (fun s _ _=>(iW E n s+1).toNat)
 case atStart=>exact ⟨q0,0,rfl,h1,h2,nz,bb,aw,a8⟩
 case round =>
  clear bb aw a8;obtain ⟨q,k,rfl,cd,cc,hk,an,J,ae⟩:=hrel;have a5:=au.trans (ae.mono (by omega));have cj:w.heap.size+1<=wr.heap.size:=by have:=ae.size;omega
  by_cases ai:q=-1
  ·subst ai
   have b6:k=l.length:=XP (by rw [an.o,WL _ _ (by decide)]) hk;subst b6;have hid:nK E (-1)=⟨#[]⟩:=rfl;rw [hid];go_wp2
   go_ret;exact ⟨_,rfl,J.mono (by omega),a5⟩
  obtain ⟨y,rfl⟩:∃ y:Nat,q=(y:Int):=⟨q.toNat,by omega⟩;have G:y<n:=by omega
  have hid:nK E (y:Int)=(E y).id:=by unfold nK;rw [if_pos (by omega),Int.toNat_natCast]
  have U:He (∀ z,z=wY E n y->(iW E n (.string z)+1).toNat<(iW E n (.string (E y).id)+1).toNat):=fun z hz=>by
   have b5:=kU u.o G;rw [hz,rD,kJ u.o b5.1 (by omega),<- hid,kJ u.o (by omega) (by omega)];omega
  rw [hid];obtain ⟨ba,bg,b2⟩:=aa0 (an.o.trans (TU u.o G));have bo:He ((E y).id=(E (lX l k).toNat).id):=by unfold He;rw [ba,Int.toNat_natCast]
  have bm:He (_=_):=bg;have a3:He (_/\_):=kU u.o G;have co:(E y).id.toList.isEmpty=false:=BQ (cL u.o G);have bj:k+1<=maxLen:=by unfold maxLen;omega
  have bz:(k+1) * 16<=140737488355328:=by omega
  have ap:∀ o,w.heap.size+1<=(wr.alloc o).heap.size:=fun o=>by simp;omega
  have a2:He (∀ q',u5.ownBlock=some q'->w.heap.size+1<=q'):=fun q' bq=>(World.ownsRow.lt J q' bq).1
  clear ba bg an ai hid
  go_wp2_with (at_builtin;refine wpList_append_own _ rfl _ _ 27 rfl (w.heap.size+1) 9 i0 (.string ByteArray.empty) 1 16 underlying27 hi bv bk bx rfl (by decide) _ _ _ rfl (World.ownsRow.alloc J _) ⟨wr.heap.size,0,none⟩ 1 1 [.string (E y).id] rfl rfl (aV _ _ _) (bL _) bj bz (ap _) ?_;intro v2 w2 Y I _)
  have ad:Below (w.heap.size+1) N w2:=(ae.alloc (by omega) _).grown I (ap _) a2.o;have aq:bU w2 (w.heap.size+1) v2 (k+1) (fun k=>(E (lX l k).toNat).id):=bU.snoc Y bo.o;have af:=au.trans (ad.mono (by omega));have ag:w.heap.size+1<=w2.heap.size:=by have:=ad.size;omega
  have ce:=bc.o _ ad;have a4:Below w2.heap.size w2 w2:=kB;have ay:He (∀ W,Below w2.heap.size w2 W->Calls prog 171 #[.agg #[.slice a n cap],.string (E y).id] W (eY W (E y))):=fun W hW=>fB _ W (HE.o.below (af.trans (hW.mono af.size))) G (aP u.o G)
  clear J Y I ae a5 ap a2
  go_region_with (first
   | (go_at_call 171;refine (ay.o _ (by with_reducible (repeat refine .drew ?_);exact a4)).mono ?_;rintro e w3 ⟨ah,b0,bt,bp,bu,bw,br,rfl,O⟩;have bf:He (cI w3 (E y) b0 bt bp bu bw br):=O;have am:Below w2.heap.size w2 w3:=Below.trans (by with_reducible (repeat refine .drew ?_);exact a4) ah;clear O ah;have ao:=ad.trans (am.mono ag);have ci:=bc.o _ ao;have bh:=au.trans (ao.mono (by omega));have Z:Below w3.heap.size w3 w3:=kB)
   | (go_at_call 179;refine (sX (a:=a) (n:=n) (cap:=cap) (E:=E) (q:=y) _ u.o G ((HE.o.below bh).below (by with_reducible (repeat refine .drew ?_);exact Z)) (bf.o.below (by with_reducible (repeat refine .drew ?_);exact Z))).mono ?_;rintro e w4 ⟨rfl,aj⟩;have a6:Below w3.heap.size w3 w4:=Below.trans (by with_reducible (repeat refine .drew ?_);exact Z) aj;clear aj))
  all_goals
   have b7:=ao.trans (a6.mono (nZ ag am.size));have ax:=(aq.below am).below a6;have Hz:He (wY E n y=nK E (pI E n y)):=rD E n y;have bn:He ((iW E n (.string (wY E n y))+1).toNat<(iW E n (.string (E y).id)+1).toNat):=U.o _ rfl;clear U ay;generalize wY E n y=z at *;go_wp2
   go_roundw
   case rel =>
    (repeat apply Exists.intro)
    exact ⟨⟨pI E n y,k+1,by rw [Hz.o],a3.o.1,by have:=a3.o.2;omega,b2,bm,ax,b7⟩,rfl⟩
   exact bn.o
variable {l:List aE}{e:Ev}
def gB (E:Nat->Ev)(n:Nat)(x:aE):Bool:=decide (0<=aL E n x.id) && ((E (aL E n x.id).toNat).st && (((E (aL E n x.id).toNat).ty.toList == x.ty.toList) && ((E (aL E n x.id).toNat).key.toList == x.key.toList)))
def dR (E:Nat->Ev)(n:Nat)(l:List aE):Nat->Bool
 | 0=>true
 | k+1=>dR E n l k && gB E n (aI l k)
theorem rO (E:Nat->Ev)(n:Nat)(l:List aE):∀ m k,k<m->dR E n l (k+1)=false->dR E n l m=false
 | m+1,k,h,h1=>by
  by_cases e:k=m
  ·rw [<- e];exact h1
  rw [dR,rO E n l m k (by omega) h1];rfl
theorem sS {E:Nat->Ev}{n:Nat}{l:List aE}:∀ {m},dR E n l m=true->∀ k,k<m->gB E n (aI l k)=true
 | m+1,h,k,hk=>by
  rw [dR,Bool.and_eq_true] at h
  by_cases e:k=m
  ·subst e;exact h.2
  exact sS h.1 k (by omega)
def dY (E:Nat->Ev)(n:Nat)(l:List aE):Bool:=dR E n l l.length && qV l
theorem jR (l:List aE)(x:aE):aQ l x.ty x.key=(BY l x).id:=by
 have I:BY l x=BY l ⟨x.ty,x.key,⟨#[]⟩⟩:=rfl;rw [I];unfold aQ BY;rcases KS l ⟨x.ty,x.key,⟨#[]⟩⟩ with ⟨u,G⟩|⟨e,u,G,H⟩
 ·rw [u,G,if_neg (by decide)];rfl
 rw [u,if_pos G,H];rfl
def eF (E:Nat->Ev)(n:Nat)(l:List aE)(ty key:ByteArray):Int:=aL E n (aQ l ty key)
theorem OZ (hr:aF E n=true)(G:dY E n l=true){ty key:ByteArray}(h:0<=eF E n l ty key):(E (eF E n l ty key).toNat).ty.toList=ty.toList:=by
 unfold dY at G;rw [Bool.and_eq_true] at G;unfold eF at h ⊢;rw [jR l ⟨ty,key,⟨#[]⟩⟩] at h ⊢;unfold BY at h ⊢
 cases hl:bZ l ⟨ty,key,⟨#[]⟩⟩ with
 | none =>
  rw [hl] at h
  have:aL E n ((none:Option aE).getD aE.none).id=-1:=kV hr (by show ByteArray.empty.toList.isEmpty=true;rw [ByteArray.toList_eq];rfl);rw [this] at h
  exact absurd h (by decide)
 | some y =>
  obtain ⟨I,J,N⟩:=fA hl;obtain ⟨j,H,e⟩:=List.mem_iff_getElem.1 I;have u:=sS G.1 j H;rw [bP l j H,e] at u;unfold gB at u;simp only [Bool.and_eq_true,beq_iff_eq] at u
  show (E (aL E n y.id).toNat).ty.toList=ty.toList
  rw [u.2.2.1,J]
def gV (M:Nat->ByteArray)(L:Nat->Int)(name:ByteArray):Nat->Option Int
 | 0=>none
 | k+1=>match gV M L name k with
  | some v=>some v
  | none=>if (M k).toList == name.toList then some (L k) else none
theorem rF {M:Nat->ByteArray}{L:Nat->Int}{name:ByteArray}:∀ {k},(∀ i,i<k->((M i).toList == name.toList)=false)->gV M L name k=none
 | 0,_=>rfl
 | k+1,h=>by rw [gV,rF (fun i hi=>h i (by omega)),h k (by omega)];rfl
theorem EE {M:Nat->ByteArray}{L:Nat->Int}{name:ByteArray}{j:Nat}(G:∀ i,i<j->((M i).toList == name.toList)=false)(u:((M j).toList == name.toList)=true):∀ {k},j<k->gV M L name k=some (L j)
 | k+1,hk=>by
  by_cases e:j=k
  ·subst e;rw [gV,rF G,u];rfl
  rw [gV,EE G u (show j<k by omega)]
theorem qA (h:e.code=0)(N:aT e=true):e.ng<=50/\∀ i j,i<j->j<e.ng->(e.M i).data.toList<(e.M j).data.toList:=by
 unfold aT at N;unfold Ev.code bF at h;split at h
 ·cases h
 split at h
 ·cases h
 split at h
 ·cases h
 split at h
 ·cases h
 split at h
 ·cases h
 rename_i h5
 have u:kT e.ty e.key e.val e.st e.np e.na e.ng e.M e.L=true:=by
  cases hq:kT e.ty e.key e.val e.st e.np e.na e.ng e.M e.L
  ·exact absurd hq h5
  rfl
 have I:e.ty.toList=[112,111,119,101,114]:=by simpa using N
 unfold kT at u;rw [I] at u;have e1:(([112,111,119,101,114]:List UInt8) == [99,114,101,97,116,101])=false:=by decide
 have Y:(([112,111,119,101,114]:List UInt8) == [109,101,109,98,101,114])=false:=by decide
 have Z:(([112,111,119,101,114]:List UInt8) == [106,111,105,110,95,114,117,108,101,115])=false:=by decide
 rw [e1,Y,Z] at u;simp at u;have hg:rC e.M e.L e.ng=true:=by first|exact u.2|exact u.1.2|exact u.2.2|exact u.2.1
 unfold rC at hg;rw [Bool.and_eq_true,decide_eq_true_eq] at hg;refine ⟨hg.2,?_⟩
 have step:∀ m,fX e.M e.L m=true->∀ i,i+1<m->(e.M i).data.toList<(e.M (i+1)).data.toList:=fun m=>by
  induction m with
  | zero=>intro _ i hi;omega
  | succ m ih =>
   intro H i hi;rw [fX,Bool.and_eq_true] at H
   by_cases e:i+1=m
   ·have J:=H.2
    simp only [Bool.and_eq_true,Bool.or_eq_true] at J;rcases J.2.2.2 with G|G
    ·have:m=0:=by simpa using G
     omega
    rw [<- e,Nat.add_sub_cancel,bytesLess_eq,decide_eq_true_eq,ByteArray.toList_eq,ByteArray.toList_eq] at G;exact G
   exact ih H.1 i (by omega)
 intro i j U O
 induction j with
 | zero=>omega
 | succ j ih =>
  by_cases e:i=j
  ·subst e;exact step _ hg.1 i O
  exact List.lt_trans (ih (by omega) (by omega)) (step _ hg.1 j O)
def BX (e:Ev)(u:ByteArray):Int:=match gV e.M e.L u e.ng with
 | some v=>v
 | none=>(gV e.M e.L ⟨#[42,100,101,102,97,117,108,116]⟩ e.ng).getD 0
abbrev aX:ByteArray:=⟨#[112,111,119,101,114]⟩
abbrev bJ:ByteArray:=⟨#[99,114,101,97,116,101]⟩
abbrev aJ:ByteArray:=⟨#[]⟩
def LQ (E:Nat->Ev)(n:Nat)(l:List aE)(u:ByteArray):Int :=
 if 0<=eF E n l aX aJ then BX (E (eF E n l aX aJ).toNat) u
 else if 0<=eF E n l bJ aJ/\((E (eF E n l bJ aJ).toNat).sd.toList == u.toList)=true then 100 else 0
def sC (E:Nat->Ev)(n:Nat)(l:List aE)(u:ByteArray):Int:=if aF E n && dY E n l then LQ E n l u else 0
variable {M:Nat->ByteArray}{L:Nat->Int}
def fQ (o:Option Int):Value:=.tuple #[.int .i64 (o.getD 0),.bool o.isSome]
theorem JO (a:Option Addr)(cap:Nat)(M:Nat->ByteArray)(L:Nat->Int)(name:ByteArray)(w:World) :
  Calls prog 51 #[.slice a 0 cap,.string name] w fun e w'=>e=.returned (fQ (gV M L name 0))/\w'=w:=by
 go_enter func51,ntmps51
 go_wp2
 refine wp_loop_rounds 1 ?_;rw [rounds_succ];go_wp2
 refine bodyPost_ret (v:=.tuple #[.int .i64 0,.bool false]) (by simp [results,results51,go_sem]) rfl ⟨rfl,rfl⟩
theorem MH (b off n cap:Nat)(M:Nat->ByteArray)(L:Nat->Int)(name:ByteArray)(w:World)(Y:n<=maxLen)(N:∀ i,i<n->w.cell? ⟨b,off+i * 2,none⟩=some (.string (M i)))(O:∀ i,i<n->w.cell? ⟨b,off+i * 2+1,none⟩=some (.int .i64 (L i))) :
  Calls prog 51 #[.slice (some ⟨b,off,none⟩) n cap,.string name] w fun e w'=>e=.returned (fQ (gV M L name n))/\w'=w:=by
 unfold maxLen at Y;have U:He (_):=N;have Z:He (_):=O;clear N O
 go_enter func51,ntmps51
 go_wp2
 go_loop [6] (fun i=>∃ k:Nat,k<=n/\i=.int .i64 k/\He (∀ i,i<k->((M i).toList == name.toList)=false)) (fun i=>n - (intOf i).toNat)
 case atStart=>exact ⟨0,nz,rfl,fun i hi=>absurd hi (Nat.not_lt_zero _)⟩
 case round =>
  obtain ⟨k,hk,rfl,u⟩:=hrel
  by_cases G:k<n
  ·have c1:=U.o k G
   have c2:=Z.o k G;cases hq:((M k).toList == name.toList)
   case true =>
    have J:He (fQ (gV M L name n)=.tuple #[.int .i64 (L k),.bool true]):=by unfold He;rw [EE u.o hq G];rfl
    clear u;go_wp2
    refine bodyPost_ret (v:=.tuple #[.int .i64 (L k),.bool true]) (by simp [results,results51,go_sem]) rfl ⟨by rw [J.o],rfl⟩
   case false =>
    have I:He (∀ i,i<k+1->((M i).toList == name.toList)=false):=fun i hi=>by
     by_cases e:i=k
     ·subst e;exact hq
     exact u.o i (by omega)
    clear u;go_wp2
    go_round
    case rel=>exact ⟨k+1,by omega,by go_num,I⟩
    simp [intOf];omega
  have H:k=n:=by omega
  subst H;have J:He (fQ (gV M L name k)=.tuple #[.int .i64 0,.bool false]):=by unfold He;rw [rF u.o];rfl
  clear u;go_wp2
  refine bodyPost_ret (v:=.tuple #[.int .i64 0,.bool false]) (by simp [results,results51,go_sem]) rfl ⟨by rw [J.o],rfl⟩
theorem mR (name:ByteArray)(w:World)(h:gN w a n cap M L) :
  Calls prog 51 #[.slice a n cap,.string name] w fun e w'=>e=.returned (fQ (gV M L name n))/\w'=w:=by
 rcases h.cells with rfl|⟨b,off,rfl,hb,u,G⟩
 ·exact JO a cap M L name w
 exact MH b off n cap M L name w (nZ h.le h.max) u G
theorem IR {e0:Ev}(u:ByteArray)(w:World)(h:gN w a e0.ng cap e0.M e0.L) :
  Calls prog 74 #[.slice a e0.ng cap,.string u] w fun e w'=>e=.returned (.int .i64 (BX e0 u))/\w'=w:=by
 have N:He (∀ o,o=gV e0.M e0.L u e0.ng->BX e0 u=match o with|some v=>v|none=>(gV e0.M e0.L ⟨#[42,100,101,102,97,117,108,116]⟩ e0.ng).getD 0):=fun o H=>by subst H;rfl
 have J:He (∀ W name,W=w->Calls prog 51 #[.slice a e0.ng cap,.string name] W fun e w'=>e=.returned (fQ (gV e0.M e0.L name e0.ng))/\w'=W):=fun W name O=>by subst O;exact mR name W h
 cases H:gV e0.M e0.L u e0.ng with
 | some v =>
  have G:=N.o _ H.symm;simp only at G;have I:He (_=_):=G;clear G
  go_enter func74,ntmps74
  go_wp2_with fail
  refine (J.o _ _ rfl).mono ?_;rintro e w1 ⟨rfl,rfl⟩;rw [H];unfold fQ;simp only [Option.getD_some,Option.isSome_some];go_wp2
  go_ret
  exact ⟨aA I.o.symm,rfl⟩
 | none =>
  have G:=N.o _ H.symm;simp only at G;have I:He (_=_):=G;clear G
  go_enter func74,ntmps74
  go_wp2_with fail
  refine (J.o _ _ rfl).mono ?_;rintro e w1 ⟨rfl,rfl⟩;rw [H];unfold fQ;simp only [Option.getD_none,Option.isSome_none]
  go_wp2_with fail
  refine (J.o _ _ rfl).mono ?_;rintro e w2 ⟨rfl,rfl⟩;unfold fQ;go_wp2
  go_ret;exact ⟨aA I.o.symm,rfl⟩
variable {b c k:Nat}{D:Nat->Nat}
def QZ (line:List Nat)(p:Nat):Nat:=line.findIdx (fun x=>x == p)
theorem WW (line:List Nat)(p:Nat):QZ line p<=line.length:=List.findIdx_le_length
theorem UB {line:List Nat}(G:k<line.length)(I:∀ i,i<k->line.getD i 0≠p)(J:line.getD k 0=p):QZ line p=k:=by
 unfold QZ;rw [List.findIdx_eq G];refine ⟨by simpa [List.getD,List.getElem?_eq_getElem G] using J,fun j H=>?_⟩
 have:=I j H;have u:j<line.length:=by omega
 simpa [List.getD,List.getElem?_eq_getElem u] using this
theorem PH {line:List Nat}(u:∀ i,i<line.length->line.getD i 0≠p):QZ line p=line.length:=by
 unfold QZ;rw [List.findIdx_eq_length];intro x G;obtain ⟨i,hi,rfl⟩:=List.mem_iff_getElem.1 G
 have:=u i hi;simpa [List.getD,List.getElem?_eq_getElem hi] using this
def LR (E:Nat->Ev)(n:Nat)(line:List Nat):Nat->Int->Nat
 | 0,_=>line.length
 | f+1,q=>if q<0 then line.length else if QZ line q.toNat<line.length then QZ line q.toNat else LR E n line f (pI E n q.toNat)
theorem xF (E:Nat->Ev)(n:Nat)(line:List Nat){q:Int}(hq:q<0):∀ f,LR E n line f q=line.length
 | 0=>rfl
 | f+1=>by rw [LR,if_pos hq]
theorem AJ {E:Nat->Ev}{n:Nat}(line:List Nat)(h:aF E n=true):∀ (f u:Nat) (q:Int),q<f->q<n->f<=u->LR E n line u q=LR E n line f q
 | 0,u,q,hq,_,_=>by rw [xF E n line (by omega),xF E n line (by omega)]
 | f+1,0,q,_,_,hf=>by omega
 | f+1,u+1,q,hq,hn,hf=>by
  rw [LR,LR]
  by_cases G:q<0
  ·rw [if_pos G,if_pos G]
  rw [if_neg G,if_neg G];split
  ·rfl
  have:=kU h (show q.toNat<n by omega);rw [AJ line h f u _ (by omega) (by omega) (by omega)]
theorem PP (E:Nat->Ev)(n:Nat)(line:List Nat):∀ (f:Nat) (q:Int),LR E n line f q<=line.length
 | 0,_=>nL
 | f+1,q=>by
  rw [LR];split
  ·exact nL
  split
  ·exact WW _ _
  exact PP E n line f _
def dp (E:Nat->Ev)(n:Nat)(line:List Nat)(q:Int):Nat:=LR E n line n q
theorem WE (E:Nat->Ev)(n:Nat)(line:List Nat){q:Int}(hq:q<0):dp E n line q=line.length:=xF E n line hq n
theorem UF (E:Nat->Ev)(n:Nat)(line:List Nat)(q:Int):dp E n line q<=line.length:=PP E n line n q
theorem a60 {line:List Nat}(hp:p<n)(h:QZ line p<line.length):dp E n line (p:Int)=QZ line p:=by
 obtain ⟨m,rfl⟩:∃ m,n=m+1:=⟨n - 1,by omega⟩;unfold dp;rw [LR,if_neg (by omega),Int.toNat_natCast,if_pos h]
theorem SA {line:List Nat}(hr:aF E n=true)(hp:p<n)(h:QZ line p=line.length):dp E n line (p:Int)=dp E n line (pI E n p):=by
 obtain ⟨m,rfl⟩:∃ m,n=m+1:=⟨n - 1,by omega⟩;have hb:=kU hr hp;unfold dp;rw [AJ line hr m (m+1) (pI E (m+1) p) (by omega) (by omega) (by omega),LR,if_neg (by omega),Int.toNat_natCast,if_neg (by omega)]
def jW (E:Nat->Ev)(D:Nat->Nat)(a b:Nat):Prop:=D b<D a\/(D a=D b/\((E a).tm<(E b).tm\/((E a).tm=(E b).tm/\(E a).id.data.toList<(E b).id.data.toList)))
theorem jW.irrefl (a:Nat):¬ jW E D a a:=by
 rintro (h|⟨_,h|⟨_,h⟩⟩)
 ·omega
 ·omega
 exact List.lt_irrefl _ h
theorem jW.trans {a:Nat}(G:jW E D a b)(u:jW E D b c):jW E D a c:=by
 rcases G with G|⟨J,G⟩
 ·rcases u with u|⟨H,u⟩
  ·exact Or.inl (by omega)
  exact Or.inl (by omega)
 rcases u with u|⟨H,u⟩
 ·exact Or.inl (by omega)
 refine Or.inr ⟨by omega,?_⟩;rcases G with G|⟨f1,G⟩ <;> rcases u with u|⟨I,u⟩
 ·exact Or.inl (by omega)
 ·exact Or.inl (by omega)
 ·exact Or.inl (by omega)
 exact Or.inr ⟨by omega,List.lt_trans G u⟩
theorem jW.asymm {a:Nat}(h:jW E D a b):¬ jW E D b a:=fun u=>jW.irrefl a (h.trans u)
theorem jW.total {a:Nat}(hr:aF E n=true)(ha:a<n)(hb:b<n)(H:a≠b):jW E D a b\/jW E D b a:=by
 unfold jW
 by_cases U:D b<D a
 ·exact Or.inl (Or.inl U)
 by_cases Y:D a<D b
 ·exact Or.inr (Or.inl Y)
 have u:D a=D b:=by omega
 by_cases J:(E a).tm<(E b).tm
 ·exact Or.inl (Or.inr ⟨u,Or.inl J⟩)
 by_cases O:(E b).tm<(E a).tm
 ·exact Or.inr (Or.inr ⟨u.symm,Or.inl O⟩)
 have I:(E a).tm=(E b).tm:=by omega
 have hid:(E a).id.data.toList≠(E b).id.data.toList:=fun e=>H (by
  have N:(E a).id=(E b).id:=wT e;have Z:=aP hr ha;rw [N,aP hr hb] at Z;omega)
 rcases Nat.lt_or_ge 0 1 with _|h
 ·by_cases h5:(E a).id.data.toList<(E b).id.data.toList
  ·exact Or.inl (Or.inr ⟨u,Or.inr ⟨I,h5⟩⟩)
  rcases List.le_iff_lt_or_eq.1 (List.not_lt.1 h5) with G|G
  ·exact Or.inr (Or.inr ⟨u.symm,Or.inr ⟨I.symm,G⟩⟩)
  exact absurd G.symm hid
 omega
variable {out:List Nat}
def Rst (E:Nat->Ev)(n p q:Nat):Prop:=∃ k,k<(E p).na/\aL E n ((E p).Av k)=(q:Int)
def Rdy (E:Nat->Ev)(n:Nat)(T:Nat->Prop)(out:List Nat)(p:Nat):Prop:=∀ q,Rst E n p q->T q->q ∈ out
def mU (E:Nat->Ev)(n:Nat)(T:Nat->Prop)(out:List Nat)(p:Nat):Prop:=T p/\p ∉ out/\Rdy E n T out p
def UM (E:Nat->Ev)(n:Nat)(T:Nat->Prop)(D:Nat->Nat)(out:List Nat)(p:Nat):Prop:=mU E n T out p/\∀ q,mU E n T out q->q=p\/jW E D p q
def kQ (E:Nat->Ev)(n:Nat)(T:Nat->Prop)(D:Nat->Nat)(l:List Nat):Prop:=∀ k p,l[k]?=some p->UM E n T D (l.take k) p
theorem UM.uniq {T:Nat->Prop}(G:UM E n T D out p)(H:UM E n T D out q):p=q:=by
 rcases G.2 q H.1 with h|h
 ·exact h.symm
 rcases H.2 p G.1 with u|u
 ·exact u
 exact absurd u h.asymm
theorem kQ.nil (E:Nat->Ev)(n:Nat)(T:Nat->Prop)(D:Nat->Nat):kQ E n T D []:=fun k p h=>by cases h
theorem kQ.snoc {T:Nat->Prop}{l:List Nat}(h:kQ E n T D l)(hp:UM E n T D l p):kQ E n T D (l ++ [p]):=by
 intro k q u;rcases Nat.lt_trichotomy k l.length with G|G|G
 ·rw [List.getElem?_append_left G] at u
  rw [List.take_append_of_le_length (by omega)];exact h k q u
 ·subst G
  rw [List.getElem?_append_right nL,Nat.sub_self] at u;injection u with u
  rw [List.take_append_of_le_length nL,List.take_length,<- u];exact hp
 rw [List.getElem?_eq_none (by simp;omega)] at u;cases u
theorem kQ.nodup {T:Nat->Prop}{l:List Nat}(h:kQ E n T D l):l.Nodup:=by
 refine List.pairwise_iff_getElem.2 fun i j hi H u e=>?_
 have G:=(h j l[j] (List.getElem?_eq_getElem H)).1.2.1;refine G ?_;rw [<- e];exact List.mem_iff_getElem.2 ⟨i,by simp;omega,by simp⟩
theorem kQ.sub {T:Nat->Prop}{l:List Nat}(h:kQ E n T D l):∀ p ∈ l,T p:=fun p hp=>by
 obtain ⟨i,hi,rfl⟩:=List.mem_iff_getElem.1 hp;exact (h i _ (List.getElem?_eq_getElem hi)).1.1
theorem kQ.uniq {T:Nat->Prop}{l1 u:List Nat}(H:kQ E n T D l1)(I:kQ E n T D u)(c1:∀ p,T p->p ∈ l1)(c2:∀ p,T p->p ∈ u):l1=u:=by
 have O:l1.length=u.length:=((List.perm_ext_iff_of_nodup H.nodup I.nodup).2 fun p=>⟨fun hp=>c2 p (H.sub p hp),fun hp=>c1 p (I.sub p hp)⟩).length_eq
 have N:∀ k,l1.take k=u.take k:=by
  intro k
  induction k with
  | zero=>rfl
  | succ k ih =>
   rcases Nat.lt_or_ge k l1.length with G|G
   ·have e:l1[k]=u[k]:=by
     have q1:=H k _ (List.getElem?_eq_getElem G);have J:=I k _ (List.getElem?_eq_getElem (by omega:k<u.length));rw [ih] at q1;exact q1.uniq J
    rw [List.take_add_one,List.take_add_one,ih,List.getElem?_eq_getElem G,List.getElem?_eq_getElem (by omega:k<u.length),e]
   rw [List.take_of_length_le G,List.take_of_length_le (by omega)] at ih;rw [List.take_of_length_le (by omega),List.take_of_length_le (by omega),ih]
 have:=N l1.length;rw [List.take_length,O,List.take_length] at this;exact this
theorem WB (hr:aF E n=true)(hp:p<n)(h:Rst E n p q):q<p:=by
 obtain ⟨k,u,e⟩:=h;exact (GD hr hp u e).1
theorem SV {T:Nat->Prop}(hr:aF E n=true)(N:∀ p,T p->p<n):∀ p,T p->p ∉ out->∃ q,mU E n T out q:=by
 intro p
 induction p using Nat.strongRecOn with
 | ind p ih =>
  intro H J
  by_cases G:Rdy E n T out p
  ·exact ⟨p,H,J,G⟩
  unfold Rdy at G;obtain ⟨q,hq⟩:=Classical.not_forall.1 G;obtain ⟨u,hq⟩:=Classical.not_imp.1 hq;obtain ⟨I,hq⟩:=Classical.not_imp.1 hq;exact ih q (WB hr (N p H) u) I hq
end Go.Proofs.YtpfeegcdlikegaaGreat
