import Derived.Test.YtpfeegcdlikegaaGreatMlSZ
import Derived.Deep.RegionHeld3
set_option maxHeartbeats 16000000
set_option maxRecDepth 100000
namespace Go.Proofs.YtpfeegcdlikegaaGreat
open Go.RowKit Go.Proofs.Tryz
variable {e:Ev}{E:Nat->Ev}{n p q ca cg cp cap:Nat}{a aa ga pa:Option Addr}
def sL (E:Nat->Ev)(n p:Nat):Int :=
 if 0<=pI E n p then BX (E (pI E n p).toNat) (E p).sd else if (E p).sd.toList == (E 0).sd.toList then 100 else 0
theorem UY (h:e.code=0)(I:aT e=true):∀ i,i<e.ng->-1000000<=e.L i:=by
 unfold aT at I;unfold Ev.code bF at h;split at h
 ·cases h
 split at h
 ·cases h
 split at h
 ·cases h
 split at h
 ·cases h
 split at h
 ·cases h
 rename_i h5
 have u:kT e.ty e.key e.val e.st e.np e.na e.ng e.M e.L=true:=by
  cases hq:kT e.ty e.key e.val e.st e.np e.na e.ng e.M e.L
  ·exact absurd hq h5
  rfl
 have H:e.ty.toList=[112,111,119,101,114]:=by simpa using I
 unfold kT at u;rw [H] at u;have U:(([112,111,119,101,114]:List UInt8) == [99,114,101,97,116,101])=false:=by decide
 have N:(([112,111,119,101,114]:List UInt8) == [109,101,109,98,101,114])=false:=by decide
 have O:(([112,111,119,101,114]:List UInt8) == [106,111,105,110,95,114,117,108,101,115])=false:=by decide
 rw [U,N,O] at u;simp at u;have hg:rC e.M e.L e.ng=true:=by first|exact u.2|exact u.1.2|exact u.2.2|exact u.2.1
 unfold rC at hg;rw [Bool.and_eq_true,decide_eq_true_eq] at hg
 have step:∀ m,fX e.M e.L m=true->∀ i,i<m->-1000000<=e.L i:=fun m=>by
  induction m with
  | zero=>intro _ i hi;omega
  | succ m ih =>
   intro G i hi;rw [fX,Bool.and_eq_true] at G
   by_cases e:i=m
   ·have J:=G.2
    simp only [Bool.and_eq_true,Bool.or_eq_true,Bool.not_eq_true',decide_eq_false_iff_not] at J;rw [e];omega
   exact ih G.1 i (by omega)
 exact step _ hg.1
theorem yH {M:Nat->ByteArray}{L:Nat->Int}{name:ByteArray}{v:Int}:∀ {k},gV M L name k=some v->∃ i,i<k/\L i=v
 | k+1,h=>by
  rw [gV] at h
  cases hq:gV M L name k with
  | some u =>
   rw [hq] at h;obtain ⟨i,hi,e⟩:=yH (k:=k) (hq.trans h)
   exact ⟨i,by omega,e⟩
  | none =>
   rw [hq] at h;simp only at h;split at h
   ·injection h with h;exact ⟨k,by omega,h⟩
   cases h
theorem VJ (h:e.code=0)(G:aT e=true)(u:ByteArray):-1000000<=BX e u:=by
 unfold BX
 cases hq:gV e.M e.L u e.ng with
 | some v =>
  obtain ⟨i,hi,rfl⟩:=yH hq
  exact UY h G i hi
 | none =>
  show -1000000<=(gV e.M e.L ⟨#[42,100,101,102,97,117,108,116]⟩ e.ng).getD 0
  cases hq2:gV e.M e.L ⟨#[42,100,101,102,97,117,108,116]⟩ e.ng with
  | some v =>
   obtain ⟨i,hi,rfl⟩:=yH hq2
   exact UY h G i hi
  | none=>decide
theorem UN (h:aF E n=true)(hp:p<n)(u:0<=pI E n p):∃ y,y<p/\pI E n p=(y:Int)/\aT (E y)=true:=by
 rcases xP (P:=aT) h hp with H|⟨q,hq,e,G⟩
 ·unfold pI at u;omega
 exact ⟨q,hq,e,G⟩
theorem MJ (h:aF E n=true)(hp:p<n):-1000000<=sL E n p:=by
 unfold sL;split
 ·rename_i h0
  obtain ⟨y,G,e,u⟩:=UN h hp h0;rw [e,Int.toNat_natCast];exact VJ (cL h (by omega)) u _
 split <;> decide
def KG (E:Nat->Ev)(n p:Nat):Nat:=(sL E n p+1000000).toNat
def nY (E:Nat->Ev)(n p q:Nat):Bool :=
 if sL E n p=sL E n q then (if (E p).tm=(E q).tm then Op.bytesLess (E p).id.toList (E q).id.toList else decide ((E p).tm<(E q).tm)) else decide (sL E n q<sL E n p)
theorem PL (h:aF E n=true)(hp:p<n)(hq:q<n):nY E n p q=true↔jW E (KG E n) p q:=by
 have b1:=MJ h hp;have H:=MJ h hq;unfold nY jW KG
 by_cases u:sL E n p=sL E n q
 ·rw [if_pos u]
  by_cases G:(E p).tm=(E q).tm
  ·rw [if_pos G,ByteArray.toList_eq,ByteArray.toList_eq,bytesLess_eq,decide_eq_true_eq]
   constructor
   ·exact fun h=>Or.inr ⟨by rw [u],Or.inr ⟨G,h⟩⟩
   rintro (h|⟨_,h|⟨_,h⟩⟩)
   ·omega
   ·omega
   exact h
  rw [if_neg G,decide_eq_true_eq];constructor
  ·exact fun h=>Or.inr ⟨by rw [u],Or.inl h⟩
  rintro (h|⟨_,h|⟨h,_⟩⟩)
  ·omega
  ·exact h
  exact absurd h G
 rw [if_neg u,decide_eq_true_eq];constructor
 ·exact fun h=>Or.inl (by omega)
 rintro (h|⟨h,_⟩)
 ·omega
 omega
theorem IB (w:World)(H:aF E n=true)(hq:q<n)(h:dW w a n cap E)(he:cI w (E q) pa cp aa ca ga cg) :
  Calls prog 181 #[.agg #[.slice a n cap],(E q).val' pa cp aa ca ga cg] w fun x w'=>x=.returned (.int .i64 (sL E n q))/\Below w.heap.size w w':=by
 obtain ⟨O,N⟩:∃ O,O=nD w a n cap (E q) pa cp aa ca ga cg:=⟨_,rfl⟩;have ae:Below w.heap.size w O:=by rw [N];exact bA.alloc (by simp) _
 have bj:O.heap.size=w.heap.size+2:=by rw [N];simp
 have aw:He (∀ wx,Below (w.heap.size+2) O wx->wx.cell? ⟨w.heap.size,0,none⟩=some (.slice a n cap)/\wx.cell? ⟨w.heap.size+1,1,none⟩=some (.string (E q).sd)):=fun wx hx=>by
  subst N
  have:=eG (E q) w hx;exact ⟨this.1,this.2 1⟩
 have HP:He (Calls prog 179 #[.agg #[.slice a n cap],(E q).val' pa cp aa ca ga cg] O fun x w'=>x=.returned (.string (wY E n q))/\Below O.heap.size O w'):=sX O H hq (h.below ae) (he.below ae);have Hv:He (∀ z,z=pI E n q->sL E n q=if 0<=z then BX (E z.toNat) (E q).sd else if (E q).sd.toList == (E 0).sd.toList then 100 else 0):=fun z hz=>by rw [hz];rfl
 have HE:He (dW w a n cap E):=h;have G:He (_):=H
 go_enter func181,ntmps181
 go_wp2_with fail
 have U:(w.alloc (.cells #[.slice a n cap] 25)).alloc (.cells (ec (E q) pa cp aa ca ga cg) 30)=O:=N.symm;rw [U];clear U N he H;refine (HP.o).mono ?_;rintro e w1 ⟨rfl,ak⟩;have ad:=ak.mono (B':=w.heap.size+2) (by omega);have u:=ae.trans (ad.mono (by omega));have bi:w.heap.size+2<=w1.heap.size:=by have:=ad.size;omega
 obtain ⟨x0,x1⟩:=aw.o _ ad;clear HP ak
 by_cases h0:0<=pI E n q
 ·obtain ⟨y,hy,ey,ao⟩:=UN G.o hq h0
  have I:wY E n q=(E y).id:=by unfold wY;rw [if_pos h0,ey,Int.toNat_natCast]
  have Hr:He (sL E n q=BX (E y) (E q).sd):=by
   have:=Hv.o _ rfl;rw [if_pos h0,ey,Int.toNat_natCast] at this;exact this
  have bn:(E y).id.toList.isEmpty=false:=BQ (cL G.o (by omega));have an:He (∀ W,Below w1.heap.size w1 W->Calls prog 171 #[.agg #[.slice a n cap],.string (E y).id] W (eY W (E y))):=fun W hW=>fB _ W (HE.o.below (u.trans (hW.mono u.size))) (by omega) (aP G.o (by omega))
  have ai:Below w1.heap.size w1 w1:=kB;rw [I];clear Hv h0 ey ao I;generalize (E q).sd=us at *;generalize E y=ev at *;have bp:∀ (pa:Option Addr) (cp:Nat) (aa:Option Addr) (ca:Nat) (ga:Option Addr) (cg:Nat) (W:World),(Instr.field 30 (.agg (ec ev pa cp aa ca ga cg)) 9).run prog W=.ok (.slice ga ev.ng cg) W:=fun _ _ _ _ _ _ _=>by kernel_rfl
  have a4:w.heap.size<w1.heap.size:=by omega
  have ap:w.heap.size+1<w1.heap.size:=by omega
  go_wp2_with fail
  go_region_held3 (fun W=>W.cell? ⟨w.heap.size,0,none⟩=some (.slice a n cap)/\W.cell? ⟨w.heap.size+1,1,none⟩=some (.string us))
   (first|(with_reducible exact ⟨x0,x1⟩)|go_keep)
   (first
    | (go_at_call 171;refine (an.o _ (by with_reducible (repeat refine .drew ?_);exact ai)).mono ?_;rintro e w2 ⟨Z,ax,a8,a6,aq,ag,af,aj,Y⟩;have au:e=.returned (.agg (ec ev ax a8 a6 aq ag af)):=aj;clear aj;subst au;have a3:He (gN w2 ag ev.ng af ev.M ev.L):=Y.hg;clear Y;have J:Below w1.heap.size w1 w2:=Below.trans (by with_reducible (repeat refine .drew ?_);exact ai) Z;clear Z;have k0:=(J.cell (p:=⟨w.heap.size,0,none⟩) a4).trans x0;have k1:=(J.cell (p:=⟨w.heap.size+1,1,none⟩) ap).trans x1)
    | (go_at_call 74;refine (IR (e0:=ev) us _ (a3.o.below (by first|exact kB|exact kB.drew|exact kB.drew.drew))).mono ?_;rintro e w3 ⟨rfl,rfl⟩))
  all_goals
   go_wp2
   go_ret;exact ⟨aA Hr.o.symm,by first|exact u.trans (J.mono u.size)|exact (u.trans (J.mono u.size)).drew|exact (u.trans (J.mono u.size)).drew.drew⟩
 have I:wY E n q=⟨#[]⟩:=by unfold wY;rw [if_neg h0]
 rcases h.cells with hz|⟨b,off,rfl,hb,hc⟩
 ·omega
 obtain ⟨_,_,_,_,_,_,ah,_⟩:=hc 0 (by omega)
 have c1:w1.cell? ⟨b,off+1,none⟩=some (.string (E 0).sd):=by
  have:=(u.cell (p:=⟨b,off+0 * 10+1,none⟩) hb).trans ah.c1;simpa using this
 have Hr:He (∀ bq:Bool,((E q).sd.toList == (E 0).sd.toList)=bq->sL E n q=if bq then 100 else 0):=fun bq a2=>by
  have:=Hv.o _ rfl;rw [if_neg h0,a2] at this;exact this
 have bo:(0:Int)<(n:Int):=by omega
 have bh:0<n:=by omega
 rw [I];clear Hv h0 I hc ah h;generalize (E q).sd=us at *;generalize (E 0).sd=u0 at *;cases hq2:(us.toList == u0.toList)
 all_goals
  have HR:He (_=_):=Hr.o _ hq2;clear Hr
  go_wp2_with fail
  go_region_held3 (fun W=>W.cell? ⟨w.heap.size,0,none⟩=some (.slice (some ⟨b,off,none⟩) n cap)/\W.cell? ⟨w.heap.size+1,1,none⟩=some (.string us)/\W.cell? ⟨b,off+1,none⟩=some (.string u0))
   (first|(with_reducible exact ⟨x0,x1,c1⟩)|go_keep) (fail)
  all_goals
   go_wp2
   go_ret;exact ⟨aA (by rw [HR.o];rfl),by first|exact u|exact u.drew|exact u.drew.drew⟩
def lW (e:Ev):Bool :=
 if e.ty.toList == [109,101,109,98,101,114] then (e.val.toList == [108,101,97,118,101] || e.val.toList == [98,97,110]) && !(e.sd.toList == e.key.toList)
 else e.ty.toList == [112,111,119,101,114] || e.ty.toList == [106,111,105,110,95,114,117,108,101,115]
theorem PG (ev:Ev)(pa:Option Addr)(cp:Nat)(aa:Option Addr)(ca:Nat)(ga:Option Addr)(cg:Nat)(w:World) :
  Calls prog 170 #[ev.val' pa cp aa ca ga cg] w fun x w'=>x=.returned (.bool (lW ev))/\Below w.heap.size w w':=by
 have u:∀ o,Below w.heap.size w (w.alloc o):=fun o=>bA
 have Hr:He (∀ b1 J b3 N G H,(ev.ty.toList == [109,101,109,98,101,114])=b1->(ev.val.toList == [108,101,97,118,101])=J->(ev.val.toList == [98,97,110])=b3->(ev.sd.toList == ev.key.toList)=N->(ev.ty.toList == [112,111,119,101,114])=G->(ev.ty.toList == [106,111,105,110,95,114,117,108,101,115])=H->lW ev=if b1 then (J || b3) && !N else G || H):=fun b1 J b3 N G H e1 Y Z e4 O U=>by
  unfold lW;rw [e1,Y,Z,e4,O,U]
 generalize lW ev=vv at *;cases h1:(ev.ty.toList == [109,101,109,98,101,114])
 case true =>
  cases h2:(ev.val.toList == [108,101,97,118,101]) <;> cases h3:(ev.val.toList == [98,97,110]) <;> cases h4:(ev.sd.toList == ev.key.toList)
  all_goals
   have I:He (_=_):=Hr.o _ _ _ _ _ _ h1 h2 h3 h4 rfl rfl;clear Hr
   go_enter func170,ntmps170
   go_wp2
   go_ret;exact ⟨aC (by rw [I.o];first|rfl|simp [h4]),u _⟩
 case false =>
  cases h5:(ev.ty.toList == [112,111,119,101,114]) <;> cases h6:(ev.ty.toList == [106,111,105,110,95,114,117,108,101,115])
  all_goals
   have I:He (_=_):=Hr.o _ _ _ _ _ _ h1 rfl rfl rfl h5 h6;clear Hr
   go_enter func170,ntmps170
   go_wp2
   go_ret;exact ⟨aC (by rw [I.o];rfl),u _⟩
variable {i j k:Nat}{D:Nat->Nat}{S:Nat->ByteArray}
def jG (E:Nat->Ev)(n:Nat)(s:ByteArray):Nat:=(aL E n s).toNat
def kO (E:Nat->Ev)(n:Nat)(D:Nat->Nat)(l:List ByteArray):Prop:=l.Pairwise fun a b=>jW E D (jG E n a) (jG E n b)
theorem SB {l:List ByteArray}(h:kO E n D l)(u:i<j)(G:j<l.length):jW E D (jG E n (aG l i)) (jG E n (aG l j)):=by
 have:=List.pairwise_iff_getElem.1 h i j (by omega) G u;simpa [aG,List.getD,List.getElem?_eq_getElem G,List.getElem?_eq_getElem (show i<l.length by omega)] using this
theorem SL {l:List ByteArray}{x:ByteArray}(h:kO E n D l)(G:∀ i,i<k->i<l.length->jW E D (jG E n (aG l i)) (jG E n x))(u:∀ i,k<=i->i<l.length->jW E D (jG E n x) (jG E n (aG l i))):kO E n D (bQ l k x):=by
 have H:(l.take k ++ l.drop k).Pairwise fun a b=>jW E D (jG E n a) (jG E n b):=by rw [List.take_append_drop];exact h
 obtain ⟨J,N,I⟩:=List.pairwise_append.1 H;unfold kO bQ;refine List.pairwise_append.2 ⟨J,List.pairwise_cons.2 ⟨fun b hb=>?_,N⟩,fun a ha b hb=>?_⟩
 ·obtain ⟨i,hi,rfl⟩:=dO hb
  rw [List.length_drop] at hi
  have:aG (l.drop k) i=aG l (k+i):=by simp [aG,List.getD]
  rw [this];exact u _ (by omega) (by omega)
 rcases List.mem_cons.1 hb with rfl|hb
 ·obtain ⟨i,hi,rfl⟩:=dO ha
  rw [List.length_take] at hi
  have:aG (l.take k) i=aG l i:=by simp [aG,List.getD,show i<k by omega]
  rw [this];exact G _ (by omega) (by omega)
 exact I a ha b hb
theorem yU {l:List ByteArray}{x:ByteArray}(hr:aF E n=true)(I:∀ s ∈ l,0<=aL E n s)(O:0<=aL E n x)(h:kO E n D l)(hx:x ∉ l)(hj:j<=l.length)(U:∀ i,j<=i->i<l.length->jW E D (jG E n x) (jG E n (aG l i)))
  (u:j=0\/∃ q,j=q+1/\¬ jW E D (jG E n x) (jG E n (aG l q))):kO E n D (bQ l j x):=by
 refine SL h (fun i hi hl=>?_) U;rcases u with h0|⟨q,rfl,hq⟩
 ·omega
 have G:q<l.length:=by omega
 have h1:jW E D (jG E n (aG l q)) (jG E n x):=by
  have H:=I _ (bO G);have b1:=cJ E x n;have b2:=cJ E (aG l q) n
  have Y:jG E n x≠jG E n (aG l q):=fun e=>by
   obtain ⟨i1,_,e1,Z⟩:=dU E x n O;obtain ⟨i2,_,e2,N⟩:=dU E (aG l q) n H;unfold jG at e
   have:i1=i2:=by omega
   subst this
   have:x=aG l q:=(bC Z).symm.trans (bC N);exact hx (this ▸ bO G)
  rcases jW.total hr (show jG E n x<n by unfold jG;omega) (show jG E n (aG l q)<n by unfold jG;omega) Y with J|J
  ·exact absurd J hq
  exact J
 by_cases e:i=q
 ·subst e;exact h1
 exact (SB h (show i<q by omega) G).trans h1
def XJ (w:World)(E:Nat->Ev)(n:Nat)(D:Nat->Nat)(S:Nat->ByteArray)(m:Nat)(e:Ending)(w':World):Prop :=
 ∃ v l,e=.returned v/\aH w' w.heap.size v l/\kO E n D l/\(∀ s,s ∈ l↔∃ i,i<m/\S i=s)/\Below w.heap.size w w'
theorem iM {l u:List ByteArray}(h:∀ s,s ∈ l↔∃ i,i<k/\S i=s)(G:∀ s,s ∈ u↔s=S k\/s ∈ l)(s:ByteArray):s ∈ u↔∃ i,i<k+1/\S i=s:=by
 rw [G,h];constructor
 ·rintro (rfl|⟨i,hi,e⟩)
  ·exact ⟨k,by omega,rfl⟩
  exact ⟨i,by omega,e⟩
 rintro ⟨i,hi,e⟩
 by_cases H:i=k
 ·subst H;exact Or.inl e.symm
 exact Or.inr ⟨i,by omega,e⟩
variable {w2 wr:World}{ev:Ev}{b off:Nat}
def TI (wr:World)(ev:Ev)(pa:Option Addr)(cp:Nat)(aa:Option Addr)(ca:Nat)(ga:Option Addr)(cg:Nat)(pv:Value)(wx:World):Prop:=∃ B,pv=.pointer (some ⟨B,0,none⟩)/\B<wx.heap.size/\eP wx B 0 ev pa cp aa ca ga cg/\Below wr.heap.size wr wx
theorem MN (u:Below wr.heap.size wr w2):TI wr ev pa cp aa ca ga cg (.pointer (some ⟨w2.heap.size,0,none⟩)) (w2.alloc (.cells (ec ev pa cp aa ca ga cg) 30)):=by
 refine ⟨_,rfl,by simp,⟨?_,?_,?_,?_,?_,?_,?_,?_,?_,?_⟩,u.alloc u.size _⟩
 all_goals
  rw [kA rfl];rfl
theorem NB {z0 z1 I z3 U z5 z6 O z8 Y:Value}(u:Below wr.heap.size wr w2)(G:wr.heap.size<w2.heap.size)(y0:w2.cell? ⟨wr.heap.size,0,none⟩=some z0)(Z:w2.cell? ⟨wr.heap.size,1,none⟩=some z1)(J:w2.cell? ⟨wr.heap.size,2,none⟩=some I)(H:w2.cell? ⟨wr.heap.size,3,none⟩=some z3)(y4:w2.cell? ⟨wr.heap.size,4,none⟩=some U)(y5:w2.cell? ⟨wr.heap.size,5,none⟩=some z5)(N:w2.cell? ⟨wr.heap.size,6,none⟩=some z6)(y7:w2.cell? ⟨wr.heap.size,7,none⟩=some O)(y8:w2.cell? ⟨wr.heap.size,8,none⟩=some z8)(y9:w2.cell? ⟨wr.heap.size,9,none⟩=some Y) :
  TI wr ev pa cp aa ca ga cg (.pointer (some ⟨wr.heap.size,0,none⟩)) ((((((((((w2.setCell ⟨wr.heap.size,0,none⟩ (.string ev.id)).setCell ⟨wr.heap.size,1,none⟩ (.string ev.sd)).setCell ⟨wr.heap.size,2,none⟩ (.string ev.ty)).setCell ⟨wr.heap.size,3,none⟩ (.bool ev.st)).setCell ⟨wr.heap.size,4,none⟩ (.string ev.key)).setCell ⟨wr.heap.size,5,none⟩ (.int .i64 ev.tm)).setCell ⟨wr.heap.size,6,none⟩ (.slice pa ev.np cp)).setCell ⟨wr.heap.size,7,none⟩ (.slice aa ev.na ca)).setCell ⟨wr.heap.size,8,none⟩ (.string ev.val)).setCell ⟨wr.heap.size,9,none⟩ (.slice ga ev.ng cg)):=by
 have hB:Below wr.heap.size w2 ((((((((((w2.setCell ⟨wr.heap.size,0,none⟩ (.string ev.id)).setCell ⟨wr.heap.size,1,none⟩ (.string ev.sd)).setCell ⟨wr.heap.size,2,none⟩ (.string ev.ty)).setCell ⟨wr.heap.size,3,none⟩ (.bool ev.st)).setCell ⟨wr.heap.size,4,none⟩ (.string ev.key)).setCell ⟨wr.heap.size,5,none⟩ (.int .i64 ev.tm)).setCell ⟨wr.heap.size,6,none⟩ (.slice pa ev.np cp)).setCell ⟨wr.heap.size,7,none⟩ (.slice aa ev.na ca)).setCell ⟨wr.heap.size,8,none⟩ (.string ev.val)).setCell ⟨wr.heap.size,9,none⟩ (.slice ga ev.ng cg)):=by
  iterate 10 (refine Below.setCell ?_ (by show wr.heap.size<=wr.heap.size;exact nL) _)
  exact kB
 refine ⟨_,rfl,nT G hB.size,⟨by rw [aB (by decide),aB (by decide),aB (by decide),aB (by decide),aB (by decide),aB (by decide),aB (by decide),aB (by decide),aB (by decide),aZ ⟨_,y0⟩],by rw [aB (by decide),aB (by decide),aB (by decide),aB (by decide),aB (by decide),aB (by decide),aB (by decide),aB (by decide),aZ ⟨_,by rw [aB (by decide)];exact Z⟩],by rw [aB (by decide),aB (by decide),aB (by decide),aB (by decide),aB (by decide),aB (by decide),aB (by decide),aZ ⟨_,by rw [aB (by decide),aB (by decide)];exact J⟩],by rw [aB (by decide),aB (by decide),aB (by decide),aB (by decide),aB (by decide),aB (by decide),aZ ⟨_,by rw [aB (by decide),aB (by decide),aB (by decide)];exact H⟩],by rw [aB (by decide),aB (by decide),aB (by decide),aB (by decide),aB (by decide),aZ ⟨_,by rw [aB (by decide),aB (by decide),aB (by decide),aB (by decide)];exact y4⟩],by rw [aB (by decide),aB (by decide),aB (by decide),aB (by decide),aZ ⟨_,by rw [aB (by decide),aB (by decide),aB (by decide),aB (by decide),aB (by decide)];exact y5⟩],by rw [aB (by decide),aB (by decide),aB (by decide),aZ ⟨_,by rw [aB (by decide),aB (by decide),aB (by decide),aB (by decide),aB (by decide),aB (by decide)];exact N⟩],by rw [aB (by decide),aB (by decide),aZ ⟨_,by rw [aB (by decide),aB (by decide),aB (by decide),aB (by decide),aB (by decide),aB (by decide),aB (by decide)];exact y7⟩],by rw [aB (by decide),aZ ⟨_,by rw [aB (by decide),aB (by decide),aB (by decide),aB (by decide),aB (by decide),aB (by decide),aB (by decide),aB (by decide)];exact y8⟩],by rw [aZ ⟨_,by rw [aB (by decide),aB (by decide),aB (by decide),aB (by decide),aB (by decide),aB (by decide),aB (by decide),aB (by decide),aB (by decide)];exact y9⟩]⟩,u.trans hB⟩
theorem PK (s:ByteArray)(w:World)(h:dW w (some ⟨b,off,none⟩) n cap E)(hb:b<w.heap.size)(O:eP w b (off+p * 10) (E p) pa cp aa ca ga cg)(hp:p<n)(U:aL E n s=(p:Int)) :
  Calls prog 171 #[.agg #[.slice (some ⟨b,off,none⟩) n cap],.string s] w (fun x w'=>x=.returned ((E p).val' pa cp aa ca ga cg)/\Below w.heap.size w w'):=by
 have J:He (∀ W,EZ w (.slice (some ⟨b,off,none⟩) n cap) W->Calls prog 44 #[.agg #[.slice (some ⟨b,off,none⟩) n cap],.string s] W fun e w'=>e=.returned (.int .i64 (p:Int))/\EZ w (.slice (some ⟨b,off,none⟩) n cap) w'):=fun W Y=>by
  refine (iJ s W (h.below Y.bl)).mono ?_;rintro e w' ⟨rfl,rfl⟩;exact ⟨by rw [U],Y.call bA⟩
 have hn:=nZ h.le h.max;unfold maxLen at hn;clear h U;generalize E p=ev at *
 go_enter func171,ntmps171
 go_wp2_with fail
 obtain ⟨N,G⟩:∃ N,N=(w.alloc (.cells #[.slice (some ⟨b,off,none⟩) n cap] 25)).alloc (.cells #[.string ⟨#[]⟩,.string ⟨#[]⟩,.string ⟨#[]⟩,.bool false,.string ⟨#[]⟩,.int .i64 0,.slice none 0 0,.slice none 0 0,.string ⟨#[]⟩,.slice none 0 0] 30):=⟨_,rfl⟩;rw [<- G]
 have H:EZ w (.slice (some ⟨b,off,none⟩) n cap) N:=by
  subst G;refine ⟨by simp,bA.alloc (by simp) _,by simp,fun o ho=>?_,fun o=>kF (by simp)⟩;rw [kA (by simp)]
  match o,ho with
  | 0,_=>exact ⟨_,rfl⟩
  | 1,_=>exact ⟨_,rfl⟩
  | 2,_=>exact ⟨_,rfl⟩
  | 3,_=>exact ⟨_,rfl⟩
  | 4,_=>exact ⟨_,rfl⟩
  | 5,_=>exact ⟨_,rfl⟩
  | 6,_=>exact ⟨_,rfl⟩
  | 7,_=>exact ⟨_,rfl⟩
  | 8,_=>exact ⟨_,rfl⟩
  | 9,_=>exact ⟨_,rfl⟩
 clear G;have ab:=H.rb
 go_region_with (go_at_call 44;refine (J.o _ (by first|exact H|exact H.drew|exact H.drew.drew|exact H.drew.drew.drew)).mono ?_;rintro e w2 ⟨rfl,u⟩;have ad:=u.rb;obtain ⟨c0,c1,c2,c3,c4,c5,c6,c7,c8,c9⟩:=O.below u.bl hb;have ff:=u.rf;obtain ⟨x0,y0⟩:=u.rs 0 (by decide);obtain ⟨x1,y1⟩:=u.rs 1 (by decide);obtain ⟨x2,y2⟩:=u.rs 2 (by decide);obtain ⟨x3,Z⟩:=u.rs 3 (by decide);obtain ⟨x4,y4⟩:=u.rs 4 (by decide);obtain ⟨x5,y5⟩:=u.rs 5 (by decide);obtain ⟨x6,y6⟩:=u.rs 6 (by decide);obtain ⟨x7,y7⟩:=u.rs 7 (by decide);obtain ⟨x8,y8⟩:=u.rs 8 (by decide);obtain ⟨x9,y9⟩:=u.rs 9 (by decide))
 all_goals
  have I:=u.bl;clear u H J;go_wp2
  refine bodyPost_ret (v:=ev.val' pa cp aa ca ga cg) (by simp [results,results171,go_sem,y0,y1,y2,Z,y4,y5,y6,y7,y8,y9]) rfl ⟨rfl,?_⟩
  iterate 10 (refine Below.setCell ?_ (Nat.le_add_right _ 1) _)
  first|exact I|exact I.drew
theorem MO (a:Option Addr)(cap:Nat)(S:Nat->ByteArray)(s:ByteArray)(w:World) :
  Calls prog 80 #[.slice a 0 cap,.string s] w fun e w'=>e=.returned (.bool (bD S 0 s))/\w'=w:=by
 go_enter func80,ntmps80
 go_wp2
 refine wp_loop_rounds 1 ?_;rw [rounds_succ];go_wp2
 go_ret;exact ⟨rfl,rfl⟩
theorem kM (s:ByteArray)(w:World)(h:dE w a n cap S) :
  Calls prog 80 #[.slice a n cap,.string s] w fun e w'=>e=.returned (.bool (bD S n s))/\w'=w:=by
 rcases h.cells with rfl|⟨b,off,rfl,_,u⟩
 ·exact MO a cap S s w
 exact iK b off n cap S s w (nZ h.le h.max) u
theorem SH {pb ab gb:Option Addr}{dp da dg:Nat}(w:World)(u:aF E n=true)(hp:p<n)(hq:q<n)(h:dW w a n cap E)(ao:cI w (E p) pa cp aa ca ga cg)(aj:cI w (E q) pb dp ab da gb dg) :
  Calls prog 178 #[.agg #[.slice a n cap],(E p).val' pa cp aa ca ga cg,(E q).val' pb dp ab da gb dg] w fun x w'=>x=.returned (.bool (nY E n p q))/\Below w.heap.size w w':=by
 obtain ⟨N,G⟩:∃ N,N=(nD w a n cap (E p) pa cp aa ca ga cg).alloc (.cells (ec (E q) pb dp ab da gb dg) 30):=⟨_,rfl⟩;have Y:Below w.heap.size w N:=by rw [G];exact (bA.alloc (by simp) _).alloc (by simp;omega) _
 have bv:N.heap.size=w.heap.size+3:=by rw [G];simp
 have O:He (∀ wx,Below (w.heap.size+3) N wx->wx.cell? ⟨w.heap.size,0,none⟩=some (.slice a n cap)/\(∀ o,wx.cell? ⟨w.heap.size+1,o,none⟩=((ec (E p) pa cp aa ca ga cg):Array Value)[o]?)/\(∀ o,wx.cell? ⟨w.heap.size+2,o,none⟩=((ec (E q) pb dp ab da gb dg):Array Value)[o]?)):=fun wx hx=>by
  have h2:Below (w.heap.size+2) (nD w a n cap (E p) pa cp aa ca ga cg) wx:=by
   have:Below (w.heap.size+2) (nD w a n cap (E p) pa cp aa ca ga cg) N:=by rw [G];exact kB.alloc (by simp) _
   exact this.trans (hx.mono (by omega))
  have h1:=eG (E p) w h2;refine ⟨h1.1,h1.2,fun o=>?_⟩;rw [hx.cell (by show w.heap.size+2<w.heap.size+3;omega),G];exact kA (by simp)
 have HP:He (∀ W,Below w.heap.size w W->Calls prog 181 #[.agg #[.slice a n cap],(E p).val' pa cp aa ca ga cg] W fun x w'=>x=.returned (.int .i64 (sL E n p))/\Below W.heap.size W w'):=fun W hW=>IB W u hp (h.below hW) (ao.below hW)
 have HQ:He (∀ W,Below w.heap.size w W->Calls prog 181 #[.agg #[.slice a n cap],(E q).val' pb dp ab da gb dg] W fun x w'=>x=.returned (.int .i64 (sL E n q))/\Below W.heap.size W w'):=fun W hW=>IB W u hq (h.below hW) (aj.below hW)
 have Hv:He (∀ x y,x=sL E n p->y=sL E n q->nY E n p q=if x=y then (if (E p).tm=(E q).tm then Op.bytesLess (E p).id.toList (E q).id.toList else decide ((E p).tm<(E q).tm)) else decide (y<x)):=fun x y hx hy=>by subst hx hy;rfl
 clear u hp hq h ao aj
 go_enter func178,ntmps178
 go_wp2_with fail
 have J:((w.alloc (.cells #[.slice a n cap] 25)).alloc (.cells (ec (E p) pa cp aa ca ga cg) 30)).alloc (.cells (ec (E q) pb dp ab da gb dg) 30)=N:=G.symm;rw [J];clear J G;refine (HP.o _ Y).mono ?_;rintro e w1 ⟨rfl,aq⟩;have I:=aq.mono (B':=w.heap.size+3) (by omega);have a8:=Y.trans (I.mono (by omega));have ba:w.heap.size+3<=w1.heap.size:=by have:=I.size;omega
 obtain ⟨r0,p0,H⟩:=O.o _ I;have a6:=H 0;have bh:=H 1;have bg:=H 2;have bf:=H 3;have a4:=H 4;have ax:=H 5;have a5:=H 6;have a3:=H 7;have ay:=H 8;have bc:=H 9;clear HP p0 H aq
 go_wp2_with fail
 refine (HQ.o _ a8).mono ?_;rintro e w2 ⟨rfl,am⟩;have ak:=I.trans (am.mono ba);have Z:=Y.trans (ak.mono (by omega));obtain ⟨-,p2,q2⟩:=O.o _ ak;have br:=p2 0;have bt:=p2 5;have bq:=q2 0;have bw:=q2 5;clear HQ p2 q2 am a6 bh bg bf a4 ax a5 a3 ay bc r0 O;have HV:He (nY E n p q=if sL E n p=sL E n q then (if (E p).tm=(E q).tm then Op.bytesLess (E p).id.toList (E q).id.toList else decide ((E p).tm<(E q).tm)) else decide (sL E n q<sL E n p)):=Hv.o _ _ rfl rfl;clear Hv;generalize sL E n p=x at *;generalize sL E n q=y at *;generalize E p=ep at *;generalize E q=eq at *
 by_cases U:x=y
 ·subst U
  by_cases ht:ep.tm=eq.tm
  ·have HR:He (nY E n p q=Op.bytesLess ep.id.toList eq.id.toList):=by
    have:=HV.o;rw [if_pos rfl,if_pos ht] at this;exact this
   have t1:(ep.tm != eq.tm)=false:=by simp [ht]
   clear HV;go_wp2
   go_ret;exact ⟨aC HR.o.symm,Z⟩
  have HR:He (nY E n p q=decide (ep.tm<eq.tm)):=by
   have:=HV.o;rw [if_pos rfl,if_neg ht] at this;exact this
  have t1:(ep.tm != eq.tm)=true:=by simpa using ht
  clear HV;go_wp2
  go_ret;exact ⟨aC HR.o.symm,Z⟩
 have HR:He (nY E n p q=decide (y<x)):=by
  have:=HV.o;rw [if_neg U] at this;exact this
 have t1:(x != y)=true:=by simpa using U
 clear HV;go_wp2
 go_ret;exact ⟨aC HR.o.symm,Z⟩
def gE (A I:Nat->ByteArray)(H:Nat)(u:Nat->ByteArray)(G:Nat):Nat->Bool
 | 0=>true
 | k+1=>gE A I H u G k && !(bD I H (A k) && !bD u G (A k))
theorem zW (A I:Nat->ByteArray)(H:Nat)(u:Nat->ByteArray)(G:Nat):∀ m k,k<m->gE A I H u G (k+1)=false->gE A I H u G m=false
 | m+1,k,hk,e=>by
  by_cases h:k=m
  ·subst h;exact e
  rw [gE,zW A I H u G m k (by omega) e];rfl
theorem vB (A G:Nat->ByteArray)(u:Nat)(H:Nat->ByteArray)(J:Nat):∀ m,gE A G u H J m=true↔∀ k,k<m->bD G u (A k)=true->bD H J (A k)=true
 | 0=>by simp [gE]
 | m+1=>by
  rw [gE,Bool.and_eq_true,vB A G u H J m];constructor
  ·rintro ⟨I,O⟩ k U N
   by_cases e:k=m
   ·subst e
    rw [N] at O;simpa using O
   exact I k (by omega) N
  intro h;refine ⟨fun k U=>h k (by omega),?_⟩;cases I:bD G u (A m)
  ·rfl
  rw [h m (by omega) I];rfl
theorem TY {la:Option Addr}{u Z:Nat}{O:Nat->ByteArray}{oa:Option Addr}{G oc:Nat}{J:Nat->ByteArray}(w:World)(he:dE w aa ev.na ca ev.Av)(hl:dE w la u Z O)(ho:dE w oa G oc J) :
  Calls prog 177 #[ev.val' pa cp aa ca ga cg,.slice la u Z,.slice oa G oc] w fun x w'=>x=.returned (.bool (gE ev.Av O u J G ev.na))/\Below w.heap.size w w':=by
 have hna:=nZ he.le he.max;unfold maxLen at hna;obtain ⟨H,U⟩:∃ H,H=w.alloc (.cells (ec ev pa cp aa ca ga cg) 30):=⟨_,rfl⟩;have N:Below w.heap.size w H:=by rw [U];exact bA
 have c7:H.cell? ⟨w.heap.size,7,none⟩=some (.slice aa ev.na ca):=by rw [U];exact kA rfl
 have HL:He (∀ s,Calls prog 80 #[.slice la u Z,.string s] H fun e w'=>e=.returned (.bool (bD O u s))/\w'=H):=fun s=>kM s H (hl.below N)
 have HO:He (∀ s,Calls prog 80 #[.slice oa G oc,.string s] H fun e w'=>e=.returned (.bool (bD J G s))/\w'=H):=fun s=>kM s H (ho.below N)
 have HA:He (dE H aa ev.na ca ev.Av):=he.below N;clear hl ho he
 go_enter func177,ntmps177
 go_wp2_with fail
 rw [<- U];clear U
 go_loopw [7] (fun i wr=>∃ k:Nat,k<=ev.na/\i=.int .i64 k/\He (gE ev.Av O u J G k=true)/\wr=H) (fun i _=>ev.na - (intOf i).toNat)
 case atStart=>exact ⟨0,nz,rfl,rfl,rfl⟩
 case round =>
  obtain ⟨k,hk,rfl,Y,ap⟩:=hrel;subst ap
  by_cases am:k<ev.na
  ·rcases HA.o.cells with h0|⟨ba,a4,rfl,ay,ak⟩
   ·omega
   have a6:=ak k am;have H1:He (∀ b1,bD O u (ev.Av k)=b1->Calls prog 80 #[.slice la u Z,.string (ev.Av k)] wr fun e w'=>e=.returned (.bool b1)/\w'=wr):=fun b1 e1=>by rw [<- e1];exact HL.o _
   have H2:He (∀ b1,bD J G (ev.Av k)=b1->Calls prog 80 #[.slice oa G oc,.string (ev.Av k)] wr fun e w'=>e=.returned (.bool b1)/\w'=wr):=fun b1 e1=>by rw [<- e1];exact HO.o _
   have HS:He (∀ b1 b2,bD O u (ev.Av k)=b1->bD J G (ev.Av k)=b2->gE ev.Av O u J G (k+1)=!(b1 && !b2)):=fun b1 b2 e1 e2=>by rw [gE,Y.o,e1,e2];rfl
   have HF:He (gE ev.Av O u J G (k+1)=false->gE ev.Av O u J G ev.na=false):=zW _ _ _ _ _ _ k am;clear ak Y;cases h1:bD O u (ev.Av k)
   case false =>
    have Hn:He (_=_):=HS.o _ _ h1 rfl;have I:He (Calls prog 80 #[.slice la u Z,.string (ev.Av k)] wr fun e w'=>e=.returned (.bool false)/\w'=wr):=H1.o _ h1;clear HS HF H1 H2 h1
    go_wp2_with fail
    refine (I.o).mono ?_;rintro e w1 ⟨rfl,rfl⟩;go_wp2
    go_roundw
    case rel=>exact ⟨k+1,by omega,by go_num,Hn,by first|rfl|trivial⟩
    simp [intOf];omega
   case true =>
    cases h2:bD J G (ev.Av k)
    case true =>
     have Hn:He (_=_):=HS.o _ _ h1 h2;have I:He (Calls prog 80 #[.slice la u Z,.string (ev.Av k)] wr fun e w'=>e=.returned (.bool true)/\w'=wr):=H1.o _ h1;have ab:He (Calls prog 80 #[.slice oa G oc,.string (ev.Av k)] wr fun e w'=>e=.returned (.bool true)/\w'=wr):=H2.o _ h2;clear HS HF H1 H2 h1 h2
     go_wp2_with fail
     refine (I.o).mono ?_;rintro e w1 ⟨rfl,rfl⟩
     go_wp2_with fail
     refine (ab.o).mono ?_;rintro e w2 ⟨rfl,rfl⟩;go_wp2
     go_roundw
     case rel=>exact ⟨k+1,by omega,by go_num,Hn,by first|rfl|trivial⟩
     simp [intOf];omega
    case false =>
     have Hn:He (_=_):=HF.o (HS.o _ _ h1 h2);have I:He (Calls prog 80 #[.slice la u Z,.string (ev.Av k)] wr fun e w'=>e=.returned (.bool true)/\w'=wr):=H1.o _ h1;have ab:He (Calls prog 80 #[.slice oa G oc,.string (ev.Av k)] wr fun e w'=>e=.returned (.bool false)/\w'=wr):=H2.o _ h2;clear HS HF H1 H2 h1 h2
     go_wp2_with fail
     refine (I.o).mono ?_;rintro e w1 ⟨rfl,rfl⟩
     go_wp2_with fail
     refine (ab.o).mono ?_;rintro e w2 ⟨rfl,rfl⟩;go_wp2
     go_ret;exact ⟨aC Hn.o.symm,N⟩
  have au:ev.na=k:=by omega
  have Hn:He (gE ev.Av O u J G ev.na=true):=by rw [au];exact Y
  clear Y;go_wp2
  go_ret;exact ⟨aC Hn.o.symm,N⟩
end Go.Proofs.YtpfeegcdlikegaaGreat
