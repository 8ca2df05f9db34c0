import Derived.Test.YtpfeegcdlikegaaGreatAlXZ
set_option maxHeartbeats 16000000
set_option maxRecDepth 100000
namespace Go.Proofs.YtpfeegcdlikegaaGreat
open Go.RowKit Go.Proofs.Tryz
variable {x y:aE}{w:World}{g n base:Nat}{v:Value}{l:List aE}
instance : Inhabited aE := ⟨aE.none⟩
theorem ltE (x y:aE):ltOf dN x y=cO x y:=by rw [zU];rfl
theorem OC :ltOf dN x y=true↔Lt x y:=by rw [ltE,dX]
theorem OE :ltOf dN x y=false↔¬ Lt x y:=by rw [ltE,<- dX];cases cO x y <;> simp
theorem bc0:Sort.SWO (ltOf dN) where
 irrefl x:=OE.2 (Lt.irrefl x)
 trans x y z h1 h2:=OC.2 ((OC.1 h1).trans (OC.1 h2))
 ntrans x y z h1 h2:=by
  rw [OE] at h1 h2 ⊢;intro h;rcases YJ x y with ⟨u,_⟩|⟨u,_⟩|⟨u,_⟩
  ·exact h1 u
  ·refine h2 ?_
   unfold Lt at h ⊢;rw [u.1,u.2] at h;exact h
  exact h2 (u.trans h)
theorem uT (l:List aE):Sort.flatK lA 2 l.toArray=(aR l).toArray:=by
 refine Sort.ext_get! (by simp [fG]) fun t N=>?_
 have H:t<l.length * 2:=by simpa using N
 rw [Sort.get_flatK _ _ _ t (by simpa using H)];have hi:t / 2<l.length:=by omega
 obtain ⟨g0,g1⟩:=jJ l (t / 2) hi
 have U:(l.toArray)[t / 2]! = aI l (t / 2):=by
  rw [bP l _ hi];simp [hi]
 rw [U];have u:t<(aR l).length:=by rw [fG];exact H
 have O:(aR l).toArray[t]! = (aR l)[t]:=by
  rw [getElem!_pos (aR l).toArray t (by simpa using u)];simp
 rw [O]
 have I:∀ v,(aR l)[t]?=some v->(aR l)[t]=v:=fun v J=>by
  rw [List.getElem?_eq_getElem u] at J;injection J
 have Y:=Nat.div_add_mod t 2;have G:t % 2=0\/t % 2=1:=by omega
 rcases G with G|G
 ·rw [G];exact (I _ (by rw [show t=t / 2 * 2 by omega];rw [show t / 2 * 2 / 2=t / 2 by omega];exact g0)).symm
 rw [G];exact (I _ (by rw [show t=t / 2 * 2+1 by omega];rw [show (t / 2 * 2+1) / 2=t / 2 by omega];exact g1)).symm
theorem JL {os:Array Obj}{u:Array Value}{e:TypeId}{G:Nat × Nat}(d:Array Value)(hb:w.heap[g]?=some (.cells u e G)) :
  (Sort.grow (Sort.putRow id (Sort.ahead w n) g 0 d) os).heap[g]?=some (.cells (Sort.putCells id 0 d u) e G):=by
 have hg:g<w.heap.size:=(Array.getElem?_eq_some_iff.1 hb).1
 show ((Sort.putRow id (Sort.ahead w n) g 0 d).heap ++ os)[g]?=_
 rw [Array.getElem?_append,if_pos (by simpa [Sort.putRow,Sort.mapBlock,Sort.ahead] using hg)];simp [Sort.putRow,Sort.mapBlock,Sort.ahead,Array.getElem?_modify,hb,Sort.onCells]
theorem DH {os:Array Obj}(d:Array Value):w.grownBy (Sort.grow (Sort.putRow id (Sort.ahead w n) g 0 d) os) (some g):=by
 refine ⟨rfl,rfl,rfl,by simp [Sort.grow,Sort.putRow,Sort.mapBlock,Sort.ahead],fun k G u=>?_⟩
 show ((Sort.putRow id (Sort.ahead w n) g 0 d).heap ++ os)[k]?=_
 rw [Array.getElem?_append,if_pos (by simpa [Sort.putRow,Sort.mapBlock,Sort.ahead] using G)]
 have:g≠k:=fun e=>u (by rw [e])
 simp [Sort.putRow,Sort.mapBlock,Sort.ahead,Array.getElem?_modify,this]
theorem NH (u:Array Value)(G:List Value)(h:G.length<=u.size):(Sort.putCells id 0 G.toArray u).toList.take G.length=G:=by
 apply List.ext_getElem?;intro j
 by_cases H:j<G.length
 ·rw [List.getElem?_take_of_lt H,Array.getElem?_toList]
  simp [Sort.putCells,H,show j<u.size by omega]
 rw [List.getElem?_take_eq_none (by omega),List.getElem?_eq_none (by omega)]
def RZ (w:World)(base:Nat)(v:Value)(l:List aE)(e:Ending)(w':World):Prop:=e=.returned (.tuple #[])/\∃ l':List aE,aY w' base v l'/\l'.Perm l/\l'.Pairwise (fun a b=>¬ Lt b a)/\w.grownBy w' v.ownBlock
theorem xS (w:World)(row:Option Nat):w.grownBy w row:=⟨rfl,rfl,rfl,nL,fun _ _ _=>rfl⟩
theorem qD (h:aY w base v l)(hl:l.length<=1000000) :
  Calls prog 28 #[v,.func (.func 29) #[] #[]] w (RZ w base v l):=by
 have h':=h;obtain ⟨h1,h2⟩:=h;rcases h2 with ⟨rfl,h0⟩|⟨g,cap,J,rfl,hg,hh,hn,hc,O,hx⟩
 ·have:l=[]:=List.eq_nil_of_length_eq_zero h0
  subst this;have H:=AnyF.slices_SortFunc_none Tryz.sortO none 0 (.func (.func 29) #[] #[]) w
  change Calls prog 28 _ _ _ at H
  refine H.mono ?_;rintro e w' ⟨rfl,rfl⟩;exact ⟨rfl,[],h',List.Perm.refl _,List.Pairwise.nil,xS _ _⟩
 have ag:g<w.heap.size:=(Array.getElem?_eq_some_iff.1 hh).1;have eg:∀ args w,(callFunc 29 args).run prog w=.ok (.enter 29 args) w:=enters_of func29 (by kernel_rfl) rfl;have U:CmpLays prog 29 #[] lA 2 dN g 0 l.toArray.size w:=fun _ _ _ _ x y=>(AS x y _).mono fun _ _ h=>⟨h.1,h.2.eq⟩
 have hH:Sort.HoldsK lA 2 w g 0 l.toArray:=by
  unfold Sort.HoldsK;rw [uT];intro j hj;have Y:j<l.length * 2:=by simpa [fG] using hj
  refine ⟨?_,by simp [World.frozen?,hh]⟩;have h1:(J.toList.take (l.length * 2))[j]?=(aR l)[j]?:=by rw [hx]
  rw [List.getElem?_take_of_lt Y] at h1;simp only [World.cell?,hh,Nat.zero_add];simp only [Option.isSome_none,Bool.false_eq_true,if_false];rw [<- Array.getElem?_toList,h1];have G:j<(aR l).length:=by rw [fG];exact Y
  rw [getElem!_pos (aR l).toArray j (by simpa using G)];simp [G]
 have H:=AnyQ.slices_SortFunc Tryz.sortO 2 Tryz.isAgg63 Tryz.sizeOf63 lA (fun _=>rfl) (fun x u hu=>by
  simp only [lA,List.mem_cons,List.not_mem_nil,or_false] at hu;rcases hu with rfl|rfl <;> rfl) dN bc0 29 #[] g 0 cap l.toArray w eg U hH ag (by simp;omega)
 change Calls prog 28 _ _ _ at H
 rw [List.size_toArray] at H;refine H.mono ?_;rintro e w' ⟨rfl,I,n,os,hp,hs,rfl⟩;obtain ⟨I⟩:=I;obtain ⟨p1,_,p3⟩:=hp;have G:I.length=l.length:=by simpa using p1
 have N:I.Perm l:=by
  have e1:((⟨I⟩:Array aE).extract 0 l.length).toList=I:=by simp [<- G]
  have e2:(l.toArray.extract 0 l.length).toList=l:=by simp
  rw [e1,e2] at p3;exact p3
 refine ⟨rfl,I,?_,N,?_,?_⟩
 ·refine ⟨by rw [fG],Or.inr ⟨g,cap,Sort.putCells id 0 (aR I).toArray J,by rw [G],hg,?_,by omega,hc,by simp [Sort.putCells,O],?_⟩⟩
  ·show (Sort.grow (Sort.putRow id (Sort.ahead w n) g 0 (Sort.flatK lA 2 I.toArray)) os).heap[g]?=_
   rw [uT];exact JL _ hh
  have:=NH J (aR I) (by rw [fG,G,O];omega);rw [fG] at this;exact this
 ·refine List.pairwise_iff_getElem.2 fun i j hi hj Z=>?_
  have:=hs i j nz Z (by omega);rw [OE] at this;have e1:(⟨I⟩:Array aE)[i]! = I[i]:=by rw [getElem!_pos (⟨I⟩:Array aE) i (by simpa using hi)];rfl
  have e2:(⟨I⟩:Array aE)[j]! = I[j]:=by rw [getElem!_pos (⟨I⟩:Array aE) j (by simpa using hj)];rfl
  rw [e1,e2] at this;exact this
 exact DH _
theorem mA (u:ByteArray)(w:World) :
  Calls prog 26 #[.string u] w fun e w'=>e=.returned (.agg #[.string ⟨#[109,101,109,98,101,114]⟩,.string u])/\Below w.heap.size w w':=by
 go_enter func26,ntmps26
 go_wp2
 refine bodyPost_ret (v:=.agg #[.string ⟨#[109,101,109,98,101,114]⟩,.string u]) (by simp [results,results26,go_sem]) rfl ⟨rfl,?_⟩
 repeat' (first|exact kB|exact nL|(refine Below.setCell ?_ ?_ _)|(refine Below.alloc ?_ ?_ _)|(simp;done)|(simp;omega))
theorem tB (e:Ev)(pa:Option Addr)(cp:Nat)(aa:Option Addr)(ca:Nat)(ga:Option Addr)(cg:Nat)(w:World) :
  Calls prog 27 #[e.val' pa cp aa ca ga cg,.string ⟨#[106,111,105,110]⟩] w fun x w'=>x=.returned (.bool (bE e && eZ e))/\Below w.heap.size w w':=by
 have u:∀ o,Below w.heap.size w (w.alloc o):=fun o=>bA
 cases hm:bE e
 case false =>
  have G:(e.ty.toList == [109,101,109,98,101,114])=false:=hm;clear hm
  go_enter func27,ntmps27
  go_wp2
  go_ret;exact ⟨rfl,u _⟩
 case true =>
  have G:(e.ty.toList == [109,101,109,98,101,114])=true:=hm;have H:He (eZ e=(e.val.toList == [106,111,105,110])):=rfl;clear hm
  go_enter func27,ntmps27
  go_wp2
  go_ret;exact ⟨by rw [H.o];rfl,u _⟩
variable {ca cg cp:Nat}{aa ga pa:Option Addr}
theorem aY.lt (h:aY w base v l)(q:Nat)(hq:v.ownBlock=some q):base<=q:=by
 rcases h.2 with ⟨rfl,_⟩|⟨g,cap,u,rfl,hg,_⟩
 ·cases hq
 have:g=q:=by simpa [Value.ownBlock] using hq
 omega
theorem aY.snoc {k:List aE}(h:w.ownsRow base 63 2 v (l.length+k.length) (aR l ++ aR k)):aY w base v (l ++ k):=by
 unfold aY;rw [List.length_append,<- JF];exact h
theorem nJ (W:World)(x y:aE)(t:TypeId)(j:Nat)(u:Value)(h:(aR [x,y])[j]?=some u):(W.alloc (.cells #[.string x.ty,.string x.key,.string y.ty,.string y.key] t)).cell? ((⟨W.heap.size,0,none⟩:Addr).add j)=some u:=by
 have H:j<4:=by
  rcases Nat.lt_or_ge j 4 with G|G
  ·exact G
  rw [List.getElem?_eq_none (by simpa [aR,lA] using G)] at h;cases h
 match j,H,h with
 | 0,_,h=>rw [show (⟨W.heap.size,0,none⟩:Addr).add 0=⟨W.heap.size,0,none⟩ from rfl,kA rfl];exact h
 | 1,_,h=>rw [show (⟨W.heap.size,0,none⟩:Addr).add 1=⟨W.heap.size,1,none⟩ from rfl,kA rfl];exact h
 | 2,_,h=>rw [show (⟨W.heap.size,0,none⟩:Addr).add 2=⟨W.heap.size,2,none⟩ from rfl,kA rfl];exact h
 | 3,_,h=>rw [show (⟨W.heap.size,0,none⟩:Addr).add 3=⟨W.heap.size,3,none⟩ from rfl,kA rfl];exact h
theorem bN (l:List aE)(u:Value)(h:u ∈ aR l):u.oneCell'=true:=by
 unfold aR at h;rw [List.mem_flatMap] at h;obtain ⟨x,_,G⟩:=h;exact PI x u G
theorem KC (e:Ev):(NJ e).length<=5:=by
 unfold NJ VA jF;split <;> split <;> simp
theorem DC (e:Ev)(hc:e.code=0)(ae:dV e=false)(h:aY w base v (xW e))(H:base<=w.heap.size) :
  Calls prog 30 #[v] w (EK w base (cD e)):=by
 have hL:cD e=dM :: (jF e ++ (uq e).map cW ++ [gZ]):=by unfold cD;rw [if_pos hc,ae];rfl
 have u:(xW e).length<=1000:=by rw [(FR e).length_eq];have:=KC e;omega
 have U:(xW e).length≠0:=by simp [xW]
 obtain ⟨g,n,cap,rfl,I,hg⟩:∃ g n cap,v=.slice (some ⟨g,0,none⟩) n cap/\n=(xW e).length/\base<=g:=by
  rcases h.2 with ⟨rfl,h0⟩|⟨g,cap,ak,rfl,hg,_⟩
  ·exact absurd h0 U
  exact ⟨g,_,cap,rfl,rfl,hg⟩
 by_cases Y:bE e=true/\e.sd=e.key
 ·have ab:us e=[e.sd,e.sd]:=by unfold us;rw [Y.1,if_neg (by decide),if_pos Y.2]
  have ag:uq e=[e.sd]:=by unfold uq;rw [if_pos (Or.inr Y.2)]
  have hS:xW e=dM :: (jF e ++ [cW e.sd,cW e.sd] ++ [gZ]):=by unfold xW;rw [ab];rfl
  have O:dB (cW e.sd) (cW e.sd)=true:=(cN _ _).2 ⟨rfl,rfl⟩
  have G:∀ {a b:aE},Lt a b->dB b a=false:=fun {a b} ah=>by
   cases hq:dB b a
   ·rfl
   exact absurd ⟨((cN _ _).1 hq).1.symm,((cN _ _).1 hq).2.symm⟩ ah.ne
  rw [hL,ag];rw [hS] at h I u;cases hy:(bE e && eZ e)
  ·have hY:jF e=[]:=by unfold jF;rw [hy];rfl
   rw [hY] at h I u ⊢;have J:n=4:=I;subst J
   exact IE (k0:=2) h rfl (by decide) u H hg (fun i hi=>by
    have:i=0:=by omega
    subst this;exact G (AX e.sd)) O (G (tV e.sd))
  have hY:jF e=[pK]:=by unfold jF;rw [hy];rfl
  rw [hY] at h I u ⊢;have J:n=5:=I;subst J
  exact IE (k0:=3) h rfl (by decide) u H hg (fun i hi=>by
   have:i=0\/i=1:=by omega
   rcases this with rfl|rfl
   ·exact G AR
   exact G (zX e.sd)) O (G (tV e.sd))
 have hu:us e=uq e:=by
  unfold us uq
  by_cases N:bE e=false
  ·rw [if_pos N,if_pos (Or.inl N)]
  have Z:¬ e.sd=e.key:=fun Z=>Y ⟨by
   cases hq:bE e
   ·exact absurd hq N
   rfl,Z⟩
  rw [if_neg N,if_neg Z,if_neg (show ¬ (bE e=false\/e.sd=e.key) from fun h1=>h1.elim N Z)]
 have hS:xW e=dM :: (jF e ++ (uq e).map cW ++ [gZ]):=by unfold xW;rw [hu]
 rw [hL];rw [hS] at h I u;exact CZ h I u H (KB (EC e))
def rM (w:World)(e:Ev)(x:Ending)(w':World):Prop:=∃ v,x=.returned v/\aY w' w.heap.size v (cD e)/\Below w.heap.size w w'
theorem bT (W:World)(x:aE)(t:TypeId)(j:Nat)(u:Value)(h:(aR [x])[j]?=some u):(W.alloc (.cells #[.string x.ty,.string x.key] t)).cell? ((⟨W.heap.size,0,none⟩:Addr).add j)=some u:=EH W x t j u (by simpa [aR] using h)
theorem TV (e:Ev)(w:World)(he:cI w e pa cp aa ca ga cg) :
  Calls prog 8 #[e.val' pa cp aa ca ga cg] w (rM w e):=by
 obtain ⟨i0,hi,a2,ay,a3⟩:=info_parts Tryz.infoSlot;have bi:∀ o,Below w.heap.size w (w.alloc o):=fun o=>bA
 go_enter func8,ntmps8
 go_wp2_with fail
 refine (wM e.id e.sd e.ty e.key e.val e.st e.tm pa e.np cp aa e.na ca ga e.ng cg e.Pv e.Av e.M e.L _ he.hid he.hsd he.hty he.hkey he.hval (he.hp.below (bi _)) (he.ha.below (bi _)) (he.hg.below (bi _))).mono ?_;rintro x w1 ⟨rfl,bt⟩;have bj:=bt.mono (B':=w.heap.size+1) (by simp);have a4:=(bi _).trans (bt.mono (by simp));have ck:=aK bj;have u:w.heap.size+1<=w1.heap.size:=by simpa using bj.size
 have HB:He (∀ W,Below (w.heap.size+1) w1 W->∀ o,W.cell? ⟨w.heap.size,o,none⟩=((ec e pa cp aa ca ga cg):Array Value)[o]?):=fun W hW=>aK (bj.trans hW)
 clear bt bj;have Y:He (bF e.id e.sd e.ty e.key e.val e.st e.tm e.np e.na e.ng e.Pv e.Av e.M e.L=e.code):=rfl
 by_cases hc:e.code=0
 case neg =>
  have hL:He (cD e=[]):=by unfold He cD;rw [if_neg hc]
  have cn:(bF e.id e.sd e.ty e.key e.val e.st e.tm e.np e.na e.ng e.Pv e.Av e.M e.L != 0)=true:=by rw [Y.o];simpa using hc
  clear Y hc;go_wp2
  go_ret;exact ⟨_,rfl,by rw [hL.o];exact ⟨rfl,Or.inl ⟨rfl,rfl⟩⟩,a4⟩
 case pos =>
  have cn:bF e.id e.sd e.ty e.key e.val e.st e.tm e.np e.na e.ng e.Pv e.Av e.M e.L=0:=Y.o.trans hc;have b9:∀ o,Below (w.heap.size+1) w1 (w1.alloc o):=fun o=>kB.alloc u _
  have b5:=HB.o _ (b9 (.cells #[.string ⟨#[99,114,101,97,116,101]⟩,.string ⟨#[]⟩] 63));cases hcr:dV e
  case true =>
   have hL:He (cD e=[dM]):=by unfold He cD;rw [if_pos hc,hcr];rfl
   have cc:(e.ty.toList == [99,114,101,97,116,101])=true:=hcr;clear Y hc hcr;go_wp2
   go_ret;exact ⟨_,rfl,by rw [hL.o];exact aY.one w1 _ (by omega) dM,a4.alloc a4.size _⟩
  case false =>
   have cc:(e.ty.toList == [99,114,101,97,116,101])=false:=hcr;have Hc:He (e.code=0):=hc;have bw:He (dV e=false):=hcr;clear Y hc hcr;obtain ⟨W1,bh⟩:∃ W1,W1=w1.alloc (.cells #[.string dM.ty,.string dM.key] 63):=⟨_,rfl⟩;have bc:aY W1 (w.heap.size+1) (.slice (some ⟨w1.heap.size,0,none⟩) 1 1) [dM]:=by rw [bh];exact aY.one w1 _ u dM
   have ax:Below (w.heap.size+1) w1 W1:=by rw [bh];exact b9 _
   have bo:w.heap.size+1<=W1.heap.size:=by have:=ax.size;omega
   have b8:=HB.o _ ax
   go_wp2_with fail
   have bn:w1.alloc (.cells #[.string ⟨#[99,114,101,97,116,101]⟩,.string ⟨#[]⟩] 63)=W1:=bh.symm;rw [bn];clear bn bh ck b5;refine (mA e.sd _).mono ?_;rintro x w2 ⟨rfl,bz⟩;have aw:=ax.trans (bz.mono bo);have cu:w.heap.size+1<=w2.heap.size:=by have:=aw.size;omega
   have O:=bc.below bz;clear bc ax bo b8 bz;cases hm:bE e
   case false =>
    have cf:(e.ty.toList == [109,101,109,98,101,114])=false:=hm;have HA:He (NJ e=[dM,gZ,cW e.sd]):=by unfold He NJ VA jF;rw [hm];rfl
    have bf:(bE e && eZ e)=false:=by rw [hm];rfl
    clear hm
    go_wp2_with (at_builtin;refine wpList_append_own _ rfl _ _ 35 rfl (w.heap.size+1) 63 i0 (.agg #[.string ByteArray.empty,.string ByteArray.empty]) 2 32 underlying35 hi a2 ay a3 rfl (by decide) _ _ _ rfl (World.ownsRow.alloc O _) ⟨w2.heap.size,0,none⟩ 2 2 (aR [gZ,cW e.sd]) rfl rfl (nJ _ _ _ _) (bN _) (by show (3:Nat)<=maxLen;decide) (by show (3:Nat) * 32<=140737488355328;decide) (by simp;omega) ?_;intro v3 w3 N ag _;have Z:aY w3 (w.heap.size+1) v3 [dM,gZ,cW e.sd]:=aY.snoc (l:=[dM]) (k:=[gZ,cW e.sd]) N;have I:Below (w.heap.size+1) w1 w3:=(aw.alloc (by omega) _).grown ag (by simp;omega) (fun q hq=>O.lt q hq);have ai:=HB.o _ I;have am:w.heap.size+1<=w3.heap.size:=nZ u I.size)
    refine (tB e pa cp aa ca ga cg _).mono ?_;rintro x wm ⟨rfl,ad⟩;rw [bf];have J:=I.trans (ad.mono am);have cd:w.heap.size+1<=wm.heap.size:=nZ u J.size;have G:=Z.below ad;clear ad
    go_wp2_with fail
    refine (qD G (by show (3:Nat)<=1000000;decide)).mono ?_;rintro x ws ⟨rfl,l5,ab,H,U,ba⟩;have a5:l5=xW e:=pY (by rw [HA.o];exact H) U;subst a5;have an:Below (w.heap.size+1) w1 ws:=J.grown ba (nZ u J.size) (fun q hq=>G.lt q hq);have a6:w.heap.size+1<=ws.heap.size:=nZ u an.size;clear H U
    go_wp2_with fail
    refine (DC e Hc.o bw.o ab a6).mono ?_;rintro x wz ⟨vz,rfl,af,a8⟩;go_wp2
    go_ret;exact ⟨_,rfl,af.mono (by omega),a4.trans ((an.trans a8).mono (by omega))⟩
   case true =>
    have cf:(e.ty.toList == [109,101,109,98,101,114])=true:=hm;cases hj:eZ e
    case false =>
     have HA:He (NJ e=[dM,gZ,cW e.sd,cW e.key]):=by unfold He NJ VA jF;rw [hm,hj];rfl
     have bf:(bE e && eZ e)=false:=by rw [hm,hj];rfl
     clear hm hj
     go_wp2_with (at_builtin;refine wpList_append_own _ rfl _ _ 35 rfl (w.heap.size+1) 63 i0 (.agg #[.string ByteArray.empty,.string ByteArray.empty]) 2 32 underlying35 hi a2 ay a3 rfl (by decide) _ _ _ rfl (World.ownsRow.alloc O _) ⟨w2.heap.size,0,none⟩ 2 2 (aR [gZ,cW e.sd]) rfl rfl (nJ _ _ _ _) (bN _) (by show (3:Nat)<=maxLen;decide) (by show (3:Nat) * 32<=140737488355328;decide) (by simp;omega) ?_;intro v3 w3 N ag _;have Z:aY w3 (w.heap.size+1) v3 [dM,gZ,cW e.sd]:=aY.snoc (l:=[dM]) (k:=[gZ,cW e.sd]) N;have I:Below (w.heap.size+1) w1 w3:=(aw.alloc (by omega) _).grown ag (by simp;omega) (fun q hq=>O.lt q hq);have ai:=HB.o _ I;have am:w.heap.size+1<=w3.heap.size:=nZ u I.size)
     refine (mA e.key _).mono ?_;rintro x w4 ⟨rfl,ao⟩;have ak:=I.trans (ao.mono am);have cm:w.heap.size+1<=w4.heap.size:=nZ u ak.size;have ah:=Z.below ao;clear ao ai
     go_wp2_with (at_builtin;refine wpList_append_own _ rfl _ _ 35 rfl (w.heap.size+1) 63 i0 (.agg #[.string ByteArray.empty,.string ByteArray.empty]) 2 32 underlying35 hi a2 ay a3 rfl (by decide) _ _ _ rfl (World.ownsRow.alloc ah _) ⟨w4.heap.size,0,none⟩ 1 1 (aR [cW e.key]) rfl rfl (bT _ _ _) (bN _) (by show (4:Nat)<=maxLen;decide) (by show (4:Nat) * 32<=140737488355328;decide) (by simp;omega) ?_;intro v5 w5 aj aq _;have ap:aY w5 (w.heap.size+1) v5 [dM,gZ,cW e.sd,cW e.key]:=aY.snoc (l:=[dM,gZ,cW e.sd]) (k:=[cW e.key]) aj;have ae:Below (w.heap.size+1) w1 w5:=(ak.alloc (by omega) _).grown aq (by simp;omega) (fun q hq=>ah.lt q hq);have bx:=HB.o _ ae;have bg:w.heap.size+1<=w5.heap.size:=nZ u ae.size)
     refine (tB e pa cp aa ca ga cg _).mono ?_;rintro x wm ⟨rfl,ad⟩;rw [bf];have J:=ae.trans (ad.mono bg);have cd:w.heap.size+1<=wm.heap.size:=nZ u J.size;have G:=ap.below ad;clear ad
     go_wp2_with fail
     refine (qD G (by show (4:Nat)<=1000000;decide)).mono ?_;rintro x ws ⟨rfl,l5,ab,H,U,ba⟩;have a5:l5=xW e:=pY (by rw [HA.o];exact H) U;subst a5;have an:Below (w.heap.size+1) w1 ws:=J.grown ba (nZ u J.size) (fun q hq=>G.lt q hq);have a6:w.heap.size+1<=ws.heap.size:=nZ u an.size;clear H U
     go_wp2_with fail
     refine (DC e Hc.o bw.o ab a6).mono ?_;rintro x wz ⟨vz,rfl,af,a8⟩;go_wp2
     go_ret;exact ⟨_,rfl,af.mono (by omega),a4.trans ((an.trans a8).mono (by omega))⟩
    case true =>
     have HA:He (NJ e=[dM,gZ,cW e.sd,cW e.key,pK]):=by unfold He NJ VA jF;rw [hm,hj];rfl
     have bf:(bE e && eZ e)=true:=by rw [hm,hj];rfl
     clear hm hj
     go_wp2_with (at_builtin;refine wpList_append_own _ rfl _ _ 35 rfl (w.heap.size+1) 63 i0 (.agg #[.string ByteArray.empty,.string ByteArray.empty]) 2 32 underlying35 hi a2 ay a3 rfl (by decide) _ _ _ rfl (World.ownsRow.alloc O _) ⟨w2.heap.size,0,none⟩ 2 2 (aR [gZ,cW e.sd]) rfl rfl (nJ _ _ _ _) (bN _) (by show (3:Nat)<=maxLen;decide) (by show (3:Nat) * 32<=140737488355328;decide) (by simp;omega) ?_;intro v3 w3 N ag _;have Z:aY w3 (w.heap.size+1) v3 [dM,gZ,cW e.sd]:=aY.snoc (l:=[dM]) (k:=[gZ,cW e.sd]) N;have I:Below (w.heap.size+1) w1 w3:=(aw.alloc (by omega) _).grown ag (by simp;omega) (fun q hq=>O.lt q hq);have ai:=HB.o _ I;have am:w.heap.size+1<=w3.heap.size:=nZ u I.size)
     refine (mA e.key _).mono ?_;rintro x w4 ⟨rfl,ao⟩;have ak:=I.trans (ao.mono am);have cm:w.heap.size+1<=w4.heap.size:=nZ u ak.size;have ah:=Z.below ao;clear ao ai
     go_wp2_with (at_builtin;refine wpList_append_own _ rfl _ _ 35 rfl (w.heap.size+1) 63 i0 (.agg #[.string ByteArray.empty,.string ByteArray.empty]) 2 32 underlying35 hi a2 ay a3 rfl (by decide) _ _ _ rfl (World.ownsRow.alloc ah _) ⟨w4.heap.size,0,none⟩ 1 1 (aR [cW e.key]) rfl rfl (bT _ _ _) (bN _) (by show (4:Nat)<=maxLen;decide) (by show (4:Nat) * 32<=140737488355328;decide) (by simp;omega) ?_;intro v5 w5 aj aq _;have ap:aY w5 (w.heap.size+1) v5 [dM,gZ,cW e.sd,cW e.key]:=aY.snoc (l:=[dM,gZ,cW e.sd]) (k:=[cW e.key]) aj;have ae:Below (w.heap.size+1) w1 w5:=(ak.alloc (by omega) _).grown aq (by simp;omega) (fun q hq=>ah.lt q hq);have bx:=HB.o _ ae;have bg:w.heap.size+1<=w5.heap.size:=nZ u ae.size)
     refine (tB e pa cp aa ca ga cg _).mono ?_;rintro x wm ⟨rfl,ad⟩;rw [bf];have J:=ae.trans (ad.mono bg);have cd:w.heap.size+1<=wm.heap.size:=nZ u J.size;have G:=ap.below ad;clear ad
     go_wp2_with (at_builtin;refine wpList_append_own _ rfl _ _ 35 rfl (w.heap.size+1) 63 i0 (.agg #[.string ByteArray.empty,.string ByteArray.empty]) 2 32 underlying35 hi a2 ay a3 rfl (by decide) _ _ _ rfl (World.ownsRow.alloc G _) ⟨wm.heap.size,0,none⟩ 1 1 (aR [pK]) rfl rfl (bT _ _ _) (bN _) (by show (5:Nat)<=maxLen;decide) (by show (5:Nat) * 32<=140737488355328;decide) (by simp;omega) ?_;intro vj wj bk bv _;have bb:aY wj (w.heap.size+1) vj [dM,gZ,cW e.sd,cW e.key,pK]:=aY.snoc (l:=[dM,gZ,cW e.sd,cW e.key]) (k:=[pK]) bk;have au:Below (w.heap.size+1) w1 wj:=(J.alloc (by omega) _).grown bv (by simp;omega) (fun q hq=>G.lt q hq);have cj:=HB.o _ au;have ct:w.heap.size+1<=wj.heap.size:=nZ u au.size)
     refine (qD bb (by show (5:Nat)<=1000000;decide)).mono ?_;rintro x ws ⟨rfl,l5,ab,H,U,ba⟩;have a5:l5=xW e:=pY (by rw [HA.o];exact H) U;subst a5;have an:Below (w.heap.size+1) w1 ws:=au.grown ba (nZ u au.size) (fun q hq=>bb.lt q hq);have a6:w.heap.size+1<=ws.heap.size:=nZ u an.size;clear H U
     go_wp2_with fail
     refine (DC e Hc.o bw.o ab a6).mono ?_;rintro x wz ⟨vz,rfl,af,a8⟩;go_wp2
     go_ret;exact ⟨_,rfl,af.mono (by omega),a4.trans ((an.trans a8).mono (by omega))⟩
end Go.Proofs.YtpfeegcdlikegaaGreat
