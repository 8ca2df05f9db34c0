import Derived.Test.YtpfeegcdlikegaaGreatDecSZ
import Derived.Deep.AppendSrc
import Derived.Lib.Bytealg
import Derived.Laws.OwnMore
set_option maxHeartbeats 16000000
set_option maxRecDepth 100000
namespace Go.Proofs.YtpfeegcdlikegaaGreat
open Go.RowKit Go.Proofs.Tryz
variable {a:Option Addr}{cap:Nat}{l:List aE}
theorem yV (l:List aE)(u:Value)(h:u ∈ dP l):u.oneCell'=true:=by
 obtain ⟨x,_,G⟩:=List.mem_flatMap.1 h;exact gW x u G
theorem RJ (l:List aE)(w:World)(b off:Nat)
  (c1:∀ i,i<l.length->w.cell? ⟨b,off+i * 3,none⟩=some (.string (aI l i).ty)) (c2:∀ i,i<l.length->w.cell? ⟨b,off+i * 3+1,none⟩=some (.string (aI l i).key)) (c3:∀ i,i<l.length->w.cell? ⟨b,off+i * 3+2,none⟩=some (.string (aI l i).id))
  (j:Nat) (u:Value) (h:(dP l)[j]?=some u):w.cell? ((⟨b,off,none⟩:Addr).add j)=some u:=by
 have I:j<l.length * 3:=by
  rcases Nat.lt_or_ge j (l.length * 3) with H|H
  ·exact H
  rw [List.getElem?_eq_none (by rw [pF];exact H)] at h;cases h
 have G:(⟨b,off,none⟩:Addr).add j=⟨b,off+j,none⟩:=by unfold Addr.add;split <;> simp_all
 rw [G];have hi:j / 3<l.length:=by omega
 have hg:=lN l (j / 3) hi;rcases (by omega:j=j / 3 * 3\/j=j / 3 * 3+1\/j=j / 3 * 3+2) with e|e|e
 ·rw [e] at h ⊢
  rw [hg.1] at h;cases h
  exact c1 _ hi
 ·rw [e] at h ⊢
  rw [hg.2.1] at h;cases h
  rw [<- Nat.add_assoc];exact c2 _ hi
 rw [e] at h ⊢;rw [hg.2.2] at h;cases h
 rw [<- Nat.add_assoc];exact c3 _ hi
theorem vK (O:Addr)(cap:Nat)(l:List aE)(w:World)(hr:l.length<=1000000)(hc:∀ j u,(dP l)[j]?=some u->w.cell? (O.add j)=some u)(Z:l≠[]->O.block<w.heap.size) :
  Calls prog 36 #[.slice (some O) l.length cap] w fun e w'=>∃ v,e=.returned v/\aU w' w.heap.size v l/\Below w.heap.size w w':=by
 obtain ⟨i0,hi,ag,ae,ah⟩:=info_parts Tryz.infoEntry;have J:(w.alloc (.cells #[] 66)).ownsRow w.heap.size 66 3 (.slice (some ⟨w.heap.size,0,none⟩) 0 0) 0 []:=⟨rfl,Or.inr ⟨w.heap.size,0,#[],rfl,nL,by show (w.heap.push _)[w.heap.size]?=_;simp,nL,by decide,rfl,rfl⟩⟩
 have H:∀ j u,(dP l)[j]?=some u->(w.alloc (.cells #[] 66)).cell? (O.add j)=some u:=fun j u h=>by
  have ai:l≠[]:=by rintro rfl;simp [dP] at h
  rw [World.cell?_alloc_lt _ _ _ (by have:=Z ai;unfold Addr.add;split <;> simp_all)];exact hc j u h
 have ab:0+l.length<=maxLen:=by unfold maxLen;omega
 have af:(0+l.length) * 48<=140737488355328:=by omega
 have Y:w.heap.size<=(w.alloc (.cells #[] 66)).heap.size:=by simp
 clear hc Z hr
 go_enter func36,ntmps36
 go_wp2_with (at_builtin;refine wpList_append_own _ rfl _ _ 26 rfl w.heap.size 66 i0 (.agg #[.string ByteArray.empty,.string ByteArray.empty,.string ByteArray.empty]) 3 48 underlying26 hi ag ae ah rfl (by decide) _ _ _ rfl J O l.length cap (dP l) rfl (pF l) H (yV l) ab af Y ?_;intro v2 w2 I G _)
 have U:Below w.heap.size w w2:=bA.grown G Y (fun k hk=>by cases hk;exact nL)
 have N:aU w2 w.heap.size v2 l:=by
  have:=I;simp only [Nat.zero_add,List.nil_append] at this;exact this
 clear I G J H;go_wp2
 go_ret;exact ⟨_,rfl,N,U⟩
theorem NI (cap:Nat)(w:World) :
  Calls prog 36 #[.slice none 0 cap] w fun e w'=>∃ v,e=.returned v/\aU w' w.heap.size v []/\Below w.heap.size w w':=by
 obtain ⟨H,hi,N,J,I⟩:=info_parts Tryz.infoEntry;have u:=fun ty=>run_append_room_src (P:=prog) (w:=w.alloc (.cells #[] 66)) 26 26 ty 66 H underlying26 hi w.heap.size 0 0 0 (.slice none 0 cap) 0 [] (Src.ofNil _ underlying26 cap) nL (fun j G=>absurd G (Nat.not_lt_zero _)) (fun j G=>absurd G (Nat.not_lt_zero _))
 simp only [World.setCells,Nat.add_zero] at u
 go_enter func36,ntmps36
 go_wp2
 go_ret;exact ⟨_,rfl,⟨rfl,Or.inr ⟨w.heap.size,0,#[],rfl,nL,by show (w.heap.push _)[w.heap.size]?=_;simp,nL,by decide,rfl,rfl⟩⟩,bA⟩
theorem yC (w:World)(hr:l.length<=1000000)(h:dF w a cap l) :
  Calls prog 36 #[.slice a l.length cap] w fun e w'=>∃ v,e=.returned v/\aU w' w.heap.size v l/\Below w.heap.size w w':=by
 rcases h.cells with rfl|⟨b,off,rfl,hb,c1,c2,c3⟩
 ·cases a with
  | none=>exact NI cap w
  | some ad=>exact vK ad cap [] w hr (fun j u h=>by simp [dP] at h) (fun h=>absurd rfl h)
 exact vK _ cap l w hr (RJ l w b off c1 c2 c3) (fun _=>hb)
def lL (l u:List aE):Nat->List aE
 | 0=>l
 | k+1=>dG (lL l u k) (aI u k) false
theorem AI (l u:List aE):∀ k,(lL l u k).length<=l.length+k
 | 0=>nL
 | k+1=>by have:=AI l u k;have:=oO (lL l u k) (aI u k) false;unfold lL;omega
theorem xJ {l u:List aE}(h:bK l)(G:bK u):∀ k,k<=u.length->bK (lL l u k)
 | 0,_=>h
 | k+1,hk=>(xJ h G k (by omega)).set (G.at k (by omega))
theorem FD {ca:Option Addr}{cc:Nat}{G:List aE}(w:World)(hl:l.length<=100000)(an:G.length<=100000)(h:dF w a cap l)(hc:dF w ca cc G) :
  Calls prog 160 #[.slice a l.length cap,.slice ca G.length cc] w fun e w'=>∃ v,e=.returned v/\aU w' w.heap.size v (lL l G G.length)/\Below w.heap.size w w':=by
 have U:=h.ok;have J:=hc.ok
 go_enter func160,ntmps160
 go_wp2_with fail
 refine (yC _ (by omega) h).mono ?_;rintro e w1 ⟨v1,rfl,Y,Z⟩;have O:He (_):=U;have I:He (_):=J;clear U J
 go_wp2_with fail
 go_loopw [5,6] (fun v i wr=>∃ k:Nat,k<=G.length/\i=.int .i64 k/\aU wr w.heap.size v (lL l G k)/\Below w.heap.size w wr) (fun _ i _=>G.length - (intOf i).toNat)
 case atStart=>exact ⟨0,nz,rfl,Y,Z⟩
 case round =>
  clear Y Z;obtain ⟨k,hk,rfl,ho,u⟩:=hrel
  by_cases H:k<G.length
  ·obtain ⟨ga,gc,e1,af⟩:=ho.sl (xJ O.o I.o k hk).at
   subst e1;rcases hc.cells with rfl|⟨b,off,rfl,hb,c1,c2,c3⟩
   ·exact absurd H (Nat.not_lt_zero _)
   have a1:wr.cell? ⟨b,off+k * 3,none⟩=some (.string (aI G k).ty):=(u.cell (by exact hb)).trans (c1 k H);have a2:wr.cell? ⟨b,off+k * 3+1,none⟩=some (.string (aI G k).key):=(u.cell (by exact hb)).trans (c2 k H);have a3:wr.cell? ⟨b,off+k * 3+2,none⟩=some (.string (aI G k).id):=(u.cell (by exact hb)).trans (c3 k H);have ap:=AI l G k;have ad:He (dG (lL l G k) (aI G k) false=lL l G (k+1)):=rfl;clear c1 c2 c3
   go_wp2_with fail
   refine (nH (aI G k) false _ (by omega) af).mono ?_;rintro e w2 ⟨v2,rfl,N,ab⟩;rw [ad.o] at N;obtain ⟨ak,ao,e2,_⟩:=N.sl (xJ O.o I.o (k+1) H).at;subst e2;go_wp2
   go_roundw
   case rel=>exact ⟨k+1,by omega,by go_num,N.base_le u.size,u.trans (ab.mono u.size)⟩
   simp [intOf];omega
  have ae:G.length=k:=by omega
  subst ae;go_wp2
  go_ret;exact ⟨_,rfl,ho,u⟩
variable {i j:Nat}{x y:aE}
theorem lK {s t:ByteArray}(h:s.data.toList=t.data.toList):s=t:=by
 obtain ⟨s⟩:=s;obtain ⟨t⟩:=t
 exact congrArg _ (Array.toList_inj.1 h)
theorem iP:∀ x y:List UInt8,(x<y/\Lib.compareBytes x y=-1)\/(x=y/\Lib.compareBytes x y=0)\/(y<x/\Lib.compareBytes x y=1)
 | [],[]=>Or.inr (Or.inl ⟨rfl,rfl⟩)
 | [],b :: y=>Or.inl ⟨by simp,rfl⟩
 | a :: x,[]=>Or.inr (Or.inr ⟨by simp,rfl⟩)
 | a :: x,b :: y=>by
  unfold Lib.compareBytes
  by_cases u:a<b
  ·rw [if_pos u];exact Or.inl ⟨List.cons_lt_cons_iff.2 (Or.inl u),rfl⟩
  rw [if_neg u]
  by_cases G:b<a
  ·rw [if_pos G];exact Or.inr (Or.inr ⟨List.cons_lt_cons_iff.2 (Or.inl G),rfl⟩)
  rw [if_neg G];have e:a=b:=UInt8.le_antisymm (UInt8.not_lt.1 G) (UInt8.not_lt.1 u);subst e;rcases iP x y with ⟨h,e⟩|⟨rfl,e⟩|⟨h,e⟩
  ·exact Or.inl ⟨List.cons_lt_cons_iff.2 (Or.inr ⟨rfl,h⟩),e⟩
  ·exact Or.inr (Or.inl ⟨rfl,e⟩)
  exact Or.inr (Or.inr ⟨List.cons_lt_cons_iff.2 (Or.inr ⟨rfl,h⟩),e⟩)
def cB (a b:ByteArray):Int:=Lib.compareBytes a.data.toList b.data.toList
def dN (a b:aE):Int:=if cB a.ty b.ty=0 then cB a.key b.key else cB a.ty b.ty
def Lt (a b:aE):Prop:=a.ty.data.toList<b.ty.data.toList\/(a.ty=b.ty/\a.key.data.toList<b.key.data.toList)
theorem dX (a b:aE):cO a b=true↔Lt a b:=by
 unfold cO Lt;rw [ByteArray.toList_eq,ByteArray.toList_eq,ByteArray.toList_eq,ByteArray.toList_eq]
 by_cases h:a.ty.data.toList=b.ty.data.toList
 ·rw [if_pos (by simpa using h),bytesLess_eq,decide_eq_true_eq]
  constructor
  ·exact fun u=>Or.inr ⟨lK h,u⟩
  rintro (u|u)
  ·rw [h] at u;exact absurd u (List.lt_irrefl _)
  exact u.2
 rw [if_neg (by simpa using h),bytesLess_eq,decide_eq_true_eq];constructor
 ·exact Or.inl
 rintro (u|u)
 ·exact u
 exact absurd (by rw [u.1]) h
theorem cN (a b:aE):dB a b=true↔a.ty=b.ty/\a.key=b.key:=by
 unfold dB;rw [Bool.and_eq_true,ByteArray.toList_eq,ByteArray.toList_eq,ByteArray.toList_eq,ByteArray.toList_eq,beq_iff_eq,beq_iff_eq];exact ⟨fun h=>⟨lK h.1,lK h.2⟩,fun h=>⟨by rw [h.1],by rw [h.2]⟩⟩
theorem Lt.trans {a b c:aE}(u:Lt a b)(G:Lt b c):Lt a c:=by
 unfold Lt at *;rcases u with u|⟨H,u⟩ <;> rcases G with G|⟨I,G⟩
 ·exact Or.inl (List.lt_trans u G)
 ·rw [<- I];exact Or.inl u
 ·rw [H];exact Or.inl G
 exact Or.inr ⟨H.trans I,List.lt_trans u G⟩
theorem Lt.irrefl (a:aE):¬ Lt a a:=by
 rintro (h|h)
 ·exact List.lt_irrefl _ h
 exact List.lt_irrefl _ h.2
theorem YJ (a b:aE):(Lt a b/\dN a b=-1)\/((a.ty=b.ty/\a.key=b.key)/\dN a b=0)\/(Lt b a/\dN a b=1):=by
 unfold dN Lt;rcases iP a.ty.data.toList b.ty.data.toList with ⟨h,e⟩|⟨h,e⟩|⟨h,e⟩
 ·exact Or.inl ⟨Or.inl h,by unfold cB;rw [e];rfl⟩
 ·rcases iP a.key.data.toList b.key.data.toList with ⟨u,G⟩|⟨u,G⟩|⟨u,G⟩
  ·exact Or.inl ⟨Or.inr ⟨lK h,u⟩,by unfold cB;rw [e,G];rfl⟩
  ·exact Or.inr (Or.inl ⟨⟨lK h,lK u⟩,by unfold cB;rw [e,G];rfl⟩)
  exact Or.inr (Or.inr ⟨Or.inr ⟨(lK h).symm,u⟩,by unfold cB;rw [e,G];rfl⟩)
 exact Or.inr (Or.inr ⟨Or.inl h,by unfold cB;rw [e];rfl⟩)
theorem Lt.ne {a b:aE}(h:Lt a b):¬ (a.ty=b.ty/\a.key=b.key):=by
 rintro ⟨u,G⟩;unfold Lt at h;rw [u,G] at h;rcases h with h|h
 ·exact List.lt_irrefl _ h
 exact List.lt_irrefl _ h.2
theorem Lt.asymm {a b:aE}(h:Lt a b):¬ Lt b a:=fun u=>Lt.irrefl a (h.trans u)
theorem tK (a b:aE):dN a b<0↔Lt a b:=by
 rcases YJ a b with ⟨h,e⟩|⟨h,e⟩|⟨h,e⟩
 ·rw [e];exact ⟨fun _=>h,fun _=>by decide⟩
 ·rw [e];exact ⟨fun u=>absurd u (by decide),fun u=>absurd h u.ne⟩
 rw [e];exact ⟨fun u=>absurd u (by decide),fun u=>absurd h u.asymm⟩
theorem vS (a b:aE):dN a b=0↔(a.ty=b.ty/\a.key=b.key):=by
 rcases YJ a b with ⟨h,e⟩|⟨h,e⟩|⟨h,e⟩
 ·rw [e];exact ⟨fun u=>absurd u (by decide),fun u=>absurd u h.ne⟩
 ·rw [e];exact ⟨fun _=>h,fun _=>rfl⟩
 rw [e];exact ⟨fun u=>absurd u (by decide),fun u=>absurd ⟨u.1.symm,u.2.symm⟩ h.ne⟩
theorem zU (a b:aE):cO a b=decide (dN a b<0):=by
 rw [Bool.eq_iff_iff,dX,decide_eq_true_eq,tK]
def fK (l:List aE):Prop:=l.Pairwise Lt
theorem pP (l:List aE):∀ n,jC l n=true↔∀ i,i+1<n->cO (aI l i) (aI l (i+1))=true
 | 0=>⟨fun _ i hi=>absurd hi (by omega),fun _=>rfl⟩
 | n+1=>by
  unfold jC;rw [Bool.and_eq_true,pP l n];constructor
  ·rintro ⟨G,u⟩ i hi
   by_cases e:i+1=n
   ·subst e
    rw [Bool.or_eq_true] at u;rcases u with u|u
    ·simp at u
    exact u
   exact G i (by omega)
  refine fun h=>⟨fun i hi=>h i (by omega),?_⟩
  cases n with
  | zero=>rfl
  | succ m=>rw [Bool.or_eq_true];exact Or.inr (h m (by omega))
theorem xV (h:fK l)(u:i<j)(G:j<l.length):Lt (aI l i) (aI l j):=by
 rw [bP l i (by omega),bP l j G];exact List.pairwise_iff_getElem.1 h i j (by omega) G u
theorem XH (h:oZ l=true):fK l:=by
 have I:=(pP l l.length).1 h
 have J:∀ j,j<l.length->∀ i,i<j->Lt (aI l i) (aI l j):=by
  intro j
  induction j with
  | zero=>exact fun _ i hi=>absurd hi (Nat.not_lt_zero _)
  | succ j ih =>
   intro u i hi;have H:=(dX _ _).1 (I j u)
   by_cases e:i=j
   ·subst e;exact H
   exact (ih (by omega) i (by omega)).trans H
 refine List.pairwise_iff_getElem.2 fun i j hi u G=>?_
 have:=J j u i G
 rwa [bP l i hi,bP l j u] at this
theorem YE (h:fK l):oZ l=true :=
 (pP l l.length).2 fun i hi=>(dX _ _).2 (xV h (Nat.lt_succ_self i) hi)
def bZ (l:List aE)(s:aE):Option aE:=l.find? fun x=>dB x s
theorem fA {s e:aE}(h:bZ l s=some e):e ∈ l/\e.ty=s.ty/\e.key=s.key:=by
 unfold bZ at h;have u:dB e s=true:=List.find?_some (p:=fun x=>dB x s) h;exact ⟨List.mem_of_find?_eq_some h,(cN _ _).1 u⟩
theorem iX {s:aE}:bZ l s=none↔∀ x ∈ l,¬ (x.ty=s.ty/\x.key=s.key):=by
 unfold bZ;rw [List.find?_eq_none];exact ⟨fun h x u e=>h x u ((cN _ _).2 e),fun h x u e=>h x u ((cN _ _).1 e)⟩
theorem yY (h:fK l)(H:x ∈ l)(I:y ∈ l)(e:x.ty=y.ty/\x.key=y.key):x=y:=by
 obtain ⟨i,hi,rfl⟩:=List.mem_iff_getElem.1 H;obtain ⟨j,G,rfl⟩:=List.mem_iff_getElem.1 I;rcases Nat.lt_trichotomy i j with u|u|u
 ·exact absurd e (List.pairwise_iff_getElem.1 h i j hi G u).ne
 ·subst u;rfl
 exact absurd ⟨e.1.symm,e.2.symm⟩ (List.pairwise_iff_getElem.1 h j i G hi u).ne
theorem qK (h:fK l){s:aE}(u:x ∈ l)(e:x.ty=s.ty/\x.key=s.key):bZ l s=some x:=by
 cases hl:bZ l s with
 | none=>exact absurd e (iX.1 hl x u)
 | some y =>
  obtain ⟨H,I,G⟩:=fA hl;rw [yY h H u ⟨I.trans e.1.symm,G.trans e.2.symm⟩]
theorem FS:∀ {l G:List aE},fK l->fK G->(∀ x,x ∈ l↔x ∈ G)->l=G
 | [],[],_,_,_=>rfl
 | [],b :: G,_,_,h=>absurd ((h b).2 (by simp)) (by simp)
 | a :: l,[],_,_,h=>absurd ((h a).1 (by simp)) (by simp)
 | a :: l,b :: G,h1,h2,h=>by
  obtain ⟨I,q1⟩:=List.pairwise_cons.1 h1;obtain ⟨J,N⟩:=List.pairwise_cons.1 h2
  have e:a=b:=by
   rcases List.mem_cons.1 ((h a).1 (by simp)) with e|ha
   ·exact e
   rcases List.mem_cons.1 ((h b).2 (by simp)) with e|hb
   ·exact e.symm
   exact absurd (I b hb) (J a ha).asymm
  subst e
  congr 1
  refine FS q1 N fun x=>⟨fun H=>?_,fun H=>?_⟩
  ·rcases List.mem_cons.1 ((h x).1 (List.mem_cons_of_mem _ H)) with e|u
   ·subst e;exact absurd (I x H) (Lt.irrefl x)
   exact u
  rcases List.mem_cons.1 ((h x).2 (List.mem_cons_of_mem _ H)) with e|u
  ·subst e;exact absurd (J x H) (Lt.irrefl x)
  exact u
theorem XR (h:fK l){s:aE}(hi:i<l.length)(e:dN (aI l i) s=0):bZ l s=some (aI l i):=qK h (fW l i hi) ((vS _ _).1 e)
theorem FW (h:fK l){s:aE}(N:∀ t,t<i->dN (aI l t) s<0)(O:∀ t,i<=t->t<l.length->0<=dN (aI l t) s)(I:i<l.length->dN (aI l i) s≠0):bZ l s=none:=by
 refine iX.2 fun x J e=>?_
 obtain ⟨j,G,rfl⟩:=List.mem_iff_getElem.1 J;rw [<- bP l j G] at e;have e0:=(vS _ _).2 e;rcases Nat.lt_trichotomy j i with u|u|u
 ·have:=N j u;omega
 ·subst u;exact I G e0
 have U:=xV h u G;have hi:i<l.length:=by omega
 have Y:=O i nL hi;have h5:=I hi;rcases YJ (aI l i) s with ⟨_,e⟩|⟨_,e⟩|⟨H,_⟩
 ·omega
 ·exact h5 e
 exact (H.trans U).ne ⟨e.1.symm,e.2.symm⟩
theorem GT (h:fK l){s:aE}(H:i<=j)(I:j<l.length)(e:dN (aI l j) s<0):dN (aI l i) s<0:=by
 rcases Nat.lt_or_ge i j with u|G
 ·exact (tK _ _).2 ((xV h u I).trans ((tK _ _).1 e))
 rw [show i=j by omega];exact e
theorem SQ {a b:aE}:cO a b=false↔¬ Lt a b:=by
 rw [<- dX];cases cO a b <;> simp
theorem oR {e:aE}:∀ {l:List aE},fK l->l.takeWhile (fun x=>cO x e)=l.filter fun x=>cO x e
 | [],_=>rfl
 | a :: l,h=>by
  obtain ⟨G,I⟩:=List.pairwise_cons.1 h;cases hb:cO a e
  ·rw [List.takeWhile_cons_of_neg (by simp [hb]),List.filter_cons_of_neg (by simp [hb])]
   symm
   rw [List.filter_eq_nil_iff];intro x H u;exact SQ.1 hb ((G x H).trans ((dX _ _).1 u))
  rw [List.takeWhile_cons_of_pos (by exact hb),List.filter_cons_of_pos (by exact hb),oR I]
def uC (e:aE)(keep:Bool):Bool:=keep || !e.id.toList.isEmpty
theorem FZ (h:fK l)(e:aE)(keep:Bool):dG l e keep=(l.filter fun x=>cO x e) ++ ((if uC e keep then [e] else []) ++ l.filter fun x=>cO e x):=by
 unfold dG uC;rw [oR h]
theorem RF (h:fK l)(e:aE)(m:List aE)(I:m=[]\/∃ y,m=[y]/\y.ty=e.ty/\y.key=e.key):fK ((l.filter fun x=>cO x e) ++ (m ++ l.filter fun x=>cO e x)):=by
 have G:∀ y:aE,y.ty=e.ty/\y.key=e.key->∀ x,(Lt x e->Lt x y)/\(Lt e x->Lt y x):=fun y u x=>by unfold Lt;rw [u.1,u.2];exact ⟨id,id⟩
 refine List.pairwise_append.2 ⟨List.Pairwise.filter _ h,List.pairwise_append.2 ⟨?_,List.Pairwise.filter _ h,?_⟩,?_⟩
 ·rcases I with rfl|⟨y,rfl,_⟩
  ·exact List.Pairwise.nil
  exact List.pairwise_singleton _ _
 ·intro a ha b hb
  rcases I with rfl|⟨y,rfl,u⟩
  ·cases ha
  rw [List.mem_singleton] at ha;subst ha;exact (G _ u b).2 ((dX _ _).1 (List.mem_filter.1 hb).2)
 intro a ha b hb;have H:=(dX _ _).1 (List.mem_filter.1 ha).2;rcases List.mem_append.1 hb with hb|hb
 ·rcases I with rfl|⟨y,rfl,u⟩
  ·cases hb
  rw [List.mem_singleton] at hb;subst hb;exact (G _ u a).1 H
 exact H.trans ((dX _ _).1 (List.mem_filter.1 hb).2)
theorem oD (h:fK l)(e:aE)(keep:Bool):fK (dG l e keep):=by
 rw [FZ h];refine RF h e _ ?_;split
 ·exact Or.inr ⟨e,rfl,rfl,rfl⟩
 exact Or.inl rfl
theorem kL (h:fK l)(e:aE)(keep:Bool)(x:aE):x ∈ dG l e keep↔(x ∈ l/\¬ (x.ty=e.ty/\x.key=e.key))\/(x=e/\uC e keep=true):=by
 rw [FZ h,List.mem_append,List.mem_append,List.mem_filter,List.mem_filter,dX,dX];constructor
 ·rintro (⟨u,H⟩|u|⟨u,H⟩)
  ·exact Or.inl ⟨u,H.ne⟩
  ·split at u
   ·rename_i I;exact Or.inr ⟨by simpa using u,I⟩
   cases u
  exact Or.inl ⟨u,fun J=>H.ne ⟨J.1.symm,J.2.symm⟩⟩
 rintro (⟨u,H⟩|⟨rfl,I⟩)
 ·rcases YJ x e with ⟨G,_⟩|⟨G,_⟩|⟨G,_⟩
  ·exact Or.inl ⟨u,G⟩
  ·exact absurd G H
  exact Or.inr (Or.inr ⟨u,G⟩)
 exact Or.inr (Or.inl (by rw [if_pos I];simp))
theorem JW (h:fK l)(e:aE)(keep:Bool)(s:aE) :
  bZ (dG l e keep) s=if e.ty=s.ty/\e.key=s.key then (if uC e keep=true then some e else none) else bZ l s:=by
 have O:=oD h e keep
 by_cases G:e.ty=s.ty/\e.key=s.key
 ·rw [if_pos G]
  by_cases I:uC e keep=true
  ·rw [if_pos I]
   exact qK O ((kL h e keep e).2 (Or.inr ⟨rfl,I⟩)) G
  rw [if_neg I];refine iX.2 fun x J u=>?_
  rcases (kL h e keep x).1 J with ⟨_,H⟩|⟨_,H⟩
  ·exact H ⟨u.1.trans G.1.symm,u.2.trans G.2.symm⟩
  exact I H
 rw [if_neg G]
 cases hl:bZ l s with
 | none =>
  refine iX.2 fun x J u=>?_
  rcases (kL h e keep x).1 J with ⟨N,_⟩|⟨rfl,_⟩
  ·exact iX.1 hl x N u
  exact G u
 | some y =>
  obtain ⟨N,H⟩:=fA hl;exact qK O ((kL h e keep y).2 (Or.inl ⟨N,fun U=>G ⟨U.1.symm.trans H.1,U.2.symm.trans H.2⟩⟩)) H
theorem FV (e:aE):uC e false=!e.id.toList.isEmpty:=by simp [uC]
def Ids (l:List aE):Prop:=∀ x ∈ l,x.id.toList.isEmpty=false
theorem zS:(⟨#[]⟩:ByteArray).toList.isEmpty=true:=by rw [ByteArray.toList_eq];rfl
def BY (l:List aE)(s:aE):aE:=(bZ l s).getD aE.none
def VT (l:List aE)(s:aE):Bool:=(bZ l s).isSome
theorem oV (p:aE->Bool):∀ l:List aE,(l.find? p=none/\l.findIdx p=l.length)\/(∃ e,l.find? p=some e/\l.findIdx p<l.length/\aI l (l.findIdx p)=e)
 | []=>Or.inl ⟨rfl,rfl⟩
 | a :: l=>by
  rw [List.find?_cons,List.findIdx_cons];cases h:p a
  ·rcases oV p l with ⟨u,G⟩|⟨e,u,G,H⟩
   ·exact Or.inl ⟨u,by simp [G]⟩
   exact Or.inr ⟨e,u,Nat.succ_lt_succ G,by simpa [aI] using H⟩
  exact Or.inr ⟨a,rfl,by simp,by simp [aI]⟩
theorem KS (l:List aE)(s:aE):(bZ l s=none/\jI l s=-1)\/(∃ e,bZ l s=some e/\0<=jI l s/\aI l (jI l s).toNat=e):=by
 unfold jI bZ;rcases oV (fun x=>dB x s) l with ⟨u,G⟩|⟨e,u,G,H⟩
 ·exact Or.inl ⟨u,by rw [if_neg (by omega)]⟩
 exact Or.inr ⟨e,u,by rw [if_pos G];omega,by rw [if_pos G,Int.toNat_natCast];exact H⟩
theorem vU {l:List aE}:∀ {n},dS l n=true->∀ i,i<n->(aI l i).id.toList.isEmpty=false
 | 0,_,i,hi=>absurd hi (Nat.not_lt_zero _)
 | n+1,h,i,hi=>by
  unfold dS at h;rw [Bool.and_eq_true] at h
  by_cases e:i=n
  ·subst e;simpa using h.2
  exact vU h.1 i (by omega)
theorem gS (h:qV l=true):l.length<=300/\fK l/\∀ x ∈ l,x.id.toList.isEmpty=false:=by
 unfold qV at h;rw [Bool.and_eq_true,Bool.and_eq_true] at h;refine ⟨of_decide_eq_true h.2.1,XH h.2.2,fun x u=>?_⟩;obtain ⟨i,hi,rfl⟩:=List.mem_iff_getElem.1 u;rw [<- bP l i hi];exact vU h.1 i hi
def aQ (l:List aE)(kind key:ByteArray):ByteArray:=if 0<=jI l ⟨kind,key,⟨#[]⟩⟩ then (aI l (jI l ⟨kind,key,⟨#[]⟩⟩).toNat).id else ⟨#[]⟩
theorem TM (l:List aE)(e:aE):-1<=jI l e/\jI l e<l.length:=by
 unfold jI;split <;> omega
theorem iL (kind key:ByteArray)(w:World)(h:dF w a cap l) :
  Calls prog 25 #[.slice a l.length cap,.string kind,.string key] w fun e w'=>e=.returned (.string (aQ l kind key))/\Below w.heap.size w w':=by
 have I:=TM l ⟨kind,key,⟨#[]⟩⟩
 by_cases hp:0<=jI l ⟨kind,key,⟨#[]⟩⟩
 ·obtain ⟨p,u⟩:∃ p:Nat,jI l ⟨kind,key,⟨#[]⟩⟩=(p:Int):=⟨(jI l ⟨kind,key,⟨#[]⟩⟩).toNat,by omega⟩
  have U:He (aQ l kind key=(aI l p).id):=by unfold He aQ;rw [if_pos hp,u];rfl
  have H:He (∀ W,dF W a cap l->Calls prog 67 #[.slice a l.length cap,eS ⟨kind,key,⟨#[]⟩⟩] W fun e w'=>e=.returned (.int .i64 (p:Int))/\Below W.heap.size W w'):=fun W N=>by
   have:=VH ⟨kind,key,⟨#[]⟩⟩ W N;rw [u] at this;exact this
  have J:p<l.length:=by omega
  clear hp u I;have hs:=h;rcases h.cells with rfl|⟨b,off,rfl,hb,h1,h2,Y⟩
  ·exact absurd J (Nat.not_lt_zero _)
  have O:=nZ h.le h.max;unfold maxLen at O;have c3:=Y p J;clear h1 h2 Y
  go_enter func25,ntmps25
  go_wp2_with fail
  refine (H.o _ hs).mono ?_;rintro e w1 ⟨rfl,G⟩;have Z:=(G.cell (by exact hb)).trans c3;go_wp2
  go_ret;exact ⟨by rw [U.o];rfl,G⟩
 have U:He (aQ l kind key=⟨#[]⟩):=by unfold He aQ;rw [if_neg hp]
 have u:jI l ⟨kind,key,⟨#[]⟩⟩=-1:=by omega
 have H:He (∀ W,dF W a cap l->Calls prog 67 #[.slice a l.length cap,eS ⟨kind,key,⟨#[]⟩⟩] W fun e w'=>e=.returned (.int .i64 (-1))/\Below W.heap.size W w'):=fun W N=>by
  have:=VH ⟨kind,key,⟨#[]⟩⟩ W N;rw [u] at this;exact this
 clear hp u I
 go_enter func25,ntmps25
 go_wp2_with fail
 refine (H.o _ h).mono ?_;rintro e w1 ⟨rfl,G⟩;go_wp2
 go_ret;exact ⟨by rw [U.o];rfl,G⟩
variable {g k n base base':Nat}{w w':World}{v:Value}
def aG (l:List ByteArray)(i:Nat):ByteArray:=l.getD i ByteArray.empty
theorem iR {l:List ByteArray}(h:i<l.length):l[i]?=some (aG l i):=by
 simp [aG,List.getD,List.getElem?_eq_getElem h]
theorem bO {l:List ByteArray}(h:i<l.length):aG l i ∈ l:=List.mem_of_getElem? (iR h)
theorem dO {l:List ByteArray}{s:ByteArray}(h:s ∈ l):∃ i,i<l.length/\aG l i=s:=by
 obtain ⟨i,hi,e⟩:=List.mem_iff_getElem.1 h;exact ⟨i,hi,by simp [aG,List.getD,List.getElem?_eq_getElem hi,e]⟩
def aH (w:World)(base:Nat)(v:Value)(l:List ByteArray):Prop:=w.ownsRow base 9 1 v l.length (l.map Value.string)
theorem aH.below {l:List ByteArray}(h:aH w base v l)(hb:Below w.heap.size w w'):aH w' base v l:=eK h hb
theorem aH.snoc {l:List ByteArray}{x:ByteArray}(h:w.ownsRow base 9 1 v (l.length+1) (l.map Value.string ++ [.string x])):aH w base v (l ++ [x]):=by
 unfold aH;simpa using h
theorem aH.nil (w:World)(base:Nat):aH w base (.slice none 0 0) []:=⟨rfl,Or.inl ⟨rfl,rfl⟩⟩
theorem aH.new (w:World)(base:Nat)(hb:base<=w.heap.size):aH (w.alloc (.cells #[] 9)) base (.slice (some ⟨w.heap.size,0,none⟩) 0 0) [] :=
 ⟨rfl,Or.inr ⟨w.heap.size,0,#[],rfl,hb,by show (w.heap.push _)[w.heap.size]?=_;simp,nL,by decide,rfl,rfl⟩⟩
theorem aH.mono {l:List ByteArray}(h:aH w base v l)(hb:base'<=base):aH w base' v l:=by
 obtain ⟨G,H⟩:=h;exact ⟨G,H.imp id fun ⟨g,cap,u,e,hg,r⟩=>⟨g,cap,u,e,nZ hb hg,r⟩⟩
theorem aH.kept {l:List ByteArray}(h:aH w base v l)(hb:∀ g,base<=g->g<w.heap.size->w'.heap[g]?=w.heap[g]?):aH w' base v l:=by
 obtain ⟨J,H⟩:=h;refine ⟨J,?_⟩;rcases H with H|⟨g,cap,u,N,hg,hh,r⟩
 ·exact Or.inl H
 have I:g<w.heap.size:=by
  rcases Nat.lt_or_ge g w.heap.size with G|G
  ·exact G
  rw [Array.getElem?_eq_none G] at hh;cases hh
 exact Or.inr ⟨g,cap,u,N,hg,by rw [hb g hg I];exact hh,r⟩
theorem aH.shape {l:List ByteArray}(h:aH w base v l) :
  (v=.slice none 0 0/\l=[])\/∃ g cap,v=.slice (some ⟨g,0,none⟩) l.length cap/\base<=g/\g<w.heap.size/\l.length<=cap/\cap<=maxLen:=by
 obtain ⟨Z,N⟩:=h;rcases N with ⟨rfl,J⟩|⟨g,cap,H,rfl,hg,hh,O,U,I,Y⟩
 ·exact Or.inl ⟨rfl,List.eq_nil_of_length_eq_zero J⟩
 have G:g<w.heap.size:=by
  rcases Nat.lt_or_ge g w.heap.size with u|u
  ·exact u
  rw [Array.getElem?_eq_none u] at hh;cases hh
 exact Or.inr ⟨g,cap,rfl,hg,G,O,U⟩
theorem aH.cell {l:List ByteArray}(h:aH w base (.slice (some ⟨g,0,none⟩) n cap) l)(u:n=l.length)(hi:i<l.length):w.cell? ⟨g,i,none⟩=some (.string (aG l i)):=by
 subst u;rw [World.ownsRow.cellAt h i (by omega),List.getElem?_map,iR hi];rfl
theorem aH.frozen {l:List ByteArray}(h:aH w base (.slice (some ⟨g,0,none⟩) n cap) l)(u:n=l.length)(i:Nat):w.frozen? ⟨g,i,none⟩=false:=by
 subst u;exact World.ownsRow.frozenAt h i
theorem aH.put {l:List ByteArray}(h:aH w base (.slice (some ⟨g,0,none⟩) n cap) l)(u:n=l.length)(i:Nat)(x:ByteArray) :
  aH (w.setCell ⟨g,i,none⟩ (.string x)) base (.slice (some ⟨g,0,none⟩) n cap) (l.set i x):=by
 subst u
 have:=(World.ownsRow.stored h i (.string x)).1;unfold aH;rw [List.length_set,List.map_set];exact this
theorem aH.sl {l:List ByteArray}(h:aH w base v l)(G:∀ s ∈ l,s.size<=maxLen) :
  ∃ a cap,v=.slice a l.length cap/\dE w a l.length cap (aG l)/\Wr0 w base a l.length:=by
 rcases h.shape with ⟨rfl,rfl⟩|⟨g,cap,rfl,hg,u,I,H⟩
 ·exact ⟨none,0,rfl,⟨nL,by decide,fun i hi=>absurd hi (Nat.not_lt_zero _),Or.inl rfl⟩,Or.inl rfl⟩
 refine ⟨_,cap,rfl,⟨I,H,fun i hi=>G _ (bO hi),Or.inr ⟨g,0,rfl,u,fun i hi=>by rw [Nat.zero_add];exact h.cell rfl hi⟩⟩,Or.inr ⟨g,0,rfl,hg,u,fun i hi=>?_⟩⟩;rw [Nat.zero_add];exact ⟨⟨_,h.cell rfl hi⟩,h.frozen rfl i⟩
def pH (l:List ByteArray):Prop:=l.Pairwise fun a b=>a.data.toList<b.data.toList
theorem wT {s t:ByteArray}(h:s.data.toList=t.data.toList):s=t:=by
 obtain ⟨s⟩:=s;obtain ⟨t⟩:=t
 exact congrArg _ (Array.toList_inj.1 h)
theorem pH.nodup {l:List ByteArray}(h:pH l):l.Nodup:=h.imp fun {a b} u e=>by subst e;exact absurd u (List.lt_irrefl _)
theorem nN {l1 H:List ByteArray}(I:pH l1)(J:pH H)(h:∀ s,s ∈ l1↔s ∈ H):l1=H:=by
 refine List.Perm.eq_of_pairwise (le:=fun a b:ByteArray=>a.data.toList<b.data.toList) (fun a b _ _ G u=>?_) I J ((List.perm_ext_iff_of_nodup I.nodup J.nodup).2 h);exact absurd (List.lt_trans G u) (List.lt_irrefl _)
def bQ (l:List ByteArray)(k:Nat)(x:ByteArray):List ByteArray:=l.take k ++ x :: l.drop k
theorem qG {l:List ByteArray}{x:ByteArray}(h:k<=l.length):(bQ l k x).length=l.length+1:=by simp [bQ];omega
theorem uS (l:List ByteArray)(x:ByteArray):bQ l l.length x=l ++ [x]:=by simp [bQ]
theorem vW {l:List ByteArray}{x:ByteArray}(h:k<=l.length):aG (bQ l k x) k=x:=by
 simp [aG,bQ,List.getD,h]
theorem oX {l:List ByteArray}{x:ByteArray}(h:k<l.length):aG (bQ l (k+1) x) k=aG l k:=by
 have:min (k+1) l.length=k+1:=by omega
 simp [aG,bQ,List.getD,List.getElem?_append,this,List.getElem?_eq_getElem h]
theorem tD {l:List ByteArray}{x:ByteArray}(h:k<l.length):((bQ l (k+1) x).set (k+1) (aG l k)).set k x=bQ l k x:=by
 apply List.ext_getElem?;intro i;have G:(bQ l (k+1) x).length=l.length+1:=qG (by omega);have m1:min (k+1) l.length=k+1:=by omega
 have m2:min k l.length=k:=by omega
 by_cases H:i=k
 ·subst H
  rw [List.getElem?_set_self (by rw [List.length_set,G];omega)];simp [bQ,m2]
 rw [List.getElem?_set_ne (by omega)]
 by_cases I:i=k+1
 ·subst I
  rw [List.getElem?_set_self (by rw [G];omega)];simp [bQ,List.getElem?_append,m2,aG,List.getD,List.getElem?_eq_getElem h]
 rw [List.getElem?_set_ne (by omega)];unfold bQ;rw [List.getElem?_append,List.getElem?_append,List.length_take,List.length_take,m1,m2]
 by_cases u:i<k
 ·rw [if_pos (by omega),if_pos u,List.getElem?_take,List.getElem?_take,if_pos (by omega),if_pos u]
 rw [if_neg (by omega),if_neg u];obtain ⟨q,rfl⟩:∃ q,i=k+2+q:=⟨i - (k+2),by omega⟩;rw [show k+2+q - (k+1)=q+1 by omega,show k+2+q - k=(q+1)+1 by omega,List.getElem?_cons_succ,List.getElem?_cons_succ,List.getElem?_drop,List.getElem?_drop]
 congr 1
 omega
theorem iQ {l:List ByteArray}{x s:ByteArray}:s ∈ bQ l k x↔s=x\/s ∈ l:=by
 unfold bQ;rw [List.mem_append,List.mem_cons];constructor
 ·rintro (h|h|h)
  ·exact Or.inr (List.mem_of_mem_take h)
  ·exact Or.inl h
  exact Or.inr (List.mem_of_mem_drop h)
 rintro (h|h)
 ·exact Or.inr (Or.inl h)
 rw [<- List.take_append_drop k l,List.mem_append] at h;exact h.imp id Or.inr
theorem KJ {l:List ByteArray}{x:ByteArray}(h:pH l)(G:∀ i,i<k->i<l.length->(aG l i).data.toList<x.data.toList)(u:∀ i,k<=i->i<l.length->x.data.toList<(aG l i).data.toList):pH (bQ l k x):=by
 have H:(l.take k ++ l.drop k).Pairwise fun a b:ByteArray=>a.data.toList<b.data.toList:=by rw [List.take_append_drop];exact h
 obtain ⟨J,N,I⟩:=List.pairwise_append.1 H;unfold pH bQ;refine List.pairwise_append.2 ⟨J,List.pairwise_cons.2 ⟨fun b hb=>?_,N⟩,fun a ha b hb=>?_⟩
 ·obtain ⟨i,hi,rfl⟩:=dO hb
  rw [List.length_drop] at hi
  have:aG (l.drop k) i=aG l (k+i):=by simp [aG,List.getD]
  rw [this];exact u _ (by omega) (by omega)
 rcases List.mem_cons.1 hb with rfl|hb
 ·obtain ⟨i,hi,rfl⟩:=dO ha
  rw [List.length_take] at hi
  have:aG (l.take k) i=aG l i:=by simp [aG,List.getD,show i<k by omega]
  rw [this];exact G _ (by omega) (by omega)
 exact I a ha b hb
theorem TA {l:List ByteArray}(h:pH l)(u:i<j)(G:j<l.length):(aG l i).data.toList<(aG l j).data.toList:=by
 have:=List.pairwise_iff_getElem.1 h i j (by omega) G u;simpa [aG,List.getD,List.getElem?_eq_getElem G,List.getElem?_eq_getElem (show i<l.length by omega)] using this
theorem jK (l:List ByteArray)(s:ByteArray):∀ n,n<=l.length->(bD (aG l) n s=true↔s ∈ l.take n)
 | 0,_=>by simp [bD]
 | n+1,h=>by
  have e:l.take (n+1)=l.take n ++ [aG l n]:=by rw [List.take_add_one,iR (by omega)];rfl
  rw [bD,e,List.mem_append,Bool.or_eq_true,jK l s n (by omega),List.mem_singleton];refine or_congr Iff.rfl ⟨fun h=>?_,fun h=>by rw [h];simp⟩;rw [beq_iff_eq,ByteArray.toList_eq,ByteArray.toList_eq] at h;exact (wT h).symm
end Go.Proofs.YtpfeegcdlikegaaGreat
