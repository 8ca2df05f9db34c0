import Derived.Test.YtpfeegcdlikegaaGreatAlPZ
import Derived.Lib.SliceRun
import Derived.Maps.AppendAt
set_option maxHeartbeats 16000000
set_option maxRecDepth 100000
namespace Go.Proofs.YtpfeegcdlikegaaGreat
open Go.RowKit
variable {E:Nat->Ev}{m n p:Nat}{x:aE}{l:List aE}{S:Nat->ByteArray}{D:Nat->Nat}
structure bB (E:Nat->Ev)(n:Nat)(l:List aE):Prop where
 srt:fK l
 fit:∀ x ∈ l,gB E n x=true
theorem dA (h:gB E n x=true):∃ p,p<n/\aL E n x.id=(p:Int)/\(E p).st=true/\(E p).ty=x.ty/\(E p).key=x.key/\(E p).id=x.id:=by
 unfold gB at h;simp only [Bool.and_eq_true,decide_eq_true_eq] at h;obtain ⟨J,G,H,u⟩:=h;obtain ⟨p,hp,e,I⟩:=iY J;rw [e,Int.toNat_natCast] at G H u;exact ⟨p,hp,e,G,bC H,bC u,I⟩
theorem mG (hr:aF E n=true)(hp:p<n)(u:(E p).st=true):gB E n ⟨(E p).ty,(E p).key,(E p).id⟩=true:=by
 unfold gB;simp only [aP hr hp,Int.toNat_natCast,u,beq_self_eq_true,Bool.and_true];exact decide_eq_true (by omega)
theorem bB.nil (E:Nat->Ev)(n:Nat):bB E n []:=⟨List.Pairwise.nil,fun x h=>by cases h⟩
theorem bB.len (hr:aF E n=true)(h:bB E n l):l.length<=n:=by
 have hn:(l.map aE.id).Nodup:=by
  refine List.pairwise_map.2 ((List.pairwise_iff_getElem.2 fun i j hi G H=>?_));intro e;obtain ⟨p,_,U,_,t1,Z,_⟩:=dA (h.fit _ (List.getElem_mem hi));obtain ⟨q,_,eq,_,t2,Y,_⟩:=dA (h.fit _ (List.getElem_mem G));rw [e,eq] at U;have I:p=q:=by omega
  subst I;have J:l[i]=l[j]:=yY h.srt (List.getElem_mem hi) (List.getElem_mem G) ⟨t1.symm.trans t2,Z.symm.trans Y⟩;have u:=xV h.srt H G;rw [bP l i hi,bP l j G,J] at u;exact Lt.irrefl _ u
 have:=gO hr hn (fun s O=>by
  obtain ⟨x,J,rfl⟩:=List.mem_map.1 O;obtain ⟨p,hp,_,_,_,_,N⟩:=dA (h.fit x J);exact ⟨p,hp,N⟩)
 rwa [List.length_map] at this
theorem bB.ids (hr:aF E n=true)(h:bB E n l):Ids l:=fun x u=>by
 obtain ⟨p,hp,G,_⟩:=dA (h.fit x u);cases hc:x.id.toList.isEmpty
 ·rfl
 have:=kV hr hc;omega
theorem bB.st (hr:aF E n=true)(h:bB E n l):qV l=true:=by
 have G:=nZ (h.len hr) (dJ hr);have hi:=h.ids hr;unfold qV;rw [YE h.srt,decide_eq_true G,Bool.and_true,Bool.and_true]
 by_cases u:dS l l.length=true
 ·exact u
 exfalso
 have:∀ m,m<=l.length->dS l m=true:=fun m=>by
  induction m with
  | zero=>intro _;rfl
  | succ m ih =>
   intro H;unfold dS;rw [ih (by omega),hi _ (fW l m (by omega))];rfl
 exact u (this _ nL)
theorem bB.fitB (hr:aF E n=true)(h:bB E n l):dY E n l=true:=by
 unfold dY;rw [h.st hr,Bool.and_true]
 have:∀ m,m<=l.length->dR E n l m=true:=fun m=>by
  induction m with
  | zero=>intro _;rfl
  | succ m ih =>
   intro u;unfold dR;rw [ih (by omega),h.fit _ (fW l m (by omega))];rfl
 exact this _ nL
theorem SD (h:dY E n l=true):bB E n l:=by
 unfold dY at h;rw [Bool.and_eq_true] at h;refine ⟨(gS h.2).2.1,fun x G=>?_⟩;obtain ⟨j,u,e⟩:=List.mem_iff_getElem.1 G
 have:=sS h.1 j u;rw [bP l j u,e] at this;exact this
theorem bB.set (h:bB E n l)(H:x.id.toList.isEmpty=false->gB E n x=true):bB E n (dG l x false):=by
 refine ⟨oD h.srt x false,fun y I=>?_⟩;rcases (kL h.srt x false y).1 I with ⟨G,_⟩|⟨rfl,u⟩
 ·exact h.fit y G
 refine H ?_;unfold uC at u;simpa using u
theorem bB.pat {u:List aE}(h:bB E n l)(G:bB E n u):∀ k,k<=u.length->bB E n (lL l u k)
 | 0,_=>h
 | k+1,hk=>(h.pat G k (by omega)).set fun _=>G.fit _ (fW u k (by omega))
theorem bB.grow {E':Nat->Ev}(u:aF E' m=true)(I:n<=m)(G:∀ i,i<n->E' i=E i)(h:bB E n l):bB E' m l:=⟨h.srt,fun x H=>by
 obtain ⟨p,hp,Y,O,U,J,N⟩:=dA (h.fit x H);have hq:=mG u (show p<m by omega) (by rw [G p hp];exact O);rw [G p hp,U,J,N] at hq;exact hq⟩
def TZ (E:Nat->Ev)(n:Nat)(l:List aE)(s:ByteArray):Prop:=(∃ x ∈ l,x.id=s)\/Chn E n (aG (l.map aE.id)) l.length s
def KI (P:Nat->ByteArray->Prop)(m:Nat)(s:ByteArray):Prop:=(∃ i,i<m/\P i s)/\∃ j,j<m/\¬ P j s
def RB (E:Nat->Ev)(n:Nat)(L:Nat->List aE)(m:Nat)(s:ByteArray):Prop:=(∃ x,(eH L x m=false/\InS L m x)/\x.id=s)\/KI (fun i=>TZ E n (L i)) m s
theorem WJ {s:ByteArray}(hr:aF E n=true)(h:Chn E n S m s):∃ j,j<n/\(E j).id=s:=by
 cases h with
 | base _ hp _ hk=>obtain ⟨j,G,_,u⟩:=cZ hr hp hk;exact ⟨j,by omega,u⟩
 | step _ hp _ hk=>obtain ⟨j,G,_,u⟩:=cZ hr hp hk;exact ⟨j,by omega,u⟩
theorem CH {s:ByteArray}(hr:aF E n=true)(G:bB E n l)(h:TZ E n l s):∃ j,j<n/\(E j).id=s:=by
 rcases h with ⟨x,u,rfl⟩|h
 ·obtain ⟨p,hp,_,_,_,_,e⟩:=dA (G.fit x u);exact ⟨p,hp,e⟩
 exact WJ hr h
theorem EU {L:Nat->List aE}{s:ByteArray}(hr:aF E n=true)(u:∀ i,i<m->bB E n (L i))(h:RB E n L m s):∃ j,j<n/\(E j).id=s:=by
 rcases h with ⟨x,⟨_,i,hi,G⟩,rfl⟩|⟨⟨i,hi,h⟩,_⟩
 ·obtain ⟨p,hp,_,_,_,_,e⟩:=dA ((u i hi).fit x G);exact ⟨p,hp,e⟩
 exact CH hr (u i hi) h
def jE (E:Nat->Ev)(n:Nat)(s:List aE)(e:Ev):Nat->List aE
 | 0=>[]
 | k+1=>dG (jE E n s e k) ⟨(aI (cD e) k).ty,(aI (cD e) k).key,if (aQ s (aI (cD e) k).ty (aI (cD e) k).key).toList.isEmpty then yM E n (uN (aI (cD e) k).ty (aI (cD e) k).key) e else aQ s (aI (cD e) k).ty (aI (cD e) k).key⟩ false
def jB (E:Nat->Ev)(n:Nat)(s:List aE)(e:Ev):List aE:=jE E n s e (cD e).length
def MM (E:Nat->Ev)(n:Nat)(s:List aE)(e:Ev):List aE:=if e.st=true/\lJ (iZ E n (jB E n s e)) e=0 then dG s ⟨e.ty,e.key,e.id⟩ false else s
def eA (E:Nat->Ev)(n:Nat)(s:List aE):List ByteArray->List aE
 | []=>s
 | t :: r=>eA E n (MM E n s (E (aL E n t).toNat)) r
theorem qH (E:Nat->Ev)(n:Nat)(t:ByteArray):∀ (r:List ByteArray) (s:List aE),eA E n s (r ++ [t])=MM E n (eA E n s r) (E (aL E n t).toNat)
 | [],s=>rfl
 | u :: r,s=>by
  show eA E n _ (r ++ [t])=_
  rw [qH E n t r];rfl
theorem bB.try1 {s:List aE}(hr:aF E n=true)(h:bB E n s)(hp:p<n):bB E n (MM E n s (E p)):=by
 unfold MM;split
 ·rename_i hc
  exact h.set fun _=>mG hr hp hc.1
 exact h
theorem bB.tryL {E:Nat->Ev}{n:Nat}(hr:aF E n=true):∀ {r:List ByteArray} {s:List aE},bB E n s->(∀ t ∈ r,0<=aL E n t)->bB E n (eA E n s r)
 | [],_,h,_=>h
 | t :: r,s,h,ht=>by
  have I:=ht t List.mem_cons_self;have H:=cJ E t n;exact bB.tryL hr (r:=r) (h.try1 hr (show (aL E n t).toNat<n by omega)) fun u G=>ht u (List.mem_cons_of_mem _ G)
def lE (E:Nat->Ev)(n:Nat)(L:Nat->List aE)(m:Nat)(l:List aE):Prop :=
 ∃ (f r:List ByteArray) (o:List Nat),(pH f/\∀ s,s ∈ f↔RB E n L m s)/\nE E n (aG f) f.length o /\
  (kO E n (fun p:Nat=>dp E n (ln E n (aL E n (aQ (eA E n (lC L m m) (o.map fun p=>(E p).id)) aX aJ))) (p:Int)) r/\∀ s,s ∈ r↔s ∈ f/\s ∉ o.map fun p=>(E p).id) /\
  l=lL (eA E n (eA E n (lC L m m) (o.map fun p=>(E p).id)) r) (lC L m m) (lC L m m).length
theorem pE {E:Nat->Ev}{n:Nat}(hr:aF E n=true){L:Nat->List aE}:∀ {m},(∀ i,i<m->bB E n (L i))->iI L m=true
 | 0,_=>rfl
 | m+1,h=>by
  unfold iI;rw [pE hr (fun i hi=>h i (by omega)),(h m (by omega)).st hr];rfl
theorem AA (hr:aF E n=true){L:Nat->List aE}(h:∀ i,i<m->bB E n (L i)):bB E n (lC L m m):=by
 rcases Nat.eq_zero_or_pos m with rfl|H
 ·exact bB.nil E n
 obtain ⟨I,J⟩:=FG H (pE hr h);refine ⟨I,fun x G=>?_⟩;obtain ⟨_,i,hi,u⟩:=(J x).1 G;exact (h i hi).fit x u
theorem VD {o:List Nat}(hr:aF E n=true)(h:nE E n S m o):∀ t ∈ o.map (fun p=>(E p).id),0<=aL E n t:=fun t u=>by
 obtain ⟨p,hp,rfl⟩:=List.mem_map.1 u;rw [aP hr (h.lt p hp)];omega
theorem lE.fit {L:Nat->List aE}(hr:aF E n=true)(G:∀ i,i<m->bB E n (L i))(h:lE E n L m l):bB E n l:=by
 obtain ⟨f,r,o,⟨_,O⟩,J,⟨_,h5⟩,rfl⟩:=h;have u:=AA hr G;have H:=bB.tryL hr u (VD hr J)
 have U:=bB.tryL hr (r:=r) H (fun t I=>by
  obtain ⟨j,N,e⟩:=EU hr G ((O t).1 ((h5 t).1 I).1);rw [<- e,aP hr N];omega)
 exact U.pat u _ nL
theorem OA {l H:List ByteArray}(h:kO E n D l)(I:kO E n D H)(N:∀ s,s ∈ l↔s ∈ H):l=H:=by
 have J:∀ {l:List ByteArray},kO E n D l->l.Nodup:=fun {l} h=>h.imp fun {a b} u e=>by subst e;exact absurd u (jW.irrefl _)
 refine List.Perm.eq_of_pairwise (le:=fun a b:ByteArray=>jW E D (jG E n a) (jG E n b)) (fun a b _ _ u G=>?_) h I ((List.perm_ext_iff_of_nodup (J h) (J I)).2 N);exact absurd (u.trans G) (jW.irrefl _)
theorem lE.uniq {L:Nat->List aE}{N:List aE}(h:lE E n L m l)(h':lE E n L m N):l=N:=by
 obtain ⟨f,r,o,⟨h1,h2⟩,Y,⟨Z,h5⟩,rfl⟩:=h;obtain ⟨O,U,o',⟨H,J⟩,u,⟨G,I⟩,rfl⟩:=h';have ef:f=O:=nN h1 H (fun s=>(h2 s).trans (J s).symm);subst ef;have eo:o=o':=Y.uniq u;subst eo;have er:r=U:=OA Z G (fun s=>(h5 s).trans (I s).symm);subst er;rfl
variable {w:World}{b off base:Nat}{M:Nat->ByteArray}{L:Nat->Int}{v:Value}
theorem NX (H:∀ i,i<n->w.cell? ⟨b,off+i,none⟩=some (.string (S i)))(j:Nat)(u:Value)(h:(dT S n)[j]?=some u):w.cell? ((⟨b,off,none⟩:Addr).add j)=some u:=by
 have G:j<n:=by
  have:=(List.getElem?_eq_some_iff.1 h).1
  rwa [dZ] at this
 rw [gT S n j G] at h;rw [Addr.add_lit];exact (H j G).trans h
theorem NE (S:Nat->ByteArray)(n:Nat)(u:Value)(h:u ∈ dT S n):u.oneCell'=true:=by
 unfold dT at h;obtain ⟨i,_,rfl⟩:=List.mem_map.1 h;rfl
theorem PM (G:∀ i,i<n->w.cell? ⟨b,off+i * 2,none⟩=some (.string (M i)))(H:∀ i,i<n->w.cell? ⟨b,off+i * 2+1,none⟩=some (.int .i64 (L i)))(j:Nat)(u:Value)(h:(eQ M L n)[j]?=some u):w.cell? ((⟨b,off,none⟩:Addr).add j)=some u:=by
 have I:j<n * 2:=by
  have:=(List.getElem?_eq_some_iff.1 h).1
  rwa [gU] at this
 have hi:=gQ M L n (j / 2) (by omega);rcases (by omega:j=j / 2 * 2\/j=j / 2 * 2+1) with e|e
 ·rw [e,hi.1] at h
  have:=(G (j / 2) (by omega)).trans h;rw [<- e] at this;rw [Addr.add_lit];exact this
 rw [e,hi.2] at h
 have:=(H (j / 2) (by omega)).trans h;rw [show off+j / 2 * 2+1=off+j by omega] at this;rw [Addr.add_lit];exact this
theorem NO (M:Nat->ByteArray)(L:Nat->Int)(n:Nat)(u:Value)(h:u ∈ eQ M L n):u.oneCell'=true:=by
 unfold eQ at h;obtain ⟨i,_,hi⟩:=List.mem_flatMap.1 h;simp only [List.mem_cons,List.not_mem_nil,or_false] at hi;rcases hi with rfl|rfl <;> rfl
theorem bV.slw (h:bV w base v n M L)(H:∀ i,i<n->(M i).size<=maxLen) :
  ∃ a cap,v=.slice a n cap/\gN w a n cap M L/\SlW w base a n 2:=by
 rcases cX h with ⟨rfl,rfl⟩|⟨g,cap,rfl,hg,u,J,N,G,I⟩
 ·exact ⟨none,0,rfl,⟨nL,by decide,H,Or.inl rfl⟩,Or.inl rfl⟩
 refine ⟨_,cap,rfl,⟨J,N,H,Or.inr ⟨g,0,rfl,u,fun i hi=>?_,fun i hi=>?_⟩⟩,Or.inr ⟨g,0,rfl,hg,u,fun i hi=>⟨?_,I _⟩⟩⟩
 ·rw [show 0+i * 2=0+(i * 2) by omega,G _ (by omega)];exact (gQ M L n i hi).1
 ·rw [show 0+i * 2+1=0+(i * 2+1) by omega,G _ (by omega)];exact (gQ M L n i hi).2
 exact ⟨_,(G i hi).trans (List.getElem?_eq_getElem (by rw [gU];omega))⟩
theorem Tryz.infoEvent:(Tryz.prog.info? 30).map (fun i=>(i.zero,i.size,i.bytes))=some (some (.agg #[.string ByteArray.empty,.string ByteArray.empty,.string ByteArray.empty,.bool false,.string ByteArray.empty,.int .i64 0,.slice none 0 0,.slice none 0 0,.string ByteArray.empty,.slice none 0 0]),10,168):=by kernel_rfl
def eE (e:Ev):Prop:=e.np * 16<=140737488351232/\e.na * 16<=140737488351232/\e.ng * 24<=140737488351232
variable {wx:World}{B j cap:Nat}{a:Option Addr}
def Iv (a:Option Addr)(n lo hi:Nat):Prop:=n=0\/∃ b off,a=some ⟨b,off,none⟩/\lo<=b/\b<hi
theorem SlW.iv {sz:Nat}(h:SlW w base a n sz):Iv a n base w.heap.size :=
 h.imp id fun ⟨b,off,e,u,G,_⟩=>⟨b,off,e,u,G⟩
theorem Iv.wide {lo hi u G:Nat}(h:Iv a n lo hi)(I:u<=lo)(J:hi<=G):Iv a n u G :=
 h.imp id fun ⟨b,off,e,q1,H⟩=>⟨b,off,e,by omega,by omega⟩
theorem dE.setF {C lo hi:Nat}(h:dE w a n cap S)(N:Iv a n lo hi)(O:C<lo\/hi<=C)(x:Value):dE (w.setCell ⟨C,j,none⟩ x) a n cap S:=by
 refine ⟨h.le,h.max,h.size,?_⟩;rcases N with I|⟨b,off,rfl,Y,Z⟩
 ·exact Or.inl I
 refine h.cells.imp id fun ⟨H,u,e,G,J⟩=>⟨H,u,e,by simpa [World.setCell] using G,fun i hi=>?_⟩
 have U:b=H:=by injection e with e;injection e
 rw [fJ (by omega)];exact J i hi
structure CE (w:World)(B:Nat)(c0:Array Value)(wx:World):Prop where
 a0:∀ o,wx.cell? ⟨B,o,none⟩=c0[o]?
 a1:∀ o,o<10->∃ v,wx.cell? ⟨B+1,o,none⟩=some v
 f0:∀ o,wx.frozen? ⟨B,o,none⟩=false
 f1:∀ o,wx.frozen? ⟨B+1,o,none⟩=false
 size:B+1<wx.heap.size
 hB:B=w.heap.size
 below:Below w.heap.size w wx
theorem CE.mono {G:World}{c0:Array Value}(h:CE w B c0 wx)(hb:Below wx.heap.size wx G):CE w B c0 G :=
 have u:=h.size
 ⟨fun o=>(hb.cell (by show B<_;omega)).trans (h.a0 o),fun o H=>(h.a1 o H).imp fun _ I=>(hb.cell (by exact u)).trans I,
  fun o=>(hb.frozen (by show B<_;omega)).trans (h.f0 o),fun o=>(hb.frozen (by exact u)).trans (h.f1 o),nT u hb.size,h.hB,h.below.trans (hb.mono h.below.size)⟩
theorem CE.set {c0:Array Value}(h:CE w B c0 wx)(j:Nat)(u:j<c0.size)(x:Value):CE w B (c0.setIfInBounds j x) (wx.setCell ⟨B,j,none⟩ x):=by
 refine ⟨fun o=>?_,fun o G=>by rw [fJ (by omega)];exact h.a1 o G,fun o=>by rw [World.frozen?_setCell];exact h.f0 o,fun o=>by rw [World.frozen?_setCell];exact h.f1 o,by simpa [World.setCell] using h.size,h.hB,h.below.setCell (by have:=h.hB;show _<=B;omega) _⟩
 by_cases e:o=j
 ·subst e
  rw [aZ ⟨c0[o],by rw [h.a0];exact Array.getElem?_eq_getElem u⟩];simp [u]
 rw [aB e,h.a0,Array.getElem?_setIfInBounds_ne (by omega)]
theorem CE.start {c0 c1:Array Value}{t0 t1:TypeId}(h:c1.size=10):CE w w.heap.size c0 ((w.alloc (.cells c0 t0)).alloc (.cells c1 t1)):=by
 refine ⟨fun o=>?_,fun o u=>⟨c1[o],?_⟩,fun o=>?_,fun o=>kF (by simp),by simp,rfl,bA.alloc (by simp) _⟩
 ·rw [World.cell?_alloc_past _ _ _ (by simp),kA rfl]
 ·rw [kA (by simp)]
  exact Array.getElem?_eq_getElem (by omega)
 rw [World.frozen?_alloc_past _ _ _ (by simp)];exact kF rfl
def uM (a:Option Addr):Option Nat:=a.map (·.block)
theorem tA (w:World)(row:Option Nat):w.grownBy w row:=⟨rfl,rfl,rfl,nL,fun _ _ _=>rfl⟩
variable {w':World}{row:Option Nat}
structure Ls where
 pa:Option Addr
 cp:Nat
 aa:Option Addr
 ca:Nat
 ga:Option Addr
 cg:Nat
 lo:Nat
 m1:Nat
 m2:Nat
 hi:Nat
theorem dE.grownI {lo hi:Nat}(h:dE w a n cap S)(hg:w.grownBy w' row)(O:Iv a n lo hi)(hr:∀ b,row=some b->b<lo\/hi<=b):dE w' a n cap S:=by
 refine ⟨h.le,h.max,h.size,?_⟩;rcases O with J|⟨b,off,rfl,Y,Z⟩
 ·exact Or.inl J
 refine h.cells.imp id fun ⟨H,u,e,G,N⟩=>⟨H,u,e,nT G hg.size,fun i hi=>?_⟩
 have U:b=H:=by injection e with e;injection e
 exact (hg.cell_far _ G (fun I=>by have:=hr H I.symm;omega)).trans (N i hi)
theorem gN.grownI {lo hi:Nat}(h:gN w a n cap M L)(hg:w.grownBy w' row)(O:Iv a n lo hi)(hr:∀ b,row=some b->b<lo\/hi<=b):gN w' a n cap M L:=by
 refine ⟨h.le,h.max,h.size,?_⟩;rcases O with J|⟨b,off,rfl,Z,h2⟩
 ·exact Or.inl J
 refine h.cells.imp id fun ⟨H,G,e,u,N,U⟩=>⟨H,G,e,nT u hg.size,fun i hi=>?_,fun i hi=>?_⟩
 all_goals
  have Y:b=H:=by injection e with e;injection e
 ·exact (hg.cell_far _ u (fun I=>by have:=hr H I.symm;omega)).trans (N i hi)
 exact (hg.cell_far _ u (fun I=>by have:=hr H I.symm;omega)).trans (U i hi)
variable {Q:World->Ev->Ls->Prop}{g:Nat}{T:Nat->Ls}{t:Ls}
def GF (e:Ev)(t:Ls):List Value:=[.string e.id,.string e.sd,.string e.ty,.bool e.st,.string e.key,.int .i64 e.tm,.slice t.pa e.np t.cp,.slice t.aa e.na t.ca,.string e.val,.slice t.ga e.ng t.cg]
def jY (E:Nat->Ev)(T:Nat->Ls)(n:Nat):List Value:=(List.range n).flatMap fun i=>GF (E i) (T i)
theorem gG (E:Nat->Ev)(T:Nat->Ls)(n:Nat):jY E T n ++ GF (E n) (T n)=jY E T (n+1):=by simp [jY,List.range_succ]
theorem oF (E:Nat->Ev)(T:Nat->Ls)(n:Nat):(jY E T n).length=n * 10:=by
 induction n with
 | zero=>rfl
 | succ n ih=>rw [<- gG,List.length_append,ih];simp [GF];omega
theorem AW (E:Nat->Ev)(T:Nat->Ls):∀ n i r,i<n->r<10->(jY E T n)[i * 10+r]?=(GF (E i) (T i))[r]?
 | 0,_,_,h,_=>absurd h (Nat.not_lt_zero _)
 | n+1,i,r,h,hr=>by
  rw [<- gG]
  by_cases e:i=n
  ·subst e
   rw [List.getElem?_append_right (by rw [oF];omega),oF]
   congr 1
   omega
  rw [List.getElem?_append_left (by rw [oF];omega)];exact AW E T n i r (by omega) hr
theorem sJ {E:Nat->Ev}{T u:Nat->Ls}:∀ {n},(∀ i,i<n->T i=u i)->jY E T n=jY E u n
 | 0,_=>rfl
 | n+1,h=>by rw [<- gG,<- gG,sJ (fun i hi=>h i (by omega)),h n (by omega)]
theorem FO (e:Ev)(t:Ls)(u:Value)(h:u ∈ GF e t):u.oneCell'=true:=by
 unfold GF at h;simp only [List.mem_cons,List.not_mem_nil,or_false] at h;rcases h with rfl|rfl|rfl|rfl|rfl|rfl|rfl|rfl|rfl|rfl <;> rfl
theorem uQ (W:World)(e:Ev)(t:Ls)(ty:TypeId)(j:Nat)(u:Value)(h:(GF e t)[j]?=some u):(W.alloc (.cells (ec e t.pa t.cp t.aa t.ca t.ga t.cg) ty)).cell? ((⟨W.heap.size,0,none⟩:Addr).add j)=some u:=by
 rw [Addr.add_lit,Nat.zero_add,kA rfl];rw [<- h];unfold GF;rw [List.getElem?_toArray]
structure QC (Q:World->Ev->Ls->Prop):Prop where
 below:∀ {w w':World} {e:Ev} {t:Ls},Q w e t->Below w.heap.size w w'->Q w' e t
 grown:∀ {w w':World} {e:Ev} {t:Ls} {row:Option Nat},Q w e t->w.grownBy w' row->(∀ b,row=some b->b<t.lo\/t.hi<=b)->Q w' e t
 ok:∀ {w:World} {e:Ev} {t:Ls},Q w e t->cI w e t.pa t.cp t.aa t.ca t.ga t.cg
 hi:∀ {w:World} {e:Ev} {t:Ls},Q w e t->t.lo<=t.hi/\t.hi<=w.heap.size
structure QJ (w:World)(e:Ev)(t:Ls):Prop where
 ok:cI w e t.pa t.cp t.aa t.ca t.ga t.cg
 ip:Iv t.pa e.np t.lo t.hi
 ia:Iv t.aa e.na t.lo t.hi
 ig:Iv t.ga e.ng t.lo t.hi
 hh:t.lo<=t.hi/\t.hi<=w.heap.size
theorem qcJ:QC QJ:=⟨fun h hb=>⟨h.ok.below hb,h.ip,h.ia,h.ig,h.hh.1,nZ h.hh.2 hb.size⟩,
 fun h hg hr=>⟨⟨h.ok.hid,h.ok.hsd,h.ok.hty,h.ok.hkey,h.ok.hval,h.ok.hp.grownI hg h.ip hr,h.ok.ha.grownI hg h.ia hr,h.ok.hg.grownI hg h.ig hr⟩,h.ip,h.ia,h.ig,h.hh.1,nZ h.hh.2 hg.size⟩,fun h=>h.ok,fun h=>h.hh⟩
structure bY (Q:World->Ev->Ls->Prop)(w:World)(base:Nat)(v:Value)(n:Nat)(E:Nat->Ev)(T:Nat->Ls):Prop where
 own:w.ownsRow base 30 10 v n (jY E T n)
 q:∀ i,i<n->Q w (E i) (T i)
 low:∀ i,i<n->base<=(T i).lo
 ord:∀ i j,i<j->j<n->(T i).hi<=(T j).lo
 apart:∀ g,v.ownBlock=some g->∀ i,i<n->g<(T i).lo\/(T i).hi<=g
theorem bY.below (c:QC Q)(h:bY Q w base v n E T)(hb:Below w.heap.size w w'):bY Q w' base v n E T :=
 ⟨eK h.own hb,fun i hi=>c.below (h.q i hi) hb,h.low,h.ord,h.apart⟩
theorem bY.new (w:World)(base:Nat)(hb:base<=w.heap.size)(E:Nat->Ev)(T:Nat->Ls):bY Q (w.alloc (.cells #[] 30)) base (.slice (some ⟨w.heap.size,0,none⟩) 0 0) 0 E T :=
 ⟨⟨rfl,Or.inr ⟨w.heap.size,0,#[],rfl,hb,by show (w.heap.push _)[w.heap.size]?=_;simp,nL,by decide,rfl,rfl⟩⟩,fun i hi=>absurd hi (Nat.not_lt_zero _),fun i hi=>absurd hi (Nat.not_lt_zero _),fun i j _ u=>absurd u (Nat.not_lt_zero _),fun g _ i hi=>absurd hi (Nat.not_lt_zero _)⟩
def qF (T:Nat->Ls)(n:Nat)(t:Ls):Nat->Ls:=fun i=>if i=n then t else T i
theorem bY.snoc (c:QC Q)(h:bY Q w base v n E T)(ht:Q w (E n) t)(h1:base<=t.lo)(h2:∀ i,i<n->(T i).hi<=t.lo)(h3:∀ g,v.ownBlock=some g->g<t.lo\/t.hi<=g)
  (H:w'.ownsRow base 30 10 (.slice (some ⟨g,0,none⟩) (n+1) cap) (n+1) (jY E T n ++ GF (E n) t)) (I:w.grownBy w' v.ownBlock) (hg:v.ownBlock=some g\/w.heap.size<=g):bY Q w' base (.slice (some ⟨g,0,none⟩) (n+1) cap) (n+1) E (qF T n t):=by
 have N:qF T n t n=t:=if_pos rfl;have G:∀ i,i<n->qF T n t i=T i:=fun i hi=>if_neg (by omega)
 have e3:jY E T n=jY E (qF T n t) n:=sJ fun i hi=>(G i hi).symm
 have J:∀ i,i<n->∀ b,v.ownBlock=some b->b<(T i).lo\/(T i).hi<=b:=fun i hi b hb=>h.apart b hb i hi
 have U:∀ i,i<n->g<(T i).lo\/(T i).hi<=g:=fun i hi=>by
  rcases hg with q|q
  ·exact h.apart g q i hi
  exact Or.inr (nZ (c.hi (h.q i hi)).2 q)
 have Y:g<t.lo\/t.hi<=g:=by
  rcases hg with q|q
  ·exact h3 g q
  exact Or.inr (nZ (c.hi ht).2 q)
 refine ⟨?_,fun i hi=>?_,fun i hi=>?_,fun i j u hj=>?_,fun g' O i hi=>?_⟩
 ·rw [<- gG,N,<- e3];exact H
 ·by_cases e:i=n
  ·subst e;rw [N];exact c.grown ht I h3
  rw [G i (by omega)];exact c.grown (h.q i (by omega)) I (J i (by omega))
 ·by_cases e:i=n
  ·subst e;rw [N];exact h1
  rw [G i (by omega)];exact h.low i (by omega)
 ·by_cases e:j=n
  ·subst e;rw [N,G i u];exact h2 i u
  rw [G i (by omega),G j (by omega)];exact h.ord i j u (by omega)
 have Z:g=g':=by
  have:some g=some g':=O;injection this
 subst Z
 by_cases e:i=n
 ·subst e;rw [N];exact Y
 rw [G i (by omega)];exact U i (by omega)
theorem bY.cells (h:bY Q w base v n E T) :
  (v=.slice none 0 0/\n=0)\/∃ g cap,v=.slice (some ⟨g,0,none⟩) n cap/\base<=g/\g<w.heap.size/\n<=cap/\cap<=maxLen/\(∀ i,i<n->eP w g (i * 10) (E i) (T i).pa (T i).cp (T i).aa (T i).ca (T i).ga (T i).cg)/\∀ o,w.frozen? ⟨g,o,none⟩=false:=by
 rcases cX h.own with I|⟨g,cap,O,hg,u,J,N,G,H⟩
 ·exact Or.inl I
 refine Or.inr ⟨g,cap,O,hg,u,J,N,fun i hi=>?_,H⟩
 have hr:∀ r,r<10->w.cell? ⟨g,i * 10+r,none⟩=(GF (E i) (T i))[r]?:=fun r hr=>by
  have:=G (i * 10+r) (by omega);rw [Nat.zero_add] at this;rw [this];exact AW E T n i r hi hr
 exact ⟨hr 0 (by decide),hr 1 (by decide),hr 2 (by decide),hr 3 (by decide),hr 4 (by decide),hr 5 (by decide),hr 6 (by decide),hr 7 (by decide),hr 8 (by decide),hr 9 (by decide)⟩
theorem bY.slv (c:QC Q)(h:bY Q w base v n E T):∃ a cap,v=.slice a n cap/\dW w a n cap E:=by
 rcases h.cells with ⟨rfl,rfl⟩|⟨g,cap,rfl,hg,u,H,I,G,J⟩
 ·exact ⟨none,0,rfl,⟨nL,by decide,Or.inl rfl⟩⟩
 exact ⟨_,cap,rfl,⟨H,I,Or.inr ⟨g,0,rfl,u,fun i hi=>by rw [Nat.zero_add];exact ⟨_,_,_,_,_,_,G i hi,c.ok (h.q i hi)⟩⟩⟩⟩
variable {ops:Array Oper}{xs:List Value}
theorem uG {P:Program}{o:Oper}{a:Act}{K:Act->World->Prop}{Q:Exit->Act->World->Prop}(s x:Operand)(t:TypeId)(I:o.op=.call { callee:=.builtin .append,args:=#[s,x],argTypes:=#[t,t] })(v u G:Value)(w':World)(hr:(Builtin.append_ #[t,t] o.type #[v,u]).run P w=.ok G w')(H:a.eval s=v)(J:a.eval x=u)(h:K (a.put o.dst G) w'):o.wp P a w K Q:=by
 unfold Oper.wp execOp;simp only [I,resolve,invoke,builtin,Sem.run_bind,Sem.run_pure,Result.andThen_ok,List.map_toArray,List.map_cons,List.map_nil,H,J,hr];exact h
theorem bS {P:Program}{rest:List Oper}{o:Oper}{a:Act}{Q:Exit->Act->World->Prop}(G:o.guard=none)(s x:Operand)(t:TypeId)(N:o.op=.call { callee:=.builtin .append,args:=#[s,x],argTypes:=#[t,t] })(v u H:Value)(w':World)(hr:(Builtin.append_ #[t,t] o.type #[v,u]).run P w=.ok H w')(I:a.eval s=v)(J:a.eval x=u)(h:wpList P ops Q rest (a.put o.dst H) w'):wpList P ops Q (o :: rest) a w :=
 wpList_plain G fun _ hK=>uG s x t N v u H w' hr I J (hK _ _ h)
theorem jL {e size:Nat}(h:w.ownsRow base e size v n xs)(H:∀ g,v.ownBlock=some g->w'.heap[g]?=w.heap[g]?):w'.ownsRow base e size v n xs:=by
 obtain ⟨I,G⟩:=h;refine ⟨I,?_⟩;rcases G with G|⟨g,cap,u,rfl,hg,hh,r⟩
 ·exact Or.inl G
 exact Or.inr ⟨g,cap,u,rfl,hg,(H g rfl).trans hh,r⟩
def Bk (a:Option Addr)(n g s:Nat):Prop:=n=0\/∃ b off,a=some ⟨b,off,none⟩/\(b=g\/b=s)
theorem Bk.of {c s lo hi:Nat}(G:Iv a n lo hi)(h:(Value.slice a n c).ownBlock=some g\/(Value.slice a n c).ownBlock=some s):Bk a n g s:=by
 rcases G with u|⟨b,off,rfl,_,_⟩
 ·exact Or.inl u
 refine Or.inr ⟨b,off,rfl,?_⟩;rcases h with h|h
 ·have:some b=some g:=h
  injection this with this
  exact Or.inl this
 have:some b=some s:=h;injection this with this
 exact Or.inr this
theorem dE.grownN {s r:Nat}(h:dE w a n cap S)(hg:w.grownBy w' (some r))(U:Bk a n g s)(Z:r≠g)(h2:r≠s):dE w' a n cap S:=by
 refine ⟨h.le,h.max,h.size,?_⟩;rcases U with N|⟨b,off,rfl,hb⟩
 ·exact Or.inl N
 refine h.cells.imp id fun ⟨H,u,e,G,O⟩=>⟨H,u,e,nT G hg.size,fun i hi=>?_⟩
 have Y:b=H:=by injection e with e;injection e
 exact (hg.cell_far _ G (fun J=>by
  have I:some H=some r:=J;injection I with I
  omega)).trans (O i hi)
theorem CE.grown {G:World}{c0:Array Value}(h:CE w B c0 wx)(hg:wx.grownBy G (some g))(O:B+1<g):CE w B c0 G:=by
 have u:=h.size;have n0:some B≠some g:=fun e=>by injection e;omega
 have I:some (B+1)≠some g:=fun e=>by injection e;omega
 exact ⟨fun o=>(hg.cell_far _ (by show B<_;omega) n0).trans (h.a0 o),fun o J=>(h.a1 o J).imp fun _ N=>(hg.cell_far _ (by exact u) I).trans N,
  fun o=>(hg.frozen_far _ (by show B<_;omega) n0).trans (h.f0 o),fun o=>(hg.frozen_far _ (by exact u) I).trans (h.f1 o),nT u hg.size,h.hB,h.below.grown hg h.below.size (fun k H=>by injection H with H;have:=h.hB;omega)⟩
def CpQ (Q:World->Ev->Ls->Prop)(w:World)(e:Ev)(x:Ending)(w':World):Prop:=∃ t:Ls,x=.returned (.agg (ec e t.pa t.cp t.aa t.ca t.ga t.cg))/\Q w' e t/\w.heap.size<=t.lo/\Below w.heap.size w w'
structure QS (Q:World->Ev->Ls->Prop):Prop where
 c:QC Q
 s:∀ {w:World} {e:Ev} {t:Ls} {C j:Nat} {x:Value},Q w e t->(C<t.lo\/t.hi<=C)->Q (w.setCell ⟨C,j,none⟩ x) e t
 cp:∀ (e:Ev) {pa aa ga:Option Addr} {cp ca cg:Nat} (w:World),eE e->cI w e pa cp aa ca ga cg->Calls Tryz.prog 127 #[.agg (ec e pa cp aa ca ga cg)] w (CpQ Q w e)
end Go.Proofs.YtpfeegcdlikegaaGreat
