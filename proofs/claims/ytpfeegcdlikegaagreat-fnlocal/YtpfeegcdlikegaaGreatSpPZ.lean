import Derived.Test.YtpfeegcdlikegaaGreatCopySZ
import Derived.Maps.OwnSet
set_option maxHeartbeats 16000000
set_option maxRecDepth 100000
namespace Go.Proofs.YtpfeegcdlikegaaGreat
open Go.RowKit Go.Proofs.Tryz
variable {n:Nat}{x y:aE}{l:List aE}
def eH (L:Nat->List aE)(x:aE):Nat->Bool
 | 0=>true
 | k+1=>eH L x k && ((aQ (L k) x.ty x.key).toList == x.id.toList)
theorem IC (L:Nat->List aE)(x:aE):∀ n k,k<n->eH L x (k+1)=false->eH L x n=false
 | n+1,k,h,h1=>by
  by_cases e:k=n
  ·rw [<- e];exact h1
  rw [eH,IC L x n k (by omega) h1];rfl
theorem rR {L:Nat->List aE}{x:aE}:∀ {n},eH L x n=true->∀ k,k<n->aQ (L k) x.ty x.key=x.id
 | n+1,h,k,hk=>by
  rw [eH,Bool.and_eq_true] at h
  by_cases e:k=n
  ·subst e
   rw [beq_iff_eq,ByteArray.toList_eq,ByteArray.toList_eq] at h;exact lK h.2
  exact rR h.1 k (by omega)
def iI (L:Nat->List aE):Nat->Bool
 | 0=>true
 | k+1=>iI L k && qV (L k)
theorem FY (L:Nat->List aE):∀ n k,k<n->iI L (k+1)=false->iI L n=false
 | n+1,k,h,h1=>by
  by_cases e:k=n
  ·rw [<- e];exact h1
  rw [iI,FY L n k (by omega) h1];rfl
def nQ (L:Nat->List aE)(n:Nat):Bool:=decide (n<=20) && iI L n
def InS (L:Nat->List aE)(n:Nat)(x:aE):Prop:=∃ i,i<n/\x ∈ L i
structure vT (L:Nat->List aE)(n:Nat)(Se:List aE)(So:List ByteArray):Prop where
 srt:fK Se
 mem:∀ x,x ∈ Se↔eH L x n=true/\InS L n x
 srtO:pH So
 memO:∀ t,t ∈ So↔∃ x,(eH L x n=false/\InS L n x)/\x.id=t
def sY (L:Nat->List aE)(n:Nat)(u l:List aE):Nat->List aE
 | 0=>u
 | k+1=>if eH L (aI l k) n then dG (sY L n u l k) (aI l k) false else sY L n u l k
def lC (L:Nat->List aE)(n:Nat):Nat->List aE
 | 0=>[]
 | i+1=>sY L n (lC L n i) (L i) (L i).length
def yQ (L:Nat->List aE)(n:Nat)(u:List ByteArray)(l:List aE):Nat->List ByteArray
 | 0=>u
 | k+1=>if eH L (aI l k) n then yQ L n u l k else yQ L n u l k ++ [(aI l k).id]
def vN (L:Nat->List aE)(n:Nat):Nat->List ByteArray
 | 0=>[]
 | i+1=>yQ L n (vN L n i) (L i) (L i).length
theorem wQ (L:Nat->List aE)(n:Nat)(u l:List aE):∀ k,(sY L n u l k).length<=u.length+k
 | 0=>nL
 | k+1=>by
  have:=wQ L n u l k
  have:=oO (sY L n u l k) (aI l k) false;unfold sY;split <;> omega
theorem xX (L:Nat->List aE)(n:Nat)(u:List ByteArray)(l:List aE):∀ k,(yQ L n u l k).length<=u.length+k
 | 0=>nL
 | k+1=>by
  have:=xX L n u l k;unfold yQ;split
  ·omega
  simp;omega
theorem FQ {L:Nat->List aE}(n:Nat):∀ {i},iI L i=true->(lC L n i).length<=i * 300
 | 0,_=>nL
 | i+1,h=>by
  rw [iI,Bool.and_eq_true] at h
  have:=FQ n h.1
  have:=wQ L n (lC L n i) (L i) (L i).length
  have:=(gS h.2).1;unfold lC;omega
theorem wN {L:Nat->List aE}(n:Nat):∀ {i},iI L i=true->(vN L n i).length<=i * 300
 | 0,_=>nL
 | i+1,h=>by
  rw [iI,Bool.and_eq_true] at h
  have:=wN n h.1
  have:=xX L n (vN L n i) (L i) (L i).length
  have:=(gS h.2).1;unfold vN;omega
theorem wU {L:Nat->List aE}(n:Nat){u l:List aE}(h:bK u)(G:bK l):∀ k,k<=l.length->bK (sY L n u l k)
 | 0,_=>h
 | k+1,hk=>by
  have H:=wU (L:=L) n h G k (by omega);unfold sY;split
  ·exact H.set (G.at k (by omega))
  exact H
theorem QN {L:Nat->List aE}(n:Nat):∀ {i},(∀ j,j<i->bK (L j))->bK (lC L n i)
 | 0,_=>fun x u=>by cases u
 | i+1,h=>wU n (QN n (fun j G=>h j (by omega))) (h i (by omega)) _ nL
theorem DS {L:Nat->List aE}(n:Nat){u:List ByteArray}{l:List aE}(h:∀ t ∈ u,t.size<=maxLen)(I:bK l):∀ k,k<=l.length->∀ t ∈ yQ L n u l k,t.size<=maxLen
 | 0,_=>h
 | k+1,hk=>by
  have H:=DS (L:=L) n h I k (by omega);unfold yQ;split
  ·exact H
  intro t J;rcases List.mem_append.1 J with G|G
  ·exact H t G
  rw [List.mem_singleton] at G;subst G;exact (I.at k (by omega)).2.2
theorem MU {L:Nat->List aE}(n:Nat):∀ {i},(∀ j,j<i->bK (L j))->∀ t ∈ vN L n i,t.size<=maxLen
 | 0,_=>fun x u=>by cases u
 | i+1,h=>DS n (MU n (fun j G=>h j (by omega))) (h i (by omega)) _ nL
theorem TF {L:Nat->List aE}(G:0<n)(H:eH L x n=true)(I:eH L y n=true)(e:x.ty=y.ty/\x.key=y.key):x=y:=by
 have u:=rR H 0 G;have J:=rR I 0 G;rw [e.1,e.2,J] at u;obtain ⟨U,O,N⟩:=x;obtain ⟨Z,Y,yi⟩:=y;simp only at e u;rw [e.1,e.2,u]
theorem PD {L:Nat->List aE}{n:Nat}(hn:0<n){G l:List aE}(h:fK G)(ha:∀ x ∈ G,eH L x n=true)(hi:Ids l):∀ k,k<=l.length->fK (sY L n G l k)/\∀ x,x ∈ sY L n G l k↔(x ∈ G\/(eH L x n=true/\∃ j,j<k/\aI l j=x))
 | 0,_=>⟨h,fun x=>⟨fun O=>Or.inl O,fun O=>O.elim id (fun ⟨_,j,Y,_⟩=>absurd Y (Nat.not_lt_zero _))⟩⟩
 | k+1,hk=>by
  obtain ⟨N,H⟩:=PD hn h ha hi k (by omega);unfold sY
  by_cases I:eH L (aI l k) n=true
  ·rw [if_pos I]
   refine ⟨oD N _ _,fun x=>?_⟩;have Z:∀ y ∈ sY L n G l k,eH L y n=true:=fun y hy=>((H y).1 hy).elim (ha y) (fun u=>u.1)
   have ab:uC (aI l k) false=true:=by unfold uC;rw [hi _ (fW l k (by omega))];rfl
   rw [kL N];constructor
   ·rintro (⟨h1,_⟩|⟨rfl,_⟩)
    ·rcases (H x).1 h1 with u|⟨u,j,Y,e⟩
     ·exact Or.inl u
     exact Or.inr ⟨u,j,by omega,e⟩
    exact Or.inr ⟨I,k,by omega,rfl⟩
   intro O
   by_cases e:x=aI l k
   ·exact Or.inr ⟨e,ab⟩
   have U:x ∈ sY L n G l k:=by
    rcases O with u|⟨u,j,Y,ej⟩
    ·exact (H x).2 (Or.inl u)
    by_cases J:j=k
    ·subst J;exact absurd ej.symm e
    exact (H x).2 (Or.inr ⟨u,j,by omega,ej⟩)
   exact Or.inl ⟨U,fun es=>e (TF hn (Z x U) I es)⟩
  rw [if_neg I];refine ⟨N,fun x=>?_⟩;rw [H];constructor
  ·rintro (u|⟨u,j,Y,e⟩)
   ·exact Or.inl u
   exact Or.inr ⟨u,j,by omega,e⟩
  rintro (u|⟨u,j,Y,e⟩)
  ·exact Or.inl u
  by_cases J:j=k
  ·subst J;subst e;exact absurd u I
  exact Or.inr ⟨u,j,by omega,e⟩
theorem GZ :x ∈ l↔∃ j,j<l.length/\aI l j=x:=by
 constructor
 ·intro h
  obtain ⟨j,u,rfl⟩:=List.mem_iff_getElem.1 h;exact ⟨j,u,bP l j u⟩
 rintro ⟨j,u,rfl⟩;exact fW l j u
theorem FG {L:Nat->List aE}{n:Nat}(N:0<n):∀ {i},iI L i=true->fK (lC L n i)/\∀ x,x ∈ lC L n i↔eH L x n=true/\InS L i x
 | 0,_=>⟨List.Pairwise.nil,fun x=>⟨fun h=>(by cases h),fun ⟨_,j,I,_⟩=>absurd I (Nat.not_lt_zero _)⟩⟩
 | i+1,h=>by
  rw [iI,Bool.and_eq_true] at h;obtain ⟨J,G⟩:=FG N h.1;obtain ⟨U,Y⟩:=PD (L:=L) N J (fun x O=>((G x).1 O).1) (gS h.2).2.2 _ (Nat.le_refl (L i).length);unfold lC;refine ⟨U,fun x=>?_⟩;rw [Y,G,<- GZ];constructor
  ·rintro (⟨u,j,I,e⟩|⟨u,e⟩)
   ·exact ⟨u,j,by omega,e⟩
   exact ⟨u,i,by omega,e⟩
  rintro ⟨u,j,I,e⟩
  by_cases H:j=i
  ·subst H;exact Or.inr ⟨u,e⟩
  exact Or.inl ⟨u,j,by omega,e⟩
theorem NF (L:Nat->List aE)(n:Nat)(I:List ByteArray)(l:List aE)(t:ByteArray):∀ k,t ∈ yQ L n I l k↔(t ∈ I\/∃ j,j<k/\eH L (aI l j) n=false/\(aI l j).id=t)
 | 0=>⟨fun O=>Or.inl O,fun O=>O.elim id (fun ⟨j,J,_⟩=>absurd J (Nat.not_lt_zero _))⟩
 | k+1=>by
  have U:=NF L n I l t k;unfold yQ
  by_cases u:eH L (aI l k) n=true
  ·rw [if_pos u,U]
   constructor
   ·rintro (G|⟨j,J,e⟩)
    ·exact Or.inl G
    exact Or.inr ⟨j,by omega,e⟩
   rintro (G|⟨j,J,e⟩)
   ·exact Or.inl G
   by_cases H:j=k
   ·subst H;rw [u] at e;cases e.1
   exact Or.inr ⟨j,by omega,e⟩
  rw [if_neg u,List.mem_append,U,List.mem_singleton];have N:eH L (aI l k) n=false:=by simpa using u
  constructor
  ·rintro ((G|⟨j,J,e⟩)|G)
   ·exact Or.inl G
   ·exact Or.inr ⟨j,by omega,e⟩
   exact Or.inr ⟨k,by omega,N,G.symm⟩
  rintro (G|⟨j,J,e⟩)
  ·exact Or.inl (Or.inl G)
  by_cases H:j=k
  ·subst H;exact Or.inr e.2.symm
  exact Or.inl (Or.inr ⟨j,by omega,e⟩)
theorem xT (L:Nat->List aE)(n:Nat)(t:ByteArray):∀ i,t ∈ vN L n i↔∃ x,(eH L x n=false/\InS L i x)/\x.id=t
 | 0=>⟨fun h=>(by cases h),fun ⟨x,⟨_,j,H,_⟩,_⟩=>absurd H (Nat.not_lt_zero _)⟩
 | i+1=>by
  unfold vN;rw [NF,xT L n t i];constructor
  ·rintro (⟨x,⟨u,j,H,e⟩,G⟩|⟨j,H,u,G⟩)
   ·exact ⟨x,⟨u,j,by omega,e⟩,G⟩
   exact ⟨_,⟨u,i,by omega,fW _ j H⟩,G⟩
  rintro ⟨x,⟨u,j,H,e⟩,G⟩
  by_cases I:j=i
  ·subst I
   obtain ⟨q,hq,rfl⟩:=GZ.1 e;exact Or.inr ⟨q,hq,u,G⟩
  exact Or.inl ⟨x,⟨u,j,by omega,e⟩,G⟩
theorem yI {L:Nat->List aE}{J G:List aE}{I u:List ByteArray}(h:vT L n J I)(H:vT L n G u):J=G/\I=u :=
 ⟨FS h.srt H.srt (fun x=>(h.mem x).trans (H.mem x).symm),nN h.srtO H.srtO (fun t=>(h.memO t).trans (H.memO t).symm)⟩
variable {w w':World}{a:Option Addr}{cap:Nat}
structure ID (w:World)(a:Option Addr)(n cap:Nat)(X:Nat->Int):Prop where
 le:n<=cap
 max:cap<=maxLen
 cells:n=0\/∃ b off,a=some ⟨b,off,none⟩/\b<w.heap.size/\∀ i,i<n->w.cell? ⟨b,off+i,none⟩=some (.int .i64 (X i))
theorem ID.below {X:Nat->Int}(h:ID w a n cap X)(hb:Below w.heap.size w w'):ID w' a n cap X :=
 ⟨h.le,h.max,h.cells.imp id fun ⟨b,off,e,u,G⟩=>⟨b,off,e,nT u hb.size,fun i hi=>(hb.cell (by exact u)).trans (G i hi)⟩⟩
def ZY (w:World)(B o n:Nat)(X:Nat->Int):Prop:=∃ ra rc,w.cell? ⟨B,o,none⟩=some (.slice ra n rc)/\ID w ra n rc X
structure SlL (w:World)(a:Option Addr)(n cap:Nat)(rn:Nat->Nat)(X:Nat->Nat->Int):Prop where
 le:n<=cap
 max:cap<=maxLen
 cells:n=0\/∃ b off,a=some ⟨b,off,none⟩/\b<w.heap.size/\∀ i,i<n->ZY w b (off+i) (rn i) (X i)
variable {base size:Nat}{v:Value}{xs:List Value}
theorem Tryz.infoIntO:(prog.info? 3).map (fun i=>(i.zero,i.size,i.bytes))=some (some (.int .i64 0),1,8):=by kernel_rfl
theorem wF {e:Nat}(h:w.ownsRow base e size v n xs)(hb:Below w.heap.size w w'):w'.ownsRow base e size v n xs:=by
 obtain ⟨J,H⟩:=h;refine ⟨J,?_⟩;rcases H with H|⟨g,cap,u,N,hg,hh,r⟩
 ·exact Or.inl H
 have I:g<w.heap.size:=by
  rcases Nat.lt_or_ge g w.heap.size with G|G
  ·exact G
  rw [Array.getElem?_eq_none G] at hh;cases hh
 exact Or.inr ⟨g,cap,u,N,hg,by rw [hb.block g I];exact hh,r⟩
def BH (X:Nat->Int)(n:Nat):List Value:=(List.range n).map fun i=>.int .i64 (X i)
theorem MF (X:Nat->Int)(n i:Nat)(h:i<n):(BH X n)[i]?=some (.int .i64 (X i)):=by simp [BH,h]
theorem JT (X:Nat->Int)(n:Nat):BH X n ++ [.int .i64 (X n)]=BH X (n+1):=by simp [BH,List.range_succ]
def mV (w:World)(base:Nat)(v:Value)(n:Nat)(X:Nat->Int):Prop:=w.ownsRow base 3 1 v n (BH X n)
theorem mV.snoc {X:Nat->Int}{x:Int}(h:w.ownsRow base 3 1 v (n+1) (BH X n ++ [.int .i64 x]))(u:x=X n):mV w base v (n+1) X:=by
 subst u;rw [JT] at h;exact h
theorem mV.made (w:World)(base m:Nat)(cs:Array Value)(G:m<=maxLen)(u:cs.size=m)(hb:base<=w.heap.size)(X:Nat->Int):mV (w.alloc (.cells cs 3)) base (.slice (some ⟨w.heap.size,0,none⟩) 0 m) 0 X :=
 ⟨rfl,Or.inr ⟨w.heap.size,m,cs,rfl,hb,by show (w.heap.push _)[w.heap.size]?=_;simp,nz,G,by rw [u,Nat.mul_one],by simp [BH]⟩⟩
theorem mV.cells {X:Nat->Int}(h:mV w base v n X) :
  (v=.slice none 0 0/\n=0)\/∃ g cap,v=.slice (some ⟨g,0,none⟩) n cap/\base<=g/\g<w.heap.size/\n<=cap/\cap<=maxLen/\∀ i,i<n->w.cell? ⟨g,0+i,none⟩=some (.int .i64 (X i)):=by
 obtain ⟨h1,U⟩:=h;rcases U with ⟨rfl,O⟩|⟨g,cap,H,rfl,hg,hh,Y,Z,I,J⟩
 ·exact Or.inl ⟨rfl,O⟩
 have G:g<w.heap.size:=by
  rcases Nat.lt_or_ge g w.heap.size with u|u
  ·exact u
  rw [Array.getElem?_eq_none u] at hh;cases hh
 refine Or.inr ⟨g,cap,rfl,hg,G,Y,Z,fun j N=>?_⟩;rw [<- MF X n j N,<- J,List.getElem?_take,if_pos (by omega),Nat.zero_add];simp [World.cell?,hh]
theorem mV.sl {X:Nat->Int}(h:mV w base v n X):∃ a cap,v=.slice a n cap/\ID w a n cap X:=by
 rcases h.cells with ⟨rfl,rfl⟩|⟨g,cap,rfl,hg,u,G,H,I⟩
 ·exact ⟨none,0,rfl,⟨nL,by decide,Or.inl rfl⟩⟩
 exact ⟨_,cap,rfl,⟨G,H,Or.inr ⟨g,0,rfl,u,I⟩⟩⟩
theorem tX (w1:World)(x:Value)(t:TypeId)(j:Nat)(u:Value)(h:[x][j]?=some u):(w1.alloc (.cells #[x] t)).cell? ((⟨w1.heap.size,0,none⟩:Addr).add j)=some u:=by
 have H:j<1:=by
  rcases Nat.lt_or_ge j 1 with G|G
  ·exact G
  rw [List.getElem?_eq_none (by simpa using G)] at h;cases h
 match j,H,h with
 | 0,_,h=>rw [show (⟨w1.heap.size,0,none⟩:Addr).add 0=⟨w1.heap.size,0,none⟩ from rfl,kA rfl];exact h
theorem NL (x:Int)(u:Value)(h:u ∈ [Value.int .i64 x]):u.oneCell'=true:=by
 simp only [List.mem_cons,List.not_mem_nil,or_false] at h;subst h;rfl
end Go.Proofs.YtpfeegcdlikegaaGreat
namespace Go.Proofs.YtpfeegcdlikegaaGreat
open Go.RowKit Go.Maps Go.ChangeMaps Go.Proofs.Tryz
variable {w w':World}{j m n:Nat}{Kn:ByteArray->Bool}{V:ByteArray->Int}
theorem pQ:Keyed prog 9:=string_keyed underlying9
theorem oW (w:World):(zeroValue 3).run prog w=.ok (.int .i64 0) w:=by kernel_rfl
abbrev xN (s:ByteArray):Lit:=.string s.data.toList
theorem GP {s t:ByteArray}(h:s≠t):xN s≠xN t:=fun e=>h (by
 injection e with e
 obtain ⟨s⟩:=s;obtain ⟨t⟩:=t
 exact congrArg _ (Array.toList_inj.1 e))
def cY (w:World)(m n:Nat)(Kn:ByteArray->Bool)(V:ByteArray->Int):Prop :=
 ∃ D:DataW Unit,w.ownsMap prog 9 (plainElem prog 3) m n D/\∀ s:ByteArray,has D (xN s)=Kn s/\(Kn s=true->D.atKey (xN s) (.lit (.int .i64 0))=.lit (.int .i64 (V s)))
theorem cY.lt (h:cY w m n Kn V):m<w.heap.size:=by
 obtain ⟨D,h,_⟩:=h;exact h.lt
theorem cY.kept (h:cY w m n Kn V)(hb:w'.heap[m]?=w.heap[m]?):cY w' m n Kn V:=by
 obtain ⟨D,⟨u,clock,G,r⟩,H⟩:=h;exact ⟨D,⟨u,clock,hb.trans G,r⟩,H⟩
theorem cY.below (h:cY w m n Kn V)(hb:Below w.heap.size w w'):cY w' m n Kn V:=h.kept (hb.block m h.lt)
theorem cY.set {C:Nat}(h:cY w m n Kn V)(G:m≠C)(x:Value):cY (w.setCell ⟨C,j,none⟩ x) m n Kn V:=by
 obtain ⟨D,u,H⟩:=h;exact ⟨D,u.setCell (by exact G) _,H⟩
theorem cY.made (w:World):cY (w.alloc (.map #[] 0)) w.heap.size 0 (fun _=>false) (fun _=>0) :=
 ⟨.map [],World.ownsMap_made w _ _ _,fun s=>⟨rfl,fun h=>by cases h⟩⟩
theorem cY.congr {u:ByteArray->Bool}{I:ByteArray->Int}(h:cY w m n Kn V)(hK:∀ s,Kn s=u s)(J:∀ s,u s=true->V s=I s):cY w m n u I:=by
 obtain ⟨D,N,H⟩:=h;refine ⟨D,N,fun s=>⟨(H s).1.trans (hK s),fun G=>?_⟩⟩;rw [(H s).2 ((hK s).trans G),J s G]
theorem JU {D:DataW Unit}{k:ByteArray}{x:Int}(H:IsMap D)
  (u:w.ownsMap prog 9 (plainElem prog 3) m (n+1) (D.put (xN k) (.lit (.int .i64 x))))
  (I:∀ s:ByteArray,has D (xN s)=Kn s/\(Kn s=true->D.atKey (xN s) (.lit (.int .i64 0))=.lit (.int .i64 (V s)))) :
  cY w m (n+1) (fun s=>decide (s=k) || Kn s) (fun s=>if s=k then x else V s):=by
 refine ⟨_,u,fun s=>?_⟩
 by_cases e:s=k
 ·subst e
  exact ⟨by rw [has_put_same H (k:=xN s) trivial];simp,fun _=>by rw [atKey_put_same H (k:=xN s) trivial];simp⟩
 refine ⟨by rw [has_put_other (GP e),(I s).1];simp [e],fun J=>?_⟩;have G:Kn s=true:=by simpa [e] using J
 rw [atKey_put_other (GP e),(I s).2 G];simp [e]
def bW (Kn:ByteArray->Bool)(S:Nat->ByteArray):Nat->Bool
 | 0=>true
 | n+1=>bW Kn S n && Kn (S n)
theorem rT (Kn:ByteArray->Bool)(S:Nat->ByteArray):∀ n k,k<n->Kn (S k)=false->bW Kn S n=false
 | 0,_,h,_=>absurd h (Nat.not_lt_zero _)
 | n+1,k,h,e=>by
  unfold bW
  by_cases u:k=n
  ·subst u;rw [e];simp
  rw [rT Kn S n k (by omega) e];rfl
def tC (w:World)(Kn:ByteArray->Bool)(V:ByteArray->Int)(S:Nat->ByteArray)(k:Nat)(e:Ending)(w':World):Prop :=
 Below w.heap.size w w'/\((bW Kn S k=true/\∃ v,e=.returned (.tuple #[v,.bool true])/\mV w' w.heap.size v k (fun i=>V (S i)))\/(bW Kn S k=false/\e=.returned (.tuple #[.slice none 0 0,.bool false])))
theorem uW (n:Nat)(h:n * 8<=140737488351232)(W:World) :
  (Instr.makeSlice 98 (.int .i64 0) (.int .i64 (n:Int))).run prog W=.ok (.slice (some ⟨W.heap.size,0,none⟩) 0 n) (W.alloc (.cells (madeCells #[.int .i64 0] n) 3)):=by
 obtain ⟨I,hi,H,G,u⟩:=info_parts Tryz.infoIntO
 have:=run_make (P:=prog) W 98 3 I (.int .i64 0) underlying98 hi H .i64 .i64 0 (n:Int) (by omega) (by omega) (by rw [u];omega) (by omega);rw [this,G];simp [Value.cells]
variable {k cap:Nat}{S:Nat->ByteArray}{a:Option Addr}
theorem JV (m:Nat)(Kn:ByteArray->Bool)(V:ByteArray->Int)(S:Nat->ByteArray)(a:Option Addr)(cap:Nat)(w:World) :
  Calls prog 54 #[.map (some m),.slice a 0 cap] w (tC w Kn V S 0):=by
 have u:=uW 0 (by decide) w;simp only [Int.ofNat_zero] at u
 go_enter func54,ntmps54
 go_wp2
 clear u;refine wp_loop_rounds 1 ?_;rw [rounds_succ];go_wp2
 refine bodyPost_ret (v:=.tuple #[.slice (some ⟨w.heap.size,0,none⟩) 0 0,.bool true]) (by simp [results,results54,go_sem]) rfl ⟨bA,Or.inl ⟨rfl,_,rfl,mV.made w _ 0 _ (by decide) (size_madeCells _ _) nL _⟩⟩
theorem MX (m n:Nat)(Kn:ByteArray->Bool)(V:ByteArray->Int)(S:Nat->ByteArray)(b off k cap:Nat)(w:World)(hm:cY w m n Kn V)(hk:k<=1048576)(hb:b<w.heap.size)
  (hs:∀ i,i<k->(S i).size<=maxLen) (hc:∀ i,i<k->w.cell? ⟨b,off+i,none⟩=some (.string (S i))) :
  Calls prog 54 #[.map (some m),.slice (some ⟨b,off,none⟩) k cap] w (tC w Kn V S k):=by
 obtain ⟨i0,hi,an,ag,ao⟩:=info_parts Tryz.infoIntO;have ak:=uW k (by omega) w
 go_enter func54,ntmps54
 go_wp2
 clear ak
 go_loopw [6,16] (fun v i wr=>∃ j:Nat,j<=k/\i=.int .i64 j/\He (bW Kn S j=true)/\mV wr w.heap.size v j (fun i=>V (S i))/\Below w.heap.size w wr) (fun _ i _=>k - (intOf i).toNat)
 case atStart=>exact ⟨0,nz,rfl,rfl,mV.made w _ k _ (by unfold maxLen;omega) (size_madeCells _ _) nL _,bA⟩
 case round =>
  obtain ⟨j,hj,rfl,J,H,u⟩:=hrel
  by_cases O:j<k
  ·obtain ⟨D,hD,hK⟩:=hm.below u
   have ax:wr.cell? ⟨b,off+j,none⟩=some (.string (S j)):=(u.cell (by exact hb)).trans (hc j O);have hkey:keyOf prog 9 (.string (S j))=some (.string (S j).data.toList):=Go.WideMaps.keyOf_string_mk underlying9 (hs j O);have G:has D (.string (S j).data.toList)=Kn (S j):=(hK (S j)).1;have Z:He (Kn (S j)=true->D.atKey (.string (S j).data.toList) (.lit (.int .i64 0))=.lit (.int .i64 (V (S j)))):=(hK (S j)).2;have af:j+1<=maxLen:=by unfold maxLen;omega
   have aj:(j+1) * 8<=140737488355328:=by omega
   have ah:∀ q,u6.ownBlock=some q->w.heap.size<=q:=fun q hq=>(World.ownsRow.lt H q hq).1
   have ad:∀ o,w.heap.size<=(wr.alloc o).heap.size:=fun o=>by have:=u.size;simp;omega
   clear hK;cases hkn:Kn (S j)
   ·rw [hkn] at G
    have hv:He (bW Kn S k=false):=rT Kn S k j O hkn
    go_wp2_with (at_lookup;refine wpList_lookup_own_ok_int _ rfl _ _ 46 rfl 9 3 .i64 pQ underlying46 underlying3 (oW _) m n D rfl hD _ _ rfl hkey ?_;intro c ab ai;rw [G])
    refine bodyPost_ret (v:=.tuple #[.slice none 0 0,.bool false]) (by simp [results,results54,go_sem]) rfl ⟨u,Or.inr ⟨hv.o,rfl⟩⟩
   rw [hkn] at G;have U:He (bW Kn S (j+1)=true):=by unfold He bW;rw [J.o,hkn];rfl
   have Y:=Z.o hkn
   go_wp2_with (first
    | (at_lookup;refine wpList_lookup_own_ok_int _ rfl _ _ 46 rfl 9 3 .i64 pQ underlying46 underlying3 (oW _) m n D rfl hD _ _ rfl hkey ?_;intro c ab ai;rw [G];have ae:He (c=V (S j)):=by (have:=ab.symm.trans Y;simpa [He] using this))
    | (at_builtin;refine wpList_append_own _ rfl _ _ 98 rfl w.heap.size 3 i0 (.int .i64 0) 1 8 underlying98 hi an ag ao rfl (by decide) _ _ _ rfl (World.ownsRow.alloc H _) ⟨wr.heap.size,0,none⟩ 1 1 [.int .i64 c] rfl rfl (tX _ _ _) (NL _) af aj (ad _) ?_;intro v2 w2 N I _))
   go_roundw
   case rel=>exact ⟨j+1,by omega,by go_num,U,mV.snoc N ae.o,(u.alloc u.size _).grown I (ad _) ah⟩
   simp [intOf];omega
  have am:j=k:=by omega
  subst am;go_wp2
  refine bodyPost_ret (v:=.tuple #[u6,.bool true]) (by simp [results,results54,go_sem]) rfl ⟨u,Or.inl ⟨J.o,_,rfl,H⟩⟩
theorem IT (w:World)(I:cY w m n Kn V)(G:k<=1048576)(u:dE w a k cap S) :
  Calls prog 54 #[.map (some m),.slice a k cap] w (tC w Kn V S k):=by
 rcases u.cells with rfl|⟨b,off,rfl,hb,H⟩
 ·exact JV m Kn V S a cap w
 exact MX m n Kn V S b off k cap w I G hb u.size H
theorem sB (w:World)(O:cY w m n Kn V)(U:k<=1048576)(N:dE w a k cap S) :
  Calls prog 91 #[.map (some m),.slice a k cap] w fun e w'=>e=.returned (.bool (bW Kn S k))/\Below w.heap.size w w':=by
 go_enter func91,ntmps91
 go_wp2_with fail
 refine (IT w O U N).mono ?_;rintro e w1 ⟨G,u⟩;rcases u with ⟨I,v,rfl,_⟩|⟨J,rfl⟩
 ·have H:He (true=bW Kn S k):=I.symm
  clear I;go_wp2
  go_ret;exact ⟨aC H.o,G⟩
 have H:He (false=bW Kn S k):=J.symm;clear J;go_wp2
 go_ret;exact ⟨aC H.o,G⟩
variable {size:Nat}{e:Ev}
def pL (size:Nat)(e:Ev):Bool :=
 if size=0 then e.ty.toList == [99,114,101,97,116,101] else !(e.ty.toList == [99,114,101,97,116,101]) && (decide (0<e.np) && decide (0<e.na))
def iH (Kn:ByteArray->Bool)(size:Nat)(e:Ev):Int :=
 if e.code≠0 then e.code
 else if Kn e.id=true then 6
 else if bW Kn e.Pv e.np=false\/bW Kn e.Av e.na=false then 7
 else if pL size e=false then 8
 else if 300<=size then 9
 else 0
theorem ZZ (h:e.code≠0):iH Kn size e=e.code:=by rw [iH,if_pos h]
theorem ZG (h:e.code=0)(u:Kn e.id=true):iH Kn size e=6:=by rw [iH,if_neg (by simp [h]),if_pos u]
theorem UG (h:e.code=0)(G:Kn e.id=false)(u:bW Kn e.Pv e.np=false\/bW Kn e.Av e.na=false):iH Kn size e=7:=by
 rw [iH,if_neg (by simp [h]),if_neg (by simp [G]),if_pos u]
theorem ZU (h:e.code=0)(H:Kn e.id=false)(G:bW Kn e.Pv e.np=true)(u:bW Kn e.Av e.na=true)(I:pL size e=false):iH Kn size e=8:=by
 rw [iH,if_neg (by simp [h]),if_neg (by simp [H]),if_neg (by simp [G,u]),if_pos I]
theorem ai0 (h:e.code=0)(G:Kn e.id=false)(J:bW Kn e.Pv e.np=true)(u:bW Kn e.Av e.na=true)(H:pL size e=true)(I:300<=size):iH Kn size e=9:=by
 rw [iH,if_neg (by simp [h]),if_neg (by simp [G]),if_neg (by simp [J,u]),if_neg (by simp [H]),if_pos I]
theorem al0 (h:e.code=0)(G:Kn e.id=false)(J:bW Kn e.Pv e.np=true)(u:bW Kn e.Av e.na=true)(H:pL size e=true)(I:¬ 300<=size):iH Kn size e=0:=by
 rw [iH,if_neg (by simp [h]),if_neg (by simp [G]),if_neg (by simp [J,u]),if_neg (by simp [H]),if_neg I]
theorem mP (h:e.code=0):e.np<=10/\e.na<=10:=by
 unfold Ev.code bF at h;split at h;· cases h
 split at h;· cases h
 split at h;· cases h
 split at h;· cases h
 rename_i h4;constructor
 ·rcases Nat.lt_or_ge 10 e.np with u|u
  ·exact absurd (Or.inl (by unfold cG;rw [decide_eq_false (by omega)];rfl)) h4
  exact u
 rcases Nat.lt_or_ge 10 e.na with u|u
 ·exact absurd (Or.inr (by unfold cG;rw [decide_eq_false (by omega)];rfl)) h4
 exact u
abbrev YD (e:Ev)(pa:Option Addr)(cp:Nat)(aa:Option Addr)(ca:Nat)(ga:Option Addr)(cg:Nat):Array Value :=
 (ec e pa cp aa ca ga cg)
theorem TD (size:Nat)(e:Ev)(pa:Option Addr)(cp:Nat)(aa:Option Addr)(ca:Nat)(ga:Option Addr)(cg:Nat)(w:World)(hp:e.np<=10) :
  Calls prog 92 #[.int .i64 size,e.val' pa cp aa ca ga cg] w fun x w'=>x=.returned (.bool (pL size e))/\Below w.heap.size w w':=by
 have G:∀ o,Below w.heap.size w (w.alloc o):=fun o=>bA
 by_cases J:size=0
 ·subst J
  have I:He ((e.ty.toList == [99,114,101,97,116,101])=pL 0 e):=rfl
  go_enter func92,ntmps92
  go_wp2
  go_ret;exact ⟨aC I.o,G _⟩
 have I:He (pL size e=(!(e.ty.toList == [99,114,101,97,116,101]) && (decide (0<e.np) && decide (0<e.na)))):=by unfold He pL;rw [if_neg J]
 cases ht:(e.ty.toList == [99,114,101,97,116,101])
 ·by_cases H:0<e.np
  ·have u:He (decide (0<e.na)=pL size e):=by unfold He;rw [I.o,ht,decide_eq_true H];rfl
   go_enter func92,ntmps92
   go_wp2
   go_ret;exact ⟨aC u.o,G _⟩
  have u:He (false=pL size e):=by unfold He;rw [I.o,ht,decide_eq_false H];rfl
  have hnp:e.np=0:=by omega
  go_enter func92,ntmps92
  go_wp2
  go_ret;exact ⟨aC u.o,G _⟩
 have u:He (false=pL size e):=by unfold He;rw [I.o,ht];rfl
 go_enter func92,ntmps92
 go_wp2
 go_ret;exact ⟨aC u.o,G _⟩
end Go.Proofs.YtpfeegcdlikegaaGreat
namespace Go.Proofs.YtpfeegcdlikegaaGreat
open Go.RowKit Go.Proofs.Tryz
theorem xH (c:Int)(w:World) :
  Calls prog 86 #[.int .u8 c] w fun e w'=>e=.returned (.bool (BP c))/\w'=w:=by
 go_enter func86,ntmps86
 go_wp2
 all_goals (go_ret;exact ⟨aC (by rw [Bool.eq_iff_iff];simp [BP] <;> omega),rfl⟩)
theorem aW (s:ByteArray)(w:World)(H:s.size<=maxLen) :
  Calls prog 40 #[.string s] w fun e w'=>e=.returned (.bool (cU s))/\w'=w:=by
 unfold maxLen at H
 go_enter func40,ntmps40
 go_wp2
 go_loop [3] (fun i=>∃ k:Nat,k<=s.size/\i=.int .i64 k/\He (((uK s).take k).all BP=true)) (fun i=>s.size - (intOf i).toNat)
 case atStart=>exact ⟨0,nz,rfl,rfl⟩
 case round =>
  obtain ⟨k,I,rfl,u⟩:=hrel
  by_cases G:k<s.size
  ·go_wp2_with (go_at_call 86;refine (xH _ _).mono ?_;rintro e w' ⟨rfl,rfl⟩)
   ·go_ret
    refine ⟨aC ?_,rfl⟩;rw [qR s k G (by simpa using (by assumption:(!BP (s[k].toNat:Int))=true))]
   go_round
   case rel=>exact ⟨k+1,by omega,by go_num,by unfold He;rw [nG s k G,u.o];simpa using (by assumption:(!BP (s[k].toNat:Int))=false)⟩
   simp [intOf];omega
  go_wp2
  all_goals
   go_ret;refine ⟨aC ?_,rfl⟩;rw [sT s (by rw [<- List.take_of_length_le (show (uK s).length<=k by rw [kS];omega)];exact u.o)];rw [Bool.eq_iff_iff];simp <;> omega
theorem iK (b off n cap:Nat)(S:Nat->ByteArray)(s:ByteArray)(w:World)(I:n<=maxLen)
  (J:∀ i,i<n->w.cell? ⟨b,off+i,none⟩=some (.string (S i))) :
  Calls prog 80 #[.slice (some ⟨b,off,none⟩) n cap,.string s] w fun e w'=>e=.returned (.bool (bD S n s))/\w'=w:=by
 unfold maxLen at I
 go_enter func80,ntmps80
 go_wp2
 go_loop [5] (fun i=>∃ k:Nat,k<=n/\i=.int .i64 k/\He (bD S k s=false)) (fun i=>n - (intOf i).toNat)
 case atStart=>exact ⟨0,nz,rfl,rfl⟩
 case round =>
  obtain ⟨k,N,rfl,u⟩:=hrel
  by_cases G:k<n
  ·have H:=J k G
   go_wp2
   ·go_ret
    exact ⟨aC (yG S s n k G (by assumption)).symm,rfl⟩
   go_round
   case rel=>exact ⟨k+1,by omega,by go_num,by unfold He bD;rw [u.o];simpa using (by assumption:((S k).toList == s.toList)=false)⟩
   simp [intOf];omega
  go_wp2
  go_ret;refine ⟨aC ?_,rfl⟩;rw [show n=k by omega,u.o]
theorem KX (b off n cap:Nat)(S:Nat->ByteArray)(id:ByteArray)(w:World)(hn:n<=cap)(O:cap<=maxLen)
  (Y:∀ i,i<n->(S i).size<=maxLen)
  (hc:∀ i,i<n->w.cell? ⟨b,off+i,none⟩=some (.string (S i))) :
  Calls prog 41 #[.slice (some ⟨b,off,none⟩) n cap,.string id] w fun e w'=>e=.returned (.bool (cG S n id))/\Dr w w':=by
 have J:=O;unfold maxLen at J
 by_cases U:n<=10
 ·go_enter func41,ntmps41
  go_wp2
  go_loopw [5] (fun i wr=>∃ k:Nat,k<=n/\i=.int .i64 k/\He (fM S id k=true)/\Dr w wr) (fun i _=>n - (intOf i).toNat)
  case atStart=>exact ⟨0,nz,rfl,rfl,Dr.refl _⟩
  case round =>
   obtain ⟨k,hk,rfl,I,G⟩:=hrel;have N:∀ i,i<n->wr.cell? ⟨b,off+i,none⟩=some (.string (S i)):=fun i hi=>(G.cell _).trans (hc i hi)
   by_cases H:k<n
   ·have Z:=N k H
    have u:=Y k H;cases h1:cU (S k)
    ·go_wp2_with fail
     go_quiet ((go_at_call 40;exact Calls.quiet_of_same (aW _ _ u)))
     go_wp2
     go_ret;exact ⟨aC (by rw [cG,mS S id n k H (by unfold fM;rw [h1];simp)];simp),G.drewN _⟩
    cases h2:((S k).toList == id.toList)
    ·cases h3:bD S k (S k)
     ·go_wp2_with fail
      go_quiet ((first|(go_at_call 40;exact Calls.quiet_of_same (aW _ _ u))|(go_at_call 80;exact Calls.quiet_of_same (iK b off k cap S _ _ (by omega) (fun i hi=>N i (by omega))))))
      go_wp2
      go_roundw
      case rel=>exact ⟨k+1,by omega,by go_num,by unfold He fM;rw [I.o,h1,h2,h3];rfl,G.drewN _⟩
      simp [intOf];omega
     go_wp2_with fail
     go_quiet ((first|(go_at_call 40;exact Calls.quiet_of_same (aW _ _ u))|(go_at_call 80;exact Calls.quiet_of_same (iK b off k cap S _ _ (by omega) (fun i hi=>N i (by omega))))))
     go_wp2
     go_ret;exact ⟨aC (by rw [cG,mS S id n k H (by unfold fM;rw [h3];simp)];simp),G.drewN _⟩
    go_wp2_with fail
    go_quiet ((go_at_call 40;exact Calls.quiet_of_same (aW _ _ u)))
    go_wp2
    go_ret;exact ⟨aC (by rw [cG,mS S id n k H (by unfold fM;rw [h2];simp)];simp),G.drewN _⟩
   go_wp2
   go_ret;refine ⟨aC ?_,G⟩;rw [cG,show n=k by omega,I.o];simp;omega
 go_enter func41,ntmps41
 go_wp2
 go_ret;exact ⟨aC (by simp [cG,U]),Dr.refl _⟩
theorem oG (s:ByteArray)(h:0<s.size)(u:(s[0].toNat:Int)=42\/((s[0].toNat:Int) == 42)=true\/((s[0].toNat:Int) == 35)=true):gF s=s.extract 1 s.size:=by
 rw [gF,vZ s h,if_pos];simp only [Bool.or_eq_true];rcases u with u|u|u
 ·exact Or.inl (by simpa using u)
 ·exact Or.inl u
 exact Or.inr u
theorem GC (s:ByteArray)(h:0<s.size)(u:((s[0].toNat:Int) == 42)=false/\((s[0].toNat:Int) == 35)=false):gF s=s:=by
 rw [gF,vZ s h,u.1,u.2];simp
theorem uX (s:ByteArray)(h:s.size=0):gF s=s:=by
 rw [gF,ED s h];simp
theorem iO (s:ByteArray)(w:World)(u:s.size<=maxLen) :
  Calls prog 133 #[.string s] w fun e w'=>e=.returned (.bool (lU s))/\w'=w:=by
 have G:=u;unfold maxLen at G;have hex:(s.extract 1 s.size).size<=maxLen:=by rw [ByteArray.size_extract];unfold maxLen;omega
 go_enter func133,ntmps133
 go_wp2_with fail
 ·refine (aW _ _ hex).mono ?_
  rintro e w' ⟨rfl,rfl⟩;go_wp2
  go_ret;exact ⟨aC (by rw [lU,oG s (by assumption) (Or.inl (by assumption))]),rfl⟩
 ·refine (aW _ _ hex).mono ?_
  rintro e w' ⟨rfl,rfl⟩;go_wp2
  go_ret;exact ⟨aC (by rw [lU,oG s (by assumption) (Or.inr (by assumption))]),rfl⟩
 ·refine (aW _ _ u).mono ?_
  rintro e w' ⟨rfl,rfl⟩;go_wp2
  go_ret;exact ⟨aC (by rw [lU,GC s (by assumption) (by assumption)]),rfl⟩
 refine (aW _ _ u).mono ?_;rintro e w' ⟨rfl,rfl⟩;have H:¬ 0<s.size:=by assumption
 go_wp2
 go_ret;exact ⟨aC (by rw [lU,uX s (by omega)]),rfl⟩
theorem TR (b off n cap:Nat)(M:Nat->ByteArray)(L:Nat->Int)(w:World)(hn:n<=maxLen)
  (Z:∀ i,i<n->(M i).size<=maxLen)
  (U:∀ i,i<n->w.cell? ⟨b,off+i * 2,none⟩=some (.string (M i)))
  (hl:∀ i,i<n->w.cell? ⟨b,off+i * 2+1,none⟩=some (.int .i64 (L i))) :
  Calls prog 87 #[.slice (some ⟨b,off,none⟩) n cap] w fun e w'=>e=.returned (.bool (rC M L n))/\Dr w w':=by
 unfold maxLen at hn
 go_enter func87,ntmps87
 go_wp2
 go_loopw [3] (fun i wr=>∃ k:Nat,k<=n/\i=.int .i64 k/\He (fX M L k=true)/\Dr w wr) (fun i _=>n - (intOf i).toNat)
 case atStart=>exact ⟨0,nz,rfl,rfl,Dr.refl _⟩
 case round =>
  obtain ⟨k,hk,rfl,I,u⟩:=hrel
  by_cases H:k<n
  ·have ae:wr.cell? ⟨b,off+k * 2,none⟩=some (.string (M k)):=(u.cell _).trans (U k H)
   have ab:wr.cell? ⟨b,off+k * 2+1,none⟩=some (.int .i64 (L k)):=(u.cell _).trans (hl k H);have G:=Z k H;cases hnm:lU (M k)
   ·go_wp2_with (go_at_call 133;refine (iO _ _ G).mono ?_;rintro e w' ⟨rfl,rfl⟩)
    go_ret;exact ⟨aC (by rw [rC,eX M L n k H (by rw [fX,hnm];simp)];simp),u⟩
   by_cases N:L k < -1000000
   ·go_wp2_with (go_at_call 133;refine (iO _ _ G).mono ?_;rintro e w' ⟨rfl,rfl⟩)
    go_ret;exact ⟨aC (by rw [rC,eX M L n k H (by rw [fX];simp [N])];simp),u⟩
   by_cases O:1000000<L k
   ·go_wp2_with (go_at_call 133;refine (iO _ _ G).mono ?_;rintro e w' ⟨rfl,rfl⟩)
    go_ret;exact ⟨aC (by rw [rC,eX M L n k H (by rw [fX];simp [O])];simp),u⟩
   by_cases J:k=0
   ·have af:decide (0<k)=false:=by simp;omega
    have Y:He (k=0):=J;clear J
    go_wp2_with (go_at_call 133;refine (iO _ _ G).mono ?_;rintro e w' ⟨rfl,rfl⟩)
    go_quiet (fail)
    go_wp2
    go_roundw
    case rel=>exact ⟨k+1,by omega,by go_num,by unfold He;rw [fX,I.o,hnm,Y.o];simp;rw [Y.o] at N O;omega,u.drewN _⟩
    simp [intOf];omega
   obtain ⟨j,rfl⟩:∃ j,k=j+1:=⟨k - 1,by omega⟩;have ad:wr.cell? ⟨b,off+j * 2,none⟩=some (.string (M j)):=(u.cell _).trans (U j (by omega));cases hL:Op.bytesLess (M j).toList (M (j+1)).toList
   ·go_wp2_with (go_at_call 133;refine (iO _ _ G).mono ?_;rintro e w' ⟨rfl,rfl⟩)
    go_quiet (fail)
    go_wp2
    go_ret;exact ⟨aC (by rw [rC,eX M L n (j+1) H (by rw [fX,show j+1 - 1=j from rfl,hL];simp)];simp),u.drewN _⟩
   go_wp2_with (go_at_call 133;refine (iO _ _ G).mono ?_;rintro e w' ⟨rfl,rfl⟩)
   go_quiet (fail)
   go_wp2
   go_roundw
   case rel=>exact ⟨j+1+1,by omega,by go_num,by unfold He;rw [fX,I.o,hnm,show j+1 - 1=j from rfl,hL];simp;omega,u.drewN _⟩
   simp [intOf];omega
  go_wp2
  go_ret;refine ⟨aC ?_,u⟩;rw [rC,show n=k by omega,I.o];simp only [Bool.true_and,decide_eq_decide];omega
end Go.Proofs.YtpfeegcdlikegaaGreat
