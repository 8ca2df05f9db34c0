import Derived.Test.YtnbdlaglnefcbaaGreatCmpPZ
import Derived.Maps.OwnSet
namespace Go.Proofs.YtnbdlaglnefcbaaGreat
open Go.RowKit
def agTo (L:Nat->List Ent)(x:Ent):Nat->Bool
 | 0=>true
 | k+1=>agTo L x k && ((findB (L k) x.ty x.key).toList == x.id.toList)
theorem agTo_le (L:Nat->List Ent)(x:Ent):∀ n k,k<n->agTo L x (k+1)=false->agTo L x n=false
 | n+1,k,h,h1=>by
  by_cases e:k=n
  ·rw [<- e];exact h1
  ·rw [agTo,agTo_le L x n k (by omega) h1];rfl
theorem agTo_all {L:Nat->List Ent}{x:Ent}:∀ {n},agTo L x n=true->∀ k,k<n->findB (L k) x.ty x.key=x.id
 | n+1,h,k,hk=>by
  rw [agTo,Bool.and_eq_true] at h
  by_cases e:k=n
  ·subst e
   rw [beq_iff_eq,ByteArray.toList_eq,ByteArray.toList_eq] at h
   exact ba_eq h.2
  ·exact agTo_all h.1 k (by omega)
def okTo (L:Nat->List Ent):Nat->Bool
 | 0=>true
 | k+1=>okTo L k && stB (L k)
theorem okTo_le (L:Nat->List Ent):∀ n k,k<n->okTo L (k+1)=false->okTo L n=false
 | n+1,k,h,h1=>by
  by_cases e:k=n
  ·rw [<- e];exact h1
  ·rw [okTo,okTo_le L n k (by omega) h1];rfl
def spOk (L:Nat->List Ent)(n:Nat):Bool:=decide (n<=20) && okTo L n
def InS (L:Nat->List Ent)(n:Nat)(x:Ent):Prop:=∃ i,i<n∧x ∈ L i
structure SpFin (L:Nat->List Ent)(n:Nat)(Se:List Ent)(So:List ByteArray):Prop where
 srt:SrtE Se
 mem:∀ x,x ∈ Se↔agTo L x n=true∧InS L n x
 srtO:Srt So
 memO:∀ t,t ∈ So↔∃ x,(agTo L x n=false∧InS L n x)∧x.id=t
def saK (L:Nat->List Ent)(n:Nat)(acc l:List Ent):Nat->List Ent
 | 0=>acc
 | k+1=>if agTo L (eAt l k) n then setL (saK L n acc l k) (eAt l k) false else saK L n acc l k
def saI (L:Nat->List Ent)(n:Nat):Nat->List Ent
 | 0=>[]
 | i+1=>saK L n (saI L n i) (L i) (L i).length
def otK (L:Nat->List Ent)(n:Nat)(acc:List ByteArray)(l:List Ent):Nat->List ByteArray
 | 0=>acc
 | k+1=>if agTo L (eAt l k) n then otK L n acc l k else otK L n acc l k ++ [(eAt l k).id]
def otI (L:Nat->List Ent)(n:Nat):Nat->List ByteArray
 | 0=>[]
 | i+1=>otK L n (otI L n i) (L i) (L i).length
theorem saK_len (L:Nat->List Ent)(n:Nat)(acc l:List Ent):∀ k,(saK L n acc l k).length<=acc.length+k
 | 0=>Nat.le_refl _
 | k+1=>by
  have:=saK_len L n acc l k
  have:=setL_len (saK L n acc l k) (eAt l k) false
  unfold saK
  split <;> omega
theorem otK_len (L:Nat->List Ent)(n:Nat)(acc:List ByteArray)(l:List Ent):∀ k,(otK L n acc l k).length<=acc.length+k
 | 0=>Nat.le_refl _
 | k+1=>by
  have:=otK_len L n acc l k
  unfold otK
  split
  ·omega
  ·simp;omega
theorem saI_len {L:Nat->List Ent}(n:Nat):∀ {i},okTo L i=true->(saI L n i).length<=i * 300
 | 0,_=>Nat.le_refl _
 | i+1,h=>by
  rw [okTo,Bool.and_eq_true] at h
  have:=saI_len n h.1
  have:=saK_len L n (saI L n i) (L i) (L i).length
  have:=(st_parts h.2).1
  unfold saI
  omega
theorem otI_len {L:Nat->List Ent}(n:Nat):∀ {i},okTo L i=true->(otI L n i).length<=i * 300
 | 0,_=>Nat.le_refl _
 | i+1,h=>by
  rw [okTo,Bool.and_eq_true] at h
  have:=otI_len n h.1
  have:=otK_len L n (otI L n i) (L i) (L i).length
  have:=(st_parts h.2).1
  unfold otI
  omega
theorem saK_ok {L:Nat->List Ent}(n:Nat){acc l:List Ent}(h:AllOk acc)(hl:AllOk l):∀ k,k<=l.length->AllOk (saK L n acc l k)
 | 0,_=>h
 | k+1,hk=>by
  have ih:=saK_ok (L:=L) n h hl k (by omega)
  unfold saK
  split
  ·exact ih.set (hl.at k (by omega))
  ·exact ih
theorem saI_ok {L:Nat->List Ent}(n:Nat):∀ {i},(∀ j,j<i->AllOk (L j))->AllOk (saI L n i)
 | 0,_=>fun x hx=>by cases hx
 | i+1,h=>saK_ok n (saI_ok n (fun j hj=>h j (by omega))) (h i (by omega)) _ (Nat.le_refl _)
theorem otK_ok {L:Nat->List Ent}(n:Nat){acc:List ByteArray}{l:List Ent}(h:∀ t ∈ acc,t.size<=maxLen)(hl:AllOk l):∀ k,k<=l.length->∀ t ∈ otK L n acc l k,t.size<=maxLen
 | 0,_=>h
 | k+1,hk=>by
  have ih:=otK_ok (L:=L) n h hl k (by omega)
  unfold otK
  split
  ·exact ih
  ·intro t ht
   rcases List.mem_append.1 ht with h'|h'
   ·exact ih t h'
   ·rw [List.mem_singleton] at h'
    subst h'
    exact (hl.at k (by omega)).2.2
theorem otI_ok {L:Nat->List Ent}(n:Nat):∀ {i},(∀ j,j<i->AllOk (L j))->∀ t ∈ otI L n i,t.size<=maxLen
 | 0,_=>fun x hx=>by cases hx
 | i+1,h=>otK_ok n (otI_ok n (fun j hj=>h j (by omega))) (h i (by omega)) _ (Nat.le_refl _)
theorem ag_same {L:Nat->List Ent}{n:Nat}{x y:Ent}(hn:0<n)(hx:agTo L x n=true)(hy:agTo L y n=true)(e:x.ty=y.ty∧x.key=y.key):x=y:=by
 have h1:=agTo_all hx 0 hn
 have h2:=agTo_all hy 0 hn
 rw [e.1,e.2,h2] at h1
 obtain ⟨xt,xk,xi⟩:=x
 obtain ⟨yt,yk,yi⟩:=y
 simp only at e h1
 rw [e.1,e.2,h1]
theorem saK_in {L:Nat->List Ent}{n:Nat}(hn:0<n){acc l:List Ent}(h:SrtE acc)(ha:∀ x ∈ acc,agTo L x n=true)(hi:Ids l):∀ k,k<=l.length->SrtE (saK L n acc l k)∧∀ x,x ∈ saK L n acc l k↔(x ∈ acc∨(agTo L x n=true∧∃ j,j<k∧eAt l j=x))
 | 0,_=>⟨h,fun x=>⟨fun hx=>Or.inl hx,fun hx=>hx.elim id (fun ⟨_,j,hj,_⟩=>absurd hj (Nat.not_lt_zero _))⟩⟩
 | k+1,hk=>by
  obtain ⟨ih1,ih2⟩:=saK_in hn h ha hi k (by omega)
  unfold saK
  by_cases hag:agTo L (eAt l k) n=true
  ·rw [if_pos hag]
   refine ⟨setL_srt ih1 _ _,fun x=>?_⟩
   have hall:∀ y ∈ saK L n acc l k,agTo L y n=true:=fun y hy=>((ih2 y).1 hy).elim (ha y) (fun h'=>h'.1)
   have hkp:kept (eAt l k) false=true:=by unfold kept;rw [hi _ (eAt_mem l k (by omega))];rfl
   rw [setL_in ih1]
   constructor
   ·rintro (⟨h1,_⟩|⟨rfl,_⟩)
    ·rcases (ih2 x).1 h1 with h'|⟨h',j,hj,e⟩
     ·exact Or.inl h'
     ·exact Or.inr ⟨h',j,by omega,e⟩
    ·exact Or.inr ⟨hag,k,by omega,rfl⟩
   ·intro hx
    by_cases e:x=eAt l k
    ·exact Or.inr ⟨e,hkp⟩
    ·have hin:x ∈ saK L n acc l k:=by
      rcases hx with h'|⟨h',j,hj,ej⟩
      ·exact (ih2 x).2 (Or.inl h')
      ·by_cases ejk:j=k
       ·subst ejk;exact absurd ej.symm e
       ·exact (ih2 x).2 (Or.inr ⟨h',j,by omega,ej⟩)
     exact Or.inl ⟨hin,fun es=>e (ag_same hn (hall x hin) hag es)⟩
  ·rw [if_neg hag]
   refine ⟨ih1,fun x=>?_⟩
   rw [ih2]
   constructor
   ·rintro (h'|⟨h',j,hj,e⟩)
    ·exact Or.inl h'
    ·exact Or.inr ⟨h',j,by omega,e⟩
   ·rintro (h'|⟨h',j,hj,e⟩)
    ·exact Or.inl h'
    ·by_cases ejk:j=k
     ·subst ejk;subst e;exact absurd h' hag
     ·exact Or.inr ⟨h',j,by omega,e⟩
theorem mem_eAt {l:List Ent}{x:Ent}:x ∈ l↔∃ j,j<l.length∧eAt l j=x:=by
 constructor
 ·intro h
  obtain ⟨j,hj,rfl⟩:=List.mem_iff_getElem.1 h
  exact ⟨j,hj,eAt_get l j hj⟩
 ·rintro ⟨j,hj,rfl⟩
  exact eAt_mem l j hj
theorem saI_in {L:Nat->List Ent}{n:Nat}(hn:0<n):∀ {i},okTo L i=true->SrtE (saI L n i)∧∀ x,x ∈ saI L n i↔agTo L x n=true∧InS L i x
 | 0,_=>⟨List.Pairwise.nil,fun x=>⟨fun h=>(by cases h),fun ⟨_,j,hj,_⟩=>absurd hj (Nat.not_lt_zero _)⟩⟩
 | i+1,h=>by
  rw [okTo,Bool.and_eq_true] at h
  obtain ⟨ih1,ih2⟩:=saI_in hn h.1
  obtain ⟨h1,h2⟩:=saK_in (L:=L) hn ih1 (fun x hx=>((ih2 x).1 hx).1) (st_parts h.2).2.2 _ (Nat.le_refl (L i).length)
  unfold saI
  refine ⟨h1,fun x=>?_⟩
  rw [h2,ih2,<- mem_eAt]
  constructor
  ·rintro (⟨h',j,hj,e⟩|⟨h',e⟩)
   ·exact ⟨h',j,by omega,e⟩
   ·exact ⟨h',i,by omega,e⟩
  ·rintro ⟨h',j,hj,e⟩
   by_cases eji:j=i
   ·subst eji;exact Or.inr ⟨h',e⟩
   ·exact Or.inl ⟨h',j,by omega,e⟩
theorem otK_in (L:Nat->List Ent)(n:Nat)(acc:List ByteArray)(l:List Ent)(t:ByteArray):∀ k,t ∈ otK L n acc l k↔(t ∈ acc∨∃ j,j<k∧agTo L (eAt l j) n=false∧(eAt l j).id=t)
 | 0=>⟨fun hx=>Or.inl hx,fun hx=>hx.elim id (fun ⟨j,hj,_⟩=>absurd hj (Nat.not_lt_zero _))⟩
 | k+1=>by
  have ih:=otK_in L n acc l t k
  unfold otK
  by_cases hag:agTo L (eAt l k) n=true
  ·rw [if_pos hag,ih]
   constructor
   ·rintro (h'|⟨j,hj,e⟩)
    ·exact Or.inl h'
    ·exact Or.inr ⟨j,by omega,e⟩
   ·rintro (h'|⟨j,hj,e⟩)
    ·exact Or.inl h'
    ·by_cases ejk:j=k
     ·subst ejk;rw [hag] at e;cases e.1
     ·exact Or.inr ⟨j,by omega,e⟩
  ·rw [if_neg hag,List.mem_append,ih,List.mem_singleton]
   have hag':agTo L (eAt l k) n=false:=by simpa using hag
   constructor
   ·rintro ((h'|⟨j,hj,e⟩)|h')
    ·exact Or.inl h'
    ·exact Or.inr ⟨j,by omega,e⟩
    ·exact Or.inr ⟨k,by omega,hag',h'.symm⟩
   ·rintro (h'|⟨j,hj,e⟩)
    ·exact Or.inl (Or.inl h')
    ·by_cases ejk:j=k
     ·subst ejk;exact Or.inr e.2.symm
     ·exact Or.inl (Or.inr ⟨j,by omega,e⟩)
theorem otI_in (L:Nat->List Ent)(n:Nat)(t:ByteArray):∀ i,t ∈ otI L n i↔∃ x,(agTo L x n=false∧InS L i x)∧x.id=t
 | 0=>⟨fun h=>(by cases h),fun ⟨x,⟨_,j,hj,_⟩,_⟩=>absurd hj (Nat.not_lt_zero _)⟩
 | i+1=>by
  unfold otI
  rw [otK_in,otI_in L n t i]
  constructor
  ·rintro (⟨x,⟨h1,j,hj,e⟩,h2⟩|⟨j,hj,h1,h2⟩)
   ·exact ⟨x,⟨h1,j,by omega,e⟩,h2⟩
   ·exact ⟨_,⟨h1,i,by omega,eAt_mem _ j hj⟩,h2⟩
  ·rintro ⟨x,⟨h1,j,hj,e⟩,h2⟩
   by_cases eji:j=i
   ·subst eji
    obtain ⟨q,hq,rfl⟩:=mem_eAt.1 e
    exact Or.inr ⟨q,hq,h1,h2⟩
   ·exact Or.inl ⟨x,⟨h1,j,by omega,e⟩,h2⟩
theorem spFin_unique {L:Nat->List Ent}{n:Nat}{Se Se':List Ent}{So So':List ByteArray}(h:SpFin L n Se So)(h':SpFin L n Se' So'):Se=Se'∧So=So' :=
 ⟨srt_ext h.srt h'.srt (fun x=>(h.mem x).trans (h'.mem x).symm),srt_unique h.srtO h'.srtO (fun t=>(h.memO t).trans (h'.memO t).symm)⟩
structure SlI (w:World)(a:Option Addr)(n cap:Nat)(X:Nat->Int):Prop where
 le:n<=cap
 max:cap<=maxLen
 cells:n=0∨∃ b off,a=some ⟨b,off,none⟩∧b<w.heap.size∧∀ i,i<n->w.cell? ⟨b,off+i,none⟩=some (.int .i64 (X i))
theorem SlI.below {w w':World}{a:Option Addr}{n cap:Nat}{X:Nat->Int}(h:SlI w a n cap X)(hb:Below w.heap.size w w'):SlI w' a n cap X :=
 ⟨h.le,h.max,h.cells.imp id fun ⟨b,off,e,hlt,hc⟩=>⟨b,off,e,Nat.lt_of_lt_of_le hlt hb.size,fun i hi=>(hb.cell (by exact hlt)).trans (hc i hi)⟩⟩
def RowAt (w:World)(B o n:Nat)(X:Nat->Int):Prop:=∃ ra rc,w.cell? ⟨B,o,none⟩=some (.slice ra n rc)∧SlI w ra n rc X
structure SlL (w:World)(a:Option Addr)(n cap:Nat)(rn:Nat->Nat)(X:Nat->Nat->Int):Prop where
 le:n<=cap
 max:cap<=maxLen
 cells:n=0∨∃ b off,a=some ⟨b,off,none⟩∧b<w.heap.size∧∀ i,i<n->RowAt w b (off+i) (rn i) (X i)
theorem Tryz.infoIntO:(Tryz.prog.info? 3).map (fun i=>(i.zero,i.size,i.bytes))=some (some (.int .i64 0),1,8):=by kernel_rfl
theorem ownsRow_blwI {w w':World}{base e size n:Nat}{v:Value}{xs:List Value}(h:w.ownsRow base e size v n xs)(hb:Below w.heap.size w w'):w'.ownsRow base e size v n xs:=by
 obtain ⟨h1,h2⟩:=h
 refine ⟨h1,?_⟩
 rcases h2 with h2|⟨g,cap,cur,hv,hg,hh,r⟩
 ·exact Or.inl h2
 ·have hlt:g<w.heap.size:=by
   rcases Nat.lt_or_ge g w.heap.size with h'|h'
   ·exact h'
   ·rw [Array.getElem?_eq_none h'] at hh;cases hh
  exact Or.inr ⟨g,cap,cur,hv,hg,by rw [hb.block g hlt];exact hh,r⟩
def ints (X:Nat->Int)(n:Nat):List Value:=(List.range n).map fun i=>.int .i64 (X i)
theorem ints_get (X:Nat->Int)(n i:Nat)(h:i<n):(ints X n)[i]?=some (.int .i64 (X i)):=by simp [ints,h]
theorem ints_snoc (X:Nat->Int)(n:Nat):ints X n ++ [.int .i64 (X n)]=ints X (n+1):=by simp [ints,List.range_succ]
def OwnI (w:World)(base:Nat)(v:Value)(n:Nat)(X:Nat->Int):Prop:=w.ownsRow base 3 1 v n (ints X n)
theorem OwnI.snoc {w:World}{base n:Nat}{v:Value}{X:Nat->Int}{x:Int}(h:w.ownsRow base 3 1 v (n+1) (ints X n ++ [.int .i64 x]))(hx:x=X n):OwnI w base v (n+1) X:=by
 subst hx;rw [ints_snoc] at h;exact h
theorem OwnI.made (w:World)(base m:Nat)(cs:Array Value)(hm:m<=maxLen)(hc:cs.size=m)(hb:base<=w.heap.size)(X:Nat->Int):OwnI (w.alloc (.cells cs 3)) base (.slice (some ⟨w.heap.size,0,none⟩) 0 m) 0 X :=
 ⟨rfl,Or.inr ⟨w.heap.size,m,cs,rfl,hb,by show (w.heap.push _)[w.heap.size]?=_;simp,Nat.zero_le _,hm,by rw [hc,Nat.mul_one],by simp [ints]⟩⟩
theorem OwnI.cells {w:World}{base n:Nat}{v:Value}{X:Nat->Int}(h:OwnI w base v n X) :
  (v=.slice none 0 0∧n=0)∨∃ g cap,v=.slice (some ⟨g,0,none⟩) n cap∧base<=g∧g<w.heap.size∧n<=cap∧cap<=maxLen∧∀ i,i<n->w.cell? ⟨g,0+i,none⟩=some (.int .i64 (X i)):=by
 obtain ⟨h1,h2⟩:=h
 rcases h2 with ⟨rfl,h0⟩|⟨g,cap,cur,rfl,hg,hh,hn,hc,hcs,hx⟩
 ·exact Or.inl ⟨rfl,h0⟩
 ·have hlt:g<w.heap.size:=by
   rcases Nat.lt_or_ge g w.heap.size with h'|h'
   ·exact h'
   ·rw [Array.getElem?_eq_none h'] at hh;cases hh
  refine Or.inr ⟨g,cap,rfl,hg,hlt,hn,hc,fun j hj=>?_⟩
  rw [<- ints_get X n j hj,<- hx,List.getElem?_take,if_pos (by omega),Nat.zero_add]
  simp [World.cell?,hh]
theorem OwnI.sl {w:World}{base n:Nat}{v:Value}{X:Nat->Int}(h:OwnI w base v n X):∃ a cap,v=.slice a n cap∧SlI w a n cap X:=by
 rcases h.cells with ⟨rfl,rfl⟩|⟨g,cap,rfl,hg,hlt,hn,hc,hx⟩
 ·exact ⟨none,0,rfl,⟨Nat.le_refl _,by decide,Or.inl rfl⟩⟩
 ·exact ⟨_,cap,rfl,⟨hn,hc,Or.inr ⟨g,0,rfl,hlt,hx⟩⟩⟩
theorem one_cellsI (w1:World)(x:Value)(t:TypeId)(j:Nat)(u:Value)(h:[x][j]?=some u):(w1.alloc (.cells #[x] t)).cell? ((⟨w1.heap.size,0,none⟩:Addr).add j)=some u:=by
 have hj:j<1:=by
  rcases Nat.lt_or_ge j 1 with h'|h'
  ·exact h'
  ·rw [List.getElem?_eq_none (by simpa using h')] at h;cases h
 match j,hj,h with
 | 0,_,h=>rw [show (⟨w1.heap.size,0,none⟩:Addr).add 0=⟨w1.heap.size,0,none⟩ from rfl,World.cell?_alloc_at _ _ _ _ rfl];exact h
theorem one_oneI (x:Int)(u:Value)(h:u ∈ [Value.int .i64 x]):u.oneCell'=true:=by
 simp only [List.mem_cons,List.not_mem_nil,or_false] at h
 subst h;rfl
end Go.Proofs.YtnbdlaglnefcbaaGreat
namespace Go.Proofs.YtnbdlaglnefcbaaGreat
open Go.RowKit Go.Maps Go.ChangeMaps
theorem lawStr:Keyed Tryz.prog 9:=string_keyed Tryz.underlying9
theorem zeroInt (w:World):(zeroValue 3).run Tryz.prog w=.ok (.int .i64 0) w:=by kernel_rfl
abbrev keyL (s:ByteArray):Lit:=.string s.data.toList
theorem keyL_ne {s t:ByteArray}(h:s≠t):keyL s≠keyL t:=fun e=>h (by
 injection e with e
 obtain ⟨s⟩:=s;obtain ⟨t⟩:=t
 exact congrArg _ (Array.toList_inj.1 e))
def MapAt (w:World)(m n:Nat)(Kn:ByteArray->Bool)(V:ByteArray->Int):Prop :=
 ∃ D:DataW Unit,w.ownsMap Tryz.prog 9 (plainElem Tryz.prog 3) m n D∧∀ s:ByteArray,has D (keyL s)=Kn s∧(Kn s=true->D.atKey (keyL s) (.lit (.int .i64 0))=.lit (.int .i64 (V s)))
theorem MapAt.lt {w:World}{m n:Nat}{Kn:ByteArray->Bool}{V:ByteArray->Int}(h:MapAt w m n Kn V):m<w.heap.size:=by
 obtain ⟨D,h,_⟩:=h;exact h.lt
theorem MapAt.kept {w w':World}{m n:Nat}{Kn:ByteArray->Bool}{V:ByteArray->Int}(h:MapAt w m n Kn V)(hb:w'.heap[m]?=w.heap[m]?):MapAt w' m n Kn V:=by
 obtain ⟨D,⟨es,clock,h1,r⟩,h2⟩:=h
 exact ⟨D,⟨es,clock,hb.trans h1,r⟩,h2⟩
theorem MapAt.below {w w':World}{m n:Nat}{Kn:ByteArray->Bool}{V:ByteArray->Int}(h:MapAt w m n Kn V)(hb:Below w.heap.size w w'):MapAt w' m n Kn V:=h.kept (hb.block m h.lt)
theorem MapAt.set {w:World}{m n C j:Nat}{Kn:ByteArray->Bool}{V:ByteArray->Int}(h:MapAt w m n Kn V)(hC:m≠C)(x:Value):MapAt (w.setCell ⟨C,j,none⟩ x) m n Kn V:=by
 obtain ⟨D,h1,h2⟩:=h
 exact ⟨D,h1.setCell (by exact hC) _,h2⟩
theorem MapAt.made (w:World):MapAt (w.alloc (.map #[] 0)) w.heap.size 0 (fun _=>false) (fun _=>0) :=
 ⟨.map [],World.ownsMap_made w _ _ _,fun s=>⟨rfl,fun h=>by cases h⟩⟩
theorem MapAt.congr {w:World}{m n:Nat}{Kn Kn':ByteArray->Bool}{V V':ByteArray->Int}(h:MapAt w m n Kn V)(hK:∀ s,Kn s=Kn' s)(hV:∀ s,Kn' s=true->V s=V' s):MapAt w m n Kn' V':=by
 obtain ⟨D,h1,h2⟩:=h
 refine ⟨D,h1,fun s=>⟨(h2 s).1.trans (hK s),fun hs=>?_⟩⟩
 rw [(h2 s).2 ((hK s).trans hs),hV s hs]
theorem mapAt_put {w:World}{m n:Nat}{D:DataW Unit}{Kn:ByteArray->Bool}{V:ByteArray->Int}{k:ByteArray}{x:Int}(hD:IsMap D)
  (hown:w.ownsMap Tryz.prog 9 (plainElem Tryz.prog 3) m (n+1) (D.put (keyL k) (.lit (.int .i64 x))))
  (h2:∀ s:ByteArray,has D (keyL s)=Kn s∧(Kn s=true->D.atKey (keyL s) (.lit (.int .i64 0))=.lit (.int .i64 (V s)))) :
  MapAt w m (n+1) (fun s=>decide (s=k) || Kn s) (fun s=>if s=k then x else V s):=by
 refine ⟨_,hown,fun s=>?_⟩
 by_cases e:s=k
 ·subst e
  exact ⟨by rw [has_put_same hD (k:=keyL s) trivial];simp,fun _=>by rw [atKey_put_same hD (k:=keyL s) trivial];simp⟩
 ·refine ⟨by rw [has_put_other (keyL_ne e),(h2 s).1];simp [e],fun hs=>?_⟩
  have hs':Kn s=true:=by simpa [e] using hs
  rw [atKey_put_other (keyL_ne e),(h2 s).2 hs'];simp [e]
def allTo (Kn:ByteArray->Bool)(S:Nat->ByteArray):Nat->Bool
 | 0=>true
 | n+1=>allTo Kn S n && Kn (S n)
theorem allTo_le (Kn:ByteArray->Bool)(S:Nat->ByteArray):∀ n k,k<n->Kn (S k)=false->allTo Kn S n=false
 | 0,_,h,_=>absurd h (Nat.not_lt_zero _)
 | n+1,k,h,e=>by
  unfold allTo
  by_cases hk:k=n
  ·subst hk;rw [e];simp
  ·rw [allTo_le Kn S n k (by omega) e];rfl
def FindPost (w:World)(Kn:ByteArray->Bool)(V:ByteArray->Int)(S:Nat->ByteArray)(k:Nat)(e:Ending)(w':World):Prop :=
 Below w.heap.size w w'∧((allTo Kn S k=true∧∃ v,e=.returned (.tuple #[v,.bool true])∧OwnI w' w.heap.size v k (fun i=>V (S i)))∨(allTo Kn S k=false∧e=.returned (.tuple #[.slice none 0 0,.bool false])))
theorem make_find (n:Nat)(h:n * 8<=140737488351232)(W:World) :
  (Instr.makeSlice 80 (.int .i64 0) (.int .i64 (n:Int))).run Tryz.prog W=.ok (.slice (some ⟨W.heap.size,0,none⟩) 0 n) (W.alloc (.cells (madeCells #[.int .i64 0] n) 3)):=by
 obtain ⟨i0,hi,hz0,hz1,hz2⟩:=info_parts Tryz.infoIntO
 have:=run_make (P:=Tryz.prog) W 80 3 i0 (.int .i64 0) Tryz.underlying80 hi hz0 .i64 .i64 0 (n:Int) (by omega) (by omega) (by rw [hz2];omega) (by omega)
 rw [this,hz1]
 simp [Value.cells]
set_option maxHeartbeats 1600000 in
theorem find_zero (m:Nat)(Kn:ByteArray->Bool)(V:ByteArray->Int)(S:Nat->ByteArray)(a:Option Addr)(cap:Nat)(w:World) :
  Calls Tryz.prog 39 #[.map (some m),.slice a 0 cap] w (FindPost w Kn V S 0):=by
 have hmk:=make_find 0 (by decide) w
 simp only [Int.ofNat_zero] at hmk
 go_enter Tryz.func39,Tryz.ntmps39
 go_wp2
 clear hmk
 refine wp_loop_rounds 1 ?_
 rw [rounds_succ]
 go_wp2
 refine bodyPost_ret (v:=.tuple #[.slice (some ⟨w.heap.size,0,none⟩) 0 0,.bool true]) (by simp [results,Tryz.results39,go_sem]) rfl ⟨bA,Or.inl ⟨rfl,_,rfl,OwnI.made w _ 0 _ (by decide) (size_madeCells _ _) (Nat.le_refl _) _⟩⟩
set_option maxHeartbeats 1600000 in
theorem find_any (m n:Nat)(Kn:ByteArray->Bool)(V:ByteArray->Int)(S:Nat->ByteArray)(b off k cap:Nat)(w:World)(hm:MapAt w m n Kn V)(hk:k<=1048576)(hb:b<w.heap.size)
  (hs:∀ i,i<k->(S i).size<=maxLen) (hc:∀ i,i<k->w.cell? ⟨b,off+i,none⟩=some (.string (S i))) :
  Calls Tryz.prog 39 #[.map (some m),.slice (some ⟨b,off,none⟩) k cap] w (FindPost w Kn V S k):=by
 obtain ⟨i0,hi,hz0,hz1,hz2⟩:=info_parts Tryz.infoIntO
 have hmk:=make_find k (by omega) w
 go_enter Tryz.func39,Tryz.ntmps39
 go_wp2
 clear hmk
 go_loopw [6,16] (fun v i wr=>∃ j:Nat,j<=k∧i=.int .i64 j∧Hid (allTo Kn S j=true)∧OwnI wr w.heap.size v j (fun i=>V (S i))∧Below w.heap.size w wr) (fun _ i _=>k - (intOf i).toNat)
 case atStart=>exact ⟨0,Nat.zero_le _,rfl,rfl,OwnI.made w _ k _ (by unfold maxLen;omega) (size_madeCells _ _) (Nat.le_refl _) _,bA⟩
 case round =>
  obtain ⟨j,hj,rfl,hall,hown,hbel⟩:=hrel
  by_cases hlt:j<k
  ·obtain ⟨D,hD,hK⟩:=hm.below hbel
   have hck:wr.cell? ⟨b,off+j,none⟩=some (.string (S j)):=(hbel.cell (by exact hb)).trans (hc j hlt)
   have hkey:keyOf Tryz.prog 9 (.string (S j))=some (.string (S j).data.toList):=Go.WideMaps.keyOf_string_mk Tryz.underlying9 (hs j hlt)
   have hhas:has D (.string (S j).data.toList)=Kn (S j):=(hK (S j)).1
   have hat0:Hid (Kn (S j)=true->D.atKey (.string (S j).data.toList) (.lit (.int .i64 0))=.lit (.int .i64 (V (S j)))):=(hK (S j)).2
   have hm1:j+1<=maxLen:=by unfold maxLen;omega
   have hm2:(j+1) * 8<=140737488355328:=by omega
   have hag:∀ q,u6.ownBlock=some q->w.heap.size<=q:=fun q hq=>(World.ownsRow.lt hown q hq).1
   have hm3:∀ o,w.heap.size<=(wr.alloc o).heap.size:=fun o=>by have:=hbel.size;simp;omega
   clear hK
   cases hkn:Kn (S j)
   ·rw [hkn] at hhas
    have hv:Hid (allTo Kn S k=false):=allTo_le Kn S k j hlt hkn
    go_wp2_with (at_lookup;refine wpList_lookup_own_ok_int _ rfl _ _ 51 rfl 9 3 .i64 lawStr Tryz.underlying51 Tryz.underlying3 (zeroInt _) m n D rfl hD _ _ rfl hkey ?_;intro c hat hwc;rw [hhas])
    refine bodyPost_ret (v:=.tuple #[.slice none 0 0,.bool false]) (by simp [results,Tryz.results39,go_sem]) rfl ⟨hbel,Or.inr ⟨hv.out,rfl⟩⟩
   ·rw [hkn] at hhas
    have hall2:Hid (allTo Kn S (j+1)=true):=by unfold Hid allTo;rw [hall.out,hkn];rfl
    have hat1:=hat0.out hkn
    go_wp2_with (first
     | (at_lookup;refine wpList_lookup_own_ok_int _ rfl _ _ 51 rfl 9 3 .i64 lawStr Tryz.underlying51 Tryz.underlying3 (zeroInt _) m n D rfl hD _ _ rfl hkey ?_;intro c hat hwc;rw [hhas];have hcv:Hid (c=V (S j)):=by (have:=hat.symm.trans hat1;simpa [Hid] using this))
     | (at_builtin;refine wpList_append_own _ rfl _ _ 80 rfl w.heap.size 3 i0 (.int .i64 0) 1 8 Tryz.underlying80 hi hz0 hz1 hz2 rfl (by decide) _ _ _ rfl (World.ownsRow.alloc hown _) ⟨wr.heap.size,0,none⟩ 1 1 [.int .i64 c] rfl rfl (one_cellsI _ _ _) (one_oneI _) hm1 hm2 (hm3 _) ?_;intro v2 w2 hown2 hgrow2 _))
    go_roundw
    case rel=>exact ⟨j+1,by omega,by go_num,hall2,OwnI.snoc hown2 hcv.out,(hbel.alloc hbel.size _).grown hgrow2 (hm3 _) hag⟩
    case measure=>simp [intOf];omega
  ·have hjk:j=k:=by omega
   subst hjk
   go_wp2
   refine bodyPost_ret (v:=.tuple #[u6,.bool true]) (by simp [results,Tryz.results39,go_sem]) rfl ⟨hbel,Or.inl ⟨hall.out,_,rfl,hown⟩⟩
theorem find_sl {m n:Nat}{Kn:ByteArray->Bool}{V:ByteArray->Int}{S:Nat->ByteArray}{a:Option Addr}{k cap:Nat}(w:World)(hm:MapAt w m n Kn V)(hk:k<=1048576)(hs:SlS w a k cap S) :
  Calls Tryz.prog 39 #[.map (some m),.slice a k cap] w (FindPost w Kn V S k):=by
 rcases hs.cells with rfl|⟨b,off,rfl,hb,hc⟩
 ·exact find_zero m Kn V S a cap w
 ·exact find_any m n Kn V S b off k cap w hm hk hb hs.size hc
theorem knows_sl {m n:Nat}{Kn:ByteArray->Bool}{V:ByteArray->Int}{S:Nat->ByteArray}{a:Option Addr}{k cap:Nat}(w:World)(hm:MapAt w m n Kn V)(hk:k<=1048576)(hs:SlS w a k cap S) :
  Calls Tryz.prog 35 #[.map (some m),.slice a k cap] w fun e w'=>e=.returned (.bool (allTo Kn S k))∧Below w.heap.size w w':=by
 go_enter Tryz.func35,Tryz.ntmps35
 go_wp2_with fail
 refine (find_sl w hm hk hs).mono ?_
 rintro e w1 ⟨hb1,hpost⟩
 rcases hpost with ⟨ht,v,rfl,_⟩|⟨hf,rfl⟩
 ·have hv:Hid (true=allTo Kn S k):=ht.symm
  clear ht
  go_wp2
  go_ret
  exact ⟨ret_bool hv.out,hb1⟩
 ·have hv:Hid (false=allTo Kn S k):=hf.symm
  clear hf
  go_wp2
  go_ret
  exact ⟨ret_bool hv.out,hb1⟩
def begB (size:Nat)(e:Ev):Bool :=
 if size=0 then e.ty.toList == [99,114,101,97,116,101] else !(e.ty.toList == [99,114,101,97,116,101]) && (decide (0<e.np) && decide (0<e.na))
def insC (Kn:ByteArray->Bool)(size:Nat)(e:Ev):Int :=
 if e.code≠0 then e.code
 else if Kn e.id=true then 6
 else if allTo Kn e.Pv e.np=false∨allTo Kn e.Av e.na=false then 7
 else if begB size e=false then 8
 else if 300<=size then 9
 else 0
theorem insC1 {Kn:ByteArray->Bool}{size:Nat}{e:Ev}(h:e.code≠0):insC Kn size e=e.code:=by rw [insC,if_pos h]
theorem insC6 {Kn:ByteArray->Bool}{size:Nat}{e:Ev}(h:e.code=0)(h6:Kn e.id=true):insC Kn size e=6:=by rw [insC,if_neg (by simp [h]),if_pos h6]
theorem insC7 {Kn:ByteArray->Bool}{size:Nat}{e:Ev}(h:e.code=0)(h6:Kn e.id=false)(h7:allTo Kn e.Pv e.np=false∨allTo Kn e.Av e.na=false):insC Kn size e=7:=by
 rw [insC,if_neg (by simp [h]),if_neg (by simp [h6]),if_pos h7]
theorem insC8 {Kn:ByteArray->Bool}{size:Nat}{e:Ev}(h:e.code=0)(h6:Kn e.id=false)(h7:allTo Kn e.Pv e.np=true)(h7':allTo Kn e.Av e.na=true)(h8:begB size e=false):insC Kn size e=8:=by
 rw [insC,if_neg (by simp [h]),if_neg (by simp [h6]),if_neg (by simp [h7,h7']),if_pos h8]
theorem insC9 {Kn:ByteArray->Bool}{size:Nat}{e:Ev}(h:e.code=0)(h6:Kn e.id=false)(h7:allTo Kn e.Pv e.np=true)(h7':allTo Kn e.Av e.na=true)(h8:begB size e=true)(h9:300<=size):insC Kn size e=9:=by
 rw [insC,if_neg (by simp [h]),if_neg (by simp [h6]),if_neg (by simp [h7,h7']),if_neg (by simp [h8]),if_pos h9]
theorem insC0 {Kn:ByteArray->Bool}{size:Nat}{e:Ev}(h:e.code=0)(h6:Kn e.id=false)(h7:allTo Kn e.Pv e.np=true)(h7':allTo Kn e.Av e.na=true)(h8:begB size e=true)(h9:¬ 300<=size):insC Kn size e=0:=by
 rw [insC,if_neg (by simp [h]),if_neg (by simp [h6]),if_neg (by simp [h7,h7']),if_neg (by simp [h8]),if_neg h9]
theorem code_refs {e:Ev}(h:e.code=0):e.np<=10∧e.na<=10:=by
 unfold Ev.code evCode at h
 split at h;· cases h
 split at h;· cases h
 split at h;· cases h
 split at h;· cases h
 rename_i h4
 constructor
 ·rcases Nat.lt_or_ge 10 e.np with h'|h'
  ·exact absurd (Or.inl (by unfold refsB;rw [decide_eq_false (by omega)];rfl)) h4
  ·exact h'
 ·rcases Nat.lt_or_ge 10 e.na with h'|h'
  ·exact absurd (Or.inr (by unfold refsB;rw [decide_eq_false (by omega)];rfl)) h4
  ·exact h'
abbrev evCs (e:Ev)(pa:Option Addr)(cp:Nat)(aa:Option Addr)(ca:Nat)(ga:Option Addr)(cg:Nat):Array Value :=
 #[.string e.id,.string e.sd,.string e.ty,.bool e.st,.string e.key,.int .i64 e.tm,.slice pa e.np cp,.slice aa e.na ca,.string e.val,.slice ga e.ng cg]
set_option maxHeartbeats 1000000 in
theorem beg_any (size:Nat)(e:Ev)(pa:Option Addr)(cp:Nat)(aa:Option Addr)(ca:Nat)(ga:Option Addr)(cg:Nat)(w:World)(hp:e.np<=10) :
  Calls Tryz.prog 36 #[.int .i64 size,e.val' pa cp aa ca ga cg] w fun x w'=>x=.returned (.bool (begB size e))∧Below w.heap.size w w':=by
 have hb0:∀ o,Below w.heap.size w (w.alloc o):=fun o=>bA
 by_cases h0:size=0
 ·subst h0
  have hv:Hid ((e.ty.toList == [99,114,101,97,116,101])=begB 0 e):=rfl
  go_enter Tryz.func36,Tryz.ntmps36
  go_wp2
  go_ret
  exact ⟨ret_bool hv.out,hb0 _⟩
 ·have hv:Hid (begB size e=(!(e.ty.toList == [99,114,101,97,116,101]) && (decide (0<e.np) && decide (0<e.na)))):=by unfold Hid begB;rw [if_neg h0]
  cases ht:(e.ty.toList == [99,114,101,97,116,101])
  ·by_cases hpp:0<e.np
   ·have hv2:Hid (decide (0<e.na)=begB size e):=by unfold Hid;rw [hv.out,ht,decide_eq_true hpp];rfl
    go_enter Tryz.func36,Tryz.ntmps36
    go_wp2
    go_ret
    exact ⟨ret_bool hv2.out,hb0 _⟩
   ·have hv2:Hid (false=begB size e):=by unfold Hid;rw [hv.out,ht,decide_eq_false hpp];rfl
    have hnp:e.np=0:=by omega
    go_enter Tryz.func36,Tryz.ntmps36
    go_wp2
    go_ret
    exact ⟨ret_bool hv2.out,hb0 _⟩
  ·have hv2:Hid (false=begB size e):=by unfold Hid;rw [hv.out,ht];rfl
   go_enter Tryz.func36,Tryz.ntmps36
   go_wp2
   go_ret
   exact ⟨ret_bool hv2.out,hb0 _⟩
end Go.Proofs.YtnbdlaglnefcbaaGreat
namespace Go.Proofs.YtnbdlaglnefcbaaGreat
open Go.RowKit
set_option maxHeartbeats 400000 in
theorem wordByte_any (c:Int)(w:World) :
  Calls Tryz.prog 74 #[.int .u8 c] w fun e w'=>e=.returned (.bool (wbB c))∧w'=w:=by
 go_enter Tryz.func74,Tryz.ntmps74
 go_wp2
 all_goals (go_ret;exact ⟨ret_bool (by rw [Bool.eq_iff_iff];simp [wbB] <;> omega),rfl⟩)
set_option maxHeartbeats 400000 in
theorem word_any (s:ByteArray)(w:World)(hs:s.size<=maxLen) :
  Calls Tryz.prog 49 #[.string s] w fun e w'=>e=.returned (.bool (isW s))∧w'=w:=by
 unfold maxLen at hs
 go_enter Tryz.func49,Tryz.ntmps49
 go_wp2
 go_loop [3] (fun i=>∃ k:Nat,k<=s.size∧i=.int .i64 k∧Hid (((bts s).take k).all wbB=true)) (fun i=>s.size - (intOf i).toNat)
 case atStart=>exact ⟨0,Nat.zero_le _,rfl,rfl⟩
 case round =>
  obtain ⟨k,hk,rfl,hall⟩:=hrel
  by_cases hlt:k<s.size
  ·go_wp2_with (go_at_call 74;refine (wordByte_any _ _).mono ?_;rintro e w' ⟨rfl,rfl⟩)
   ·go_ret
    refine ⟨ret_bool ?_,rfl⟩
    rw [isW_of_take s k hlt (by simpa using (by assumption:(!wbB (s[k].toNat:Int))=true))]
   ·go_round
    case rel=>exact ⟨k+1,by omega,by go_num,by unfold Hid;rw [all_take_succ s k hlt,hall.out];simpa using (by assumption:(!wbB (s[k].toNat:Int))=false)⟩
    case measure=>simp [intOf];omega
  ·go_wp2
   all_goals
    go_ret
    refine ⟨ret_bool ?_,rfl⟩
    rw [isW_of_all s (by rw [<- List.take_of_length_le (show (bts s).length<=k by rw [bts_len];omega)];exact hall.out)]
    rw [Bool.eq_iff_iff];simp <;> omega
set_option maxHeartbeats 400000 in
theorem has_any (b off n cap:Nat)(S:Nat->ByteArray)(s:ByteArray)(w:World)(hn:n<=maxLen)
  (hc:∀ i,i<n->w.cell? ⟨b,off+i,none⟩=some (.string (S i))) :
  Calls Tryz.prog 25 #[.slice (some ⟨b,off,none⟩) n cap,.string s] w fun e w'=>e=.returned (.bool (hasB S n s))∧w'=w:=by
 unfold maxLen at hn
 go_enter Tryz.func25,Tryz.ntmps25
 go_wp2
 go_loop [5] (fun i=>∃ k:Nat,k<=n∧i=.int .i64 k∧Hid (hasB S k s=false)) (fun i=>n - (intOf i).toNat)
 case atStart=>exact ⟨0,Nat.zero_le _,rfl,rfl⟩
 case round =>
  obtain ⟨k,hk,rfl,hall⟩:=hrel
  by_cases hlt:k<n
  ·have hck:=hc k hlt
   go_wp2
   ·go_ret
    exact ⟨ret_bool (hasB_of S s n k hlt (by assumption)).symm,rfl⟩
   ·go_round
    case rel=>exact ⟨k+1,by omega,by go_num,by unfold Hid hasB;rw [hall.out];simpa using (by assumption:((S k).toList == s.toList)=false)⟩
    case measure=>simp [intOf];omega
  ·go_wp2
   go_ret
   refine ⟨ret_bool ?_,rfl⟩
   rw [show n=k by omega,hall.out]
end Go.Proofs.YtnbdlaglnefcbaaGreat
