import Derived.Laws.OwnMore
import Derived.Test.YtkdalopokdhndaaGreatSetZZ
import Derived.Maps.OwnSet
set_option maxHeartbeats 16000000
set_option maxRecDepth 100000
namespace Go.Proofs.YtkdalopokdhndaaGreat
open Go.RowKit
variable {g i j k n cap base base':Nat}{s x:ByteArray}{w w':World}{v:Value}
def getL (l:List ByteArray)(i:Nat):ByteArray:=l.getD i ByteArray.empty
theorem getL_some {l:List ByteArray}(h:i<l.length):l[i]?=some (getL l i):=by
 simp [getL,List.getD,List.getElem?_eq_getElem h]
theorem getL_mem {l:List ByteArray}(h:i<l.length):getL l i ∈ l:=List.mem_of_getElem? (getL_some h)
theorem mem_getL {l:List ByteArray}(h:s ∈ l):∃ i,i<l.length∧getL l i=s:=by
 obtain ⟨i,hi,e⟩:=List.mem_iff_getElem.1 h;exact ⟨i,hi,by simp [getL,List.getD,List.getElem?_eq_getElem hi,e]⟩
def OwnL (w:World)(base:Nat)(v:Value)(l:List ByteArray):Prop:=w.ownsRow base 9 1 v l.length (l.map Value.string)
theorem OwnL.below {l:List ByteArray}(h:OwnL w base v l)(hb:Below w.heap.size w w'):OwnL w' base v l:=ownsRow_blw h hb
theorem OwnL.snoc {l:List ByteArray}(h:w.ownsRow base 9 1 v (l.length+1) (l.map Value.string ++ [.string x])):OwnL w base v (l ++ [x]):=by
 unfold OwnL;simpa using h
theorem OwnL.nil (w:World)(base:Nat):OwnL w base (.slice none 0 0) []:=⟨rfl,Or.inl ⟨rfl,rfl⟩⟩
theorem OwnL.new (w:World)(base:Nat)(hb:base<=w.heap.size):OwnL (w.alloc (.cells #[] 9)) base (.slice (some ⟨w.heap.size,0,none⟩) 0 0) [] :=
 ⟨rfl,Or.inr ⟨w.heap.size,0,#[],rfl,hb,by show (w.heap.push _)[w.heap.size]?=_;simp,nL,by decide,rfl,rfl⟩⟩
theorem OwnL.mono {l:List ByteArray}(h:OwnL w base v l)(hb:base'<=base):OwnL w base' v l:=by
 obtain ⟨h1,h2⟩:=h;exact ⟨h1,h2.imp id fun ⟨g,cap,cur,e,hg,r⟩=>⟨g,cap,cur,e,nZ hb hg,r⟩⟩
theorem OwnL.kept {l:List ByteArray}(h:OwnL w base v l)(hb:∀ g,base<=g->g<w.heap.size->w'.heap[g]?=w.heap[g]?):OwnL w' base v l:=by
 obtain ⟨h1,h2⟩:=h;refine ⟨h1,?_⟩;rcases h2 with h2|⟨g,cap,cur,hv,hg,hh,r⟩
 ·exact Or.inl h2
 have hlt:g<w.heap.size:=by
  rcases Nat.lt_or_ge g w.heap.size with h'|h'
  ·exact h'
  rw [Array.getElem?_eq_none h'] at hh;cases hh
 exact Or.inr ⟨g,cap,cur,hv,hg,by rw [hb g hg hlt];exact hh,r⟩
theorem OwnL.shape {l:List ByteArray}(h:OwnL w base v l) :
  (v=.slice none 0 0∧l=[])∨∃ g cap,v=.slice (some ⟨g,0,none⟩) l.length cap∧base<=g∧g<w.heap.size∧l.length<=cap∧cap<=maxLen:=by
 obtain ⟨h1,h2⟩:=h;rcases h2 with ⟨rfl,h0⟩|⟨g,cap,cur,rfl,hg,hh,hn,hc,hcs,hx⟩
 ·exact Or.inl ⟨rfl,List.eq_nil_of_length_eq_zero h0⟩
 have hlt:g<w.heap.size:=by
  rcases Nat.lt_or_ge g w.heap.size with h'|h'
  ·exact h'
  rw [Array.getElem?_eq_none h'] at hh;cases hh
 exact Or.inr ⟨g,cap,rfl,hg,hlt,hn,hc⟩
theorem OwnL.cell {l:List ByteArray}(h:OwnL w base (.slice (some ⟨g,0,none⟩) n cap) l)(hn:n=l.length)(hi:i<l.length):w.cell? ⟨g,i,none⟩=some (.string (getL l i)):=by
 subst hn;rw [World.ownsRow.cellAt h i (by omega),List.getElem?_map,getL_some hi];rfl
theorem OwnL.frozen {l:List ByteArray}(h:OwnL w base (.slice (some ⟨g,0,none⟩) n cap) l)(hn:n=l.length)(i:Nat):w.frozen? ⟨g,i,none⟩=false:=by
 subst hn;exact World.ownsRow.frozenAt h i
theorem OwnL.put {l:List ByteArray}(h:OwnL w base (.slice (some ⟨g,0,none⟩) n cap) l)(hn:n=l.length)(i:Nat)(x:ByteArray) :
  OwnL (w.setCell ⟨g,i,none⟩ (.string x)) base (.slice (some ⟨g,0,none⟩) n cap) (l.set i x):=by
 subst hn
 have:=(World.ownsRow.stored h i (.string x)).1;unfold OwnL;rw [List.length_set,List.map_set];exact this
theorem OwnL.sl {l:List ByteArray}(h:OwnL w base v l)(hs:∀ s ∈ l,s.size<=maxLen) :
  ∃ a cap,v=.slice a l.length cap∧SlS w a l.length cap (getL l)∧Wr0 w base a l.length:=by
 rcases h.shape with ⟨rfl,rfl⟩|⟨g,cap,rfl,hg,hlt,hn,hc⟩
 ·exact ⟨none,0,rfl,⟨nL,by decide,fun i hi=>absurd hi (Nat.not_lt_zero _),Or.inl rfl⟩,Or.inl rfl⟩
 refine ⟨_,cap,rfl,⟨hn,hc,fun i hi=>hs _ (getL_mem hi),Or.inr ⟨g,0,rfl,hlt,fun i hi=>by rw [Nat.zero_add];exact h.cell rfl hi⟩⟩,Or.inr ⟨g,0,rfl,hg,hlt,fun i hi=>?_⟩⟩;rw [Nat.zero_add];exact ⟨⟨_,h.cell rfl hi⟩,h.frozen rfl i⟩
def Srt (l:List ByteArray):Prop:=l.Pairwise fun a b=>a.data.toList<b.data.toList
theorem ba_inj {t:ByteArray}(h:s.data.toList=t.data.toList):s=t:=by
 obtain ⟨s⟩:=s;obtain ⟨t⟩:=t
 exact congrArg _ (Array.toList_inj.1 h)
theorem Srt.nodup {l:List ByteArray}(h:Srt l):l.Nodup:=h.imp fun {a b} hab e=>by subst e;exact absurd hab (List.lt_irrefl _)
theorem srt_unique {l1 l2:List ByteArray}(h1:Srt l1)(h2:Srt l2)(h:∀ s,s ∈ l1↔s ∈ l2):l1=l2:=by
 refine List.Perm.eq_of_pairwise (le:=fun a b:ByteArray=>a.data.toList<b.data.toList) (fun a b _ _ hab hba=>?_) h1 h2 ((List.perm_ext_iff_of_nodup h1.nodup h2.nodup).2 h);exact absurd (List.lt_trans hab hba) (List.lt_irrefl _)
def insAt (l:List ByteArray)(k:Nat)(x:ByteArray):List ByteArray:=l.take k ++ x :: l.drop k
theorem insAt_len {l:List ByteArray}(h:k<=l.length):(insAt l k x).length=l.length+1:=by simp [insAt];omega
theorem insAt_end (l:List ByteArray)(x:ByteArray):insAt l l.length x=l ++ [x]:=by simp [insAt]
theorem insAt_get {l:List ByteArray}(h:k<=l.length):getL (insAt l k x) k=x:=by
 simp [getL,insAt,List.getD,h]
theorem insAt_before {l:List ByteArray}(h:k<l.length):getL (insAt l (k+1) x) k=getL l k:=by
 have:min (k+1) l.length=k+1:=by omega
 simp [getL,insAt,List.getD,List.getElem?_append,this,List.getElem?_eq_getElem h]
theorem insAt_swap {l:List ByteArray}(h:k<l.length):((insAt l (k+1) x).set (k+1) (getL l k)).set k x=insAt l k x:=by
 apply List.ext_getElem?;intro i;have h1:(insAt l (k+1) x).length=l.length+1:=insAt_len (by omega);have m1:min (k+1) l.length=k+1:=by omega
 have m2:min k l.length=k:=by omega
 by_cases e1:i=k
 ·subst e1
  rw [List.getElem?_set_self (by rw [List.length_set,h1];omega)];simp [insAt,m2]
 rw [List.getElem?_set_ne (by omega)]
 by_cases e2:i=k+1
 ·subst e2
  rw [List.getElem?_set_self (by rw [h1];omega)];simp [insAt,List.getElem?_append,m2,getL,List.getD,List.getElem?_eq_getElem h]
 rw [List.getElem?_set_ne (by omega)];unfold insAt;rw [List.getElem?_append,List.getElem?_append,List.length_take,List.length_take,m1,m2]
 by_cases e3:i<k
 ·rw [if_pos (by omega),if_pos e3,List.getElem?_take,List.getElem?_take,if_pos (by omega),if_pos e3]
 rw [if_neg (by omega),if_neg e3];obtain ⟨q,rfl⟩:∃ q,i=k+2+q:=⟨i - (k+2),by omega⟩;rw [show k+2+q - (k+1)=q+1 by omega,show k+2+q - k=(q+1)+1 by omega,List.getElem?_cons_succ,List.getElem?_cons_succ,List.getElem?_drop,List.getElem?_drop]
 congr 1
 omega
theorem insAt_mem {l:List ByteArray}:s ∈ insAt l k x↔s=x∨s ∈ l:=by
 unfold insAt;rw [List.mem_append,List.mem_cons];constructor
 ·rintro (h|h|h)
  ·exact Or.inr (List.mem_of_mem_take h)
  ·exact Or.inl h
  exact Or.inr (List.mem_of_mem_drop h)
 rintro (h|h)
 ·exact Or.inr (Or.inl h)
 rw [<- List.take_append_drop k l,List.mem_append] at h;exact h.imp id Or.inr
theorem insAt_srt {l:List ByteArray}(h:Srt l)(hlo:∀ i,i<k->i<l.length->(getL l i).data.toList<x.data.toList)(hhi:∀ i,k<=i->i<l.length->x.data.toList<(getL l i).data.toList):Srt (insAt l k x):=by
 have h':(l.take k ++ l.drop k).Pairwise fun a b:ByteArray=>a.data.toList<b.data.toList:=by rw [List.take_append_drop];exact h
 obtain ⟨p1,p2,p3⟩:=List.pairwise_append.1 h';unfold Srt insAt;refine List.pairwise_append.2 ⟨p1,List.pairwise_cons.2 ⟨fun b hb=>?_,p2⟩,fun a ha b hb=>?_⟩
 ·obtain ⟨i,hi,rfl⟩:=mem_getL hb
  rw [List.length_drop] at hi
  have:getL (l.drop k) i=getL l (k+i):=by simp [getL,List.getD]
  rw [this];exact hhi _ (by omega) (by omega)
 rcases List.mem_cons.1 hb with rfl|hb
 ·obtain ⟨i,hi,rfl⟩:=mem_getL ha
  rw [List.length_take] at hi
  have:getL (l.take k) i=getL l i:=by simp [getL,List.getD,show i<k by omega]
  rw [this];exact hlo _ (by omega) (by omega)
 exact p3 a ha b hb
theorem srt_get {l:List ByteArray}(h:Srt l)(hij:i<j)(hj:j<l.length):(getL l i).data.toList<(getL l j).data.toList:=by
 have:=List.pairwise_iff_getElem.1 h i j (by omega) hj hij;simpa [getL,List.getD,List.getElem?_eq_getElem hj,List.getElem?_eq_getElem (show i<l.length by omega)] using this
theorem hasB_mem (l:List ByteArray)(s:ByteArray):∀ n,n<=l.length->(hasB (getL l) n s=true↔s ∈ l.take n)
 | 0,_=>by simp [hasB]
 | n+1,h=>by
  have e:l.take (n+1)=l.take n ++ [getL l n]:=by rw [List.take_add_one,getL_some (by omega)];rfl
  rw [hasB,e,List.mem_append,Bool.or_eq_true,hasB_mem l s n (by omega),List.mem_singleton];refine or_congr Iff.rfl ⟨fun h=>?_,fun h=>by rw [h];simp⟩;rw [beq_iff_eq,ByteArray.toList_eq,ByteArray.toList_eq] at h;exact (ba_inj h).symm
variable {L:Nat->List Ent}{l:List Ent}
def agTo (L:Nat->List Ent)(x:Ent):Nat->Bool
 | 0=>true
 | k+1=>agTo L x k && ((findB (L k) x.ty x.key).toList == x.id.toList)
theorem agTo_le (L:Nat->List Ent)(x:Ent):∀ n k,k<n->agTo L x (k+1)=false->agTo L x n=false
 | n+1,k,h,h1=>by
  by_cases e:k=n
  ·rw [<- e];exact h1
  rw [agTo,agTo_le L x n k (by omega) h1];rfl
theorem agTo_all {L:Nat->List Ent}{x:Ent}:∀ {n},agTo L x n=true->∀ k,k<n->findB (L k) x.ty x.key=x.id
 | n+1,h,k,hk=>by
  rw [agTo,Bool.and_eq_true] at h
  by_cases e:k=n
  ·subst e
   rw [beq_iff_eq,ByteArray.toList_eq,ByteArray.toList_eq] at h;exact ba_eq h.2
  exact agTo_all h.1 k (by omega)
def okTo (L:Nat->List Ent):Nat->Bool
 | 0=>true
 | k+1=>okTo L k && stB (L k)
theorem okTo_le (L:Nat->List Ent):∀ n k,k<n->okTo L (k+1)=false->okTo L n=false
 | n+1,k,h,h1=>by
  by_cases e:k=n
  ·rw [<- e];exact h1
  rw [okTo,okTo_le L n k (by omega) h1];rfl
def spOk (L:Nat->List Ent)(n:Nat):Bool:=decide (n<=20) && okTo L n
def InS (L:Nat->List Ent)(n:Nat)(x:Ent):Prop:=∃ i,i<n∧x ∈ L i
structure SpFin (L:Nat->List Ent)(n:Nat)(Se:List Ent)(So:List ByteArray):Prop where
 srt:SrtE Se
 mem:∀ x,x ∈ Se↔agTo L x n=true∧InS L n x
 srtO:Srt So
 memO:∀ t,t ∈ So↔∃ x,(agTo L x n=false∧InS L n x)∧x.id=t
def saK (L:Nat->List Ent)(n:Nat)(acc l:List Ent):Nat->List Ent
 | 0=>acc
 | k+1=>if agTo L (eAt l k) n then setL (saK L n acc l k) (eAt l k) false else saK L n acc l k
def saI (L:Nat->List Ent)(n:Nat):Nat->List Ent
 | 0=>[]
 | i+1=>saK L n (saI L n i) (L i) (L i).length
def otK (L:Nat->List Ent)(n:Nat)(acc:List ByteArray)(l:List Ent):Nat->List ByteArray
 | 0=>acc
 | k+1=>if agTo L (eAt l k) n then otK L n acc l k else otK L n acc l k ++ [(eAt l k).id]
def otI (L:Nat->List Ent)(n:Nat):Nat->List ByteArray
 | 0=>[]
 | i+1=>otK L n (otI L n i) (L i) (L i).length
theorem saK_len (L:Nat->List Ent)(n:Nat)(acc l:List Ent):∀ k,(saK L n acc l k).length<=acc.length+k
 | 0=>nL
 | k+1=>by
  have:=saK_len L n acc l k
  have:=setL_len (saK L n acc l k) (eAt l k) false;unfold saK;split <;> omega
theorem otK_len (L:Nat->List Ent)(n:Nat)(acc:List ByteArray)(l:List Ent):∀ k,(otK L n acc l k).length<=acc.length+k
 | 0=>nL
 | k+1=>by
  have:=otK_len L n acc l k;unfold otK;split
  ·omega
  simp;omega
theorem saI_len {L:Nat->List Ent}(n:Nat):∀ {i},okTo L i=true->(saI L n i).length<=i * 300
 | 0,_=>nL
 | i+1,h=>by
  rw [okTo,Bool.and_eq_true] at h
  have:=saI_len n h.1
  have:=saK_len L n (saI L n i) (L i) (L i).length
  have:=(st_parts h.2).1;unfold saI;omega
theorem otI_len {L:Nat->List Ent}(n:Nat):∀ {i},okTo L i=true->(otI L n i).length<=i * 300
 | 0,_=>nL
 | i+1,h=>by
  rw [okTo,Bool.and_eq_true] at h
  have:=otI_len n h.1
  have:=otK_len L n (otI L n i) (L i) (L i).length
  have:=(st_parts h.2).1;unfold otI;omega
theorem saK_ok {L:Nat->List Ent}(n:Nat){acc l:List Ent}(h:AllOk acc)(hl:AllOk l):∀ k,k<=l.length->AllOk (saK L n acc l k)
 | 0,_=>h
 | k+1,hk=>by
  have ih:=saK_ok (L:=L) n h hl k (by omega);unfold saK;split
  ·exact ih.set (hl.at k (by omega))
  exact ih
theorem saI_ok {L:Nat->List Ent}(n:Nat):∀ {i},(∀ j,j<i->AllOk (L j))->AllOk (saI L n i)
 | 0,_=>fun x hx=>by cases hx
 | i+1,h=>saK_ok n (saI_ok n (fun j hj=>h j (by omega))) (h i (by omega)) _ nL
theorem otK_ok {L:Nat->List Ent}(n:Nat){acc:List ByteArray}{l:List Ent}(h:∀ t ∈ acc,t.size<=maxLen)(hl:AllOk l):∀ k,k<=l.length->∀ t ∈ otK L n acc l k,t.size<=maxLen
 | 0,_=>h
 | k+1,hk=>by
  have ih:=otK_ok (L:=L) n h hl k (by omega);unfold otK;split
  ·exact ih
  intro t ht;rcases List.mem_append.1 ht with h'|h'
  ·exact ih t h'
  rw [List.mem_singleton] at h';subst h';exact (hl.at k (by omega)).2.2
theorem otI_ok {L:Nat->List Ent}(n:Nat):∀ {i},(∀ j,j<i->AllOk (L j))->∀ t ∈ otI L n i,t.size<=maxLen
 | 0,_=>fun x hx=>by cases hx
 | i+1,h=>otK_ok n (otI_ok n (fun j hj=>h j (by omega))) (h i (by omega)) _ nL
theorem ag_same {x y:Ent}(hn:0<n)(hx:agTo L x n=true)(hy:agTo L y n=true)(e:x.ty=y.ty∧x.key=y.key):x=y:=by
 have h1:=agTo_all hx 0 hn;have h2:=agTo_all hy 0 hn;rw [e.1,e.2,h2] at h1;obtain ⟨xt,xk,xi⟩:=x;obtain ⟨yt,yk,yi⟩:=y;simp only at e h1;rw [e.1,e.2,h1]
theorem saK_in {L:Nat->List Ent}{n:Nat}(hn:0<n){acc l:List Ent}(h:SrtE acc)(ha:∀ x ∈ acc,agTo L x n=true)(hi:Ids l):∀ k,k<=l.length->SrtE (saK L n acc l k)∧∀ x,x ∈ saK L n acc l k↔(x ∈ acc∨(agTo L x n=true∧∃ j,j<k∧eAt l j=x))
 | 0,_=>⟨h,fun x=>⟨fun hx=>Or.inl hx,fun hx=>hx.elim id (fun ⟨_,j,hj,_⟩=>absurd hj (Nat.not_lt_zero _))⟩⟩
 | k+1,hk=>by
  obtain ⟨ih1,ih2⟩:=saK_in hn h ha hi k (by omega);unfold saK
  by_cases hag:agTo L (eAt l k) n=true
  ·rw [if_pos hag]
   refine ⟨setL_srt ih1 _ _,fun x=>?_⟩;have hall:∀ y ∈ saK L n acc l k,agTo L y n=true:=fun y hy=>((ih2 y).1 hy).elim (ha y) (fun h'=>h'.1)
   have hkp:kept (eAt l k) false=true:=by unfold kept;rw [hi _ (eAt_mem l k (by omega))];rfl
   rw [setL_in ih1];constructor
   ·rintro (⟨h1,_⟩|⟨rfl,_⟩)
    ·rcases (ih2 x).1 h1 with h'|⟨h',j,hj,e⟩
     ·exact Or.inl h'
     exact Or.inr ⟨h',j,by omega,e⟩
    exact Or.inr ⟨hag,k,by omega,rfl⟩
   intro hx
   by_cases e:x=eAt l k
   ·exact Or.inr ⟨e,hkp⟩
   have hin:x ∈ saK L n acc l k:=by
    rcases hx with h'|⟨h',j,hj,ej⟩
    ·exact (ih2 x).2 (Or.inl h')
    by_cases ejk:j=k
    ·subst ejk;exact absurd ej.symm e
    exact (ih2 x).2 (Or.inr ⟨h',j,by omega,ej⟩)
   exact Or.inl ⟨hin,fun es=>e (ag_same hn (hall x hin) hag es)⟩
  rw [if_neg hag];refine ⟨ih1,fun x=>?_⟩;rw [ih2];constructor
  ·rintro (h'|⟨h',j,hj,e⟩)
   ·exact Or.inl h'
   exact Or.inr ⟨h',j,by omega,e⟩
  rintro (h'|⟨h',j,hj,e⟩)
  ·exact Or.inl h'
  by_cases ejk:j=k
  ·subst ejk;subst e;exact absurd h' hag
  exact Or.inr ⟨h',j,by omega,e⟩
theorem mem_eAt {x:Ent}:x ∈ l↔∃ j,j<l.length∧eAt l j=x:=by
 constructor
 ·intro h
  obtain ⟨j,hj,rfl⟩:=List.mem_iff_getElem.1 h;exact ⟨j,hj,eAt_get l j hj⟩
 rintro ⟨j,hj,rfl⟩;exact eAt_mem l j hj
theorem saI_in {L:Nat->List Ent}{n:Nat}(hn:0<n):∀ {i},okTo L i=true->SrtE (saI L n i)∧∀ x,x ∈ saI L n i↔agTo L x n=true∧InS L i x
 | 0,_=>⟨List.Pairwise.nil,fun x=>⟨fun h=>(by cases h),fun ⟨_,j,hj,_⟩=>absurd hj (Nat.not_lt_zero _)⟩⟩
 | i+1,h=>by
  rw [okTo,Bool.and_eq_true] at h;obtain ⟨ih1,ih2⟩:=saI_in hn h.1;obtain ⟨h1,h2⟩:=saK_in (L:=L) hn ih1 (fun x hx=>((ih2 x).1 hx).1) (st_parts h.2).2.2 _ (Nat.le_refl (L i).length);unfold saI;refine ⟨h1,fun x=>?_⟩;rw [h2,ih2,<- mem_eAt];constructor
  ·rintro (⟨h',j,hj,e⟩|⟨h',e⟩)
   ·exact ⟨h',j,by omega,e⟩
   exact ⟨h',i,by omega,e⟩
  rintro ⟨h',j,hj,e⟩
  by_cases eji:j=i
  ·subst eji;exact Or.inr ⟨h',e⟩
  exact Or.inl ⟨h',j,by omega,e⟩
theorem otK_in (L:Nat->List Ent)(n:Nat)(acc:List ByteArray)(l:List Ent)(t:ByteArray):∀ k,t ∈ otK L n acc l k↔(t ∈ acc∨∃ j,j<k∧agTo L (eAt l j) n=false∧(eAt l j).id=t)
 | 0=>⟨fun hx=>Or.inl hx,fun hx=>hx.elim id (fun ⟨j,hj,_⟩=>absurd hj (Nat.not_lt_zero _))⟩
 | k+1=>by
  have ih:=otK_in L n acc l t k;unfold otK
  by_cases hag:agTo L (eAt l k) n=true
  ·rw [if_pos hag,ih]
   constructor
   ·rintro (h'|⟨j,hj,e⟩)
    ·exact Or.inl h'
    exact Or.inr ⟨j,by omega,e⟩
   rintro (h'|⟨j,hj,e⟩)
   ·exact Or.inl h'
   by_cases ejk:j=k
   ·subst ejk;rw [hag] at e;cases e.1
   exact Or.inr ⟨j,by omega,e⟩
  rw [if_neg hag,List.mem_append,ih,List.mem_singleton];have hag':agTo L (eAt l k) n=false:=by simpa using hag
  constructor
  ·rintro ((h'|⟨j,hj,e⟩)|h')
   ·exact Or.inl h'
   ·exact Or.inr ⟨j,by omega,e⟩
   exact Or.inr ⟨k,by omega,hag',h'.symm⟩
  rintro (h'|⟨j,hj,e⟩)
  ·exact Or.inl (Or.inl h')
  by_cases ejk:j=k
  ·subst ejk;exact Or.inr e.2.symm
  exact Or.inl (Or.inr ⟨j,by omega,e⟩)
theorem otI_in (L:Nat->List Ent)(n:Nat)(t:ByteArray):∀ i,t ∈ otI L n i↔∃ x,(agTo L x n=false∧InS L i x)∧x.id=t
 | 0=>⟨fun h=>(by cases h),fun ⟨x,⟨_,j,hj,_⟩,_⟩=>absurd hj (Nat.not_lt_zero _)⟩
 | i+1=>by
  unfold otI;rw [otK_in,otI_in L n t i];constructor
  ·rintro (⟨x,⟨h1,j,hj,e⟩,h2⟩|⟨j,hj,h1,h2⟩)
   ·exact ⟨x,⟨h1,j,by omega,e⟩,h2⟩
   exact ⟨_,⟨h1,i,by omega,eAt_mem _ j hj⟩,h2⟩
  rintro ⟨x,⟨h1,j,hj,e⟩,h2⟩
  by_cases eji:j=i
  ·subst eji
   obtain ⟨q,hq,rfl⟩:=mem_eAt.1 e;exact Or.inr ⟨q,hq,h1,h2⟩
  exact Or.inl ⟨x,⟨h1,j,by omega,e⟩,h2⟩
theorem spFin_unique {Se Se':List Ent}{So So':List ByteArray}(h:SpFin L n Se So)(h':SpFin L n Se' So'):Se=Se'∧So=So' :=
 ⟨srt_ext h.srt h'.srt (fun x=>(h.mem x).trans (h'.mem x).symm),srt_unique h.srtO h'.srtO (fun t=>(h.memO t).trans (h'.memO t).symm)⟩
variable {a:Option Addr}{B:Nat}{rn:Nat->Nat}
structure SlI (w:World)(a:Option Addr)(n cap:Nat)(X:Nat->Int):Prop where
 le:n<=cap
 max:cap<=maxLen
 cells:n=0∨∃ b off,a=some ⟨b,off,none⟩∧b<w.heap.size∧∀ i,i<n->w.cell? ⟨b,off+i,none⟩=some (.int .i64 (X i))
theorem SlI.below {X:Nat->Int}(h:SlI w a n cap X)(hb:Below w.heap.size w w'):SlI w' a n cap X :=
 ⟨h.le,h.max,h.cells.imp id fun ⟨b,off,e,hlt,hc⟩=>⟨b,off,e,nT hlt hb.size,fun i hi=>(hb.cell (by exact hlt)).trans (hc i hi)⟩⟩
def RowAt (w:World)(B o n:Nat)(X:Nat->Int):Prop:=∃ ra rc,w.cell? ⟨B,o,none⟩=some (.slice ra n rc)∧SlI w ra n rc X
theorem RowAt.below {o:Nat}{X:Nat->Int}(h:RowAt w B o n X)(hb:Below w.heap.size w w')(hlt:B<w.heap.size):RowAt w' B o n X:=by
 obtain ⟨ra,rc,h1,h2⟩:=h;exact ⟨ra,rc,(hb.cell (by exact hlt)).trans h1,h2.below hb⟩
structure SlL (w:World)(a:Option Addr)(n cap:Nat)(rn:Nat->Nat)(X:Nat->Nat->Int):Prop where
 le:n<=cap
 max:cap<=maxLen
 cells:n=0∨∃ b off,a=some ⟨b,off,none⟩∧b<w.heap.size∧∀ i,i<n->RowAt w b (off+i) (rn i) (X i)
theorem SlL.below {X:Nat->Nat->Int}(h:SlL w a n cap rn X)(hb:Below w.heap.size w w'):SlL w' a n cap rn X :=
 ⟨h.le,h.max,h.cells.imp id fun ⟨b,off,e,hlt,hc⟩=>⟨b,off,e,nT hlt hb.size,fun i hi=>(hc i hi).below hb hlt⟩⟩
variable {size:Nat}{xs:List Value}
theorem Tryz.infoIntO:(Tryz.prog.info? 3).map (fun i=>(i.zero,i.size,i.bytes))=some (some (.int .i64 0),1,8):=by kernel_rfl
theorem ownsRow_blwI {e:Nat}(h:w.ownsRow base e size v n xs)(hb:Below w.heap.size w w'):w'.ownsRow base e size v n xs:=by
 obtain ⟨h1,h2⟩:=h;refine ⟨h1,?_⟩;rcases h2 with h2|⟨g,cap,cur,hv,hg,hh,r⟩
 ·exact Or.inl h2
 have hlt:g<w.heap.size:=by
  rcases Nat.lt_or_ge g w.heap.size with h'|h'
  ·exact h'
  rw [Array.getElem?_eq_none h'] at hh;cases hh
 exact Or.inr ⟨g,cap,cur,hv,hg,by rw [hb.block g hlt];exact hh,r⟩
def ints (X:Nat->Int)(n:Nat):List Value:=(List.range n).map fun i=>.int .i64 (X i)
theorem ints_len (X:Nat->Int)(n:Nat):(ints X n).length=n:=by simp [ints]
theorem ints_get (X:Nat->Int)(n i:Nat)(h:i<n):(ints X n)[i]?=some (.int .i64 (X i)):=by simp [ints,h]
theorem ints_snoc (X:Nat->Int)(n:Nat):ints X n ++ [.int .i64 (X n)]=ints X (n+1):=by simp [ints,List.range_succ]
def OwnI (w:World)(base:Nat)(v:Value)(n:Nat)(X:Nat->Int):Prop:=w.ownsRow base 3 1 v n (ints X n)
theorem OwnI.below {X:Nat->Int}(h:OwnI w base v n X)(hb:Below w.heap.size w w'):OwnI w' base v n X:=ownsRow_blwI h hb
theorem OwnI.snoc {X:Nat->Int}{x:Int}(h:w.ownsRow base 3 1 v (n+1) (ints X n ++ [.int .i64 x]))(hx:x=X n):OwnI w base v (n+1) X:=by
 subst hx;rw [ints_snoc] at h;exact h
theorem OwnI.nil (w:World)(base:Nat)(X:Nat->Int):OwnI w base (.slice none 0 0) 0 X:=⟨rfl,Or.inl ⟨rfl,rfl⟩⟩
theorem OwnI.made (w:World)(base m:Nat)(cs:Array Value)(hm:m<=maxLen)(hc:cs.size=m)(hb:base<=w.heap.size)(X:Nat->Int):OwnI (w.alloc (.cells cs 3)) base (.slice (some ⟨w.heap.size,0,none⟩) 0 m) 0 X :=
 ⟨rfl,Or.inr ⟨w.heap.size,m,cs,rfl,hb,by show (w.heap.push _)[w.heap.size]?=_;simp,nz,hm,by rw [hc,Nat.mul_one],by simp [ints]⟩⟩
theorem OwnI.cells {X:Nat->Int}(h:OwnI w base v n X) :
  (v=.slice none 0 0∧n=0)∨∃ g cap,v=.slice (some ⟨g,0,none⟩) n cap∧base<=g∧g<w.heap.size∧n<=cap∧cap<=maxLen∧∀ i,i<n->w.cell? ⟨g,0+i,none⟩=some (.int .i64 (X i)):=by
 obtain ⟨h1,h2⟩:=h;rcases h2 with ⟨rfl,h0⟩|⟨g,cap,cur,rfl,hg,hh,hn,hc,hcs,hx⟩
 ·exact Or.inl ⟨rfl,h0⟩
 have hlt:g<w.heap.size:=by
  rcases Nat.lt_or_ge g w.heap.size with h'|h'
  ·exact h'
  rw [Array.getElem?_eq_none h'] at hh;cases hh
 refine Or.inr ⟨g,cap,rfl,hg,hlt,hn,hc,fun j hj=>?_⟩;rw [<- ints_get X n j hj,<- hx,List.getElem?_take,if_pos (by omega),Nat.zero_add];simp [World.cell?,hh]
theorem OwnI.sl {X:Nat->Int}(h:OwnI w base v n X):∃ a cap,v=.slice a n cap∧SlI w a n cap X:=by
 rcases h.cells with ⟨rfl,rfl⟩|⟨g,cap,rfl,hg,hlt,hn,hc,hx⟩
 ·exact ⟨none,0,rfl,⟨nL,by decide,Or.inl rfl⟩⟩
 exact ⟨_,cap,rfl,⟨hn,hc,Or.inr ⟨g,0,rfl,hlt,hx⟩⟩⟩
theorem one_cellsI (w1:World)(x:Value)(t:TypeId)(j:Nat)(u:Value)(h:[x][j]?=some u):(w1.alloc (.cells #[x] t)).cell? ((⟨w1.heap.size,0,none⟩:Addr).add j)=some u:=by
 have hj:j<1:=by
  rcases Nat.lt_or_ge j 1 with h'|h'
  ·exact h'
  rw [List.getElem?_eq_none (by simpa using h')] at h;cases h
 match j,hj,h with
 | 0,_,h=>rw [show (⟨w1.heap.size,0,none⟩:Addr).add 0=⟨w1.heap.size,0,none⟩ from rfl,kA rfl];exact h
theorem one_oneI (x:Int)(u:Value)(h:u ∈ [Value.int .i64 x]):u.oneCell'=true:=by
 simp only [List.mem_cons,List.not_mem_nil,or_false] at h;subst h;rfl
end Go.Proofs.YtkdalopokdhndaaGreat
namespace Go.Proofs.YtkdalopokdhndaaGreat
open Go.RowKit Go.Maps Go.ChangeMaps
variable {s:ByteArray}{w w':World}{j m n:Nat}{Kn:ByteArray->Bool}{V:ByteArray->Int}
theorem lawStr:Keyed Tryz.prog 9:=string_keyed Tryz.underlying9
theorem zeroInt (w:World):(zeroValue 3).run Tryz.prog w=.ok (.int .i64 0) w:=by kernel_rfl
abbrev keyL (s:ByteArray):Lit:=.string s.data.toList
theorem keyL_ne {t:ByteArray}(h:s≠t):keyL s≠keyL t:=fun e=>h (by
 injection e with e
 obtain ⟨s⟩:=s;obtain ⟨t⟩:=t
 exact congrArg _ (Array.toList_inj.1 e))
def MapAt (w:World)(m n:Nat)(Kn:ByteArray->Bool)(V:ByteArray->Int):Prop :=
 ∃ D:DataW Unit,w.ownsMap Tryz.prog 9 (plainElem Tryz.prog 3) m n D∧∀ s:ByteArray,has D (keyL s)=Kn s∧(Kn s=true->D.atKey (keyL s) (.lit (.int .i64 0))=.lit (.int .i64 (V s)))
theorem MapAt.lt (h:MapAt w m n Kn V):m<w.heap.size:=by
 obtain ⟨D,h,_⟩:=h;exact h.lt
theorem MapAt.kept (h:MapAt w m n Kn V)(hb:w'.heap[m]?=w.heap[m]?):MapAt w' m n Kn V:=by
 obtain ⟨D,⟨es,clock,h1,r⟩,h2⟩:=h;exact ⟨D,⟨es,clock,hb.trans h1,r⟩,h2⟩
theorem MapAt.below (h:MapAt w m n Kn V)(hb:Below w.heap.size w w'):MapAt w' m n Kn V:=h.kept (hb.block m h.lt)
theorem MapAt.set {C:Nat}(h:MapAt w m n Kn V)(hC:m≠C)(x:Value):MapAt (w.setCell ⟨C,j,none⟩ x) m n Kn V:=by
 obtain ⟨D,h1,h2⟩:=h;exact ⟨D,h1.setCell (by exact hC) _,h2⟩
theorem MapAt.made (w:World):MapAt (w.alloc (.map #[] 0)) w.heap.size 0 (fun _=>false) (fun _=>0) :=
 ⟨.map [],World.ownsMap_made w _ _ _,fun s=>⟨rfl,fun h=>by cases h⟩⟩
theorem MapAt.congr {Kn':ByteArray->Bool}{V':ByteArray->Int}(h:MapAt w m n Kn V)(hK:∀ s,Kn s=Kn' s)(hV:∀ s,Kn' s=true->V s=V' s):MapAt w m n Kn' V':=by
 obtain ⟨D,h1,h2⟩:=h;refine ⟨D,h1,fun s=>⟨(h2 s).1.trans (hK s),fun hs=>?_⟩⟩;rw [(h2 s).2 ((hK s).trans hs),hV s hs]
theorem mapAt_put {D:DataW Unit}{k:ByteArray}{x:Int}(hD:IsMap D)
  (hown:w.ownsMap Tryz.prog 9 (plainElem Tryz.prog 3) m (n+1) (D.put (keyL k) (.lit (.int .i64 x))))
  (h2:∀ s:ByteArray,has D (keyL s)=Kn s∧(Kn s=true->D.atKey (keyL s) (.lit (.int .i64 0))=.lit (.int .i64 (V s)))) :
  MapAt w m (n+1) (fun s=>decide (s=k) || Kn s) (fun s=>if s=k then x else V s):=by
 refine ⟨_,hown,fun s=>?_⟩
 by_cases e:s=k
 ·subst e
  exact ⟨by rw [has_put_same hD (k:=keyL s) trivial];simp,fun _=>by rw [atKey_put_same hD (k:=keyL s) trivial];simp⟩
 refine ⟨by rw [has_put_other (keyL_ne e),(h2 s).1];simp [e],fun hs=>?_⟩;have hs':Kn s=true:=by simpa [e] using hs
 rw [atKey_put_other (keyL_ne e),(h2 s).2 hs'];simp [e]
def allTo (Kn:ByteArray->Bool)(S:Nat->ByteArray):Nat->Bool
 | 0=>true
 | n+1=>allTo Kn S n && Kn (S n)
theorem allTo_le (Kn:ByteArray->Bool)(S:Nat->ByteArray):∀ n k,k<n->Kn (S k)=false->allTo Kn S n=false
 | 0,_,h,_=>absurd h (Nat.not_lt_zero _)
 | n+1,k,h,e=>by
  unfold allTo
  by_cases hk:k=n
  ·subst hk;rw [e];simp
  rw [allTo_le Kn S n k (by omega) e];rfl
def FindPost (w:World)(Kn:ByteArray->Bool)(V:ByteArray->Int)(S:Nat->ByteArray)(k:Nat)(e:Ending)(w':World):Prop :=
 Below w.heap.size w w'∧((allTo Kn S k=true∧∃ v,e=.returned (.tuple #[v,.bool true])∧OwnI w' w.heap.size v k (fun i=>V (S i)))∨(allTo Kn S k=false∧e=.returned (.tuple #[.slice none 0 0,.bool false])))
theorem make_find (n:Nat)(h:n * 8<=140737488351232)(W:World) :
  (Instr.makeSlice 93 (.int .i64 0) (.int .i64 (n:Int))).run Tryz.prog W=.ok (.slice (some ⟨W.heap.size,0,none⟩) 0 n) (W.alloc (.cells (madeCells #[.int .i64 0] n) 3)):=by
 obtain ⟨i0,hi,hz0,hz1,hz2⟩:=info_parts Tryz.infoIntO
 have:=run_make (P:=Tryz.prog) W 93 3 i0 (.int .i64 0) Tryz.underlying93 hi hz0 .i64 .i64 0 (n:Int) (by omega) (by omega) (by rw [hz2];omega) (by omega);rw [this,hz1];simp [Value.cells]
variable {k cap:Nat}{S:Nat->ByteArray}{a:Option Addr}
theorem find_zero (m:Nat)(Kn:ByteArray->Bool)(V:ByteArray->Int)(S:Nat->ByteArray)(a:Option Addr)(cap:Nat)(w:World) :
  Calls Tryz.prog 80 #[.map (some m),.slice a 0 cap] w (FindPost w Kn V S 0):=by
 have hmk:=make_find 0 (by decide) w;simp only [Int.ofNat_zero] at hmk
 go_enter Tryz.func80,Tryz.ntmps80
 go_wp2
 clear hmk;refine wp_loop_rounds 1 ?_;rw [rounds_succ];go_wp2
 refine bodyPost_ret (v:=.tuple #[.slice (some ⟨w.heap.size,0,none⟩) 0 0,.bool true]) (by simp [results,Tryz.results80,go_sem]) rfl ⟨bA,Or.inl ⟨rfl,_,rfl,OwnI.made w _ 0 _ (by decide) (size_madeCells _ _) nL _⟩⟩
theorem find_any (m n:Nat)(Kn:ByteArray->Bool)(V:ByteArray->Int)(S:Nat->ByteArray)(b off k cap:Nat)(w:World)(hm:MapAt w m n Kn V)(hk:k<=1048576)(hb:b<w.heap.size)
  (hs:∀ i,i<k->(S i).size<=maxLen) (hc:∀ i,i<k->w.cell? ⟨b,off+i,none⟩=some (.string (S i))) :
  Calls Tryz.prog 80 #[.map (some m),.slice (some ⟨b,off,none⟩) k cap] w (FindPost w Kn V S k):=by
 obtain ⟨i0,hi,hz0,hz1,hz2⟩:=info_parts Tryz.infoIntO;have hmk:=make_find k (by omega) w
 go_enter Tryz.func80,Tryz.ntmps80
 go_wp2
 clear hmk
 go_loopw [6,16] (fun v i wr=>∃ j:Nat,j<=k∧i=.int .i64 j∧Hid (allTo Kn S j=true)∧OwnI wr w.heap.size v j (fun i=>V (S i))∧Below w.heap.size w wr) (fun _ i _=>k - (intOf i).toNat)
 case atStart=>exact ⟨0,nz,rfl,rfl,OwnI.made w _ k _ (by unfold maxLen;omega) (size_madeCells _ _) nL _,bA⟩
 case round =>
  obtain ⟨j,hj,rfl,hall,hown,hbel⟩:=hrel
  by_cases hlt:j<k
  ·obtain ⟨D,hD,hK⟩:=hm.below hbel
   have hck:wr.cell? ⟨b,off+j,none⟩=some (.string (S j)):=(hbel.cell (by exact hb)).trans (hc j hlt);have hkey:keyOf Tryz.prog 9 (.string (S j))=some (.string (S j).data.toList):=Go.WideMaps.keyOf_string_mk Tryz.underlying9 (hs j hlt);have hhas:has D (.string (S j).data.toList)=Kn (S j):=(hK (S j)).1;have hat0:Hid (Kn (S j)=true->D.atKey (.string (S j).data.toList) (.lit (.int .i64 0))=.lit (.int .i64 (V (S j)))):=(hK (S j)).2;have hm1:j+1<=maxLen:=by unfold maxLen;omega
   have hm2:(j+1) * 8<=140737488355328:=by omega
   have hag:∀ q,u6.ownBlock=some q->w.heap.size<=q:=fun q hq=>(World.ownsRow.lt hown q hq).1
   have hm3:∀ o,w.heap.size<=(wr.alloc o).heap.size:=fun o=>by have:=hbel.size;simp;omega
   clear hK;cases hkn:Kn (S j)
   ·rw [hkn] at hhas
    have hv:Hid (allTo Kn S k=false):=allTo_le Kn S k j hlt hkn
    go_wp2_with (at_lookup;refine wpList_lookup_own_ok_int _ rfl _ _ 59 rfl 9 3 .i64 lawStr Tryz.underlying59 Tryz.underlying3 (zeroInt _) m n D rfl hD _ _ rfl hkey ?_;intro c hat hwc;rw [hhas])
    refine bodyPost_ret (v:=.tuple #[.slice none 0 0,.bool false]) (by simp [results,Tryz.results80,go_sem]) rfl ⟨hbel,Or.inr ⟨hv.out,rfl⟩⟩
   rw [hkn] at hhas;have hall2:Hid (allTo Kn S (j+1)=true):=by unfold Hid allTo;rw [hall.out,hkn];rfl
   have hat1:=hat0.out hkn
   go_wp2_with (first
    | (at_lookup;refine wpList_lookup_own_ok_int _ rfl _ _ 59 rfl 9 3 .i64 lawStr Tryz.underlying59 Tryz.underlying3 (zeroInt _) m n D rfl hD _ _ rfl hkey ?_;intro c hat hwc;rw [hhas];have hcv:Hid (c=V (S j)):=by (have:=hat.symm.trans hat1;simpa [Hid] using this))
    | (at_builtin;refine wpList_append_own _ rfl _ _ 93 rfl w.heap.size 3 i0 (.int .i64 0) 1 8 Tryz.underlying93 hi hz0 hz1 hz2 rfl (by decide) _ _ _ rfl (World.ownsRow.alloc hown _) ⟨wr.heap.size,0,none⟩ 1 1 [.int .i64 c] rfl rfl (one_cellsI _ _ _) (one_oneI _) hm1 hm2 (hm3 _) ?_;intro v2 w2 hown2 hgrow2 _))
   go_roundw
   case rel=>exact ⟨j+1,by omega,by go_num,hall2,OwnI.snoc hown2 hcv.out,(hbel.alloc hbel.size _).grown hgrow2 (hm3 _) hag⟩
   simp [intOf];omega
  have hjk:j=k:=by omega
  subst hjk;go_wp2
  refine bodyPost_ret (v:=.tuple #[u6,.bool true]) (by simp [results,Tryz.results80,go_sem]) rfl ⟨hbel,Or.inl ⟨hall.out,_,rfl,hown⟩⟩
theorem find_sl (w:World)(hm:MapAt w m n Kn V)(hk:k<=1048576)(hs:SlS w a k cap S) :
  Calls Tryz.prog 80 #[.map (some m),.slice a k cap] w (FindPost w Kn V S k):=by
 rcases hs.cells with rfl|⟨b,off,rfl,hb,hc⟩
 ·exact find_zero m Kn V S a cap w
 exact find_any m n Kn V S b off k cap w hm hk hb hs.size hc
theorem knows_sl (w:World)(hm:MapAt w m n Kn V)(hk:k<=1048576)(hs:SlS w a k cap S) :
  Calls Tryz.prog 134 #[.map (some m),.slice a k cap] w fun e w'=>e=.returned (.bool (allTo Kn S k))∧Below w.heap.size w w':=by
 go_enter Tryz.func134,Tryz.ntmps134
 go_wp2_with fail
 refine (find_sl w hm hk hs).mono ?_;rintro e w1 ⟨hb1,hpost⟩;rcases hpost with ⟨ht,v,rfl,_⟩|⟨hf,rfl⟩
 ·have hv:Hid (true=allTo Kn S k):=ht.symm
  clear ht;go_wp2
  go_ret;exact ⟨ret_bool hv.out,hb1⟩
 have hv:Hid (false=allTo Kn S k):=hf.symm;clear hf;go_wp2
 go_ret;exact ⟨ret_bool hv.out,hb1⟩
end Go.Proofs.YtkdalopokdhndaaGreat
