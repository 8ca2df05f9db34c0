import Derived.Test.YtkdalopokdhndaaGreatAlXZ
import Derived.BigRegion
set_option maxHeartbeats 16000000
set_option maxRecDepth 100000
namespace Go.Proofs.YtkdalopokdhndaaGreat
open Go.RowKit
variable {b c i p len:Nat}{D X:Nat->Nat}{E:Nat->Ev}
def swN (a b i:Nat):Nat:=if i=a then b else if i=b then a else i
theorem swN_swN (a b i:Nat):swN a b (swN a b i)=i:=by
 unfold swN
 by_cases h1:i=a
 ·subst h1
  rw [if_pos rfl]
  by_cases h2:b=i
  ·rw [if_pos h2];exact h2
  rw [if_neg h2,if_pos rfl]
 rw [if_neg h1]
 by_cases h2:i=b
 ·rw [if_pos h2,if_pos rfl];exact h2.symm
 rw [if_neg h2,if_neg h1,if_neg h2]
theorem swN_lt {a:Nat}(ha:a<len)(hb:b<len)(hi:i<len):swN a b i<len:=by
 unfold swN;split
 ·exact hb
 split
 ·exact ha
 exact hi
theorem swN_a (a b:Nat):swN a b a=b:=by unfold swN;rw [if_pos rfl]
theorem swN_b (a b:Nat):swN a b b=a:=by
 unfold swN;split
 ·assumption
 rw [if_pos rfl]
theorem swN_ne {a:Nat}(h1:i≠a)(h2:i≠b):swN a b i=i:=by unfold swN;rw [if_neg h1,if_neg h2]
def swX (X:Nat->Nat)(a b i:Nat):Nat:=X (swN a b i)
def MemX (X:Nat->Nat)(len p:Nat):Prop:=∃ i,i<len∧X i=p
def InjX (X:Nat->Nat)(len:Nat):Prop:=∀ i j,i<len->j<len->X i=X j->i=j
theorem mem_sw {a:Nat}(ha:a<len)(hb:b<len):MemX (swX X a b) len p↔MemX X len p:=by
 constructor
 ·rintro ⟨i,hi,e⟩;exact ⟨swN a b i,swN_lt ha hb hi,e⟩
 rintro ⟨i,hi,e⟩;exact ⟨swN a b i,swN_lt ha hb hi,by unfold swX;rw [swN_swN];exact e⟩
theorem inj_sw {a:Nat}(ha:a<len)(hb:b<len)(h:InjX X len):InjX (swX X a b) len:=fun i j hi hj e=>by
 have:=h _ _ (swN_lt ha hb hi) (swN_lt ha hb hj) e;rw [<- swN_swN a b i,this,swN_swN]
def Heap (E:Nat->Ev)(D:Nat->Nat)(len:Nat)(X:Nat->Nat):Prop:=∀ i,0<i->i<len->¬ Bef E D (X i) (X ((i - 1) / 2))
def HUp (E:Nat->Ev)(D:Nat->Nat)(len:Nat)(X:Nat->Nat)(at_:Nat):Prop :=
 (∀ i,0<i->i<len->i≠at_->¬ Bef E D (X i) (X ((i - 1) / 2)))∧∀ i,0<i->i<len->(i - 1) / 2=at_->0<at_->¬ Bef E D (X i) (X ((at_ - 1) / 2))
def HDn (E:Nat->Ev)(D:Nat->Nat)(len:Nat)(X:Nat->Nat)(at_:Nat):Prop :=
 (∀ i,0<i->i<len->(i - 1) / 2≠at_->¬ Bef E D (X i) (X ((i - 1) / 2)))∧∀ i,0<i->i<len->(i - 1) / 2=at_->0<at_->¬ Bef E D (X i) (X ((at_ - 1) / 2))
theorem hup_start (h:Heap E D len X):HUp E D (len+1) X len :=
 ⟨fun i h0 h1 h2=>h i h0 (by omega),fun i h0 h1 h2 h3=>by omega⟩
theorem hup_top (h:HUp E D len X 0):Heap E D len X:=fun i h0 h1=>h.1 i h0 h1 (by omega)
theorem hup_stop {at_:Nat}(h:HUp E D len X at_)(hb:¬ Bef E D (X at_) (X ((at_ - 1) / 2))):Heap E D len X:=fun i h0 h1=>by
 by_cases e:i=at_
 ·rw [e];exact hb
 exact h.1 i h0 h1 e
theorem hup_step {at_:Nat}(h:HUp E D len X at_)(h0:0<at_)(hl:at_<len)(hb:Bef E D (X at_) (X ((at_ - 1) / 2))):HUp E D len (swX X at_ ((at_ - 1) / 2)) ((at_ - 1) / 2):=by
 obtain ⟨q,hq⟩:∃ q,q=(at_ - 1) / 2:=⟨_,rfl⟩;rw [<- hq] at hb ⊢;have hqa:q<at_:=by omega
 refine ⟨fun i i0 i1 i2=>?_,fun i i0 i1 i2 i3=>?_⟩
 ·unfold swX
  by_cases e1:i=at_
  ·subst e1
   rw [swN_a,<- hq,swN_b];exact hb.asymm
  rw [swN_ne e1 i2]
  by_cases e2:(i - 1) / 2=at_
  ·rw [e2,swN_a,hq]
   exact h.2 i i0 i1 e2 h0
  by_cases e3:(i - 1) / 2=q
  ·rw [e3,swN_b]
   have:=h.1 i i0 i1 e1;rw [e3] at this;exact fun hx=>this (hx.trans hb)
  rw [swN_ne e2 e3];exact h.1 i i0 i1 e1
 unfold swX;have hq0:(q - 1) / 2≠at_:=by omega
 have hq1:(q - 1) / 2≠q:=by omega
 rw [swN_ne hq0 hq1];have hqq:=h.1 q i3 (by omega) (by omega)
 by_cases e1:i=at_
 ·subst e1
  rw [swN_a];exact hqq
 have e2:i≠q:=by omega
 rw [swN_ne e1 e2]
 have:=h.1 i i0 i1 e1;rw [i2] at this;exact nb_trans hqq this
theorem hdn_start (h:Heap E D (len+1) X):HDn E D len (swX X 0 len) 0:=by
 refine ⟨fun i h0 h1 h2=>?_,fun i h0 h1 h2 h3=>by omega⟩;unfold swX;rw [swN_ne (by omega) (by omega),swN_ne h2 (by omega)];exact h i h0 (by omega)
theorem hdn_stop {at_:Nat}(h:HDn E D len X at_)(h1:2 * at_+1<len->¬ Bef E D (X (2 * at_+1)) (X at_))(h2:2 * at_+2<len->¬ Bef E D (X (2 * at_+2)) (X at_)):Heap E D len X:=fun i i0 i1=>by
 by_cases e:(i - 1) / 2=at_
 ·rw [e]
  by_cases e1:i=2 * at_+1
  ·rw [e1];exact h1 (by omega)
  have:i=2 * at_+2:=by omega
  rw [this];exact h2 (by omega)
 exact h.1 i i0 i1 e
theorem hdn_step {at_:Nat}(h:HDn E D len X at_)(hc:c<len)(hp:(c - 1) / 2=at_)(c0:0<c)(hb:Bef E D (X c) (X at_))(hl:∀ i,0<i->i<len->(i - 1) / 2=at_->¬ Bef E D (X i) (X c)):HDn E D len (swX X at_ c) c:=by
 have hca:at_<c:=by omega
 refine ⟨fun i i0 i1 i2=>?_,fun i i0 i1 i2 i3=>?_⟩
 ·unfold swX
  by_cases e1:(i - 1) / 2=at_
  ·rw [e1,swN_a]
   by_cases e2:i=c
   ·subst e2;rw [swN_b];exact hb.asymm
   have:i≠at_:=by omega
   rw [swN_ne this e2];exact hl i i0 i1 e1
  rw [swN_ne e1 i2]
  by_cases e2:i=at_
  ·subst e2
   rw [swN_a];exact h.2 c c0 hc hp i0
  by_cases e3:i=c
  ·subst e3;exact absurd hp e1
  rw [swN_ne e2 e3];exact h.1 i i0 i1 e1
 unfold swX;rw [hp,swN_a];have e1:i≠at_:=by omega
 have e2:i≠c:=by omega
 rw [swN_ne e1 e2]
 have:=h.1 i i0 i1 (by omega);rw [i2] at this;exact this
theorem heap_min (h:Heap E D len X):∀ i,i<len->¬ Bef E D (X i) (X 0):=by
 intro i
 induction i using Nat.strongRecOn with
 | ind i ih =>
  intro hi
  by_cases e:i=0
  ·subst e;exact Bef.irrefl _
  exact nb_trans (ih ((i - 1) / 2) (by omega) (by omega)) (h i (by omega) hi)
theorem mem_pop (hI:InjX X (len+1)):MemX (swX X 0 len) len p↔MemX X (len+1) p∧p≠X 0:=by
 constructor
 ·rintro ⟨i,hi,e⟩
  refine ⟨⟨swN 0 len i,swN_lt (by omega) (by omega) (by omega),e⟩,fun e2=>?_⟩;have e3:swN 0 len i=0:=hI _ _ (swN_lt (by omega) (by omega) (by omega)) (by omega) (by rw [<- e2];exact e)
  have:i=len:=by rw [<- swN_swN 0 len i,e3,swN_a]
  omega
 rintro ⟨⟨i,hi,e⟩,e2⟩;have hi0:i≠0:=fun h=>e2 (by rw [<- e,h])
 refine ⟨swN 0 len i,?_,by unfold swX;rw [swN_swN];exact e⟩;unfold swN;rw [if_neg hi0];split
 ·omega
 omega
theorem inj_less {len':Nat}(h:InjX X len)(hl:len'<=len):InjX X len':=fun i j hi hj e=>h i j (by omega) (by omega) e
variable {P:Nat->Prop}{w w':World}{B g m n cap base base':Nat}{row:Option Nat}{v:Value}{xs:List Value}
structure Kp (P:Nat->Prop)(w w':World):Prop where
 os:w'.os=w.os
 tape:w'.tape=w.tape
 output:w'.output=w.output
 size:w.heap.size<=w'.heap.size
 block:∀ k,k<w.heap.size->¬ P k->w'.heap[k]?=w.heap[k]?
theorem Kp.refl (P:Nat->Prop)(w:World):Kp P w w:=⟨rfl,rfl,rfl,nL,fun _ _ _=>rfl⟩
theorem Kp.trans {a b c:World}(h:Kp P a b)(k:Kp P b c):Kp P a c :=
 ⟨k.os.trans h.os,k.tape.trans h.tape,k.output.trans h.output,nZ h.size k.size,fun i hi hP=>(k.block i (nT hi h.size) hP).trans (h.block i hi hP)⟩
theorem Kp.transN {Q:Nat->Prop}{a b c:World}(h:Kp P a b)(k:Kp Q b c)(hQ:∀ i,i<a.heap.size->Q i->P i):Kp P a c :=
 ⟨k.os.trans h.os,k.tape.trans h.tape,k.output.trans h.output,nZ h.size k.size,fun i hi hP=>(k.block i (nT hi h.size) (fun q=>hP (hQ i hi q))).trans (h.block i hi hP)⟩
theorem Kp.mono {Q:Nat->Prop}(h:Kp P w w')(hPQ:∀ i,i<w.heap.size->P i->Q i):Kp Q w w' :=
 ⟨h.os,h.tape,h.output,h.size,fun i hi hQ=>h.block i hi (fun p=>hQ (hPQ i hi p))⟩
theorem Kp.ofB (h:Below w.heap.size w w'):Kp P w w':=⟨h.os,h.tape,h.output,h.size,fun k hk _=>h.block k hk⟩
theorem Kp.below (h:Kp P w w')(hB:B<=w.heap.size)(hP:∀ k,k<B->¬ P k):Below B w w' :=
 ⟨h.os,h.tape,h.output,h.size,fun k hk=>h.block k (nT hk hB) (hP k hk)⟩
theorem Kp.cell (h:Kp P w w'){p:Addr}(hp:p.block<w.heap.size)(hP:¬ P p.block):w'.cell? p=w.cell? p:=World.cell?_of_block (w:=w) (h.block p.block hp hP)
theorem Kp.frozen (h:Kp P w w'){p:Addr}(hp:p.block<w.heap.size)(hP:¬ P p.block):w'.frozen? p=w.frozen? p:=World.frozen?_of_block (w:=w) (h.block p.block hp hP)
theorem Kp.drew {a:World}(h:Kp P a w):Kp P a w.drew:=⟨h.os,h.tape,h.output,h.size,h.block⟩
theorem Kp.alloc {a:World}(h:Kp P a w)(o:Obj):Kp P a (w.alloc o) :=
 ⟨h.os,h.tape,h.output,by simp;have:=h.size;omega,fun k hk hP=>(Below.heap_alloc w o k (nT hk h.size)).trans (h.block k hk hP)⟩
theorem Kp.setCell {a:World}(h:Kp P a w){p:Addr}(hp:P p.block)(u:Value):Kp P a (w.setCell p u) :=
 ⟨h.os,h.tape,h.output,by simpa [World.setCell] using h.size,fun k hk hP=>(Below.heap_setCell w p u k (fun e=>hP (e ▸ hp))).trans (h.block k hk hP)⟩
theorem Kp.grown {a:World}(h:Kp P a w)(hg:w.grownBy w' row)(hr:∀ k,row=some k->k<a.heap.size->P k):Kp P a w' :=
 ⟨hg.os.trans h.os,hg.tape.trans h.tape,hg.output.trans h.output,nZ h.size hg.size,fun k hk hP=>(hg.block k (nT hk h.size) (fun e=>hP (hr k e.symm hk))).trans (h.block k hk hP)⟩
theorem ownsRow_kp {e size:Nat}(h:w.ownsRow base e size v n xs)(hk:Kp P w w')(hP:∀ g,v.ownBlock=some g->¬ P g):w'.ownsRow base e size v n xs:=by
 obtain ⟨h1,h2⟩:=h;refine ⟨h1,?_⟩;rcases h2 with h2|⟨g,cap,cur,hv,hg,hh,r⟩
 ·exact Or.inl h2
 have hlt:g<w.heap.size:=by
  rcases Nat.lt_or_ge g w.heap.size with h'|h'
  ·exact h'
  rw [Array.getElem?_eq_none h'] at hh;cases hh
 exact Or.inr ⟨g,cap,cur,hv,hg,by rw [hk.block g hlt (hP g (by rw [hv];rfl))];exact hh,r⟩
theorem OwnI.kp {X:Nat->Int}(h:OwnI w base v n X)(hk:Kp P w w')(hP:∀ g,v.ownBlock=some g->¬ P g):OwnI w' base v n X:=ownsRow_kp h hk hP
theorem OwnI.monoB {X:Nat->Int}(h:OwnI w base v n X)(hb:base'<=base):OwnI w base' v n X:=by
 obtain ⟨h1,h2⟩:=h;exact ⟨h1,h2.imp id fun ⟨g,cap,cur,e,hg,r⟩=>⟨g,cap,cur,e,nZ hb hg,r⟩⟩
theorem OwnI.congrX {X Y:Nat->Int}(h:OwnI w base v n X)(he:∀ i,i<n->X i=Y i):OwnI w base v n Y:=by
 have:ints X n=ints Y n:=by
  unfold ints;refine List.map_congr_left fun i hi=>?_
  rw [he i (List.mem_range.1 hi)]
 unfold OwnI at *;rw [<- this];exact h
theorem OwnI.putK {X:Nat->Int}{x:Int}(h:OwnI w base (.slice (some ⟨g,0,none⟩) n cap) n X):OwnI (w.setCell ⟨g,c,none⟩ (.int .i64 x)) base (.slice (some ⟨g,0,none⟩) n cap) n (fun i=>if i=c then x else X i):=by
 have h2:=(World.ownsRow.stored h c (.int .i64 x)).1
 have e:(ints X n).set c (.int .i64 x)=ints (fun i=>if i=c then x else X i) n:=by
  refine List.ext_getElem? fun k=>?_
  rw [List.getElem?_set]
  by_cases hk:c=k
  ·subst hk
   by_cases hn:c<n
   ·simp [ints,hn]
   simp [ints,hn]
  rw [if_neg hk]
  by_cases hn:k<n
  ·rw [ints_get X n k hn,ints_get _ n k hn,if_neg (fun h=>hk h.symm)]
  rw [List.getElem?_eq_none (by rw [ints_len];omega),List.getElem?_eq_none (by rw [ints_len];omega)]
 rw [e] at h2;exact h2
theorem OwnI.less {X:Nat->Int}(h:OwnI w base (.slice (some ⟨g,0,none⟩) n cap) n X)(hm:m<=n):OwnI w base (.slice (some ⟨g,0,none⟩) m cap) m X:=by
 obtain ⟨h1,h2⟩:=h;rcases h2 with ⟨h2,_⟩|⟨g',cap',cur,hv,hg,hh,hn,hc,hs,hx⟩
 ·cases h2
 injection hv with hv1 hv2 hv3
 injection hv1 with hv1
 injection hv1 with hv1 _
 subst hv1 hv3;refine ⟨by simp [ints],Or.inr ⟨g,cap,cur,rfl,hg,hh,by omega,hc,hs,?_⟩⟩;have e1:cur.toList.take (m * 1)=(cur.toList.take (n * 1)).take m:=by rw [List.take_take,Nat.mul_one,Nat.mul_one,Nat.min_eq_left hm]
 rw [e1,hx];unfold ints;rw [<- List.map_take,List.take_range,Nat.min_eq_left hm]
theorem OwnI.frozenK {X:Nat->Int}(h:OwnI w base (.slice (some ⟨g,0,none⟩) n cap) n X)(i:Nat):w.frozen? ⟨g,i,none⟩=false:=by
 obtain ⟨h1,h2⟩:=h;rcases h2 with ⟨h2,_⟩|⟨g',cap',cur,hv,hg,hh,hn,hc,hs,hx⟩
 ·cases h2
 injection hv with hv1 hv2 hv3
 injection hv1 with hv1
 injection hv1 with hv1 _
 subst hv1;simp [World.frozen?,hh]
theorem cmp_casesG:∀ x y:List UInt8,(x<y∧Lib.compareBytes x y=-1)∨(x=y∧Lib.compareBytes x y=0)∨(y<x∧Lib.compareBytes x y=1)
 | [],[]=>Or.inr (Or.inl ⟨rfl,rfl⟩)
 | [],b :: y=>Or.inl ⟨by simp,rfl⟩
 | a :: x,[]=>Or.inr (Or.inr ⟨by simp,rfl⟩)
 | a :: x,b :: y=>by
  unfold Lib.compareBytes
  by_cases h1:a<b
  ·rw [if_pos h1];exact Or.inl ⟨List.cons_lt_cons_iff.2 (Or.inl h1),rfl⟩
  rw [if_neg h1]
  by_cases h2:b<a
  ·rw [if_pos h2];exact Or.inr (Or.inr ⟨List.cons_lt_cons_iff.2 (Or.inl h2),rfl⟩)
  rw [if_neg h2];have e:a=b:=UInt8.le_antisymm (UInt8.not_lt.1 h2) (UInt8.not_lt.1 h1);subst e;rcases cmp_casesG x y with ⟨h,e⟩|⟨rfl,e⟩|⟨h,e⟩
  ·exact Or.inl ⟨List.cons_lt_cons_iff.2 (Or.inr ⟨rfl,h⟩),e⟩
  ·exact Or.inr (Or.inl ⟨rfl,e⟩)
  exact Or.inr (Or.inr ⟨List.cons_lt_cons_iff.2 (Or.inr ⟨rfl,h⟩),e⟩)
def cC (x y:Int):Int:=if x<y then -1 else if y<x then 1 else 0
def or3 (x y z:Int):Int:=if x=0 then (if y=0 then z else y) else x
def cmpG (E:Nat->Ev)(D:Nat->Int)(a b:Nat):Int:=or3 (cC (D b) (D a)) (cC (E a).tm (E b).tm) (cB (E a).id (E b).id)
theorem cC_cases (x y:Int):(x<y∧cC x y=-1)∨(x=y∧cC x y=0)∨(y<x∧cC x y=1):=by
 unfold cC
 by_cases h1:x<y
 ·rw [if_pos h1];exact Or.inl ⟨h1,rfl⟩
 rw [if_neg h1]
 by_cases h2:y<x
 ·rw [if_pos h2];exact Or.inr (Or.inr ⟨h2,rfl⟩)
 rw [if_neg h2];exact Or.inr (Or.inl ⟨by omega,rfl⟩)
theorem cmpG_lt (E:Nat->Ev)(D:Nat->Nat)(a b:Nat):cmpG E (fun i=>(D i:Int)) a b<0↔Bef E D a b:=by
 unfold cmpG or3 Bef cB;rcases cC_cases (D b:Int) (D a:Int) with ⟨h1,e1⟩|⟨h1,e1⟩|⟨h1,e1⟩
 ·rw [e1,if_neg (by decide)]
  exact ⟨fun _=>Or.inl (by omega),fun _=>by decide⟩
 ·rw [e1,if_pos rfl]
  rcases cC_cases (E a).tm (E b).tm with ⟨h2,e2⟩|⟨h2,e2⟩|⟨h2,e2⟩
  ·rw [e2,if_neg (by decide)]
   exact ⟨fun _=>Or.inr ⟨by omega,Or.inl h2⟩,fun _=>by decide⟩
  ·rw [e2,if_pos rfl]
   rcases cmp_casesG (E a).id.data.toList (E b).id.data.toList with ⟨h3,e3⟩|⟨h3,e3⟩|⟨h3,e3⟩
   ·rw [e3]
    exact ⟨fun _=>Or.inr ⟨by omega,Or.inr ⟨h2,h3⟩⟩,fun _=>by decide⟩
   ·rw [e3]
    refine ⟨fun h=>absurd h (by decide),?_⟩;rintro (h|⟨_,h|⟨_,h⟩⟩)
    ·omega
    ·omega
    rw [h3] at h;exact absurd h (List.lt_irrefl _)
   rw [e3];refine ⟨fun h=>absurd h (by decide),?_⟩;rintro (h|⟨_,h|⟨_,h⟩⟩)
   ·omega
   ·omega
   exact absurd h (fun h'=>List.lt_irrefl _ (List.lt_trans h' h3))
  rw [e2,if_neg (by decide)];refine ⟨fun h=>absurd h (by decide),?_⟩;rintro (h|⟨_,h|⟨_,h⟩⟩) <;> omega
 rw [e1,if_neg (by decide)];refine ⟨fun h=>absurd h (by decide),?_⟩;rintro (h|⟨_,h⟩) <;> omega
variable {W:World}{bg bw dc:Nat}
theorem cmpI_any (x y:Int)(w:World) :
  Calls Tryz.prog 176 #[.int .i64 x,.int .i64 y] w fun e w'=>e=.returned (.int .i64 (cC x y))∧w'=w:=by
 have hnan:∀ (z:Int) (W:World),Calls Tryz.prog 216 #[.int .i64 z] W fun e w'=>e=.returned (.bool false)∧w'=W:=fun z W=>by
  go_enter Tryz.func216,Tryz.ntmps216
  go_wp2
  go_ret;exact ⟨by simp,rfl⟩
 by_cases h1:x<y
 ·go_enter Tryz.func176,Tryz.ntmps176
  go_wp2_with (go_at_call 216;refine (hnan _ _).mono ?_;rintro e w' ⟨rfl,rfl⟩)
  go_ret;exact ⟨ret_int (by unfold cC;rw [if_pos h1]),rfl⟩
 by_cases h2:y<x
 ·go_enter Tryz.func176,Tryz.ntmps176
  go_wp2_with (go_at_call 216;refine (hnan _ _).mono ?_;rintro e w' ⟨rfl,rfl⟩)
  go_ret;exact ⟨ret_int (by unfold cC;rw [if_neg (by omega),if_pos h2]),rfl⟩
 go_enter Tryz.func176,Tryz.ntmps176
 go_wp2_with (go_at_call 216;refine (hnan _ _).mono ?_;rintro e w' ⟨rfl,rfl⟩)
 go_ret;exact ⟨ret_int (by unfold cC;rw [if_neg (by omega),if_neg (by omega)]),rfl⟩
theorem bcmpG_any (a b:ByteArray)(w:World) :
  Calls Tryz.prog 167 #[.string a,.string b] w fun e w'=>e=.returned (.int .i64 (cB a b))∧w'=w:=by
 go_enter Tryz.func167,Tryz.ntmps167
 go_wp2
 rw [run_callFunc_extern Tryz.func211 (by kernel_rfl) (by kernel_rfl) (by kernel_rfl) (e:=Extern.BytealgCompare.compare) (by kernel_rfl),Lib.run_compareString];simp only [Result.andThen];rw [Oper.upon_value];go_wp2
 go_ret;exact ⟨rfl,rfl⟩
theorem scmpG_any (a b:ByteArray)(w:World) :
  Calls Tryz.prog 97 #[.string a,.string b] w fun e w'=>e=.returned (.int .i64 (cB a b))∧w'=w:=by
 go_enter Tryz.func97,Tryz.ntmps97
 go_wp2_with (go_at_call 167;refine (bcmpG_any a b _).mono ?_;rintro e w' ⟨rfl,rfl⟩)
 go_ret;exact ⟨rfl,rfl⟩
theorem or3_any (b cap:Nat)(x y z:Int)(w:World)(h0:w.cell? ⟨b,0,none⟩=some (.int .i64 x))(h1:w.cell? ⟨b,1,none⟩=some (.int .i64 y))(h2:w.cell? ⟨b,2,none⟩=some (.int .i64 z)) :
  Calls Tryz.prog 96 #[.slice (some ⟨b,0,none⟩) 3 cap] w fun e w'=>e=.returned (.int .i64 (or3 x y z))∧w'=w:=by
 by_cases hx:x=0
 ·subst hx
  by_cases hy:y=0
  ·subst hy
   by_cases hz:z=0
   ·subst hz
    go_enter Tryz.func96,Tryz.ntmps96
    go_wp2
    refine wp_loop_rounds 4 ?_;rw [rounds_succ];go_wp2
    rw [rounds_succ];go_wp2
    rw [rounds_succ];go_wp2
    rw [rounds_succ];go_wp2
    go_ret;exact ⟨rfl,rfl⟩
   go_enter Tryz.func96,Tryz.ntmps96
   go_wp2
   refine wp_loop_rounds 4 ?_;rw [rounds_succ];go_wp2
   rw [rounds_succ];go_wp2
   rw [rounds_succ];go_wp2
   go_ret;exact ⟨rfl,rfl⟩
  go_enter Tryz.func96,Tryz.ntmps96
  go_wp2
  refine wp_loop_rounds 4 ?_;rw [rounds_succ];go_wp2
  rw [rounds_succ];go_wp2
  go_ret;exact ⟨ret_int (by unfold or3;rw [if_pos rfl,if_neg hy]),rfl⟩
 go_enter Tryz.func96,Tryz.ntmps96
 go_wp2
 refine wp_loop_rounds 4 ?_;rw [rounds_succ];go_wp2
 go_ret;exact ⟨ret_int (by unfold or3;rw [if_neg hx]),rfl⟩
def GfPost (w:World)(a:Option Addr)(n cap:Nat)(da:Option Addr)(dn dc:Nat)(e:Ending)(w':World):Prop:=∃ bg bw,
 e=.returned (.func (.func 175) #[] #[.pointer (some ⟨bg,0,none⟩),.pointer (some ⟨bw,0,none⟩)])∧w.heap.size<=bg∧w.heap.size<=bw ∧
 w'.cell? ⟨bg,0,none⟩=some (.slice a n cap)∧w'.cell? ⟨bw,0,none⟩=some (.slice da dn dc)∧Below w.heap.size w w'
theorem gf_any (a:Option Addr)(n cap:Nat)(mm:Option Nat)(ra:Option Addr)(nr rc:Nat)(da:Option Addr)(dn dc:Nat)(w:World) :
  Calls Tryz.prog 109 #[.agg #[.slice a n cap,.map mm,.slice ra nr rc],.slice da dn dc] w (GfPost w a n cap da dn dc):=by
 have hf:Hid (GfPost w a n cap da dn dc (.returned (.func (.func 175) #[] #[.pointer (some ⟨w.heap.size,0,none⟩),.pointer (some ⟨w.heap.size+1,0,none⟩)])) ((w.alloc (.cells #[.slice a n cap,.map mm,.slice ra nr rc] 62)).alloc (.cells #[.slice da dn dc] 93))):=by
  have hB:=((Below.refl (w.heap.size+1) (w.alloc (.cells #[.slice a n cap,.map mm,.slice ra nr rc] 62))).alloc (by simp) (.cells #[.slice da dn dc] 93));exact ⟨w.heap.size,w.heap.size+1,rfl,nL,by omega,box_cells hB 0,kA (by simp),bA.alloc (by simp) _⟩
 go_enter Tryz.func109,Tryz.ntmps109
 go_wp2
 go_ret;exact hf.out
structure GfAt (W:World)(bg bw b off n cap db dc:Nat)(E:Nat->Ev)(D:Nat->Int):Prop where
 g0:W.cell? ⟨bg,0,none⟩=some (.slice (some ⟨b,off,none⟩) n cap)
 w0:W.cell? ⟨bw,0,none⟩=some (.slice (some ⟨db,0,none⟩) n dc)
 id:∀ p,p<n->W.cell? ⟨b,off+p * 10,none⟩=some (.string (E p).id)
 tm:∀ p,p<n->W.cell? ⟨b,off+p * 10+5,none⟩=some (.int .i64 (E p).tm)
 wt:∀ p,p<n->W.cell? ⟨db,0+p,none⟩=some (.int .i64 (D p))
theorem cell_box1 (cs:Array Value)(t:TypeId)(o:Nat):(w.alloc (.cells cs t)).drew.cell? ⟨w.heap.size,o,none⟩=cs[o]?:=by
 show (w.alloc (.cells cs t)).cell? _=_
 exact kA rfl
theorem gfc_any {off db:Nat}{D:Nat->Int}(p q:Nat)(hp:p<n)(hq:q<n)(h:GfAt W bg bw b off n cap db dc E D) :
  Calls Tryz.prog 175 #[.int .i64 (p:Int),.int .i64 (q:Int),.pointer (some ⟨bg,0,none⟩),.pointer (some ⟨bw,0,none⟩)] W fun e w'=>e=.returned (.int .i64 (cmpG E D p q))∧Grw W w':=by
 obtain ⟨c0,c1,hid,htm,hwt⟩:=h;have p1:=hid p hp;have p2:=htm p hp;have p3:=hwt p hp;have q1:=hid q hq;have q2:=htm q hq;have q3:=hwt q hq;have hv:Hid (or3 (cC (D q) (D p)) (cC (E p).tm (E q).tm) (cB (E p).id (E q).id)=cmpG E D p q):=rfl;have hi0:(0:Int)<=(p:Int):=by omega
 have hi1:(p:Int)<(n:Int):=by omega
 have hi2:(0:Int)<=(q:Int):=by omega
 have hi3:(q:Int)<(n:Int):=by omega
 generalize (E p).id=ip at *;generalize (E q).id=iq at *;generalize (E p).tm=tp at *;generalize (E q).tm=tq at *;generalize D p=dp' at *;generalize D q=dq' at *;clear hid htm hwt
 go_enter Tryz.func175,Tryz.ntmps175
 go_wp2_with fail
 go_region_held3 (fun W=>W.cell? ⟨bg,0,none⟩=some (.slice (some ⟨b,off,none⟩) n cap)) (go_keep) (fail)
 obtain ⟨W1,hW1⟩:∃ W1,W1=W.drew:=⟨_,rfl⟩;have hG1:Hid (Grw W W1):=by unfold Hid;rw [hW1];exact (Grw.refl W).drew
 have hc1:W1.cell? ⟨bw,0,none⟩=some (.slice (some ⟨db,0,none⟩) n dc):=by rw [hW1];exact c1
 have hp1:W1.cell? ⟨b,off+p * 10,none⟩=some (.string ip):=by rw [hW1];exact p1
 have hp2:W1.cell? ⟨b,off+p * 10+5,none⟩=some (.int .i64 tp):=by rw [hW1];exact p2
 have hp3:W1.cell? ⟨db,p,none⟩=some (.int .i64 dp'):=by rw [hW1,<- Nat.zero_add p];exact p3
 have hq1:W1.cell? ⟨b,off+q * 10,none⟩=some (.string iq):=by rw [hW1];exact q1
 have hq2:W1.cell? ⟨b,off+q * 10+5,none⟩=some (.int .i64 tq):=by rw [hW1];exact q2
 have hq3:W1.cell? ⟨db,q,none⟩=some (.int .i64 dq'):=by rw [hW1,<- Nat.zero_add q];exact q3
 rw [<- hW1];clear hW1 c0 c1 p1 p2 p3 q1 q2 q3
 go_wp2_with fail
 go_region_held3 (fun W=>W.cell? ⟨bw,0,none⟩=some (.slice (some ⟨db,0,none⟩) n dc)∧W.cell? ⟨b,off+p * 10,none⟩=some (.string ip)∧W.cell? ⟨b,off+p * 10+5,none⟩=some (.int .i64 tp)∧W.cell? ⟨db,p,none⟩=some (.int .i64 dp')∧W.cell? ⟨b,off+q * 10,none⟩=some (.string iq)∧W.cell? ⟨b,off+q * 10+5,none⟩=some (.int .i64 tq)∧W.cell? ⟨db,q,none⟩=some (.int .i64 dq'))
  (go_keep)
  (first
   | (go_at_call 97;refine (scmpG_any _ _ _).mono ?_;rintro e w' ⟨rfl,rfl⟩)
   | (go_at_call 176;refine (cmpI_any _ _ _).mono ?_;rintro e w' ⟨rfl,rfl⟩)
   | (go_at_call 96;refine (or3_any _ _ _ _ _ _ (cell_box1 _ _ 0) (cell_box1 _ _ 1) (cell_box1 _ _ 2)).mono ?_;rintro e w' ⟨rfl,rfl⟩))
 all_goals
  go_wp2
  go_ret;exact ⟨ret_int hv.out,hG1.out.trans ((Grw.refl W1).alloc _).drew⟩
variable {k hb:Nat}
def CmP (E:Nat->Ev)(D:Nat->Nat)(p q:Nat)(W:World)(e:Ending)(w':World):Prop:=∃ z:Int,e=.returned (.int .i64 z)∧(z<0↔Bef E D p q)∧Below W.heap.size W w'
abbrev gfV (bg bw:Nat):Value:=.func (.func 175) #[] #[.pointer (some ⟨bg,0,none⟩),.pointer (some ⟨bw,0,none⟩)]
def CmpOk (E:Nat->Ev)(D:Nat->Nat)(n bg bw hb base:Nat)(w:World):Prop:=∀ W,Kp (fun b=>b=hb∨base<=b) w W->∀ p q:Nat,p<n->q<n →
 Calls Tryz.prog 175 #[.int .i64 (p:Int),.int .i64 (q:Int),.pointer (some ⟨bg,0,none⟩),.pointer (some ⟨bw,0,none⟩)] W (CmP E D p q W)
theorem CmpOk.on (h:CmpOk E D n bg bw hb base w)(hb':Kp (fun b=>b=hb∨base<=b) w W):CmpOk E D n bg bw hb base W:=fun W' hW'=>h W' (hb'.trans hW')
structure HpAt (w:World)(hb base bg bw:Nat)(v:Value)(len:Nat)(X:Nat->Nat):Prop where
 lt:hb<w.heap.size
 hl:hb<base
 hs:base<=w.heap.size
 c0:w.cell? ⟨hb,0,none⟩=some v
 c1:w.cell? ⟨hb,1,none⟩=some (gfV bg bw)
 fr:∀ o,w.frozen? ⟨hb,o,none⟩=false
 ow:OwnI w base v len (fun i=>(X i:Int))
theorem HpAt.below (h:HpAt w hb base bg bw v len X)(k:Below w.heap.size w w'):HpAt w' hb base bg bw v len X :=
 ⟨nT h.lt k.size,h.hl,nZ h.hs k.size,(k.cell (by exact h.lt)).trans h.c0,(k.cell (by exact h.lt)).trans h.c1,fun o=>(k.frozen (by exact h.lt)).trans (h.fr o),h.ow.below k⟩
def HpB (hb:Nat)(v:Value)(k:Nat):Prop:=k=hb∨v.ownBlock=some k
theorem HpAt.lo (h:HpAt w hb base bg bw v len X)(k:Kp (HpB hb v) w w'):Kp (fun b=>b=hb∨base<=b) w w' :=
 k.mono fun i _ hP=>hP.imp id fun e=>(World.ownsRow.lt h.ow i e).1
def BePost (E:Nat->Ev)(D:Nat->Nat)(x y:Nat)(w:World)(e:Ending)(w':World):Prop:=∃ bq,e=.returned (.bool bq)∧(bq=true↔Bef E D x y)∧Below w.heap.size w w'
theorem bef_any (i k:Nat)(w:World)(h:HpAt w hb base bg bw v len X)(hc:CmpOk E D n bg bw hb base w)(hX:∀ i,i<len->X i<n)(hi:i<len)(hk:k<len) :
  Calls Tryz.prog 179 #[.pointer (some ⟨hb,0,none⟩),.int .i64 (i:Int),.int .i64 (k:Int)] w (BePost E D (X i) (X k) w):=by
 rcases h.ow.cells with ⟨_,h0⟩|⟨g,cap,rfl,hg,hgl,hle,hcap,hcs⟩
 ·omega
 have c0:=h.c0;have c1:=h.c1;have ci:=hcs i hi;have ck:=hcs k hk;rw [Nat.zero_add] at ci ck;have HC:Hid (∀ W,Below w.heap.size w W->Calls Tryz.prog 175 #[.int .i64 (X i:Int),.int .i64 (X k:Int),.pointer (some ⟨bg,0,none⟩),.pointer (some ⟨bw,0,none⟩)] W (CmP E D (X i) (X k) W)):=fun W hW=>hc W (Kp.ofB hW) _ _ (hX i hi) (hX k hk)
 have hrf:Below w.heap.size w w:=kB;have hx1:(0:Int)<=(i:Int):=by omega
 have hx2:(i:Int)<(len:Int):=by omega
 have hx3:(0:Int)<=(k:Int):=by omega
 have hx4:(k:Int)<(len:Int):=by omega
 have hlt:=h.lt;clear h hc hX hcs;generalize X i=xi at *;generalize X k=xk at *
 go_enter Tryz.func179,Tryz.ntmps179
 go_wp2_with fail
 go_region_held3 (fun W=>W.cell? ⟨hb,0,none⟩=some (.slice (some ⟨g,0,none⟩) len cap)∧W.cell? ⟨hb,1,none⟩=some (.func (.func 175) #[] #[.pointer (some ⟨bg,0,none⟩),.pointer (some ⟨bw,0,none⟩)])∧W.cell? ⟨g,i,none⟩=some (.int .i64 (xi:Int))∧W.cell? ⟨g,k,none⟩=some (.int .i64 (xk:Int)))
  (first|(with_reducible exact ⟨c0,c1,ci,ck⟩)|go_keep)
  ((go_at_call 175;refine (HC.out _ (by with_reducible (repeat refine .drew ?_);exact hrf)).mono ?_;rintro e w2 ⟨z,rfl,hz,hb2'⟩;have hb2:Below w.heap.size w w2:=Below.trans (by with_reducible (repeat refine .drew ?_);exact hrf) hb2';clear hb2';have k0:=(hb2.cell (p:=⟨hb,0,none⟩) hlt).trans c0;have k1:=(hb2.cell (p:=⟨hb,1,none⟩) hlt).trans c1;have k2:=(hb2.cell (p:=⟨g,i,none⟩) hgl).trans ci;have k3:=(hb2.cell (p:=⟨g,k,none⟩) hgl).trans ck;have Hz:Hid (_↔_):=hz;clear hz))
 all_goals
  go_wp2
  go_ret;exact ⟨_,rfl,by rw [decide_eq_true_eq];exact Hz.out,by first|exact hb2|exact hb2.drew⟩
theorem own_sw (h:OwnI w base (.slice (some ⟨g,0,none⟩) len cap) len (fun i=>(X i:Int)))(hi:i<len)(hk:k<len) :
  OwnI ((w.setCell ⟨g,i,none⟩ (.int .i64 (X k:Int))).setCell ⟨g,k,none⟩ (.int .i64 (X i:Int))) base (.slice (some ⟨g,0,none⟩) len cap) len (fun j=>(swX X i k j:Int)):=by
 refine (OwnI.putK (OwnI.putK h (c:=i) (x:=(X k:Int))) (c:=k) (x:=(X i:Int))).congrX fun j hj=>?_
 unfold swX swN
 by_cases h1:j=k
 ·subst h1
  rw [if_pos rfl]
  by_cases h2:j=i
  ·subst h2;rw [if_pos rfl]
  rw [if_neg h2,if_pos rfl]
 rw [if_neg h1]
 by_cases h2:j=i
 ·rw [if_pos h2,if_pos h2]
 rw [if_neg h2,if_neg h2,if_neg h1]
def SwPost (w:World)(hb base g len cap:Nat)(X':Nat->Nat)(bg bw:Nat)(e:Ending)(w':World):Prop:=e=.returned (.tuple #[])∧HpAt w' hb base bg bw (.slice (some ⟨g,0,none⟩) len cap) len X'∧Kp (fun b=>b=g) w w'
theorem swap_any (i k:Nat)(w:World)(h:HpAt w hb base bg bw (.slice (some ⟨g,0,none⟩) len cap) len X)(hi:i<len)(hk:k<len) :
  Calls Tryz.prog 180 #[.pointer (some ⟨hb,0,none⟩),.int .i64 (i:Int),.int .i64 (k:Int)] w (SwPost w hb base g len cap (swX X i k) bg bw):=by
 rcases h.ow.cells with ⟨h0,_⟩|⟨g',cap',hv,hg,hgl,hle,hcap,hcs⟩
 ·cases h0
 injection hv with hv1 hv2 hv3
 injection hv1 with hv1
 injection hv1 with hv1 _
 subst hv1 hv3;have c0:=h.c0;have ci:=hcs i hi;have ck:=hcs k hk;rw [Nat.zero_add] at ci ck;have fi:=h.ow.frozenK i;have fk:=h.ow.frozenK k;have hgne:g≠hb:=by have:=h.hl;omega
 obtain ⟨uk,huk⟩:∃ u,(w.setCell ⟨g,i,none⟩ (.int .i64 (X k:Int))).cell? ⟨g,k,none⟩=some u:=by
  by_cases e:k=i
  ·subst e;exact ⟨_,set_same ⟨_,ck⟩⟩
  exact ⟨_,(set_far e).trans ck⟩
 have hfin:Hid (SwPost w hb base g len cap (swX X i k) bg bw (.returned (.tuple #[])) ((w.setCell ⟨g,i,none⟩ (.int .i64 (X k:Int))).setCell ⟨g,k,none⟩ (.int .i64 (X i:Int))).drew):=by
  refine ⟨rfl,?_,(((Kp.refl (fun b=>b=g) w).setCell rfl _).setCell rfl _).drew⟩;have hK:Kp (fun b=>b=g) w ((w.setCell ⟨g,i,none⟩ (.int .i64 (X k:Int))).setCell ⟨g,k,none⟩ (.int .i64 (X i:Int))):=((Kp.refl (fun b=>b=g) w).setCell rfl _).setCell rfl _
  have hH:HpAt ((w.setCell ⟨g,i,none⟩ (.int .i64 (X k:Int))).setCell ⟨g,k,none⟩ (.int .i64 (X i:Int))) hb base bg bw (.slice (some ⟨g,0,none⟩) len cap) len (swX X i k) :=
   ⟨nT h.lt hK.size,h.hl,nZ h.hs hK.size,(hK.cell (by exact h.lt) (fun e=>hgne e.symm)).trans h.c0,(hK.cell (by exact h.lt) (fun e=>hgne e.symm)).trans h.c1,fun o=>(hK.frozen (by exact h.lt) (fun e=>hgne e.symm)).trans (h.fr o),own_sw h.ow hi hk⟩
  exact hH.below kB.drew
 have hx1:(0:Int)<=(i:Int):=by omega
 have hx2:(i:Int)<(len:Int):=by omega
 have hx3:(0:Int)<=(k:Int):=by omega
 have hx4:(k:Int)<(len:Int):=by omega
 clear h hcs;generalize X i=xi at *;generalize X k=xk at *;generalize swX X i k=X' at *
 go_enter Tryz.func180,Tryz.ntmps180
 go_wp2_with fail
 go_region
 all_goals
  go_wp2
  refine bodyPost_ret (v:=.tuple #[]) (by simp [results,Tryz.results180,go_sem]) rfl ?_;exact hfin.out
end Go.Proofs.YtkdalopokdhndaaGreat
