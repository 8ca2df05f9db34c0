import Derived.Test.YtkdalopokdhndaaGreatGrXZ
import Derived.Laws.OwnMore
set_option maxHeartbeats 16000000
set_option maxRecDepth 100000
namespace Go.Proofs.YtkdalopokdhndaaGreat
open Go.RowKit
variable {g i j k n cap base base':Nat}{s x:ByteArray}{w w':World}{v:Value}
def getL (l:List ByteArray)(i:Nat):ByteArray:=l.getD i ByteArray.empty
theorem getL_some {l:List ByteArray}(h:i<l.length):l[i]?=some (getL l i):=by
 simp [getL,List.getD,List.getElem?_eq_getElem h]
theorem getL_mem {l:List ByteArray}(h:i<l.length):getL l i ∈ l:=List.mem_of_getElem? (getL_some h)
theorem mem_getL {l:List ByteArray}(h:s ∈ l):∃ i,i<l.length∧getL l i=s:=by
 obtain ⟨i,hi,e⟩:=List.mem_iff_getElem.1 h;exact ⟨i,hi,by simp [getL,List.getD,List.getElem?_eq_getElem hi,e]⟩
def OwnL (w:World)(base:Nat)(v:Value)(l:List ByteArray):Prop:=w.ownsRow base 9 1 v l.length (l.map Value.string)
theorem OwnL.below {l:List ByteArray}(h:OwnL w base v l)(hb:Below w.heap.size w w'):OwnL w' base v l:=ownsRow_blw h hb
theorem OwnL.snoc {l:List ByteArray}(h:w.ownsRow base 9 1 v (l.length+1) (l.map Value.string ++ [.string x])):OwnL w base v (l ++ [x]):=by
 unfold OwnL;simpa using h
theorem OwnL.nil (w:World)(base:Nat):OwnL w base (.slice none 0 0) []:=⟨rfl,Or.inl ⟨rfl,rfl⟩⟩
theorem OwnL.new (w:World)(base:Nat)(hb:base<=w.heap.size):OwnL (w.alloc (.cells #[] 9)) base (.slice (some ⟨w.heap.size,0,none⟩) 0 0) [] :=
 ⟨rfl,Or.inr ⟨w.heap.size,0,#[],rfl,hb,by show (w.heap.push _)[w.heap.size]?=_;simp,nL,by decide,rfl,rfl⟩⟩
theorem OwnL.mono {l:List ByteArray}(h:OwnL w base v l)(hb:base'<=base):OwnL w base' v l:=by
 obtain ⟨h1,h2⟩:=h;exact ⟨h1,h2.imp id fun ⟨g,cap,cur,e,hg,r⟩=>⟨g,cap,cur,e,nZ hb hg,r⟩⟩
theorem OwnL.kept {l:List ByteArray}(h:OwnL w base v l)(hb:∀ g,base<=g->g<w.heap.size->w'.heap[g]?=w.heap[g]?):OwnL w' base v l:=by
 obtain ⟨h1,h2⟩:=h;refine ⟨h1,?_⟩;rcases h2 with h2|⟨g,cap,cur,hv,hg,hh,r⟩
 ·exact Or.inl h2
 have hlt:g<w.heap.size:=by
  rcases Nat.lt_or_ge g w.heap.size with h'|h'
  ·exact h'
  rw [Array.getElem?_eq_none h'] at hh;cases hh
 exact Or.inr ⟨g,cap,cur,hv,hg,by rw [hb g hg hlt];exact hh,r⟩
theorem OwnL.shape {l:List ByteArray}(h:OwnL w base v l) :
  (v=.slice none 0 0∧l=[])∨∃ g cap,v=.slice (some ⟨g,0,none⟩) l.length cap∧base<=g∧g<w.heap.size∧l.length<=cap∧cap<=maxLen:=by
 obtain ⟨h1,h2⟩:=h;rcases h2 with ⟨rfl,h0⟩|⟨g,cap,cur,rfl,hg,hh,hn,hc,hcs,hx⟩
 ·exact Or.inl ⟨rfl,List.eq_nil_of_length_eq_zero h0⟩
 have hlt:g<w.heap.size:=by
  rcases Nat.lt_or_ge g w.heap.size with h'|h'
  ·exact h'
  rw [Array.getElem?_eq_none h'] at hh;cases hh
 exact Or.inr ⟨g,cap,rfl,hg,hlt,hn,hc⟩
theorem OwnL.cell {l:List ByteArray}(h:OwnL w base (.slice (some ⟨g,0,none⟩) n cap) l)(hn:n=l.length)(hi:i<l.length):w.cell? ⟨g,i,none⟩=some (.string (getL l i)):=by
 subst hn;rw [World.ownsRow.cellAt h i (by omega),List.getElem?_map,getL_some hi];rfl
theorem OwnL.frozen {l:List ByteArray}(h:OwnL w base (.slice (some ⟨g,0,none⟩) n cap) l)(hn:n=l.length)(i:Nat):w.frozen? ⟨g,i,none⟩=false:=by
 subst hn;exact World.ownsRow.frozenAt h i
theorem OwnL.put {l:List ByteArray}(h:OwnL w base (.slice (some ⟨g,0,none⟩) n cap) l)(hn:n=l.length)(i:Nat)(x:ByteArray) :
  OwnL (w.setCell ⟨g,i,none⟩ (.string x)) base (.slice (some ⟨g,0,none⟩) n cap) (l.set i x):=by
 subst hn
 have:=(World.ownsRow.stored h i (.string x)).1;unfold OwnL;rw [List.length_set,List.map_set];exact this
theorem OwnL.sl {l:List ByteArray}(h:OwnL w base v l)(hs:∀ s ∈ l,s.size<=maxLen) :
  ∃ a cap,v=.slice a l.length cap∧SlS w a l.length cap (getL l)∧Wr0 w base a l.length:=by
 rcases h.shape with ⟨rfl,rfl⟩|⟨g,cap,rfl,hg,hlt,hn,hc⟩
 ·exact ⟨none,0,rfl,⟨nL,by decide,fun i hi=>absurd hi (Nat.not_lt_zero _),Or.inl rfl⟩,Or.inl rfl⟩
 refine ⟨_,cap,rfl,⟨hn,hc,fun i hi=>hs _ (getL_mem hi),Or.inr ⟨g,0,rfl,hlt,fun i hi=>by rw [Nat.zero_add];exact h.cell rfl hi⟩⟩,Or.inr ⟨g,0,rfl,hg,hlt,fun i hi=>?_⟩⟩;rw [Nat.zero_add];exact ⟨⟨_,h.cell rfl hi⟩,h.frozen rfl i⟩
def Srt (l:List ByteArray):Prop:=l.Pairwise fun a b=>a.data.toList<b.data.toList
theorem ba_inj {t:ByteArray}(h:s.data.toList=t.data.toList):s=t:=by
 obtain ⟨s⟩:=s;obtain ⟨t⟩:=t
 exact congrArg _ (Array.toList_inj.1 h)
theorem Srt.nodup {l:List ByteArray}(h:Srt l):l.Nodup:=h.imp fun {a b} hab e=>by subst e;exact absurd hab (List.lt_irrefl _)
theorem srt_unique {l1 l2:List ByteArray}(h1:Srt l1)(h2:Srt l2)(h:∀ s,s ∈ l1↔s ∈ l2):l1=l2:=by
 refine List.Perm.eq_of_pairwise (le:=fun a b:ByteArray=>a.data.toList<b.data.toList) (fun a b _ _ hab hba=>?_) h1 h2 ((List.perm_ext_iff_of_nodup h1.nodup h2.nodup).2 h);exact absurd (List.lt_trans hab hba) (List.lt_irrefl _)
def insAt (l:List ByteArray)(k:Nat)(x:ByteArray):List ByteArray:=l.take k ++ x :: l.drop k
theorem insAt_len {l:List ByteArray}(h:k<=l.length):(insAt l k x).length=l.length+1:=by simp [insAt];omega
theorem insAt_end (l:List ByteArray)(x:ByteArray):insAt l l.length x=l ++ [x]:=by simp [insAt]
theorem insAt_get {l:List ByteArray}(h:k<=l.length):getL (insAt l k x) k=x:=by
 simp [getL,insAt,List.getD,h]
theorem insAt_before {l:List ByteArray}(h:k<l.length):getL (insAt l (k+1) x) k=getL l k:=by
 have:min (k+1) l.length=k+1:=by omega
 simp [getL,insAt,List.getD,List.getElem?_append,this,List.getElem?_eq_getElem h]
theorem insAt_swap {l:List ByteArray}(h:k<l.length):((insAt l (k+1) x).set (k+1) (getL l k)).set k x=insAt l k x:=by
 apply List.ext_getElem?;intro i;have h1:(insAt l (k+1) x).length=l.length+1:=insAt_len (by omega);have m1:min (k+1) l.length=k+1:=by omega
 have m2:min k l.length=k:=by omega
 by_cases e1:i=k
 ·subst e1
  rw [List.getElem?_set_self (by rw [List.length_set,h1];omega)];simp [insAt,m2]
 rw [List.getElem?_set_ne (by omega)]
 by_cases e2:i=k+1
 ·subst e2
  rw [List.getElem?_set_self (by rw [h1];omega)];simp [insAt,List.getElem?_append,m2,getL,List.getD,List.getElem?_eq_getElem h]
 rw [List.getElem?_set_ne (by omega)];unfold insAt;rw [List.getElem?_append,List.getElem?_append,List.length_take,List.length_take,m1,m2]
 by_cases e3:i<k
 ·rw [if_pos (by omega),if_pos e3,List.getElem?_take,List.getElem?_take,if_pos (by omega),if_pos e3]
 rw [if_neg (by omega),if_neg e3];obtain ⟨q,rfl⟩:∃ q,i=k+2+q:=⟨i - (k+2),by omega⟩;rw [show k+2+q - (k+1)=q+1 by omega,show k+2+q - k=(q+1)+1 by omega,List.getElem?_cons_succ,List.getElem?_cons_succ,List.getElem?_drop,List.getElem?_drop]
 congr 1
 omega
theorem insAt_mem {l:List ByteArray}:s ∈ insAt l k x↔s=x∨s ∈ l:=by
 unfold insAt;rw [List.mem_append,List.mem_cons];constructor
 ·rintro (h|h|h)
  ·exact Or.inr (List.mem_of_mem_take h)
  ·exact Or.inl h
  exact Or.inr (List.mem_of_mem_drop h)
 rintro (h|h)
 ·exact Or.inr (Or.inl h)
 rw [<- List.take_append_drop k l,List.mem_append] at h;exact h.imp id Or.inr
theorem insAt_srt {l:List ByteArray}(h:Srt l)(hlo:∀ i,i<k->i<l.length->(getL l i).data.toList<x.data.toList)(hhi:∀ i,k<=i->i<l.length->x.data.toList<(getL l i).data.toList):Srt (insAt l k x):=by
 have h':(l.take k ++ l.drop k).Pairwise fun a b:ByteArray=>a.data.toList<b.data.toList:=by rw [List.take_append_drop];exact h
 obtain ⟨p1,p2,p3⟩:=List.pairwise_append.1 h';unfold Srt insAt;refine List.pairwise_append.2 ⟨p1,List.pairwise_cons.2 ⟨fun b hb=>?_,p2⟩,fun a ha b hb=>?_⟩
 ·obtain ⟨i,hi,rfl⟩:=mem_getL hb
  rw [List.length_drop] at hi
  have:getL (l.drop k) i=getL l (k+i):=by simp [getL,List.getD]
  rw [this];exact hhi _ (by omega) (by omega)
 rcases List.mem_cons.1 hb with rfl|hb
 ·obtain ⟨i,hi,rfl⟩:=mem_getL ha
  rw [List.length_take] at hi
  have:getL (l.take k) i=getL l i:=by simp [getL,List.getD,show i<k by omega]
  rw [this];exact hlo _ (by omega) (by omega)
 exact p3 a ha b hb
theorem srt_get {l:List ByteArray}(h:Srt l)(hij:i<j)(hj:j<l.length):(getL l i).data.toList<(getL l j).data.toList:=by
 have:=List.pairwise_iff_getElem.1 h i j (by omega) hj hij;simpa [getL,List.getD,List.getElem?_eq_getElem hj,List.getElem?_eq_getElem (show i<l.length by omega)] using this
theorem hasB_mem (l:List ByteArray)(s:ByteArray):∀ n,n<=l.length->(hasB (getL l) n s=true↔s ∈ l.take n)
 | 0,_=>by simp [hasB]
 | n+1,h=>by
  have e:l.take (n+1)=l.take n ++ [getL l n]:=by rw [List.take_add_one,getL_some (by omega)];rfl
  rw [hasB,e,List.mem_append,Bool.or_eq_true,hasB_mem l s n (by omega),List.mem_singleton];refine or_congr Iff.rfl ⟨fun h=>?_,fun h=>by rw [h];simp⟩;rw [beq_iff_eq,ByteArray.toList_eq,ByteArray.toList_eq] at h;exact (ba_inj h).symm
variable {E:Nat->Ev}{p:Nat}{Kn:ByteArray->Bool}{S:Nat->ByteArray}
theorem room_ins (E:Nat->Ev):∀ n k,k<n->roomTo E n=true->insCode E k (E k)=0
 | 0,_,h,_=>absurd h (Nat.not_lt_zero _)
 | n+1,k,h,e=>by
  unfold roomTo at e;rw [Bool.and_eq_true] at e
  by_cases hk:k=n
  ·subst hk;exact of_decide_eq_true e.2
  exact room_ins E n k (by omega) e.1
theorem room_300 (h:roomTo E n=true):n<=300:=by
 rcases Nat.eq_zero_or_pos n with h0|h0
 ·omega
 have:=(ins_fresh (room_ins E n (n - 1) (by omega) h)).2.2;omega
theorem posV_neg {E:Nat->Ev}{s:ByteArray}:∀ n,posV E n s<0->∀ i,i<n->((E i).id.toList == s.toList)=false
 | 0,_,i,hi=>absurd hi (Nat.not_lt_zero _)
 | n+1,h,i,hi=>by
  rw [posV_step] at h
  by_cases h0:0<=posV E n s
  ·rw [if_pos h0] at h;omega
  rw [if_neg h0] at h
  by_cases e:i=n
  ·subst e
   cases hb:((E i).id.toList == s.toList)
   ·rfl
   rw [hb,if_pos rfl] at h;omega
  exact posV_neg n (by omega) i (by omega)
theorem posV_found (E:Nat->Ev)(s:ByteArray):∀ n,0<=posV E n s->∃ i,i<n∧posV E n s=(i:Int)∧((E i).id.toList == s.toList)=true
 | 0,h=>by simp [posV] at h
 | n+1,h=>by
  rw [posV_step] at h ⊢
  by_cases h0:0<=posV E n s
  ·rw [if_pos h0]
   obtain ⟨i,hi,e,hb⟩:=posV_found E s n h0;exact ⟨i,by omega,e,hb⟩
  rw [if_neg h0] at h ⊢;cases hb:((E n).id.toList == s.toList)
  ·rw [hb] at h;simp at h
  exact ⟨n,by omega,by simp,hb⟩
theorem posV_here (h:roomTo E n=true)(hi:i<n):posV E n (E i).id=(i:Int) :=
 posV_hit E _ n i hi (posV_neg i (ins_fresh (room_ins E n i hi h)).1) (by simp)
theorem allTo_at (hk:k<n)(h:allTo Kn S n=true):Kn (S k)=true:=by
 cases hb:Kn (S k)
 ·rw [allTo_le Kn S n k hk hb] at h;cases h
 rfl
theorem room_prev (h:roomTo E n=true)(hk:k<n)(hp:p<(E k).np):0<=posV E n ((E k).Pv p)∧posV E n ((E k).Pv p)<k:=by
 have h1:=allTo_at hp (insC_all ((insC_code E k (E k)).trans (room_ins E n k hk h))).1;have h2:0<=posV E k ((E k).Pv p):=by simpa [knE] using h1
 rw [posV_stay E _ k h2 n (by omega)];exact ⟨h2,(posV_bd E _ k).2⟩
theorem room_auth (h:roomTo E n=true)(hk:k<n)(hp:p<(E k).na):0<=posV E n ((E k).Av p)∧posV E n ((E k).Av p)<k∧posV E k ((E k).Av p)=posV E n ((E k).Av p):=by
 have h1:=allTo_at hp (insC_all ((insC_code E k (E k)).trans (room_ins E n k hk h))).2;have h2:0<=posV E k ((E k).Av p):=by simpa [knE] using h1
 rw [posV_stay E _ k h2 n (by omega)];exact ⟨h2,(posV_bd E _ k).2,rfl⟩
variable {m:Nat}
inductive Chn (E:Nat->Ev) (n:Nat) (S:Nat->ByteArray) (m:Nat):ByteArray->Prop
 | base {i k p:Nat}:i<m->p<n->(E p).id=S i->k<(E p).na->Chn E n S m ((E p).Av k)
 | step {s:ByteArray} {k p:Nat}:Chn E n S m s->p<n->(E p).id=s->k<(E p).na->Chn E n S m ((E p).Av k)
theorem auth_at (h:roomTo E n=true)(hp:p<n)(hk:k<(E p).na)(e:posV E n ((E p).Av k)=(j:Int)):j<p∧(E j).id=(E p).Av k:=by
 obtain ⟨h0,h1,_⟩:=room_auth h hp hk;obtain ⟨i,hi,e1,hb⟩:=posV_found E ((E p).Av k) n h0
 have:i=j:=by omega
 subst this;exact ⟨by omega,ba_of_toList hb⟩
theorem auth_there (h:roomTo E n=true)(hp:p<n)(hk:k<(E p).na):∃ j,j<p∧posV E n ((E p).Av k)=(j:Int)∧(E j).id=(E p).Av k:=by
 obtain ⟨h0,h1,_⟩:=room_auth h hp hk;obtain ⟨i,hi,e1,hb⟩:=posV_found E ((E p).Av k) n h0;exact ⟨i,by omega,e1,ba_of_toList hb⟩
theorem chn_id (h:roomTo E n=true)(hs:Chn E n S m s):∃ j,j<n∧(E j).id=s:=by
 cases hs with
 | base hi hp e hk=>obtain ⟨j,hj,_,e1⟩:=auth_there h hp hk;exact ⟨j,by omega,e1⟩
 | step _ hp e hk=>obtain ⟨j,hj,_,e1⟩:=auth_there h hp hk;exact ⟨j,by omega,e1⟩
def addL (l:List ByteArray)(x:ByteArray):List ByteArray:=if hasB (getL l) l.length x then l else l ++ [x]
theorem hasL (l:List ByteArray)(x:ByteArray):hasB (getL l) l.length x=true↔x ∈ l:=by
 have:=hasB_mem l x l.length nL;rw [List.take_length] at this;exact this
def addTo (l:List ByteArray)(A:Nat->ByteArray):Nat->List ByteArray
 | 0=>l
 | k+1=>addL (addTo l A k) (A k)
theorem addL_mem (l:List ByteArray)(x s:ByteArray):s ∈ addL l x↔s ∈ l∨s=x:=by
 unfold addL;split
 ·rename_i h
  exact ⟨Or.inl,fun h'=>h'.elim id fun e=>e ▸ (hasL l x).1 h⟩
 simp
theorem addTo_mem (l:List ByteArray)(A:Nat->ByteArray)(s:ByteArray):∀ k,s ∈ addTo l A k↔s ∈ l∨∃ q,q<k∧A q=s
 | 0=>by simp [addTo]
 | k+1=>by
  rw [addTo,addL_mem,addTo_mem l A s k];constructor
  ·rintro ((h|⟨q,hq,e⟩)|rfl)
   ·exact Or.inl h
   ·exact Or.inr ⟨q,by omega,e⟩
   exact Or.inr ⟨k,by omega,rfl⟩
  rintro (h|⟨q,hq,e⟩)
  ·exact Or.inl (Or.inl h)
  by_cases h:q=k
  ·subst h;exact Or.inr e.symm
  exact Or.inl (Or.inr ⟨q,by omega,e⟩)
theorem addL_nodup {l:List ByteArray}(h:l.Nodup)(x:ByteArray):(addL l x).Nodup:=by
 unfold addL;split
 ·exact h
 rename_i hx;refine List.nodup_append.2 ⟨h,by simp,fun a ha b hb=>?_⟩;rw [List.mem_singleton] at hb;subst hb;rintro rfl;exact hx ((hasL l _).2 ha)
theorem addTo_nodup {l:List ByteArray}(h:l.Nodup)(A:Nat->ByteArray):∀ k,(addTo l A k).Nodup
 | 0=>h
 | k+1=>addL_nodup (addTo_nodup h A k) _
theorem addTo_pre (l:List ByteArray)(A:Nat->ByteArray):∀ k,∃ r,addTo l A k=l ++ r
 | 0=>⟨[],by simp [addTo]⟩
 | k+1=>by
  obtain ⟨r,e⟩:=addTo_pre l A k;rw [addTo,e];unfold addL;split
  ·exact ⟨r,rfl⟩
  exact ⟨r ++ [A k],by simp⟩
structure ChA (E:Nat->Ev)(n:Nat)(S:Nat->ByteArray)(m:Nat)(P:ByteArray->Prop)(l:List ByteArray):Prop where
 nodup:l.Nodup
 sound:∀ s,s ∈ l->Chn E n S m s
 closed:∀ p,p<n->P (E p).id->∀ k,k<(E p).na->(E p).Av k ∈ l
theorem ids_len {l:List ByteArray}(h:roomTo E n=true)(hn:l.Nodup)(hs:∀ s,s ∈ l->∃ j,j<n∧(E j).id=s):l.length<=n:=by
 have h1:(l.map fun s=>(posV E n s).toNat).Nodup:=by
  refine List.pairwise_map.2 (List.Pairwise.imp_of_mem (R:=fun a b=>a≠b) (fun {a b} ha hb hab e=>hab ?_) hn);obtain ⟨i,hi,rfl⟩:=hs a ha;obtain ⟨j,hj,rfl⟩:=hs b hb;rw [posV_here h hi,posV_here h hj] at e
  have:i=j:=by simpa using e
  rw [this]
 have:=List.Nodup.length_le_of_subset (l₂:=List.range n) h1 (fun x hx=>by
  obtain ⟨s,hs',rfl⟩:=List.mem_map.1 hx;obtain ⟨i,hi,rfl⟩:=hs s hs';rw [posV_here h hi];exact List.mem_range.2 (by simpa using hi))
 simpa using this
theorem ChA.add {P P':ByteArray->Prop}{l:List ByteArray}(h:ChA E n S m P l)(hr:roomTo E n=true)(hp:p<n)(hc:∀ k,k<(E p).na->Chn E n S m ((E p).Av k))(hP:∀ s,P' s->P s∨s=(E p).id):ChA E n S m P' (addTo l (E p).Av (E p).na):=by
 refine ⟨addTo_nodup h.nodup _ _,fun s hs=>?_,fun p' hp' hq k hk=>?_⟩
 ·rcases (addTo_mem _ _ _ _).1 hs with h1|⟨q,hq,rfl⟩
  ·exact h.sound s h1
  exact hc q hq
 rw [addTo_mem];rcases hP _ hq with h1|h1
 ·exact Or.inl (h.closed p' hp' h1 k hk)
 have e1:=posV_here hr hp';have e2:=posV_here hr hp;rw [h1] at e1
 have:p=p':=by omega
 subst this;exact Or.inr ⟨k,hk,rfl⟩
theorem ChA.addLen {P:ByteArray->Prop}{l:List ByteArray}(h:ChA E n S m P l)(hr:roomTo E n=true)(hp:p<n)(hk:k<=(E p).na):(addTo l (E p).Av k).length<=n :=
 ids_len hr (addTo_nodup h.nodup _ _) fun s hs=>by
  rcases (addTo_mem _ _ _ _).1 hs with h1|⟨q,hq,rfl⟩
  ·exact chn_id hr (h.sound s h1)
  obtain ⟨j,hj,_,e⟩:=auth_there hr hp (show q<(E p).na by omega);exact ⟨j,by omega,e⟩
theorem ChA.mem {l:List ByteArray}(h:ChA E n S m (fun s=>(∃ i,i<m∧S i=s)∨∃ i,i<l.length∧getL l i=s) l)(s:ByteArray):s ∈ l↔Chn E n S m s:=by
 refine ⟨h.sound s,fun hs=>?_⟩
 induction hs with
 | base hi hp e hk=>exact h.closed _ hp (Or.inl ⟨_,hi,e.symm⟩) _ hk
 | step _ hp e hk ih =>
  obtain ⟨i,hi,e1⟩:=mem_getL ih;exact h.closed _ hp (Or.inr ⟨i,hi,e1.trans e.symm⟩) _ hk
variable {e:Ev}
def scTo (E:Nat->Ev)(n:Nat)(P:Ev->Bool)(e:Ev):Nat->Int
 | 0=>-1
 | j+1=>if 0<=scTo E n P e j then scTo E n P e j else if P (E (posV E n (e.Av j)).toNat) then posV E n (e.Av j) else -1
theorem scTo_miss {E:Nat->Ev}{n:Nat}{P:Ev->Bool}{e:Ev}:∀ j,(∀ i,i<j->P (E (posV E n (e.Av i)).toNat)=false)->scTo E n P e j=-1
 | 0,_=>rfl
 | j+1,h=>by
  rw [scTo,scTo_miss j (fun i hi=>h i (by omega)),if_neg (by omega),h j (by omega)];simp
theorem scTo_stay {E : Nat -> Ev} {n : Nat} {P : Ev -> Bool} {e : Ev} (k : Nat) (hk : 0 <= scTo E n P e k) : ∀ j, k <= j -> scTo E n P e j = scTo E n P e k
  | 0, h => by have : k = 0 := by omega
               subst this; rfl
  | j + 1, h => by
    by_cases ek : k = j + 1
    · subst ek; rfl
    · have := scTo_stay k hk j (by omega)
      rw [scTo, this, if_pos hk]
theorem scTo_hit {P:Ev->Bool}(hk:k<j)(h0:∀ i,i<k->P (E (posV E n (e.Av i)).toNat)=false)(hp:posV E n (e.Av k)=(p:Int))(h1:P (E p)=true):scTo E n P e j=(p:Int):=by
 have e1:scTo E n P e (k+1)=(p:Int):=by rw [scTo,scTo_miss k h0,if_neg (by omega),hp,Int.toNat_natCast,h1];simp
 rw [scTo_stay (k+1) (by omega) j (by omega),e1]
theorem scTo_case (E:Nat->Ev)(n:Nat)(P:Ev->Bool)(e:Ev):∀ j,scTo E n P e j=-1∨∃ i,i<j∧scTo E n P e j=posV E n (e.Av i)∧P (E (posV E n (e.Av i)).toNat)=true∧(0<=posV E n (e.Av i)∨scTo E n P e j<0)
 | 0=>Or.inl rfl
 | j+1=>by
  rw [scTo]
  by_cases h0:0<=scTo E n P e j
  ·rw [if_pos h0]
   rcases scTo_case E n P e j with h|⟨i,hi,r⟩
   ·omega
   exact Or.inr ⟨i,by omega,r⟩
  rw [if_neg h0];cases hP:P (E (posV E n (e.Av j)).toNat)
  ·exact Or.inl (by simp)
  refine Or.inr ⟨j,by omega,by simp,hP,?_⟩;rw [if_pos rfl];omega
theorem scTo_bd {P:Ev->Bool}(h:roomTo E n=true)(hp:p<n):scTo E n P (E p) (E p).na=-1∨∃ q,q<p∧scTo E n P (E p) (E p).na=(q:Int)∧P (E q)=true:=by
 rcases scTo_case E n P (E p) (E p).na with h0|⟨i,hi,e,hP,_⟩
 ·exact Or.inl h0
 obtain ⟨j,hj,ej,_⟩:=auth_there h hp hi;refine Or.inr ⟨j,hj,e.trans ej,?_⟩;rw [ej,Int.toNat_natCast] at hP;exact hP
theorem scTo_congr {E:Nat->Ev}{n p:Nat}{P Q:Ev->Bool}(h:roomTo E n=true)(hp:p<n)(hPQ:∀ i,i<n->P (E i)=Q (E i)):∀ j,j<=(E p).na->scTo E n P (E p) j=scTo E n Q (E p) j
 | 0,_=>rfl
 | j+1,hj=>by
  rw [scTo,scTo,scTo_congr h hp hPQ j (by omega)];obtain ⟨i,hi,e,_⟩:=auth_there h hp (show j<(E p).na by omega);rw [e,Int.toNat_natCast,hPQ i (by omega)]
def isPow (e:Ev):Bool:=e.ty.toList == [112,111,119,101,114]
def pwV (E:Nat->Ev)(n p:Nat):Int:=scTo E n isPow (E p) (E p).na
theorem pwV_bd (h:roomTo E n=true)(hp:p<n):-1<=pwV E n p∧pwV E n p<p:=by
 rcases scTo_bd (P:=isPow) h hp with h0|⟨q,hq,e,_⟩
 ·unfold pwV;omega
 unfold pwV;omega
def lnF (E:Nat->Ev)(n:Nat):Nat->Int->List Nat
 | 0,_=>[]
 | f+1,q=>if q<0 then [] else q.toNat :: lnF E n f (pwV E n q.toNat)
theorem lnF_neg (E:Nat->Ev)(n:Nat){q:Int}(hq:q<0):∀ f,lnF E n f q=[]
 | 0=>rfl
 | f+1=>by rw [lnF,if_pos hq]
theorem lnF_more {E:Nat->Ev}{n:Nat}(h:roomTo E n=true):∀ (f f':Nat) (q:Int),q<f->q<n->f<=f'->lnF E n f' q=lnF E n f q
 | 0,f',q,hq,_,_=>by rw [lnF_neg E n (by omega),lnF_neg E n (by omega)]
 | f+1,0,q,_,_,hf=>by omega
 | f+1,f'+1,q,hq,hn,hf=>by
  rw [lnF,lnF]
  by_cases h0:q<0
  ·rw [if_pos h0,if_pos h0]
  rw [if_neg h0,if_neg h0]
  have:=pwV_bd h (show q.toNat<n by omega);rw [lnF_more h f f' _ (by omega) (by omega) (by omega)]
theorem lnF_len (E:Nat->Ev)(n:Nat):∀ (f:Nat) (q:Int),(lnF E n f q).length<=f
 | 0,_=>nL
 | f+1,q=>by
  rw [lnF];split
  ·simp
  have:=lnF_len E n f (pwV E n q.toNat);simp;exact this
theorem lnF_mem {E:Nat->Ev}{n:Nat}(h:roomTo E n=true):∀ (f:Nat) (q:Int),q<n->∀ i ∈ lnF E n f q,i<n
 | 0,_,_,i,hi=>by simp [lnF] at hi
 | f+1,q,hq,i,hi=>by
  rw [lnF] at hi
  by_cases h0:q<0
  ·rw [if_pos h0] at hi;cases hi
  rw [if_neg h0] at hi;rcases List.mem_cons.1 hi with rfl|hi
  ·omega
  exact lnF_mem h f _ (by have:=pwV_bd h (show q.toNat<n by omega);omega) i hi
def ln (E:Nat->Ev)(n:Nat)(q:Int):List Nat:=lnF E n n q
theorem ln_neg (E:Nat->Ev)(n:Nat){q:Int}(hq:q<0):ln E n q=[]:=lnF_neg E n hq n
theorem ln_len (E:Nat->Ev)(n:Nat)(q:Int):(ln E n q).length<=n:=lnF_len E n n q
theorem ln_mem (h:roomTo E n=true){q:Int}(hq:q<n):∀ i ∈ ln E n q,i<n:=lnF_mem h n q hq
theorem ln_cons (h:roomTo E n=true)(hp:p<n):ln E n (p:Int)=p :: ln E n (pwV E n p):=by
 obtain ⟨m,rfl⟩:∃ m,n=m+1:=⟨n - 1,by omega⟩;have hb:=pwV_bd h hp;unfold ln;rw [lnF_more h m (m+1) (pwV E (m+1) p) (by omega) (by omega) (by omega),lnF,if_neg (by omega),Int.toNat_natCast]
def lX (l:List Nat)(k:Nat):Int:=((l.getD k 0:Nat):Int)
theorem ln_at {l:List Nat}{r:List Nat}(h:l.drop k=p :: r):lX l k=(p:Int)∧l.drop (k+1)=r∧k<l.length:=by
 have h1:l[k]?=some p:=by
  have:(l.drop k)[0]?=some p:=by rw [h];rfl
  simpa using this
 refine ⟨by simp [lX,List.getD,h1],?_,?_⟩
 ·rw [<- List.drop_drop,h];rfl
 rcases Nat.lt_or_ge k l.length with h'|h'
 ·exact h'
 rw [List.getElem?_eq_none h'] at h1;cases h1
theorem ln_end {l:List Nat}(h:l.drop k=[])(hk:k<=l.length):k=l.length:=by
 have:=List.drop_eq_nil_iff.1 h;omega
theorem lX_lt {l:List Nat}(h:∀ i ∈ l,i<n)(hk:k<l.length):∃ p,p<n∧lX l k=(p:Int):=by
 refine ⟨l[k],h _ (List.getElem_mem hk),?_⟩;simp [lX,List.getD,List.getElem?_eq_getElem hk]
theorem ev_id (h:e.code=0):e.id.toList.isEmpty=false:=by
 unfold Ev.code evCode at h;split at h
 ·cases h
 rename_i h1
 have hw:isW e.id=true:=by
  cases hq:isW e.id
  ·exact absurd (Or.inl hq) h1
  rfl
 unfold isW at hw;simp only [Bool.and_eq_true,decide_eq_true_eq] at hw;cases hq:e.id.toList.isEmpty
 ·rfl
 have h0:e.id.toList=[]:=by simpa using hq
 have:e.id.size=0:=by rw [size_list,h0];rfl
 omega
theorem ev_pow (h:e.code=0)(ht:isPow e=true):e.st=true∧e.key.toList.isEmpty=true:=by
 unfold isPow at ht;unfold Ev.code evCode at h;split at h
 ·cases h
 split at h
 ·cases h
 split at h
 ·cases h
 split at h
 ·cases h
 split at h
 ·cases h
 rename_i h5
 have hc:ctB e.ty e.key e.val e.st e.np e.na e.ng e.M e.L=true:=by
  cases hq:ctB e.ty e.key e.val e.st e.np e.na e.ng e.M e.L
  ·exact absurd hq h5
  rfl
 have ht':e.ty.toList=[112,111,119,101,114]:=by simpa using ht
 unfold ctB at hc;rw [ht'] at hc;have e1:(([112,111,119,101,114]:List UInt8) == [99,114,101,97,116,101])=false:=by decide
 have e2:(([112,111,119,101,114]:List UInt8) == [109,101,109,98,101,114])=false:=by decide
 have e3:(([112,111,119,101,114]:List UInt8) == [106,111,105,110,95,114,117,108,101,115])=false:=by decide
 rw [e1,e2,e3] at hc;simp at hc;exact ⟨hc.1.1.1,by simp [hc.1.1.2]⟩
theorem room_code (h:roomTo E n=true)(hi:i<n):(E i).code=0:=(ins_fresh (room_ins E n i hi h)).2.1
theorem posV_empty (h:roomTo E n=true)(hs:s.toList.isEmpty=true):posV E n s=-1 :=
 posV_miss E s n fun i hi=>by
  have h1:=ev_id (room_code h hi);have h2:s.toList=[]:=by simpa using hs
  rw [h2];cases hq:(E i).id.toList
  ·rw [hq] at h1;cases h1
  rfl
def mlOk (E:Nat->Ev)(n:Nat)(s:ByteArray):Bool:=roomTo E n && (s.toList.isEmpty || (decide (0<=posV E n s) && isPow (E (posV E n s).toNat)))
def mlL (E:Nat->Ev)(n:Nat)(s:ByteArray):List Nat:=if mlOk E n s then ln E n (posV E n s) else []
def MlPost (w:World)(E:Nat->Ev)(n:Nat)(s:ByteArray)(e:Ending)(w':World):Prop:=Below w.heap.size w w' ∧
 ∃ v,e=.returned (.tuple #[v,.bool (mlOk E n s)])∧OwnT w' w.heap.size v (mlL E n s).length (fun k=>(E (lX (mlL E n s) k).toNat).id)
theorem MlPost.no (h:mlOk E n s=false)(hb:Below w.heap.size w w')(ho:∀ S,OwnT w' w.heap.size v 0 S):MlPost w E n s (.returned (.tuple #[v,.bool false])) w':=by
 refine ⟨hb,v,by rw [h],?_⟩;unfold mlL;rw [h];exact ho _
theorem MlPost.yes {l:List Nat}(h:mlOk E n s=true)(hl:l=ln E n (posV E n s))(hb:Below w.heap.size w w')(ho:OwnT w' w.heap.size v l.length (fun k=>(E (lX l k).toNat).id)):MlPost w E n s (.returned (.tuple #[v,.bool true])) w':=by
 refine ⟨hb,v,by rw [h],?_⟩;unfold mlL;rw [h,if_pos rfl,<- hl];exact ho
theorem OwnT.mono (h:OwnT w base v n S)(hb:base'<=base):OwnT w base' v n S:=by
 obtain ⟨h1,h2⟩:=h;exact ⟨h1,h2.imp id fun ⟨g,cap,cur,e,hg,r⟩=>⟨g,cap,cur,e,nZ hb hg,r⟩⟩
theorem OwnT.list (h:OwnT w base v n S):OwnL w base v ((List.range n).map S):=by
 unfold OwnL;unfold OwnT strs at h;rw [List.length_map,List.length_range,List.map_map];exact h
variable {b c:Nat}{D:Nat->Nat}
def lnI (line:List Nat)(p:Nat):Nat:=line.findIdx (fun x=>x == p)
theorem lnI_le (line:List Nat)(p:Nat):lnI line p<=line.length:=List.findIdx_le_length
theorem lnI_hit {line:List Nat}(hk:k<line.length)(h0:∀ i,i<k->line.getD i 0≠p)(h1:line.getD k 0=p):lnI line p=k:=by
 unfold lnI;rw [List.findIdx_eq hk];refine ⟨by simpa [List.getD,List.getElem?_eq_getElem hk] using h1,fun j hj=>?_⟩
 have:=h0 j hj;have hj':j<line.length:=by omega
 simpa [List.getD,List.getElem?_eq_getElem hj'] using this
theorem lnI_miss {line:List Nat}(h0:∀ i,i<line.length->line.getD i 0≠p):lnI line p=line.length:=by
 unfold lnI;rw [List.findIdx_eq_length];intro x hx;obtain ⟨i,hi,rfl⟩:=List.mem_iff_getElem.1 hx
 have:=h0 i hi;simpa [List.getD,List.getElem?_eq_getElem hi] using this
def dpF (E:Nat->Ev)(n:Nat)(line:List Nat):Nat->Int->Nat
 | 0,_=>line.length
 | f+1,q=>if q<0 then line.length else if lnI line q.toNat<line.length then lnI line q.toNat else dpF E n line f (pwV E n q.toNat)
theorem dpF_neg (E:Nat->Ev)(n:Nat)(line:List Nat){q:Int}(hq:q<0):∀ f,dpF E n line f q=line.length
 | 0=>rfl
 | f+1=>by rw [dpF,if_pos hq]
theorem dpF_more {E:Nat->Ev}{n:Nat}(line:List Nat)(h:roomTo E n=true):∀ (f f':Nat) (q:Int),q<f->q<n->f<=f'->dpF E n line f' q=dpF E n line f q
 | 0,f',q,hq,_,_=>by rw [dpF_neg E n line (by omega),dpF_neg E n line (by omega)]
 | f+1,0,q,_,_,hf=>by omega
 | f+1,f'+1,q,hq,hn,hf=>by
  rw [dpF,dpF]
  by_cases h0:q<0
  ·rw [if_pos h0,if_pos h0]
  rw [if_neg h0,if_neg h0];split
  ·rfl
  have:=pwV_bd h (show q.toNat<n by omega);rw [dpF_more line h f f' _ (by omega) (by omega) (by omega)]
theorem dpF_le (E:Nat->Ev)(n:Nat)(line:List Nat):∀ (f:Nat) (q:Int),dpF E n line f q<=line.length
 | 0,_=>nL
 | f+1,q=>by
  rw [dpF];split
  ·exact nL
  split
  ·exact lnI_le _ _
  exact dpF_le E n line f _
def dp (E:Nat->Ev)(n:Nat)(line:List Nat)(q:Int):Nat:=dpF E n line n q
theorem dp_neg (E:Nat->Ev)(n:Nat)(line:List Nat){q:Int}(hq:q<0):dp E n line q=line.length:=dpF_neg E n line hq n
theorem dp_le (E:Nat->Ev)(n:Nat)(line:List Nat)(q:Int):dp E n line q<=line.length:=dpF_le E n line n q
theorem dp_in {line:List Nat}(hp:p<n)(h:lnI line p<line.length):dp E n line (p:Int)=lnI line p:=by
 obtain ⟨m,rfl⟩:∃ m,n=m+1:=⟨n - 1,by omega⟩;unfold dp;rw [dpF,if_neg (by omega),Int.toNat_natCast,if_pos h]
theorem dp_step {line:List Nat}(hr:roomTo E n=true)(hp:p<n)(h:lnI line p=line.length):dp E n line (p:Int)=dp E n line (pwV E n p):=by
 obtain ⟨m,rfl⟩:∃ m,n=m+1:=⟨n - 1,by omega⟩;have hb:=pwV_bd hr hp;unfold dp;rw [dpF_more line hr m (m+1) (pwV E (m+1) p) (by omega) (by omega) (by omega),dpF,if_neg (by omega),Int.toNat_natCast,if_neg (by omega)]
def Bef (E:Nat->Ev)(D:Nat->Nat)(a b:Nat):Prop:=D b<D a∨(D a=D b∧((E a).tm<(E b).tm∨((E a).tm=(E b).tm∧(E a).id.data.toList<(E b).id.data.toList)))
theorem Bef.irrefl (a:Nat):¬ Bef E D a a:=by
 rintro (h|⟨_,h|⟨_,h⟩⟩)
 ·omega
 ·omega
 exact List.lt_irrefl _ h
theorem Bef.trans {a:Nat}(h1:Bef E D a b)(h2:Bef E D b c):Bef E D a c:=by
 rcases h1 with h1|⟨e1,h1⟩
 ·rcases h2 with h2|⟨e2,h2⟩
  ·exact Or.inl (by omega)
  exact Or.inl (by omega)
 rcases h2 with h2|⟨e2,h2⟩
 ·exact Or.inl (by omega)
 refine Or.inr ⟨by omega,?_⟩;rcases h1 with h1|⟨f1,h1⟩ <;> rcases h2 with h2|⟨f2,h2⟩
 ·exact Or.inl (by omega)
 ·exact Or.inl (by omega)
 ·exact Or.inl (by omega)
 exact Or.inr ⟨by omega,List.lt_trans h1 h2⟩
theorem Bef.asymm {a:Nat}(h:Bef E D a b):¬ Bef E D b a:=fun h'=>Bef.irrefl a (h.trans h')
theorem Bef.total {a:Nat}(hr:roomTo E n=true)(ha:a<n)(hb:b<n)(hne:a≠b):Bef E D a b∨Bef E D b a:=by
 unfold Bef
 by_cases h1:D b<D a
 ·exact Or.inl (Or.inl h1)
 by_cases h2:D a<D b
 ·exact Or.inr (Or.inl h2)
 have e1:D a=D b:=by omega
 by_cases h3:(E a).tm<(E b).tm
 ·exact Or.inl (Or.inr ⟨e1,Or.inl h3⟩)
 by_cases h4:(E b).tm<(E a).tm
 ·exact Or.inr (Or.inr ⟨e1.symm,Or.inl h4⟩)
 have e2:(E a).tm=(E b).tm:=by omega
 have hid:(E a).id.data.toList≠(E b).id.data.toList:=fun e=>hne (by
  have e3:(E a).id=(E b).id:=ba_inj e;have e4:=posV_here hr ha;rw [e3,posV_here hr hb] at e4;omega)
 rcases Nat.lt_or_ge 0 1 with _|h
 ·by_cases h5:(E a).id.data.toList<(E b).id.data.toList
  ·exact Or.inl (Or.inr ⟨e1,Or.inr ⟨e2,h5⟩⟩)
  rcases List.le_iff_lt_or_eq.1 (List.not_lt.1 h5) with h6|h6
  ·exact Or.inr (Or.inr ⟨e1.symm,Or.inr ⟨e2.symm,h6⟩⟩)
  exact absurd h6.symm hid
 omega
end Go.Proofs.YtkdalopokdhndaaGreat
