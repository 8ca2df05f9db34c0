import Derived.Lib.Bytealg
import Derived.Test.YtnbdlaglnefcbaaGreatSetSZ
import Derived.Laws.OwnMore
namespace Go.Proofs.YtnbdlaglnefcbaaGreat
open Go.RowKit
theorem ba_eq {s t:ByteArray}(h:s.data.toList=t.data.toList):s=t:=by
 obtain ⟨s⟩:=s;obtain ⟨t⟩:=t
 exact congrArg _ (Array.toList_inj.1 h)
theorem cmp_cases:∀ x y:List UInt8,(x<y∧Lib.compareBytes x y=-1)∨(x=y∧Lib.compareBytes x y=0)∨(y<x∧Lib.compareBytes x y=1)
 | [],[]=>Or.inr (Or.inl ⟨rfl,rfl⟩)
 | [],b :: y=>Or.inl ⟨by simp,rfl⟩
 | a :: x,[]=>Or.inr (Or.inr ⟨by simp,rfl⟩)
 | a :: x,b :: y=>by
  unfold Lib.compareBytes
  by_cases h1:a<b
  ·rw [if_pos h1];exact Or.inl ⟨List.cons_lt_cons_iff.2 (Or.inl h1),rfl⟩
  ·rw [if_neg h1]
   by_cases h2:b<a
   ·rw [if_pos h2];exact Or.inr (Or.inr ⟨List.cons_lt_cons_iff.2 (Or.inl h2),rfl⟩)
   ·rw [if_neg h2]
    have e:a=b:=UInt8.le_antisymm (UInt8.not_lt.1 h2) (UInt8.not_lt.1 h1)
    subst e
    rcases cmp_cases x y with ⟨h,e⟩|⟨rfl,e⟩|⟨h,e⟩
    ·exact Or.inl ⟨List.cons_lt_cons_iff.2 (Or.inr ⟨rfl,h⟩),e⟩
    ·exact Or.inr (Or.inl ⟨rfl,e⟩)
    ·exact Or.inr (Or.inr ⟨List.cons_lt_cons_iff.2 (Or.inr ⟨rfl,h⟩),e⟩)
def cB (a b:ByteArray):Int:=Lib.compareBytes a.data.toList b.data.toList
def cmpE (a b:Ent):Int:=if cB a.ty b.ty=0 then cB a.key b.key else cB a.ty b.ty
def Lt (a b:Ent):Prop:=a.ty.data.toList<b.ty.data.toList∨(a.ty=b.ty∧a.key.data.toList<b.key.data.toList)
theorem befB_iff (a b:Ent):befB a b=true↔Lt a b:=by
 unfold befB Lt
 rw [ByteArray.toList_eq,ByteArray.toList_eq,ByteArray.toList_eq,ByteArray.toList_eq]
 by_cases h:a.ty.data.toList=b.ty.data.toList
 ·rw [if_pos (by simpa using h),bytesLess_eq,decide_eq_true_eq]
  constructor
  ·exact fun h'=>Or.inr ⟨ba_eq h,h'⟩
  ·rintro (h'|h')
   ·rw [h] at h';exact absurd h' (List.lt_irrefl _)
   ·exact h'.2
 ·rw [if_neg (by simpa using h),bytesLess_eq,decide_eq_true_eq]
  constructor
  ·exact Or.inl
  ·rintro (h'|h')
   ·exact h'
   ·exact absurd (by rw [h'.1]) h
theorem samB_iff (a b:Ent):samB a b=true↔a.ty=b.ty∧a.key=b.key:=by
 unfold samB
 rw [Bool.and_eq_true,ByteArray.toList_eq,ByteArray.toList_eq,ByteArray.toList_eq,ByteArray.toList_eq,beq_iff_eq,beq_iff_eq]
 exact ⟨fun h=>⟨ba_eq h.1,ba_eq h.2⟩,fun h=>⟨by rw [h.1],by rw [h.2]⟩⟩
theorem Lt.trans {a b c:Ent}(h1:Lt a b)(h2:Lt b c):Lt a c:=by
 unfold Lt at *
 rcases h1 with h1|⟨e1,h1⟩ <;> rcases h2 with h2|⟨e2,h2⟩
 ·exact Or.inl (List.lt_trans h1 h2)
 ·rw [<- e2];exact Or.inl h1
 ·rw [e1];exact Or.inl h2
 ·exact Or.inr ⟨e1.trans e2,List.lt_trans h1 h2⟩
theorem Lt.irrefl (a:Ent):¬ Lt a a:=by
 rintro (h|h)
 ·exact List.lt_irrefl _ h
 ·exact List.lt_irrefl _ h.2
theorem tri (a b:Ent):(Lt a b∧cmpE a b=-1)∨((a.ty=b.ty∧a.key=b.key)∧cmpE a b=0)∨(Lt b a∧cmpE a b=1):=by
 unfold cmpE Lt
 rcases cmp_cases a.ty.data.toList b.ty.data.toList with ⟨h,e⟩|⟨h,e⟩|⟨h,e⟩
 ·exact Or.inl ⟨Or.inl h,by unfold cB;rw [e];rfl⟩
 ·rcases cmp_cases a.key.data.toList b.key.data.toList with ⟨h2,e2⟩|⟨h2,e2⟩|⟨h2,e2⟩
  ·exact Or.inl ⟨Or.inr ⟨ba_eq h,h2⟩,by unfold cB;rw [e,e2];rfl⟩
  ·exact Or.inr (Or.inl ⟨⟨ba_eq h,ba_eq h2⟩,by unfold cB;rw [e,e2];rfl⟩)
  ·exact Or.inr (Or.inr ⟨Or.inr ⟨(ba_eq h).symm,h2⟩,by unfold cB;rw [e,e2];rfl⟩)
 ·exact Or.inr (Or.inr ⟨Or.inl h,by unfold cB;rw [e];rfl⟩)
theorem Lt.ne {a b:Ent}(h:Lt a b):¬ (a.ty=b.ty∧a.key=b.key):=by
 rintro ⟨e1,e2⟩
 unfold Lt at h
 rw [e1,e2] at h
 rcases h with h|h
 ·exact List.lt_irrefl _ h
 ·exact List.lt_irrefl _ h.2
theorem Lt.asymm {a b:Ent}(h:Lt a b):¬ Lt b a:=fun h'=>Lt.irrefl a (h.trans h')
def SrtE (l:List Ent):Prop:=l.Pairwise Lt
theorem ordTo_iff (l:List Ent):∀ n,ordTo l n=true↔∀ i,i+1<n->befB (eAt l i) (eAt l (i+1))=true
 | 0=>⟨fun _ i hi=>absurd hi (by omega),fun _=>rfl⟩
 | n+1=>by
  unfold ordTo
  rw [Bool.and_eq_true,ordTo_iff l n]
  constructor
  ·rintro ⟨h1,h2⟩ i hi
   by_cases e:i+1=n
   ·subst e
    rw [Bool.or_eq_true] at h2
    rcases h2 with h2|h2
    ·simp at h2
    ·exact h2
   ·exact h1 i (by omega)
  ·refine fun h=>⟨fun i hi=>h i (by omega),?_⟩
   cases n with
   | zero=>rfl
   | succ m=>rw [Bool.or_eq_true];exact Or.inr (h m (by omega))
theorem srt_at {l:List Ent}(h:SrtE l){i j:Nat}(hij:i<j)(hj:j<l.length):Lt (eAt l i) (eAt l j):=by
 rw [eAt_get l i (by omega),eAt_get l j hj]
 exact List.pairwise_iff_getElem.1 h i j (by omega) hj hij
theorem srt_of {l:List Ent}(h:ordB l=true):SrtE l:=by
 have h1:=(ordTo_iff l l.length).1 h
 have h2:∀ j,j<l.length->∀ i,i<j->Lt (eAt l i) (eAt l j):=by
  intro j
  induction j with
  | zero=>exact fun _ i hi=>absurd hi (Nat.not_lt_zero _)
  | succ j ih =>
   intro hj i hi
   have hs:=(befB_iff _ _).1 (h1 j hj)
   by_cases e:i=j
   ·subst e;exact hs
   ·exact (ih (by omega) i (by omega)).trans hs
 refine List.pairwise_iff_getElem.2 fun i j hi hj hij=>?_
 have:=h2 j hj i hij
 rwa [eAt_get l i hi,eAt_get l j hj] at this
theorem ord_of {l:List Ent}(h:SrtE l):ordB l=true :=
 (ordTo_iff l l.length).2 fun i hi=>(befB_iff _ _).2 (srt_at h (Nat.lt_succ_self i) hi)
def lookE (l:List Ent)(s:Ent):Option Ent:=l.find? fun x=>samB x s
theorem lookE_some {l:List Ent}{s e:Ent}(h:lookE l s=some e):e ∈ l∧e.ty=s.ty∧e.key=s.key:=by
 unfold lookE at h
 have h2:samB e s=true:=List.find?_some (p:=fun x=>samB x s) h
 exact ⟨List.mem_of_find?_eq_some h,(samB_iff _ _).1 h2⟩
theorem srt_uniq {l:List Ent}(h:SrtE l){x y:Ent}(hx:x ∈ l)(hy:y ∈ l)(e:x.ty=y.ty∧x.key=y.key):x=y:=by
 obtain ⟨i,hi,rfl⟩:=List.mem_iff_getElem.1 hx
 obtain ⟨j,hj,rfl⟩:=List.mem_iff_getElem.1 hy
 rcases Nat.lt_trichotomy i j with hij|hij|hij
 ·exact absurd e (List.pairwise_iff_getElem.1 h i j hi hj hij).ne
 ·subst hij;rfl
 ·exact absurd ⟨e.1.symm,e.2.symm⟩ (List.pairwise_iff_getElem.1 h j i hj hi hij).ne
theorem srt_ext:∀ {l l':List Ent},SrtE l->SrtE l'->(∀ x,x ∈ l↔x ∈ l')->l=l'
 | [],[],_,_,_=>rfl
 | [],b :: l',_,_,h=>absurd ((h b).2 (by simp)) (by simp)
 | a :: l,[],_,_,h=>absurd ((h a).1 (by simp)) (by simp)
 | a :: l,b :: l',h1,h2,h=>by
  obtain ⟨p1,q1⟩:=List.pairwise_cons.1 h1
  obtain ⟨p2,q2⟩:=List.pairwise_cons.1 h2
  have e:a=b:=by
   rcases List.mem_cons.1 ((h a).1 (by simp)) with e|ha
   ·exact e
   ·rcases List.mem_cons.1 ((h b).2 (by simp)) with e|hb
    ·exact e.symm
    ·exact absurd (p1 b hb) (p2 a ha).asymm
  subst e
  congr 1
  refine srt_ext q1 q2 fun x=>⟨fun hx=>?_,fun hx=>?_⟩
  ·rcases List.mem_cons.1 ((h x).1 (List.mem_cons_of_mem _ hx)) with e|hx'
   ·subst e;exact absurd (p1 x hx) (Lt.irrefl x)
   ·exact hx'
  ·rcases List.mem_cons.1 ((h x).2 (List.mem_cons_of_mem _ hx)) with e|hx'
   ·subst e;exact absurd (p2 x hx) (Lt.irrefl x)
   ·exact hx'
theorem befB_ff {a b:Ent}:befB a b=false↔¬ Lt a b:=by
 rw [<- befB_iff];cases befB a b <;> simp
theorem takeW_filter {e:Ent}:∀ {l:List Ent},SrtE l->l.takeWhile (fun x=>befB x e)=l.filter fun x=>befB x e
 | [],_=>rfl
 | a :: l,h=>by
  obtain ⟨h1,h2⟩:=List.pairwise_cons.1 h
  cases hb:befB a e
  ·rw [List.takeWhile_cons_of_neg (by simp [hb]),List.filter_cons_of_neg (by simp [hb])]
   symm
   rw [List.filter_eq_nil_iff]
   intro x hx hx2
   exact befB_ff.1 hb ((h1 x hx).trans ((befB_iff _ _).1 hx2))
  ·rw [List.takeWhile_cons_of_pos (by exact hb),List.filter_cons_of_pos (by exact hb),takeW_filter h2]
def kept (e:Ent)(keep:Bool):Bool:=keep || !e.id.toList.isEmpty
theorem setL_eq {l:List Ent}(h:SrtE l)(e:Ent)(keep:Bool):setL l e keep=(l.filter fun x=>befB x e) ++ ((if kept e keep then [e] else []) ++ l.filter fun x=>befB e x):=by
 unfold setL kept
 rw [takeW_filter h]
theorem srt_mid {l:List Ent}(h:SrtE l)(e:Ent)(m:List Ent)(hm:m=[]∨∃ y,m=[y]∧y.ty=e.ty∧y.key=e.key):SrtE ((l.filter fun x=>befB x e) ++ (m ++ l.filter fun x=>befB e x)):=by
 have hle:∀ y:Ent,y.ty=e.ty∧y.key=e.key->∀ x,(Lt x e->Lt x y)∧(Lt e x->Lt y x):=fun y hy x=>by unfold Lt;rw [hy.1,hy.2];exact ⟨id,id⟩
 refine List.pairwise_append.2 ⟨List.Pairwise.filter _ h,List.pairwise_append.2 ⟨?_,List.Pairwise.filter _ h,?_⟩,?_⟩
 ·rcases hm with rfl|⟨y,rfl,_⟩
  ·exact List.Pairwise.nil
  ·exact List.pairwise_singleton _ _
 ·intro a ha b hb
  rcases hm with rfl|⟨y,rfl,hy⟩
  ·cases ha
  ·rw [List.mem_singleton] at ha
   subst ha
   exact (hle _ hy b).2 ((befB_iff _ _).1 (List.mem_filter.1 hb).2)
 ·intro a ha b hb
  have ha2:=(befB_iff _ _).1 (List.mem_filter.1 ha).2
  rcases List.mem_append.1 hb with hb|hb
  ·rcases hm with rfl|⟨y,rfl,hy⟩
   ·cases hb
   ·rw [List.mem_singleton] at hb
    subst hb
    exact (hle _ hy a).1 ha2
  ·exact ha2.trans ((befB_iff _ _).1 (List.mem_filter.1 hb).2)
theorem setL_srt {l:List Ent}(h:SrtE l)(e:Ent)(keep:Bool):SrtE (setL l e keep):=by
 rw [setL_eq h]
 refine srt_mid h e _ ?_
 split
 ·exact Or.inr ⟨e,rfl,rfl,rfl⟩
 ·exact Or.inl rfl
theorem setL_in {l:List Ent}(h:SrtE l)(e:Ent)(keep:Bool)(x:Ent):x ∈ setL l e keep↔(x ∈ l∧¬ (x.ty=e.ty∧x.key=e.key))∨(x=e∧kept e keep=true):=by
 rw [setL_eq h,List.mem_append,List.mem_append,List.mem_filter,List.mem_filter,befB_iff,befB_iff]
 constructor
 ·rintro (⟨h1,h2⟩|h1|⟨h1,h2⟩)
  ·exact Or.inl ⟨h1,h2.ne⟩
  ·split at h1
   ·rename_i hk;exact Or.inr ⟨by simpa using h1,hk⟩
   ·cases h1
  ·exact Or.inl ⟨h1,fun e'=>h2.ne ⟨e'.1.symm,e'.2.symm⟩⟩
 ·rintro (⟨h1,h2⟩|⟨rfl,hk⟩)
  ·rcases tri x e with ⟨h3,_⟩|⟨h3,_⟩|⟨h3,_⟩
   ·exact Or.inl ⟨h1,h3⟩
   ·exact absurd h3 h2
   ·exact Or.inr (Or.inr ⟨h1,h3⟩)
  ·exact Or.inr (Or.inl (by rw [if_pos hk];simp))
def Ids (l:List Ent):Prop:=∀ x ∈ l,x.id.toList.isEmpty=false
def eaV (l:List Ent)(s:Ent):Ent:=(lookE l s).getD Ent.none
theorem findIdx_find (p:Ent->Bool):∀ l:List Ent,(l.find? p=none∧l.findIdx p=l.length)∨(∃ e,l.find? p=some e∧l.findIdx p<l.length∧eAt l (l.findIdx p)=e)
 | []=>Or.inl ⟨rfl,rfl⟩
 | a :: l=>by
  rw [List.find?_cons,List.findIdx_cons]
  cases h:p a
  ·rcases findIdx_find p l with ⟨h1,h2⟩|⟨e,h1,h2,h3⟩
   ·exact Or.inl ⟨h1,by simp [h2]⟩
   ·exact Or.inr ⟨e,h1,Nat.succ_lt_succ h2,by simpa [eAt] using h3⟩
  ·exact Or.inr ⟨a,rfl,by simp,by simp [eAt]⟩
theorem posI_look (l:List Ent)(s:Ent):(lookE l s=none∧posI l s=-1)∨(∃ e,lookE l s=some e∧0<=posI l s∧eAt l (posI l s).toNat=e):=by
 unfold posI lookE
 rcases findIdx_find (fun x=>samB x s) l with ⟨h1,h2⟩|⟨e,h1,h2,h3⟩
 ·exact Or.inl ⟨h1,by rw [if_neg (by omega)]⟩
 ·exact Or.inr ⟨e,h1,by rw [if_pos h2];omega,by rw [if_pos h2,Int.toNat_natCast];exact h3⟩
theorem idsTo_mem {l:List Ent}:∀ {n},idsTo l n=true->∀ i,i<n->(eAt l i).id.toList.isEmpty=false
 | 0,_,i,hi=>absurd hi (Nat.not_lt_zero _)
 | n+1,h,i,hi=>by
  unfold idsTo at h
  rw [Bool.and_eq_true] at h
  by_cases e:i=n
  ·subst e;simpa using h.2
  ·exact idsTo_mem h.1 i (by omega)
theorem st_parts {l:List Ent}(h:stB l=true):l.length<=300∧SrtE l∧∀ x ∈ l,x.id.toList.isEmpty=false:=by
 unfold stB at h
 rw [Bool.and_eq_true,Bool.and_eq_true] at h
 refine ⟨of_decide_eq_true h.2.1,srt_of h.2.2,fun x hx=>?_⟩
 obtain ⟨i,hi,rfl⟩:=List.mem_iff_getElem.1 hx
 rw [<- eAt_get l i hi]
 exact idsTo_mem h.1 i hi
def findB (l:List Ent)(kind key:ByteArray):ByteArray:=if 0<=posI l ⟨kind,key,⟨#[]⟩⟩ then (eAt l (posI l ⟨kind,key,⟨#[]⟩⟩).toNat).id else ⟨#[]⟩
theorem posI_bd (l:List Ent)(e:Ent):-1<=posI l e∧posI l e<l.length:=by
 unfold posI
 split <;> omega
set_option maxHeartbeats 1000000 in
theorem l4Find_sl {a:Option Addr}{cap:Nat}{l:List Ent}(kind key:ByteArray)(w:World)(h:SlE w a cap l) :
  Calls Tryz.prog 48 #[.slice a l.length cap,.string kind,.string key] w fun e w'=>e=.returned (.string (findB l kind key))∧Below w.heap.size w w':=by
 have hbd:=posI_bd l ⟨kind,key,⟨#[]⟩⟩
 by_cases hp:0<=posI l ⟨kind,key,⟨#[]⟩⟩
 ·obtain ⟨p,hpn⟩:∃ p:Nat,posI l ⟨kind,key,⟨#[]⟩⟩=(p:Int):=⟨(posI l ⟨kind,key,⟨#[]⟩⟩).toNat,by omega⟩
  have hv:Hid (findB l kind key=(eAt l p).id):=by unfold Hid findB;rw [if_pos hp,hpn];rfl
  have hat:Hid (∀ W,SlE W a cap l->Calls Tryz.prog 73 #[.slice a l.length cap,entV ⟨kind,key,⟨#[]⟩⟩] W fun e w'=>e=.returned (.int .i64 (p:Int))∧Below W.heap.size W w'):=fun W hW=>by
   have:=at_sl ⟨kind,key,⟨#[]⟩⟩ W hW
   rw [hpn] at this
   exact this
  have hlt:p<l.length:=by omega
  clear hp hpn hbd
  have hs:=h
  rcases h.cells with rfl|⟨b,off,rfl,hb,h1,h2,h3⟩
  ·exact absurd hlt (Nat.not_lt_zero _)
  have hle:=Nat.le_trans h.le h.max
  unfold maxLen at hle
  have c3:=h3 p hlt
  clear h1 h2 h3
  go_enter Tryz.func48,Tryz.ntmps48
  go_wp2_with fail
  refine (hat.out _ hs).mono ?_
  rintro e w1 ⟨rfl,hb1⟩
  have c31:=(hb1.cell (by exact hb)).trans c3
  go_wp2
  go_ret
  exact ⟨by rw [hv.out];rfl,hb1⟩
 ·have hv:Hid (findB l kind key=⟨#[]⟩):=by unfold Hid findB;rw [if_neg hp]
  have hpn:posI l ⟨kind,key,⟨#[]⟩⟩=-1:=by omega
  have hat:Hid (∀ W,SlE W a cap l->Calls Tryz.prog 73 #[.slice a l.length cap,entV ⟨kind,key,⟨#[]⟩⟩] W fun e w'=>e=.returned (.int .i64 (-1))∧Below W.heap.size W w'):=fun W hW=>by
   have:=at_sl ⟨kind,key,⟨#[]⟩⟩ W hW
   rw [hpn] at this
   exact this
  clear hp hpn hbd
  go_enter Tryz.func48,Tryz.ntmps48
  go_wp2_with fail
  refine (hat.out _ h).mono ?_
  rintro e w1 ⟨rfl,hb1⟩
  go_wp2
  go_ret
  exact ⟨by rw [hv.out];rfl,hb1⟩
def getL (l:List ByteArray)(i:Nat):ByteArray:=l.getD i ByteArray.empty
theorem getL_some {l:List ByteArray}{i:Nat}(h:i<l.length):l[i]?=some (getL l i):=by
 simp [getL,List.getD,List.getElem?_eq_getElem h]
theorem getL_mem {l:List ByteArray}{i:Nat}(h:i<l.length):getL l i ∈ l:=List.mem_of_getElem? (getL_some h)
theorem mem_getL {l:List ByteArray}{s:ByteArray}(h:s ∈ l):∃ i,i<l.length∧getL l i=s:=by
 obtain ⟨i,hi,e⟩:=List.mem_iff_getElem.1 h
 exact ⟨i,hi,by simp [getL,List.getD,List.getElem?_eq_getElem hi,e]⟩
def OwnL (w:World)(base:Nat)(v:Value)(l:List ByteArray):Prop:=w.ownsRow base 9 1 v l.length (l.map Value.string)
theorem OwnL.below {w w':World}{base:Nat}{v:Value}{l:List ByteArray}(h:OwnL w base v l)(hb:Below w.heap.size w w'):OwnL w' base v l:=ownsRow_blw h hb
theorem OwnL.snoc {w:World}{base:Nat}{v:Value}{l:List ByteArray}{x:ByteArray}(h:w.ownsRow base 9 1 v (l.length+1) (l.map Value.string ++ [.string x])):OwnL w base v (l ++ [x]):=by
 unfold OwnL
 simpa using h
theorem OwnL.nil (w:World)(base:Nat):OwnL w base (.slice none 0 0) []:=⟨rfl,Or.inl ⟨rfl,rfl⟩⟩
theorem OwnL.new (w:World)(base:Nat)(hb:base<=w.heap.size):OwnL (w.alloc (.cells #[] 9)) base (.slice (some ⟨w.heap.size,0,none⟩) 0 0) [] :=
 ⟨rfl,Or.inr ⟨w.heap.size,0,#[],rfl,hb,by show (w.heap.push _)[w.heap.size]?=_;simp,Nat.le_refl _,by decide,rfl,rfl⟩⟩
theorem OwnL.mono {w:World}{base base':Nat}{v:Value}{l:List ByteArray}(h:OwnL w base v l)(hb:base'<=base):OwnL w base' v l:=by
 obtain ⟨h1,h2⟩:=h
 exact ⟨h1,h2.imp id fun ⟨g,cap,cur,e,hg,r⟩=>⟨g,cap,cur,e,Nat.le_trans hb hg,r⟩⟩
theorem OwnL.kept {w w':World}{base:Nat}{v:Value}{l:List ByteArray}(h:OwnL w base v l)(hb:∀ g,base<=g->g<w.heap.size->w'.heap[g]?=w.heap[g]?):OwnL w' base v l:=by
 obtain ⟨h1,h2⟩:=h
 refine ⟨h1,?_⟩
 rcases h2 with h2|⟨g,cap,cur,hv,hg,hh,r⟩
 ·exact Or.inl h2
 ·have hlt:g<w.heap.size:=by
   rcases Nat.lt_or_ge g w.heap.size with h'|h'
   ·exact h'
   ·rw [Array.getElem?_eq_none h'] at hh;cases hh
  exact Or.inr ⟨g,cap,cur,hv,hg,by rw [hb g hg hlt];exact hh,r⟩
theorem OwnL.shape {w:World}{base:Nat}{v:Value}{l:List ByteArray}(h:OwnL w base v l) :
  (v=.slice none 0 0∧l=[])∨∃ g cap,v=.slice (some ⟨g,0,none⟩) l.length cap∧base<=g∧g<w.heap.size∧l.length<=cap∧cap<=maxLen:=by
 obtain ⟨h1,h2⟩:=h
 rcases h2 with ⟨rfl,h0⟩|⟨g,cap,cur,rfl,hg,hh,hn,hc,hcs,hx⟩
 ·exact Or.inl ⟨rfl,List.eq_nil_of_length_eq_zero h0⟩
 ·have hlt:g<w.heap.size:=by
   rcases Nat.lt_or_ge g w.heap.size with h'|h'
   ·exact h'
   ·rw [Array.getElem?_eq_none h'] at hh;cases hh
  exact Or.inr ⟨g,cap,rfl,hg,hlt,hn,hc⟩
theorem OwnL.cell {w:World}{base g cap n:Nat}{l:List ByteArray}(h:OwnL w base (.slice (some ⟨g,0,none⟩) n cap) l)(hn:n=l.length){i:Nat}(hi:i<l.length):w.cell? ⟨g,i,none⟩=some (.string (getL l i)):=by
 subst hn
 rw [World.ownsRow.cellAt h i (by omega),List.getElem?_map,getL_some hi];rfl
theorem OwnL.frozen {w:World}{base g cap n:Nat}{l:List ByteArray}(h:OwnL w base (.slice (some ⟨g,0,none⟩) n cap) l)(hn:n=l.length)(i:Nat):w.frozen? ⟨g,i,none⟩=false:=by
 subst hn
 exact World.ownsRow.frozenAt h i
theorem OwnL.put {w:World}{base g cap n:Nat}{l:List ByteArray}(h:OwnL w base (.slice (some ⟨g,0,none⟩) n cap) l)(hn:n=l.length)(i:Nat)(x:ByteArray) :
  OwnL (w.setCell ⟨g,i,none⟩ (.string x)) base (.slice (some ⟨g,0,none⟩) n cap) (l.set i x):=by
 subst hn
 have:=(World.ownsRow.stored h i (.string x)).1
 unfold OwnL
 rw [List.length_set,List.map_set]
 exact this
theorem OwnL.sl {w:World}{base:Nat}{v:Value}{l:List ByteArray}(h:OwnL w base v l)(hs:∀ s ∈ l,s.size<=maxLen) :
  ∃ a cap,v=.slice a l.length cap∧SlS w a l.length cap (getL l)∧Wr0 w base a l.length:=by
 rcases h.shape with ⟨rfl,rfl⟩|⟨g,cap,rfl,hg,hlt,hn,hc⟩
 ·exact ⟨none,0,rfl,⟨Nat.le_refl _,by decide,fun i hi=>absurd hi (Nat.not_lt_zero _),Or.inl rfl⟩,Or.inl rfl⟩
 ·refine ⟨_,cap,rfl,⟨hn,hc,fun i hi=>hs _ (getL_mem hi),Or.inr ⟨g,0,rfl,hlt,fun i hi=>by rw [Nat.zero_add];exact h.cell rfl hi⟩⟩,Or.inr ⟨g,0,rfl,hg,hlt,fun i hi=>?_⟩⟩
  rw [Nat.zero_add]
  exact ⟨⟨_,h.cell rfl hi⟩,h.frozen rfl i⟩
def Srt (l:List ByteArray):Prop:=l.Pairwise fun a b=>a.data.toList<b.data.toList
theorem ba_inj {s t:ByteArray}(h:s.data.toList=t.data.toList):s=t:=by
 obtain ⟨s⟩:=s;obtain ⟨t⟩:=t
 exact congrArg _ (Array.toList_inj.1 h)
theorem Srt.nodup {l:List ByteArray}(h:Srt l):l.Nodup:=h.imp fun {a b} hab e=>by subst e;exact absurd hab (List.lt_irrefl _)
theorem srt_unique {l1 l2:List ByteArray}(h1:Srt l1)(h2:Srt l2)(h:∀ s,s ∈ l1↔s ∈ l2):l1=l2:=by
 refine List.Perm.eq_of_pairwise (le:=fun a b:ByteArray=>a.data.toList<b.data.toList) (fun a b _ _ hab hba=>?_) h1 h2 ((List.perm_ext_iff_of_nodup h1.nodup h2.nodup).2 h)
 exact absurd (List.lt_trans hab hba) (List.lt_irrefl _)
def insAt (l:List ByteArray)(k:Nat)(x:ByteArray):List ByteArray:=l.take k ++ x :: l.drop k
theorem insAt_len {l:List ByteArray}{k:Nat}{x:ByteArray}(h:k<=l.length):(insAt l k x).length=l.length+1:=by simp [insAt];omega
theorem insAt_end (l:List ByteArray)(x:ByteArray):insAt l l.length x=l ++ [x]:=by simp [insAt]
theorem insAt_get {l:List ByteArray}{k:Nat}{x:ByteArray}(h:k<=l.length):getL (insAt l k x) k=x:=by
 simp [getL,insAt,List.getD,h]
theorem insAt_before {l:List ByteArray}{k:Nat}{x:ByteArray}(h:k<l.length):getL (insAt l (k+1) x) k=getL l k:=by
 have:min (k+1) l.length=k+1:=by omega
 simp [getL,insAt,List.getD,List.getElem?_append,this,List.getElem?_eq_getElem h]
theorem insAt_swap {l:List ByteArray}{k:Nat}{x:ByteArray}(h:k<l.length):((insAt l (k+1) x).set (k+1) (getL l k)).set k x=insAt l k x:=by
 apply List.ext_getElem?
 intro i
 have h1:(insAt l (k+1) x).length=l.length+1:=insAt_len (by omega)
 have m1:min (k+1) l.length=k+1:=by omega
 have m2:min k l.length=k:=by omega
 by_cases e1:i=k
 ·subst e1
  rw [List.getElem?_set_self (by rw [List.length_set,h1];omega)]
  simp [insAt,m2]
 ·rw [List.getElem?_set_ne (by omega)]
  by_cases e2:i=k+1
  ·subst e2
   rw [List.getElem?_set_self (by rw [h1];omega)]
   simp [insAt,List.getElem?_append,m2,getL,List.getD,List.getElem?_eq_getElem h]
  ·rw [List.getElem?_set_ne (by omega)]
   unfold insAt
   rw [List.getElem?_append,List.getElem?_append,List.length_take,List.length_take,m1,m2]
   by_cases e3:i<k
   ·rw [if_pos (by omega),if_pos e3,List.getElem?_take,List.getElem?_take,if_pos (by omega),if_pos e3]
   ·rw [if_neg (by omega),if_neg e3]
    obtain ⟨q,rfl⟩:∃ q,i=k+2+q:=⟨i - (k+2),by omega⟩
    rw [show k+2+q - (k+1)=q+1 by omega,show k+2+q - k=(q+1)+1 by omega,List.getElem?_cons_succ,List.getElem?_cons_succ,List.getElem?_drop,List.getElem?_drop]
    congr 1
    omega
theorem insAt_mem {l:List ByteArray}{k:Nat}{x s:ByteArray}:s ∈ insAt l k x↔s=x∨s ∈ l:=by
 unfold insAt
 rw [List.mem_append,List.mem_cons]
 constructor
 ·rintro (h|h|h)
  ·exact Or.inr (List.mem_of_mem_take h)
  ·exact Or.inl h
  ·exact Or.inr (List.mem_of_mem_drop h)
 ·rintro (h|h)
  ·exact Or.inr (Or.inl h)
  ·rw [<- List.take_append_drop k l,List.mem_append] at h
   exact h.imp id Or.inr
theorem insAt_srt {l:List ByteArray}{k:Nat}{x:ByteArray}(h:Srt l)(hlo:∀ i,i<k->i<l.length->(getL l i).data.toList<x.data.toList)(hhi:∀ i,k<=i->i<l.length->x.data.toList<(getL l i).data.toList):Srt (insAt l k x):=by
 have h':(l.take k ++ l.drop k).Pairwise fun a b:ByteArray=>a.data.toList<b.data.toList:=by rw [List.take_append_drop];exact h
 obtain ⟨p1,p2,p3⟩:=List.pairwise_append.1 h'
 unfold Srt insAt
 refine List.pairwise_append.2 ⟨p1,List.pairwise_cons.2 ⟨fun b hb=>?_,p2⟩,fun a ha b hb=>?_⟩
 ·obtain ⟨i,hi,rfl⟩:=mem_getL hb
  rw [List.length_drop] at hi
  have:getL (l.drop k) i=getL l (k+i):=by simp [getL,List.getD]
  rw [this]
  exact hhi _ (by omega) (by omega)
 ·rcases List.mem_cons.1 hb with rfl|hb
  ·obtain ⟨i,hi,rfl⟩:=mem_getL ha
   rw [List.length_take] at hi
   have:getL (l.take k) i=getL l i:=by simp [getL,List.getD,show i<k by omega]
   rw [this]
   exact hlo _ (by omega) (by omega)
  ·exact p3 a ha b hb
theorem srt_get {l:List ByteArray}(h:Srt l){i j:Nat}(hij:i<j)(hj:j<l.length):(getL l i).data.toList<(getL l j).data.toList:=by
 have:=List.pairwise_iff_getElem.1 h i j (by omega) hj hij
 simpa [getL,List.getD,List.getElem?_eq_getElem hj,List.getElem?_eq_getElem (show i<l.length by omega)] using this
theorem hasB_mem (l:List ByteArray)(s:ByteArray):∀ n,n<=l.length->(hasB (getL l) n s=true↔s ∈ l.take n)
 | 0,_=>by simp [hasB]
 | n+1,h=>by
  have e:l.take (n+1)=l.take n ++ [getL l n]:=by rw [List.take_add_one,getL_some (by omega)];rfl
  rw [hasB,e,List.mem_append,Bool.or_eq_true,hasB_mem l s n (by omega),List.mem_singleton]
  refine or_congr Iff.rfl ⟨fun h=>?_,fun h=>by rw [h];simp⟩
  rw [beq_iff_eq,ByteArray.toList_eq,ByteArray.toList_eq] at h
  exact (ba_inj h).symm
end Go.Proofs.YtnbdlaglnefcbaaGreat
