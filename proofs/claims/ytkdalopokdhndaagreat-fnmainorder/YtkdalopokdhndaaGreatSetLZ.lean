import Derived.Test.YtkdalopokdhndaaGreatEvBZ
import Derived.Deep.AppendSrc
import Derived.Lib.Bytealg
set_option maxHeartbeats 16000000
set_option maxRecDepth 100000
namespace Go.Proofs.YtkdalopokdhndaaGreat
open Go.RowKit
variable {l:List Ent}{w:World}{a:Option Addr}{cap:Nat}
theorem befB_asym {x e:Ent}(h:befB x e=true):befB e x=false:=by
 unfold befB at h ⊢;rw [ByteArray.toList_eq,ByteArray.toList_eq,ByteArray.toList_eq,ByteArray.toList_eq] at *
 by_cases ht:x.ty.data.toList=e.ty.data.toList
 ·rw [ht] at h ⊢
  simp only [beq_self_eq_true,if_true,bytesLess_eq,decide_eq_true_eq,decide_eq_false_iff_not] at h ⊢;exact List.lt_asymm h
 have h1:(x.ty.data.toList == e.ty.data.toList)=false:=by simpa using ht
 have h2:(e.ty.data.toList == x.ty.data.toList)=false:=by
  cases hb:(e.ty.data.toList == x.ty.data.toList)
  ·rfl
  exact absurd (eq_of_beq hb).symm ht
 rw [h1] at h;rw [h2];simp only [Bool.false_eq_true,if_false,bytesLess_eq,decide_eq_true_eq,decide_eq_false_iff_not] at h ⊢;exact List.lt_asymm h
theorem split_len {p q:Ent->Bool}(h:∀ x,p x=true->q x=false):(l.takeWhile p).length+(l.filter q).length<=l.length:=by
 induction l with
 | nil=>simp
 | cons a l ih =>
  have hf:(l.filter q).length<=l.length:=List.length_filter_le _ _;cases hp:p a
  ·rw [List.takeWhile_cons_of_neg (by simp [hp])]
   have:((a :: l).filter q).length<=(a :: l).length:=List.length_filter_le _ _;simpa using this
  rw [List.takeWhile_cons_of_pos hp,List.filter_cons_of_neg (by simp [h a hp])];simp only [List.length_cons];omega
theorem setL_len (l:List Ent)(e:Ent)(keep:Bool):(setL l e keep).length<=l.length+1:=by
 have:=split_len (l:=l) (p:=fun x=>befB x e) (q:=fun x=>befB e x) (fun x hx=>befB_asym hx);unfold setL;rw [List.length_append,List.length_append];split
 ·simp only [List.length_singleton];omega
 simp only [List.length_nil];omega
theorem setL_mem {e x:Ent}{keep:Bool}(h:x ∈ setL l e keep):x ∈ l∨x=e:=by
 unfold setL at h;rw [List.mem_append,List.mem_append] at h;rcases h with h|h|h
 ·exact Or.inl ((List.takeWhile_sublist _).subset h)
 ·split at h
  ·exact Or.inr (by simpa using h)
  cases h
 exact Or.inl (List.mem_filter.1 h).1
def AllOk (l:List Ent):Prop:=∀ x ∈ l,x.ty.size<=maxLen∧x.key.size<=maxLen∧x.id.size<=maxLen
theorem AllOk.at (h:AllOk l)(i:Nat)(hi:i<l.length):(eAt l i).ty.size<=maxLen∧(eAt l i).key.size<=maxLen∧(eAt l i).id.size<=maxLen:=h _ (eAt_mem l i hi)
theorem SlE.ok (h:SlE w a cap l):AllOk l:=fun x hx=>by
 obtain ⟨i,hi,e⟩:=List.mem_iff_getElem.1 hx;rw [<- e,<- eAt_get l i hi];exact h.size i hi
theorem AllOk.set {e:Ent}{keep:Bool}(h:AllOk l)(he:e.ty.size<=maxLen∧e.key.size<=maxLen∧e.id.size<=maxLen):AllOk (setL l e keep):=fun x hx=>(setL_mem hx).elim (h x) fun e'=>e' ▸ he
theorem encL_one (l:List Ent)(u:Value)(h:u ∈ encL l):u.oneCell'=true:=by
 obtain ⟨x,_,hx⟩:=List.mem_flatMap.1 h;exact encE_one x u hx
theorem encL_at (l:List Ent)(w:World)(b off:Nat)
  (c1:∀ i,i<l.length->w.cell? ⟨b,off+i * 3,none⟩=some (.string (eAt l i).ty)) (c2:∀ i,i<l.length->w.cell? ⟨b,off+i * 3+1,none⟩=some (.string (eAt l i).key)) (c3:∀ i,i<l.length->w.cell? ⟨b,off+i * 3+2,none⟩=some (.string (eAt l i).id))
  (j:Nat) (u:Value) (h:(encL l)[j]?=some u):w.cell? ((⟨b,off,none⟩:Addr).add j)=some u:=by
 have hj:j<l.length * 3:=by
  rcases Nat.lt_or_ge j (l.length * 3) with h'|h'
  ·exact h'
  rw [List.getElem?_eq_none (by rw [encL_len];exact h')] at h;cases h
 have hadd:(⟨b,off,none⟩:Addr).add j=⟨b,off+j,none⟩:=by unfold Addr.add;split <;> simp_all
 rw [hadd];have hi:j / 3<l.length:=by omega
 have hg:=encL_get l (j / 3) hi;rcases (by omega:j=j / 3 * 3∨j=j / 3 * 3+1∨j=j / 3 * 3+2) with e|e|e
 ·rw [e] at h ⊢
  rw [hg.1] at h;cases h
  exact c1 _ hi
 ·rw [e] at h ⊢
  rw [hg.2.1] at h;cases h
  rw [<- Nat.add_assoc];exact c2 _ hi
 rw [e] at h ⊢;rw [hg.2.2] at h;cases h
 rw [<- Nat.add_assoc];exact c3 _ hi
theorem copy_some (ad:Addr)(cap:Nat)(l:List Ent)(w:World)(hr:l.length<=1000000)(hc:∀ j u,(encL l)[j]?=some u->w.cell? (ad.add j)=some u)(hlt:l≠[]->ad.block<w.heap.size) :
  Calls Tryz.prog 63 #[.slice (some ad) l.length cap] w fun e w'=>∃ v,e=.returned v∧OwnE w' w.heap.size v l∧Below w.heap.size w w':=by
 obtain ⟨i0,hi,hz0,hz1,hz2⟩:=info_parts Tryz.infoEntry;have hown:(w.alloc (.cells #[] 79)).ownsRow w.heap.size 79 3 (.slice (some ⟨w.heap.size,0,none⟩) 0 0) 0 []:=⟨rfl,Or.inr ⟨w.heap.size,0,#[],rfl,nL,by show (w.heap.push _)[w.heap.size]?=_;simp,nL,by decide,rfl,rfl⟩⟩
 have hnews:∀ j u,(encL l)[j]?=some u->(w.alloc (.cells #[] 79)).cell? (ad.add j)=some u:=fun j u h=>by
  have hne:l≠[]:=by rintro rfl;simp [encL] at h
  rw [World.cell?_alloc_lt _ _ _ (by have:=hlt hne;unfold Addr.add;split <;> simp_all)];exact hc j u h
 have hm1:0+l.length<=maxLen:=by unfold maxLen;omega
 have hm2:(0+l.length) * 48<=140737488355328:=by omega
 have hm3:w.heap.size<=(w.alloc (.cells #[] 79)).heap.size:=by simp
 clear hc hlt hr
 go_enter Tryz.func63,Tryz.ntmps63
 go_wp2_with (at_builtin;refine wpList_append_own _ rfl _ _ 26 rfl w.heap.size 79 i0 (.agg #[.string ByteArray.empty,.string ByteArray.empty,.string ByteArray.empty]) 3 48 Tryz.underlying26 hi hz0 hz1 hz2 rfl (by decide) _ _ _ rfl hown ad l.length cap (encL l) rfl (encL_len l) hnews (encL_one l) hm1 hm2 hm3 ?_;intro v2 w2 hown2 hgrow2 _)
 have hbel:Below w.heap.size w w2:=bA.grown hgrow2 hm3 (fun k hk=>by cases hk;exact nL)
 have hown3:OwnE w2 w.heap.size v2 l:=by
  have:=hown2;simp only [Nat.zero_add,List.nil_append] at this;exact this
 clear hown2 hgrow2 hown hnews;go_wp2
 go_ret;exact ⟨_,rfl,hown3,hbel⟩
theorem copy_nil (cap:Nat)(w:World) :
  Calls Tryz.prog 63 #[.slice none 0 cap] w fun e w'=>∃ v,e=.returned v∧OwnE w' w.heap.size v []∧Below w.heap.size w w':=by
 obtain ⟨i0,hi,hz0,hz1,hz2⟩:=info_parts Tryz.infoEntry;have hap:=fun ty=>run_append_room_src (P:=Tryz.prog) (w:=w.alloc (.cells #[] 79)) 26 26 ty 79 i0 Tryz.underlying26 hi w.heap.size 0 0 0 (.slice none 0 cap) 0 [] (Src.ofNil _ Tryz.underlying26 cap) nL (fun j hj=>absurd hj (Nat.not_lt_zero _)) (fun j hj=>absurd hj (Nat.not_lt_zero _))
 simp only [World.setCells,Nat.add_zero] at hap
 go_enter Tryz.func63,Tryz.ntmps63
 go_wp2
 go_ret;exact ⟨_,rfl,⟨rfl,Or.inr ⟨w.heap.size,0,#[],rfl,nL,by show (w.heap.push _)[w.heap.size]?=_;simp,nL,by decide,rfl,rfl⟩⟩,bA⟩
theorem copy_sl (w:World)(hr:l.length<=1000000)(h:SlE w a cap l) :
  Calls Tryz.prog 63 #[.slice a l.length cap] w fun e w'=>∃ v,e=.returned v∧OwnE w' w.heap.size v l∧Below w.heap.size w w':=by
 rcases h.cells with rfl|⟨b,off,rfl,hb,c1,c2,c3⟩
 ·cases a with
  | none=>exact copy_nil cap w
  | some ad=>exact copy_some ad cap [] w hr (fun j u h=>by simp [encL] at h) (fun h=>absurd rfl h)
 exact copy_some _ cap l w hr (encL_at l w b off c1 c2 c3) (fun _=>hb)
def patL (l ch:List Ent):Nat->List Ent
 | 0=>l
 | k+1=>setL (patL l ch k) (eAt ch k) false
theorem patL_len (l ch:List Ent):∀ k,(patL l ch k).length<=l.length+k
 | 0=>nL
 | k+1=>by have:=patL_len l ch k;have:=setL_len (patL l ch k) (eAt ch k) false;unfold patL;omega
theorem patL_ok {l ch:List Ent}(h:AllOk l)(hc:AllOk ch):∀ k,k<=ch.length->AllOk (patL l ch k)
 | 0,_=>h
 | k+1,hk=>(patL_ok h hc k (by omega)).set (hc.at k (by omega))
theorem l4Patch_sl {ca:Option Addr}{cc:Nat}{ch:List Ent}(w:World)(hl:l.length<=100000)(hcl:ch.length<=100000)(h:SlE w a cap l)(hc:SlE w ca cc ch) :
  Calls Tryz.prog 231 #[.slice a l.length cap,.slice ca ch.length cc] w fun e w'=>∃ v,e=.returned v∧OwnE w' w.heap.size v (patL l ch ch.length)∧Below w.heap.size w w':=by
 have hok:=h.ok;have hcok:=hc.ok
 go_enter Tryz.func231,Tryz.ntmps231
 go_wp2_with fail
 refine (copy_sl _ (by omega) h).mono ?_;rintro e w1 ⟨v1,rfl,ho1,hb1⟩;have Hok:Hid (_):=hok;have Hcok:Hid (_):=hcok;clear hok hcok
 go_wp2_with fail
 go_loopw [5,6] (fun v i wr=>∃ k:Nat,k<=ch.length∧i=.int .i64 k∧OwnE wr w.heap.size v (patL l ch k)∧Below w.heap.size w wr) (fun _ i _=>ch.length - (intOf i).toNat)
 case atStart=>exact ⟨0,nz,rfl,ho1,hb1⟩
 case round =>
  clear ho1 hb1;obtain ⟨k,hk,rfl,ho,hbel⟩:=hrel
  by_cases hlt:k<ch.length
  ·obtain ⟨ga,gc,e1,hsl⟩:=ho.sl (patL_ok Hok.out Hcok.out k hk).at
   subst e1;rcases hc.cells with rfl|⟨b,off,rfl,hb,c1,c2,c3⟩
   ·exact absurd hlt (Nat.not_lt_zero _)
   have a1:wr.cell? ⟨b,off+k * 3,none⟩=some (.string (eAt ch k).ty):=(hbel.cell (by exact hb)).trans (c1 k hlt);have a2:wr.cell? ⟨b,off+k * 3+1,none⟩=some (.string (eAt ch k).key):=(hbel.cell (by exact hb)).trans (c2 k hlt);have a3:wr.cell? ⟨b,off+k * 3+2,none⟩=some (.string (eAt ch k).id):=(hbel.cell (by exact hb)).trans (c3 k hlt);have hpl:=patL_len l ch k;have hst:Hid (setL (patL l ch k) (eAt ch k) false=patL l ch (k+1)):=rfl;clear c1 c2 c3
   go_wp2_with fail
   refine (set_sl (eAt ch k) false _ (by omega) hsl).mono ?_;rintro e w2 ⟨v2,rfl,ho2,hb2⟩;rw [hst.out] at ho2;obtain ⟨ga2,gc2,e2,_⟩:=ho2.sl (patL_ok Hok.out Hcok.out (k+1) hlt).at;subst e2;go_wp2
   go_roundw
   case rel=>exact ⟨k+1,by omega,by go_num,ho2.base_le hbel.size,hbel.trans (hb2.mono hbel.size)⟩
   simp [intOf];omega
  have hkn:ch.length=k:=by omega
  subst hkn;go_wp2
  go_ret;exact ⟨_,rfl,ho,hbel⟩
variable {s:ByteArray}{i j:Nat}
theorem ba_eq {t:ByteArray}(h:s.data.toList=t.data.toList):s=t:=by
 obtain ⟨s⟩:=s;obtain ⟨t⟩:=t
 exact congrArg _ (Array.toList_inj.1 h)
theorem cmp_cases:∀ x y:List UInt8,(x<y∧Lib.compareBytes x y=-1)∨(x=y∧Lib.compareBytes x y=0)∨(y<x∧Lib.compareBytes x y=1)
 | [],[]=>Or.inr (Or.inl ⟨rfl,rfl⟩)
 | [],b :: y=>Or.inl ⟨by simp,rfl⟩
 | a :: x,[]=>Or.inr (Or.inr ⟨by simp,rfl⟩)
 | a :: x,b :: y=>by
  unfold Lib.compareBytes
  by_cases h1:a<b
  ·rw [if_pos h1];exact Or.inl ⟨List.cons_lt_cons_iff.2 (Or.inl h1),rfl⟩
  rw [if_neg h1]
  by_cases h2:b<a
  ·rw [if_pos h2];exact Or.inr (Or.inr ⟨List.cons_lt_cons_iff.2 (Or.inl h2),rfl⟩)
  rw [if_neg h2];have e:a=b:=UInt8.le_antisymm (UInt8.not_lt.1 h2) (UInt8.not_lt.1 h1);subst e;rcases cmp_cases x y with ⟨h,e⟩|⟨rfl,e⟩|⟨h,e⟩
  ·exact Or.inl ⟨List.cons_lt_cons_iff.2 (Or.inr ⟨rfl,h⟩),e⟩
  ·exact Or.inr (Or.inl ⟨rfl,e⟩)
  exact Or.inr (Or.inr ⟨List.cons_lt_cons_iff.2 (Or.inr ⟨rfl,h⟩),e⟩)
def cB (a b:ByteArray):Int:=Lib.compareBytes a.data.toList b.data.toList
def cmpE (a b:Ent):Int:=if cB a.ty b.ty=0 then cB a.key b.key else cB a.ty b.ty
def Lt (a b:Ent):Prop:=a.ty.data.toList<b.ty.data.toList∨(a.ty=b.ty∧a.key.data.toList<b.key.data.toList)
theorem befB_iff (a b:Ent):befB a b=true↔Lt a b:=by
 unfold befB Lt;rw [ByteArray.toList_eq,ByteArray.toList_eq,ByteArray.toList_eq,ByteArray.toList_eq]
 by_cases h:a.ty.data.toList=b.ty.data.toList
 ·rw [if_pos (by simpa using h),bytesLess_eq,decide_eq_true_eq]
  constructor
  ·exact fun h'=>Or.inr ⟨ba_eq h,h'⟩
  rintro (h'|h')
  ·rw [h] at h';exact absurd h' (List.lt_irrefl _)
  exact h'.2
 rw [if_neg (by simpa using h),bytesLess_eq,decide_eq_true_eq];constructor
 ·exact Or.inl
 rintro (h'|h')
 ·exact h'
 exact absurd (by rw [h'.1]) h
theorem samB_iff (a b:Ent):samB a b=true↔a.ty=b.ty∧a.key=b.key:=by
 unfold samB;rw [Bool.and_eq_true,ByteArray.toList_eq,ByteArray.toList_eq,ByteArray.toList_eq,ByteArray.toList_eq,beq_iff_eq,beq_iff_eq];exact ⟨fun h=>⟨ba_eq h.1,ba_eq h.2⟩,fun h=>⟨by rw [h.1],by rw [h.2]⟩⟩
theorem Lt.trans {a b c:Ent}(h1:Lt a b)(h2:Lt b c):Lt a c:=by
 unfold Lt at *;rcases h1 with h1|⟨e1,h1⟩ <;> rcases h2 with h2|⟨e2,h2⟩
 ·exact Or.inl (List.lt_trans h1 h2)
 ·rw [<- e2];exact Or.inl h1
 ·rw [e1];exact Or.inl h2
 exact Or.inr ⟨e1.trans e2,List.lt_trans h1 h2⟩
theorem Lt.irrefl (a:Ent):¬ Lt a a:=by
 rintro (h|h)
 ·exact List.lt_irrefl _ h
 exact List.lt_irrefl _ h.2
theorem tri (a b:Ent):(Lt a b∧cmpE a b=-1)∨((a.ty=b.ty∧a.key=b.key)∧cmpE a b=0)∨(Lt b a∧cmpE a b=1):=by
 unfold cmpE Lt;rcases cmp_cases a.ty.data.toList b.ty.data.toList with ⟨h,e⟩|⟨h,e⟩|⟨h,e⟩
 ·exact Or.inl ⟨Or.inl h,by unfold cB;rw [e];rfl⟩
 ·rcases cmp_cases a.key.data.toList b.key.data.toList with ⟨h2,e2⟩|⟨h2,e2⟩|⟨h2,e2⟩
  ·exact Or.inl ⟨Or.inr ⟨ba_eq h,h2⟩,by unfold cB;rw [e,e2];rfl⟩
  ·exact Or.inr (Or.inl ⟨⟨ba_eq h,ba_eq h2⟩,by unfold cB;rw [e,e2];rfl⟩)
  exact Or.inr (Or.inr ⟨Or.inr ⟨(ba_eq h).symm,h2⟩,by unfold cB;rw [e,e2];rfl⟩)
 exact Or.inr (Or.inr ⟨Or.inl h,by unfold cB;rw [e];rfl⟩)
theorem Lt.ne {a b:Ent}(h:Lt a b):¬ (a.ty=b.ty∧a.key=b.key):=by
 rintro ⟨e1,e2⟩;unfold Lt at h;rw [e1,e2] at h;rcases h with h|h
 ·exact List.lt_irrefl _ h
 exact List.lt_irrefl _ h.2
theorem Lt.asymm {a b:Ent}(h:Lt a b):¬ Lt b a:=fun h'=>Lt.irrefl a (h.trans h')
def SrtE (l:List Ent):Prop:=l.Pairwise Lt
theorem ordTo_iff (l:List Ent):∀ n,ordTo l n=true↔∀ i,i+1<n->befB (eAt l i) (eAt l (i+1))=true
 | 0=>⟨fun _ i hi=>absurd hi (by omega),fun _=>rfl⟩
 | n+1=>by
  unfold ordTo;rw [Bool.and_eq_true,ordTo_iff l n];constructor
  ·rintro ⟨h1,h2⟩ i hi
   by_cases e:i+1=n
   ·subst e
    rw [Bool.or_eq_true] at h2;rcases h2 with h2|h2
    ·simp at h2
    exact h2
   exact h1 i (by omega)
  refine fun h=>⟨fun i hi=>h i (by omega),?_⟩
  cases n with
  | zero=>rfl
  | succ m=>rw [Bool.or_eq_true];exact Or.inr (h m (by omega))
theorem srt_at (h:SrtE l)(hij:i<j)(hj:j<l.length):Lt (eAt l i) (eAt l j):=by
 rw [eAt_get l i (by omega),eAt_get l j hj];exact List.pairwise_iff_getElem.1 h i j (by omega) hj hij
theorem srt_of (h:ordB l=true):SrtE l:=by
 have h1:=(ordTo_iff l l.length).1 h
 have h2:∀ j,j<l.length->∀ i,i<j->Lt (eAt l i) (eAt l j):=by
  intro j
  induction j with
  | zero=>exact fun _ i hi=>absurd hi (Nat.not_lt_zero _)
  | succ j ih =>
   intro hj i hi;have hs:=(befB_iff _ _).1 (h1 j hj)
   by_cases e:i=j
   ·subst e;exact hs
   exact (ih (by omega) i (by omega)).trans hs
 refine List.pairwise_iff_getElem.2 fun i j hi hj hij=>?_
 have:=h2 j hj i hij
 rwa [eAt_get l i hi,eAt_get l j hj] at this
theorem ord_of (h:SrtE l):ordB l=true :=
 (ordTo_iff l l.length).2 fun i hi=>(befB_iff _ _).2 (srt_at h (Nat.lt_succ_self i) hi)
def lookE (l:List Ent)(s:Ent):Option Ent:=l.find? fun x=>samB x s
theorem lookE_some {s e:Ent}(h:lookE l s=some e):e ∈ l∧e.ty=s.ty∧e.key=s.key:=by
 unfold lookE at h;have h2:samB e s=true:=List.find?_some (p:=fun x=>samB x s) h;exact ⟨List.mem_of_find?_eq_some h,(samB_iff _ _).1 h2⟩
theorem srt_uniq (h:SrtE l){x y:Ent}(hx:x ∈ l)(hy:y ∈ l)(e:x.ty=y.ty∧x.key=y.key):x=y:=by
 obtain ⟨i,hi,rfl⟩:=List.mem_iff_getElem.1 hx;obtain ⟨j,hj,rfl⟩:=List.mem_iff_getElem.1 hy;rcases Nat.lt_trichotomy i j with hij|hij|hij
 ·exact absurd e (List.pairwise_iff_getElem.1 h i j hi hj hij).ne
 ·subst hij;rfl
 exact absurd ⟨e.1.symm,e.2.symm⟩ (List.pairwise_iff_getElem.1 h j i hj hi hij).ne
theorem srt_ext:∀ {l l':List Ent},SrtE l->SrtE l'->(∀ x,x ∈ l↔x ∈ l')->l=l'
 | [],[],_,_,_=>rfl
 | [],b :: l',_,_,h=>absurd ((h b).2 (by simp)) (by simp)
 | a :: l,[],_,_,h=>absurd ((h a).1 (by simp)) (by simp)
 | a :: l,b :: l',h1,h2,h=>by
  obtain ⟨p1,q1⟩:=List.pairwise_cons.1 h1;obtain ⟨p2,q2⟩:=List.pairwise_cons.1 h2
  have e:a=b:=by
   rcases List.mem_cons.1 ((h a).1 (by simp)) with e|ha
   ·exact e
   rcases List.mem_cons.1 ((h b).2 (by simp)) with e|hb
   ·exact e.symm
   exact absurd (p1 b hb) (p2 a ha).asymm
  subst e
  congr 1
  refine srt_ext q1 q2 fun x=>⟨fun hx=>?_,fun hx=>?_⟩
  ·rcases List.mem_cons.1 ((h x).1 (List.mem_cons_of_mem _ hx)) with e|hx'
   ·subst e;exact absurd (p1 x hx) (Lt.irrefl x)
   exact hx'
  rcases List.mem_cons.1 ((h x).2 (List.mem_cons_of_mem _ hx)) with e|hx'
  ·subst e;exact absurd (p2 x hx) (Lt.irrefl x)
  exact hx'
theorem befB_ff {a b:Ent}:befB a b=false↔¬ Lt a b:=by
 rw [<- befB_iff];cases befB a b <;> simp
theorem takeW_filter {e:Ent}:∀ {l:List Ent},SrtE l->l.takeWhile (fun x=>befB x e)=l.filter fun x=>befB x e
 | [],_=>rfl
 | a :: l,h=>by
  obtain ⟨h1,h2⟩:=List.pairwise_cons.1 h;cases hb:befB a e
  ·rw [List.takeWhile_cons_of_neg (by simp [hb]),List.filter_cons_of_neg (by simp [hb])]
   symm
   rw [List.filter_eq_nil_iff];intro x hx hx2;exact befB_ff.1 hb ((h1 x hx).trans ((befB_iff _ _).1 hx2))
  rw [List.takeWhile_cons_of_pos (by exact hb),List.filter_cons_of_pos (by exact hb),takeW_filter h2]
def kept (e:Ent)(keep:Bool):Bool:=keep || !e.id.toList.isEmpty
theorem setL_eq (h:SrtE l)(e:Ent)(keep:Bool):setL l e keep=(l.filter fun x=>befB x e) ++ ((if kept e keep then [e] else []) ++ l.filter fun x=>befB e x):=by
 unfold setL kept;rw [takeW_filter h]
theorem srt_mid (h:SrtE l)(e:Ent)(m:List Ent)(hm:m=[]∨∃ y,m=[y]∧y.ty=e.ty∧y.key=e.key):SrtE ((l.filter fun x=>befB x e) ++ (m ++ l.filter fun x=>befB e x)):=by
 have hle:∀ y:Ent,y.ty=e.ty∧y.key=e.key->∀ x,(Lt x e->Lt x y)∧(Lt e x->Lt y x):=fun y hy x=>by unfold Lt;rw [hy.1,hy.2];exact ⟨id,id⟩
 refine List.pairwise_append.2 ⟨List.Pairwise.filter _ h,List.pairwise_append.2 ⟨?_,List.Pairwise.filter _ h,?_⟩,?_⟩
 ·rcases hm with rfl|⟨y,rfl,_⟩
  ·exact List.Pairwise.nil
  exact List.pairwise_singleton _ _
 ·intro a ha b hb
  rcases hm with rfl|⟨y,rfl,hy⟩
  ·cases ha
  rw [List.mem_singleton] at ha;subst ha;exact (hle _ hy b).2 ((befB_iff _ _).1 (List.mem_filter.1 hb).2)
 intro a ha b hb;have ha2:=(befB_iff _ _).1 (List.mem_filter.1 ha).2;rcases List.mem_append.1 hb with hb|hb
 ·rcases hm with rfl|⟨y,rfl,hy⟩
  ·cases hb
  rw [List.mem_singleton] at hb;subst hb;exact (hle _ hy a).1 ha2
 exact ha2.trans ((befB_iff _ _).1 (List.mem_filter.1 hb).2)
theorem setL_srt (h:SrtE l)(e:Ent)(keep:Bool):SrtE (setL l e keep):=by
 rw [setL_eq h];refine srt_mid h e _ ?_;split
 ·exact Or.inr ⟨e,rfl,rfl,rfl⟩
 exact Or.inl rfl
theorem setL_in (h:SrtE l)(e:Ent)(keep:Bool)(x:Ent):x ∈ setL l e keep↔(x ∈ l∧¬ (x.ty=e.ty∧x.key=e.key))∨(x=e∧kept e keep=true):=by
 rw [setL_eq h,List.mem_append,List.mem_append,List.mem_filter,List.mem_filter,befB_iff,befB_iff];constructor
 ·rintro (⟨h1,h2⟩|h1|⟨h1,h2⟩)
  ·exact Or.inl ⟨h1,h2.ne⟩
  ·split at h1
   ·rename_i hk;exact Or.inr ⟨by simpa using h1,hk⟩
   cases h1
  exact Or.inl ⟨h1,fun e'=>h2.ne ⟨e'.1.symm,e'.2.symm⟩⟩
 rintro (⟨h1,h2⟩|⟨rfl,hk⟩)
 ·rcases tri x e with ⟨h3,_⟩|⟨h3,_⟩|⟨h3,_⟩
  ·exact Or.inl ⟨h1,h3⟩
  ·exact absurd h3 h2
  exact Or.inr (Or.inr ⟨h1,h3⟩)
 exact Or.inr (Or.inl (by rw [if_pos hk];simp))
def Ids (l:List Ent):Prop:=∀ x ∈ l,x.id.toList.isEmpty=false
def eaV (l:List Ent)(s:Ent):Ent:=(lookE l s).getD Ent.none
theorem findIdx_find (p:Ent->Bool):∀ l:List Ent,(l.find? p=none∧l.findIdx p=l.length)∨(∃ e,l.find? p=some e∧l.findIdx p<l.length∧eAt l (l.findIdx p)=e)
 | []=>Or.inl ⟨rfl,rfl⟩
 | a :: l=>by
  rw [List.find?_cons,List.findIdx_cons];cases h:p a
  ·rcases findIdx_find p l with ⟨h1,h2⟩|⟨e,h1,h2,h3⟩
   ·exact Or.inl ⟨h1,by simp [h2]⟩
   exact Or.inr ⟨e,h1,Nat.succ_lt_succ h2,by simpa [eAt] using h3⟩
  exact Or.inr ⟨a,rfl,by simp,by simp [eAt]⟩
theorem posI_look (l:List Ent)(s:Ent):(lookE l s=none∧posI l s=-1)∨(∃ e,lookE l s=some e∧0<=posI l s∧eAt l (posI l s).toNat=e):=by
 unfold posI lookE;rcases findIdx_find (fun x=>samB x s) l with ⟨h1,h2⟩|⟨e,h1,h2,h3⟩
 ·exact Or.inl ⟨h1,by rw [if_neg (by omega)]⟩
 exact Or.inr ⟨e,h1,by rw [if_pos h2];omega,by rw [if_pos h2,Int.toNat_natCast];exact h3⟩
theorem idsTo_mem {l:List Ent}:∀ {n},idsTo l n=true->∀ i,i<n->(eAt l i).id.toList.isEmpty=false
 | 0,_,i,hi=>absurd hi (Nat.not_lt_zero _)
 | n+1,h,i,hi=>by
  unfold idsTo at h;rw [Bool.and_eq_true] at h
  by_cases e:i=n
  ·subst e;simpa using h.2
  exact idsTo_mem h.1 i (by omega)
theorem st_parts (h:stB l=true):l.length<=300∧SrtE l∧∀ x ∈ l,x.id.toList.isEmpty=false:=by
 unfold stB at h;rw [Bool.and_eq_true,Bool.and_eq_true] at h;refine ⟨of_decide_eq_true h.2.1,srt_of h.2.2,fun x hx=>?_⟩;obtain ⟨i,hi,rfl⟩:=List.mem_iff_getElem.1 hx;rw [<- eAt_get l i hi];exact idsTo_mem h.1 i hi
def findB (l:List Ent)(kind key:ByteArray):ByteArray:=if 0<=posI l ⟨kind,key,⟨#[]⟩⟩ then (eAt l (posI l ⟨kind,key,⟨#[]⟩⟩).toNat).id else ⟨#[]⟩
theorem posI_bd (l:List Ent)(e:Ent):-1<=posI l e∧posI l e<l.length:=by
 unfold posI;split <;> omega
theorem l4Find_sl (kind key:ByteArray)(w:World)(h:SlE w a cap l) :
  Calls Tryz.prog 39 #[.slice a l.length cap,.string kind,.string key] w fun e w'=>e=.returned (.string (findB l kind key))∧Below w.heap.size w w':=by
 have hbd:=posI_bd l ⟨kind,key,⟨#[]⟩⟩
 by_cases hp:0<=posI l ⟨kind,key,⟨#[]⟩⟩
 ·obtain ⟨p,hpn⟩:∃ p:Nat,posI l ⟨kind,key,⟨#[]⟩⟩=(p:Int):=⟨(posI l ⟨kind,key,⟨#[]⟩⟩).toNat,by omega⟩
  have hv:Hid (findB l kind key=(eAt l p).id):=by unfold Hid findB;rw [if_pos hp,hpn];rfl
  have hat:Hid (∀ W,SlE W a cap l->Calls Tryz.prog 93 #[.slice a l.length cap,entV ⟨kind,key,⟨#[]⟩⟩] W fun e w'=>e=.returned (.int .i64 (p:Int))∧Below W.heap.size W w'):=fun W hW=>by
   have:=at_sl ⟨kind,key,⟨#[]⟩⟩ W hW;rw [hpn] at this;exact this
  have hlt:p<l.length:=by omega
  clear hp hpn hbd;have hs:=h;rcases h.cells with rfl|⟨b,off,rfl,hb,h1,h2,h3⟩
  ·exact absurd hlt (Nat.not_lt_zero _)
  have hle:=nZ h.le h.max;unfold maxLen at hle;have c3:=h3 p hlt;clear h1 h2 h3
  go_enter Tryz.func39,Tryz.ntmps39
  go_wp2_with fail
  refine (hat.out _ hs).mono ?_;rintro e w1 ⟨rfl,hb1⟩;have c31:=(hb1.cell (by exact hb)).trans c3;go_wp2
  go_ret;exact ⟨by rw [hv.out];rfl,hb1⟩
 have hv:Hid (findB l kind key=⟨#[]⟩):=by unfold Hid findB;rw [if_neg hp]
 have hpn:posI l ⟨kind,key,⟨#[]⟩⟩=-1:=by omega
 have hat:Hid (∀ W,SlE W a cap l->Calls Tryz.prog 93 #[.slice a l.length cap,entV ⟨kind,key,⟨#[]⟩⟩] W fun e w'=>e=.returned (.int .i64 (-1))∧Below W.heap.size W w'):=fun W hW=>by
  have:=at_sl ⟨kind,key,⟨#[]⟩⟩ W hW;rw [hpn] at this;exact this
 clear hp hpn hbd
 go_enter Tryz.func39,Tryz.ntmps39
 go_wp2_with fail
 refine (hat.out _ h).mono ?_;rintro e w1 ⟨rfl,hb1⟩;go_wp2
 go_ret;exact ⟨by rw [hv.out];rfl,hb1⟩
variable {L:Nat->List Ent}{n:Nat}
def agTo (L:Nat->List Ent)(x:Ent):Nat->Bool
 | 0=>true
 | k+1=>agTo L x k && ((findB (L k) x.ty x.key).toList == x.id.toList)
theorem agTo_le (L:Nat->List Ent)(x:Ent):∀ n k,k<n->agTo L x (k+1)=false->agTo L x n=false
 | n+1,k,h,h1=>by
  by_cases e:k=n
  ·rw [<- e];exact h1
  rw [agTo,agTo_le L x n k (by omega) h1];rfl
theorem agTo_all {L:Nat->List Ent}{x:Ent}:∀ {n},agTo L x n=true->∀ k,k<n->findB (L k) x.ty x.key=x.id
 | n+1,h,k,hk=>by
  rw [agTo,Bool.and_eq_true] at h
  by_cases e:k=n
  ·subst e
   rw [beq_iff_eq,ByteArray.toList_eq,ByteArray.toList_eq] at h;exact ba_eq h.2
  exact agTo_all h.1 k (by omega)
def okTo (L:Nat->List Ent):Nat->Bool
 | 0=>true
 | k+1=>okTo L k && stB (L k)
theorem okTo_le (L:Nat->List Ent):∀ n k,k<n->okTo L (k+1)=false->okTo L n=false
 | n+1,k,h,h1=>by
  by_cases e:k=n
  ·rw [<- e];exact h1
  rw [okTo,okTo_le L n k (by omega) h1];rfl
def spOk (L:Nat->List Ent)(n:Nat):Bool:=decide (n<=20) && okTo L n
def InS (L:Nat->List Ent)(n:Nat)(x:Ent):Prop:=∃ i,i<n∧x ∈ L i
structure SpFin (L:Nat->List Ent)(n:Nat)(Se:List Ent)(So:List ByteArray):Prop where
 srt:SrtE Se
 mem:∀ x,x ∈ Se↔agTo L x n=true∧InS L n x
 srtO:Srt So
 memO:∀ t,t ∈ So↔∃ x,(agTo L x n=false∧InS L n x)∧x.id=t
def saK (L:Nat->List Ent)(n:Nat)(acc l:List Ent):Nat->List Ent
 | 0=>acc
 | k+1=>if agTo L (eAt l k) n then setL (saK L n acc l k) (eAt l k) false else saK L n acc l k
def saI (L:Nat->List Ent)(n:Nat):Nat->List Ent
 | 0=>[]
 | i+1=>saK L n (saI L n i) (L i) (L i).length
def otK (L:Nat->List Ent)(n:Nat)(acc:List ByteArray)(l:List Ent):Nat->List ByteArray
 | 0=>acc
 | k+1=>if agTo L (eAt l k) n then otK L n acc l k else otK L n acc l k ++ [(eAt l k).id]
def otI (L:Nat->List Ent)(n:Nat):Nat->List ByteArray
 | 0=>[]
 | i+1=>otK L n (otI L n i) (L i) (L i).length
theorem saK_len (L:Nat->List Ent)(n:Nat)(acc l:List Ent):∀ k,(saK L n acc l k).length<=acc.length+k
 | 0=>nL
 | k+1=>by
  have:=saK_len L n acc l k
  have:=setL_len (saK L n acc l k) (eAt l k) false;unfold saK;split <;> omega
theorem otK_len (L:Nat->List Ent)(n:Nat)(acc:List ByteArray)(l:List Ent):∀ k,(otK L n acc l k).length<=acc.length+k
 | 0=>nL
 | k+1=>by
  have:=otK_len L n acc l k;unfold otK;split
  ·omega
  simp;omega
theorem saI_len {L:Nat->List Ent}(n:Nat):∀ {i},okTo L i=true->(saI L n i).length<=i * 300
 | 0,_=>nL
 | i+1,h=>by
  rw [okTo,Bool.and_eq_true] at h
  have:=saI_len n h.1
  have:=saK_len L n (saI L n i) (L i) (L i).length
  have:=(st_parts h.2).1;unfold saI;omega
theorem otI_len {L:Nat->List Ent}(n:Nat):∀ {i},okTo L i=true->(otI L n i).length<=i * 300
 | 0,_=>nL
 | i+1,h=>by
  rw [okTo,Bool.and_eq_true] at h
  have:=otI_len n h.1
  have:=otK_len L n (otI L n i) (L i) (L i).length
  have:=(st_parts h.2).1;unfold otI;omega
theorem saK_ok {L:Nat->List Ent}(n:Nat){acc l:List Ent}(h:AllOk acc)(hl:AllOk l):∀ k,k<=l.length->AllOk (saK L n acc l k)
 | 0,_=>h
 | k+1,hk=>by
  have ih:=saK_ok (L:=L) n h hl k (by omega);unfold saK;split
  ·exact ih.set (hl.at k (by omega))
  exact ih
theorem saI_ok {L:Nat->List Ent}(n:Nat):∀ {i},(∀ j,j<i->AllOk (L j))->AllOk (saI L n i)
 | 0,_=>fun x hx=>by cases hx
 | i+1,h=>saK_ok n (saI_ok n (fun j hj=>h j (by omega))) (h i (by omega)) _ nL
theorem otK_ok {L:Nat->List Ent}(n:Nat){acc:List ByteArray}{l:List Ent}(h:∀ t ∈ acc,t.size<=maxLen)(hl:AllOk l):∀ k,k<=l.length->∀ t ∈ otK L n acc l k,t.size<=maxLen
 | 0,_=>h
 | k+1,hk=>by
  have ih:=otK_ok (L:=L) n h hl k (by omega);unfold otK;split
  ·exact ih
  intro t ht;rcases List.mem_append.1 ht with h'|h'
  ·exact ih t h'
  rw [List.mem_singleton] at h';subst h';exact (hl.at k (by omega)).2.2
theorem otI_ok {L:Nat->List Ent}(n:Nat):∀ {i},(∀ j,j<i->AllOk (L j))->∀ t ∈ otI L n i,t.size<=maxLen
 | 0,_=>fun x hx=>by cases hx
 | i+1,h=>otK_ok n (otI_ok n (fun j hj=>h j (by omega))) (h i (by omega)) _ nL
theorem ag_same {x y:Ent}(hn:0<n)(hx:agTo L x n=true)(hy:agTo L y n=true)(e:x.ty=y.ty∧x.key=y.key):x=y:=by
 have h1:=agTo_all hx 0 hn;have h2:=agTo_all hy 0 hn;rw [e.1,e.2,h2] at h1;obtain ⟨xt,xk,xi⟩:=x;obtain ⟨yt,yk,yi⟩:=y;simp only at e h1;rw [e.1,e.2,h1]
theorem saK_in {L:Nat->List Ent}{n:Nat}(hn:0<n){acc l:List Ent}(h:SrtE acc)(ha:∀ x ∈ acc,agTo L x n=true)(hi:Ids l):∀ k,k<=l.length->SrtE (saK L n acc l k)∧∀ x,x ∈ saK L n acc l k↔(x ∈ acc∨(agTo L x n=true∧∃ j,j<k∧eAt l j=x))
 | 0,_=>⟨h,fun x=>⟨fun hx=>Or.inl hx,fun hx=>hx.elim id (fun ⟨_,j,hj,_⟩=>absurd hj (Nat.not_lt_zero _))⟩⟩
 | k+1,hk=>by
  obtain ⟨ih1,ih2⟩:=saK_in hn h ha hi k (by omega);unfold saK
  by_cases hag:agTo L (eAt l k) n=true
  ·rw [if_pos hag]
   refine ⟨setL_srt ih1 _ _,fun x=>?_⟩;have hall:∀ y ∈ saK L n acc l k,agTo L y n=true:=fun y hy=>((ih2 y).1 hy).elim (ha y) (fun h'=>h'.1)
   have hkp:kept (eAt l k) false=true:=by unfold kept;rw [hi _ (eAt_mem l k (by omega))];rfl
   rw [setL_in ih1];constructor
   ·rintro (⟨h1,_⟩|⟨rfl,_⟩)
    ·rcases (ih2 x).1 h1 with h'|⟨h',j,hj,e⟩
     ·exact Or.inl h'
     exact Or.inr ⟨h',j,by omega,e⟩
    exact Or.inr ⟨hag,k,by omega,rfl⟩
   intro hx
   by_cases e:x=eAt l k
   ·exact Or.inr ⟨e,hkp⟩
   have hin:x ∈ saK L n acc l k:=by
    rcases hx with h'|⟨h',j,hj,ej⟩
    ·exact (ih2 x).2 (Or.inl h')
    by_cases ejk:j=k
    ·subst ejk;exact absurd ej.symm e
    exact (ih2 x).2 (Or.inr ⟨h',j,by omega,ej⟩)
   exact Or.inl ⟨hin,fun es=>e (ag_same hn (hall x hin) hag es)⟩
  rw [if_neg hag];refine ⟨ih1,fun x=>?_⟩;rw [ih2];constructor
  ·rintro (h'|⟨h',j,hj,e⟩)
   ·exact Or.inl h'
   exact Or.inr ⟨h',j,by omega,e⟩
  rintro (h'|⟨h',j,hj,e⟩)
  ·exact Or.inl h'
  by_cases ejk:j=k
  ·subst ejk;subst e;exact absurd h' hag
  exact Or.inr ⟨h',j,by omega,e⟩
theorem mem_eAt {x:Ent}:x ∈ l↔∃ j,j<l.length∧eAt l j=x:=by
 constructor
 ·intro h
  obtain ⟨j,hj,rfl⟩:=List.mem_iff_getElem.1 h;exact ⟨j,hj,eAt_get l j hj⟩
 rintro ⟨j,hj,rfl⟩;exact eAt_mem l j hj
theorem saI_in {L:Nat->List Ent}{n:Nat}(hn:0<n):∀ {i},okTo L i=true->SrtE (saI L n i)∧∀ x,x ∈ saI L n i↔agTo L x n=true∧InS L i x
 | 0,_=>⟨List.Pairwise.nil,fun x=>⟨fun h=>(by cases h),fun ⟨_,j,hj,_⟩=>absurd hj (Nat.not_lt_zero _)⟩⟩
 | i+1,h=>by
  rw [okTo,Bool.and_eq_true] at h;obtain ⟨ih1,ih2⟩:=saI_in hn h.1;obtain ⟨h1,h2⟩:=saK_in (L:=L) hn ih1 (fun x hx=>((ih2 x).1 hx).1) (st_parts h.2).2.2 _ (Nat.le_refl (L i).length);unfold saI;refine ⟨h1,fun x=>?_⟩;rw [h2,ih2,<- mem_eAt];constructor
  ·rintro (⟨h',j,hj,e⟩|⟨h',e⟩)
   ·exact ⟨h',j,by omega,e⟩
   exact ⟨h',i,by omega,e⟩
  rintro ⟨h',j,hj,e⟩
  by_cases eji:j=i
  ·subst eji;exact Or.inr ⟨h',e⟩
  exact Or.inl ⟨h',j,by omega,e⟩
theorem otK_in (L:Nat->List Ent)(n:Nat)(acc:List ByteArray)(l:List Ent)(t:ByteArray):∀ k,t ∈ otK L n acc l k↔(t ∈ acc∨∃ j,j<k∧agTo L (eAt l j) n=false∧(eAt l j).id=t)
 | 0=>⟨fun hx=>Or.inl hx,fun hx=>hx.elim id (fun ⟨j,hj,_⟩=>absurd hj (Nat.not_lt_zero _))⟩
 | k+1=>by
  have ih:=otK_in L n acc l t k;unfold otK
  by_cases hag:agTo L (eAt l k) n=true
  ·rw [if_pos hag,ih]
   constructor
   ·rintro (h'|⟨j,hj,e⟩)
    ·exact Or.inl h'
    exact Or.inr ⟨j,by omega,e⟩
   rintro (h'|⟨j,hj,e⟩)
   ·exact Or.inl h'
   by_cases ejk:j=k
   ·subst ejk;rw [hag] at e;cases e.1
   exact Or.inr ⟨j,by omega,e⟩
  rw [if_neg hag,List.mem_append,ih,List.mem_singleton];have hag':agTo L (eAt l k) n=false:=by simpa using hag
  constructor
  ·rintro ((h'|⟨j,hj,e⟩)|h')
   ·exact Or.inl h'
   ·exact Or.inr ⟨j,by omega,e⟩
   exact Or.inr ⟨k,by omega,hag',h'.symm⟩
  rintro (h'|⟨j,hj,e⟩)
  ·exact Or.inl (Or.inl h')
  by_cases ejk:j=k
  ·subst ejk;exact Or.inr e.2.symm
  exact Or.inl (Or.inr ⟨j,by omega,e⟩)
theorem otI_in (L:Nat->List Ent)(n:Nat)(t:ByteArray):∀ i,t ∈ otI L n i↔∃ x,(agTo L x n=false∧InS L i x)∧x.id=t
 | 0=>⟨fun h=>(by cases h),fun ⟨x,⟨_,j,hj,_⟩,_⟩=>absurd hj (Nat.not_lt_zero _)⟩
 | i+1=>by
  unfold otI;rw [otK_in,otI_in L n t i];constructor
  ·rintro (⟨x,⟨h1,j,hj,e⟩,h2⟩|⟨j,hj,h1,h2⟩)
   ·exact ⟨x,⟨h1,j,by omega,e⟩,h2⟩
   exact ⟨_,⟨h1,i,by omega,eAt_mem _ j hj⟩,h2⟩
  rintro ⟨x,⟨h1,j,hj,e⟩,h2⟩
  by_cases eji:j=i
  ·subst eji
   obtain ⟨q,hq,rfl⟩:=mem_eAt.1 e;exact Or.inr ⟨q,hq,h1,h2⟩
  exact Or.inl ⟨x,⟨h1,j,by omega,e⟩,h2⟩
theorem spFin_unique {Se Se':List Ent}{So So':List ByteArray}(h:SpFin L n Se So)(h':SpFin L n Se' So'):Se=Se'∧So=So' :=
 ⟨srt_ext h.srt h'.srt (fun x=>(h.mem x).trans (h'.mem x).symm),srt_unique h.srtO h'.srtO (fun t=>(h.memO t).trans (h'.memO t).symm)⟩
end Go.Proofs.YtkdalopokdhndaaGreat
