import Derived.Test.YtkdalopokdhndaaGreatSetLZ
set_option maxHeartbeats 16000000
set_option maxRecDepth 100000
namespace Go.Proofs.YtkdalopokdhndaaGreat
open Go.RowKit
variable {E:Nat->Ev}{n:Nat}{l:List Ent}{e:Ev}
def fit1 (E:Nat->Ev)(n:Nat)(x:Ent):Bool:=decide (0<=posV E n x.id) && ((E (posV E n x.id).toNat).st && (((E (posV E n x.id).toNat).ty.toList == x.ty.toList) && ((E (posV E n x.id).toNat).key.toList == x.key.toList)))
def fitTo (E:Nat->Ev)(n:Nat)(l:List Ent):Nat->Bool
 | 0=>true
 | k+1=>fitTo E n l k && fit1 E n (eAt l k)
theorem fitTo_le (E:Nat->Ev)(n:Nat)(l:List Ent):∀ m k,k<m->fitTo E n l (k+1)=false->fitTo E n l m=false
 | m+1,k,h,h1=>by
  by_cases e:k=m
  ·rw [<- e];exact h1
  rw [fitTo,fitTo_le E n l m k (by omega) h1];rfl
theorem fitTo_at {E:Nat->Ev}{n:Nat}{l:List Ent}:∀ {m},fitTo E n l m=true->∀ k,k<m->fit1 E n (eAt l k)=true
 | m+1,h,k,hk=>by
  rw [fitTo,Bool.and_eq_true] at h
  by_cases e:k=m
  ·subst e;exact h.2
  exact fitTo_at h.1 k (by omega)
def fitB (E:Nat->Ev)(n:Nat)(l:List Ent):Bool:=fitTo E n l l.length && stB l
theorem findB_eaL (l:List Ent)(x:Ent):findB l x.ty x.key=(eaV l x).id:=by
 have h0:eaV l x=eaV l ⟨x.ty,x.key,⟨#[]⟩⟩:=rfl;rw [h0];unfold findB eaV;rcases posI_look l ⟨x.ty,x.key,⟨#[]⟩⟩ with ⟨h1,h2⟩|⟨e,h1,h2,h3⟩
 ·rw [h1,h2,if_neg (by decide)];rfl
 rw [h1,if_pos h2,h3];rfl
def atV (E:Nat->Ev)(n:Nat)(l:List Ent)(ty key:ByteArray):Int:=posV E n (findB l ty key)
theorem at_ty (hr:roomTo E n=true)(hf:fitB E n l=true){ty key:ByteArray}(h:0<=atV E n l ty key):(E (atV E n l ty key).toNat).ty.toList=ty.toList:=by
 unfold fitB at hf;rw [Bool.and_eq_true] at hf;unfold atV at h ⊢;rw [findB_eaL l ⟨ty,key,⟨#[]⟩⟩] at h ⊢;unfold eaV at h ⊢
 cases hl:lookE l ⟨ty,key,⟨#[]⟩⟩ with
 | none =>
  rw [hl] at h
  have:posV E n ((none:Option Ent).getD Ent.none).id=-1:=posV_empty hr (by show ByteArray.empty.toList.isEmpty=true;rw [ByteArray.toList_eq];rfl);rw [this] at h
  exact absurd h (by decide)
 | some y =>
  obtain ⟨h1,h2,h3⟩:=lookE_some hl;obtain ⟨j,hj,e⟩:=List.mem_iff_getElem.1 h1;have hfy:=fitTo_at hf.1 j hj;rw [eAt_get l j hj,e] at hfy;unfold fit1 at hfy;simp only [Bool.and_eq_true,beq_iff_eq] at hfy
  show (E (posV E n y.id).toNat).ty.toList=ty.toList
  rw [hfy.2.2.1,h2]
def gV (M:Nat->ByteArray)(L:Nat->Int)(name:ByteArray):Nat->Option Int
 | 0=>none
 | k+1=>match gV M L name k with
  | some v=>some v
  | none=>if (M k).toList == name.toList then some (L k) else none
theorem gV_none {M:Nat->ByteArray}{L:Nat->Int}{name:ByteArray}:∀ {k},(∀ i,i<k->((M i).toList == name.toList)=false)->gV M L name k=none
 | 0,_=>rfl
 | k+1,h=>by rw [gV,gV_none (fun i hi=>h i (by omega)),h k (by omega)];rfl
theorem gV_hit {M:Nat->ByteArray}{L:Nat->Int}{name:ByteArray}{j:Nat}(h0:∀ i,i<j->((M i).toList == name.toList)=false)(h1:((M j).toList == name.toList)=true):∀ {k},j<k->gV M L name k=some (L j)
 | k+1,hk=>by
  by_cases e:j=k
  ·subst e;rw [gV,gV_none h0,h1];rfl
  rw [gV,gV_hit h0 h1 (show j<k by omega)]
theorem gr_asc (h:e.code=0)(ht:isPow e=true):e.ng<=50∧∀ i j,i<j->j<e.ng->(e.M i).data.toList<(e.M j).data.toList:=by
 unfold isPow at ht;unfold Ev.code evCode at h;split at h
 ·cases h
 split at h
 ·cases h
 split at h
 ·cases h
 split at h
 ·cases h
 split at h
 ·cases h
 rename_i h5
 have hc:ctB e.ty e.key e.val e.st e.np e.na e.ng e.M e.L=true:=by
  cases hq:ctB e.ty e.key e.val e.st e.np e.na e.ng e.M e.L
  ·exact absurd hq h5
  rfl
 have ht':e.ty.toList=[112,111,119,101,114]:=by simpa using ht
 unfold ctB at hc;rw [ht'] at hc;have e1:(([112,111,119,101,114]:List UInt8) == [99,114,101,97,116,101])=false:=by decide
 have e2:(([112,111,119,101,114]:List UInt8) == [109,101,109,98,101,114])=false:=by decide
 have e3:(([112,111,119,101,114]:List UInt8) == [106,111,105,110,95,114,117,108,101,115])=false:=by decide
 rw [e1,e2,e3] at hc;simp at hc;have hg:grB e.M e.L e.ng=true:=by first|exact hc.2|exact hc.1.2|exact hc.2.2|exact hc.2.1
 unfold grB at hg;rw [Bool.and_eq_true,decide_eq_true_eq] at hg;refine ⟨hg.2,?_⟩
 have step:∀ m,grTo e.M e.L m=true->∀ i,i+1<m->(e.M i).data.toList<(e.M (i+1)).data.toList:=fun m=>by
  induction m with
  | zero=>intro _ i hi;omega
  | succ m ih =>
   intro hm i hi;rw [grTo,Bool.and_eq_true] at hm
   by_cases e:i+1=m
   ·have hx:=hm.2
    simp only [Bool.and_eq_true,Bool.or_eq_true] at hx;rcases hx.2.2.2 with h0|h0
    ·have:m=0:=by simpa using h0
     omega
    rw [<- e,Nat.add_sub_cancel,bytesLess_eq,decide_eq_true_eq,ByteArray.toList_eq,ByteArray.toList_eq] at h0;exact h0
   exact ih hm.1 i (by omega)
 intro i j hij hj
 induction j with
 | zero=>omega
 | succ j ih =>
  by_cases e:i=j
  ·subst e;exact step _ hg.1 i hj
  exact List.lt_trans (ih (by omega) (by omega)) (step _ hg.1 j hj)
def byG (e:Ev)(user:ByteArray):Int:=match gV e.M e.L user e.ng with
 | some v=>v
 | none=>(gV e.M e.L ⟨#[42,100,101,102,97,117,108,116]⟩ e.ng).getD 0
abbrev tPow:ByteArray:=⟨#[112,111,119,101,114]⟩
abbrev tCre:ByteArray:=⟨#[99,114,101,97,116,101]⟩
abbrev tNil:ByteArray:=⟨#[]⟩
def lvV (E:Nat->Ev)(n:Nat)(l:List Ent)(user:ByteArray):Int :=
 if 0<=atV E n l tPow tNil then byG (E (atV E n l tPow tNil).toNat) user
 else if 0<=atV E n l tCre tNil∧((E (atV E n l tCre tNil).toNat).sd.toList == user.toList)=true then 100 else 0
variable {a:Option Addr}{cap:Nat}{M:Nat->ByteArray}
def gAns (o:Option Int):Value:=.tuple #[.int .i64 (o.getD 0),.bool o.isSome]
theorem l5Gr_zero (a:Option Addr)(cap:Nat)(M:Nat->ByteArray)(L:Nat->Int)(name:ByteArray)(w:World) :
  Calls Tryz.prog 77 #[.slice a 0 cap,.string name] w fun e w'=>e=.returned (gAns (gV M L name 0))∧w'=w:=by
 go_enter Tryz.func77,Tryz.ntmps77
 go_wp2
 refine wp_loop_rounds 1 ?_;rw [rounds_succ];go_wp2
 refine bodyPost_ret (v:=.tuple #[.int .i64 0,.bool false]) (by simp [results,Tryz.results77,go_sem]) rfl ⟨rfl,rfl⟩
theorem l5Gr_any (b off n cap:Nat)(M:Nat->ByteArray)(L:Nat->Int)(name:ByteArray)(w:World)(hn:n<=maxLen)(h1:∀ i,i<n->w.cell? ⟨b,off+i * 2,none⟩=some (.string (M i)))(h2:∀ i,i<n->w.cell? ⟨b,off+i * 2+1,none⟩=some (.int .i64 (L i))) :
  Calls Tryz.prog 77 #[.slice (some ⟨b,off,none⟩) n cap,.string name] w fun e w'=>e=.returned (gAns (gV M L name n))∧w'=w:=by
 unfold maxLen at hn;have H1:Hid (_):=h1;have H2:Hid (_):=h2;clear h1 h2
 go_enter Tryz.func77,Tryz.ntmps77
 go_wp2
 go_loop [6] (fun i=>∃ k:Nat,k<=n∧i=.int .i64 k∧Hid (∀ i,i<k->((M i).toList == name.toList)=false)) (fun i=>n - (intOf i).toNat)
 case atStart=>exact ⟨0,nz,rfl,fun i hi=>absurd hi (Nat.not_lt_zero _)⟩
 case round =>
  obtain ⟨k,hk,rfl,hto⟩:=hrel
  by_cases hlt:k<n
  ·have c1:=H1.out k hlt
   have c2:=H2.out k hlt;cases hq:((M k).toList == name.toList)
   case true =>
    have Hh:Hid (gAns (gV M L name n)=.tuple #[.int .i64 (L k),.bool true]):=by unfold Hid;rw [gV_hit hto.out hq hlt];rfl
    clear hto;go_wp2
    refine bodyPost_ret (v:=.tuple #[.int .i64 (L k),.bool true]) (by simp [results,Tryz.results77,go_sem]) rfl ⟨by rw [Hh.out],rfl⟩
   case false =>
    have Hto:Hid (∀ i,i<k+1->((M i).toList == name.toList)=false):=fun i hi=>by
     by_cases e:i=k
     ·subst e;exact hq
     exact hto.out i (by omega)
    clear hto;go_wp2
    go_round
    case rel=>exact ⟨k+1,by omega,by go_num,Hto⟩
    simp [intOf];omega
  have hkn:k=n:=by omega
  subst hkn;have Hh:Hid (gAns (gV M L name k)=.tuple #[.int .i64 0,.bool false]):=by unfold Hid;rw [gV_none hto.out];rfl
  clear hto;go_wp2
  refine bodyPost_ret (v:=.tuple #[.int .i64 0,.bool false]) (by simp [results,Tryz.results77,go_sem]) rfl ⟨by rw [Hh.out],rfl⟩
theorem l5Gr_sl {L:Nat->Int}(name:ByteArray)(w:World)(h:SlG w a n cap M L) :
  Calls Tryz.prog 77 #[.slice a n cap,.string name] w fun e w'=>e=.returned (gAns (gV M L name n))∧w'=w:=by
 rcases h.cells with rfl|⟨b,off,rfl,hb,h1,h2⟩
 ·exact l5Gr_zero a cap M L name w
 exact l5Gr_any b off n cap M L name w (nZ h.le h.max) h1 h2
theorem l5By_sl {e0:Ev}(user:ByteArray)(w:World)(h:SlG w a e0.ng cap e0.M e0.L) :
  Calls Tryz.prog 100 #[.slice a e0.ng cap,.string user] w fun e w'=>e=.returned (.int .i64 (byG e0 user))∧w'=w:=by
 have Hb:Hid (∀ o,o=gV e0.M e0.L user e0.ng->byG e0 user=match o with|some v=>v|none=>(gV e0.M e0.L ⟨#[42,100,101,102,97,117,108,116]⟩ e0.ng).getD 0):=fun o ho=>by subst ho;rfl
 have HG:Hid (∀ W name,W=w->Calls Tryz.prog 77 #[.slice a e0.ng cap,.string name] W fun e w'=>e=.returned (gAns (gV e0.M e0.L name e0.ng))∧w'=W):=fun W name hW=>by subst hW;exact l5Gr_sl name W h
 cases ho:gV e0.M e0.L user e0.ng with
 | some v =>
  have hv:=Hb.out _ ho.symm;simp only at hv;have Hv:Hid (_=_):=hv;clear hv
  go_enter Tryz.func100,Tryz.ntmps100
  go_wp2_with fail
  refine (HG.out _ _ rfl).mono ?_;rintro e w1 ⟨rfl,rfl⟩;rw [ho];unfold gAns;simp only [Option.getD_some,Option.isSome_some];go_wp2
  go_ret
  exact ⟨ret_int Hv.out.symm,rfl⟩
 | none =>
  have hv:=Hb.out _ ho.symm;simp only at hv;have Hv:Hid (_=_):=hv;clear hv
  go_enter Tryz.func100,Tryz.ntmps100
  go_wp2_with fail
  refine (HG.out _ _ rfl).mono ?_;rintro e w1 ⟨rfl,rfl⟩;rw [ho];unfold gAns;simp only [Option.getD_none,Option.isSome_none]
  go_wp2_with fail
  refine (HG.out _ _ rfl).mono ?_;rintro e w2 ⟨rfl,rfl⟩;unfold gAns;go_wp2
  go_ret;exact ⟨ret_int Hv.out.symm,rfl⟩
variable {p q:Nat}{D:Nat->Nat}{out:List Nat}
def Rst (E:Nat->Ev)(n p q:Nat):Prop:=∃ k,k<(E p).na∧posV E n ((E p).Av k)=(q:Int)
def Rdy (E:Nat->Ev)(n:Nat)(T:Nat->Prop)(out:List Nat)(p:Nat):Prop:=∀ q,Rst E n p q->T q->q ∈ out
def Cand (E:Nat->Ev)(n:Nat)(T:Nat->Prop)(out:List Nat)(p:Nat):Prop:=T p∧p ∉ out∧Rdy E n T out p
def Nxt (E:Nat->Ev)(n:Nat)(T:Nat->Prop)(D:Nat->Nat)(out:List Nat)(p:Nat):Prop:=Cand E n T out p∧∀ q,Cand E n T out q->q=p∨Bef E D p q
def OrdP (E:Nat->Ev)(n:Nat)(T:Nat->Prop)(D:Nat->Nat)(l:List Nat):Prop:=∀ k p,l[k]?=some p->Nxt E n T D (l.take k) p
theorem Nxt.uniq {T:Nat->Prop}(h1:Nxt E n T D out p)(h2:Nxt E n T D out q):p=q:=by
 rcases h1.2 q h2.1 with h|h
 ·exact h.symm
 rcases h2.2 p h1.1 with h'|h'
 ·exact h'
 exact absurd h' h.asymm
theorem OrdP.nil (E:Nat->Ev)(n:Nat)(T:Nat->Prop)(D:Nat->Nat):OrdP E n T D []:=fun k p h=>by cases h
theorem OrdP.snoc {T:Nat->Prop}{l:List Nat}(h:OrdP E n T D l)(hp:Nxt E n T D l p):OrdP E n T D (l ++ [p]):=by
 intro k q hk;rcases Nat.lt_trichotomy k l.length with h1|h1|h1
 ·rw [List.getElem?_append_left h1] at hk
  rw [List.take_append_of_le_length (by omega)];exact h k q hk
 ·subst h1
  rw [List.getElem?_append_right nL,Nat.sub_self] at hk;injection hk with hk
  rw [List.take_append_of_le_length nL,List.take_length,<- hk];exact hp
 rw [List.getElem?_eq_none (by simp;omega)] at hk;cases hk
theorem OrdP.nodup {T:Nat->Prop}{l:List Nat}(h:OrdP E n T D l):l.Nodup:=by
 refine List.pairwise_iff_getElem.2 fun i j hi hj hij e=>?_
 have h1:=(h j l[j] (List.getElem?_eq_getElem hj)).1.2.1;refine h1 ?_;rw [<- e];exact List.mem_iff_getElem.2 ⟨i,by simp;omega,by simp⟩
theorem OrdP.sub {T:Nat->Prop}{l:List Nat}(h:OrdP E n T D l):∀ p ∈ l,T p:=fun p hp=>by
 obtain ⟨i,hi,rfl⟩:=List.mem_iff_getElem.1 hp;exact (h i _ (List.getElem?_eq_getElem hi)).1.1
theorem OrdP.uniq {T:Nat->Prop}{l1 l2:List Nat}(h1:OrdP E n T D l1)(h2:OrdP E n T D l2)(c1:∀ p,T p->p ∈ l1)(c2:∀ p,T p->p ∈ l2):l1=l2:=by
 have hl:l1.length=l2.length:=((List.perm_ext_iff_of_nodup h1.nodup h2.nodup).2 fun p=>⟨fun hp=>c2 p (h1.sub p hp),fun hp=>c1 p (h2.sub p hp)⟩).length_eq
 have ht:∀ k,l1.take k=l2.take k:=by
  intro k
  induction k with
  | zero=>rfl
  | succ k ih =>
   rcases Nat.lt_or_ge k l1.length with hk|hk
   ·have e:l1[k]=l2[k]:=by
     have q1:=h1 k _ (List.getElem?_eq_getElem hk);have q2:=h2 k _ (List.getElem?_eq_getElem (by omega:k<l2.length));rw [ih] at q1;exact q1.uniq q2
    rw [List.take_add_one,List.take_add_one,ih,List.getElem?_eq_getElem hk,List.getElem?_eq_getElem (by omega:k<l2.length),e]
   rw [List.take_of_length_le hk,List.take_of_length_le (by omega)] at ih;rw [List.take_of_length_le (by omega),List.take_of_length_le (by omega),ih]
 have:=ht l1.length;rw [List.take_length,hl,List.take_length] at this;exact this
theorem rst_lt (hr:roomTo E n=true)(hp:p<n)(h:Rst E n p q):q<p:=by
 obtain ⟨k,hk,e⟩:=h;exact (auth_at hr hp hk e).1
theorem cand_ex {T:Nat->Prop}(hr:roomTo E n=true)(hT:∀ p,T p->p<n):∀ p,T p->p ∉ out->∃ q,Cand E n T out q:=by
 intro p
 induction p using Nat.strongRecOn with
 | ind p ih =>
  intro h1 h2
  by_cases hc:Rdy E n T out p
  ·exact ⟨p,h1,h2,hc⟩
  unfold Rdy at hc;obtain ⟨q,hq⟩:=Classical.not_forall.1 hc;obtain ⟨hr',hq⟩:=Classical.not_imp.1 hq;obtain ⟨ht,hq⟩:=Classical.not_imp.1 hq;exact ih q (rst_lt hr (hT p h1) hr') ht hq
variable {ca cg cp:Nat}{aa ga pa:Option Addr}
def auV (E:Nat->Ev)(n p:Nat):Int :=
 if 0<=pwV E n p then byG (E (pwV E n p).toNat) (E p).sd else if (E p).sd.toList == (E 0).sd.toList then 100 else 0
theorem gr_lv (h:e.code=0)(ht:isPow e=true):∀ i,i<e.ng->-1000000<=e.L i:=by
 unfold isPow at ht;unfold Ev.code evCode at h;split at h
 ·cases h
 split at h
 ·cases h
 split at h
 ·cases h
 split at h
 ·cases h
 split at h
 ·cases h
 rename_i h5
 have hc:ctB e.ty e.key e.val e.st e.np e.na e.ng e.M e.L=true:=by
  cases hq:ctB e.ty e.key e.val e.st e.np e.na e.ng e.M e.L
  ·exact absurd hq h5
  rfl
 have ht':e.ty.toList=[112,111,119,101,114]:=by simpa using ht
 unfold ctB at hc;rw [ht'] at hc;have e1:(([112,111,119,101,114]:List UInt8) == [99,114,101,97,116,101])=false:=by decide
 have e2:(([112,111,119,101,114]:List UInt8) == [109,101,109,98,101,114])=false:=by decide
 have e3:(([112,111,119,101,114]:List UInt8) == [106,111,105,110,95,114,117,108,101,115])=false:=by decide
 rw [e1,e2,e3] at hc;simp at hc;have hg:grB e.M e.L e.ng=true:=by first|exact hc.2|exact hc.1.2|exact hc.2.2|exact hc.2.1
 unfold grB at hg;rw [Bool.and_eq_true,decide_eq_true_eq] at hg
 have step:∀ m,grTo e.M e.L m=true->∀ i,i<m->-1000000<=e.L i:=fun m=>by
  induction m with
  | zero=>intro _ i hi;omega
  | succ m ih =>
   intro hm i hi;rw [grTo,Bool.and_eq_true] at hm
   by_cases e:i=m
   ·have hx:=hm.2
    simp only [Bool.and_eq_true,Bool.or_eq_true,Bool.not_eq_true',decide_eq_false_iff_not] at hx;rw [e];omega
   exact ih hm.1 i (by omega)
 exact step _ hg.1
theorem gV_some {M:Nat->ByteArray}{L:Nat->Int}{name:ByteArray}{v:Int}:∀ {k},gV M L name k=some v->∃ i,i<k∧L i=v
 | k+1,h=>by
  rw [gV] at h
  cases hq:gV M L name k with
  | some u =>
   rw [hq] at h;obtain ⟨i,hi,e⟩:=gV_some (k:=k) (hq.trans h)
   exact ⟨i,by omega,e⟩
  | none =>
   rw [hq] at h;simp only at h;split at h
   ·injection h with h;exact ⟨k,by omega,h⟩
   cases h
theorem byG_lo (h:e.code=0)(ht:isPow e=true)(u:ByteArray):-1000000<=byG e u:=by
 unfold byG
 cases hq:gV e.M e.L u e.ng with
 | some v =>
  obtain ⟨i,hi,rfl⟩:=gV_some hq
  exact gr_lv h ht i hi
 | none =>
  show -1000000<=(gV e.M e.L ⟨#[42,100,101,102,97,117,108,116]⟩ e.ng).getD 0
  cases hq2:gV e.M e.L ⟨#[42,100,101,102,97,117,108,116]⟩ e.ng with
  | some v =>
   obtain ⟨i,hi,rfl⟩:=gV_some hq2
   exact gr_lv h ht i hi
  | none=>decide
theorem pw_at (h:roomTo E n=true)(hp:p<n)(h0:0<=pwV E n p):∃ y,y<p∧pwV E n p=(y:Int)∧isPow (E y)=true:=by
 rcases scTo_bd (P:=isPow) h hp with h1|⟨q,hq,e,hP⟩
 ·unfold pwV at h0;omega
 exact ⟨q,hq,e,hP⟩
theorem auV_lo (h:roomTo E n=true)(hp:p<n):-1000000<=auV E n p:=by
 unfold auV;split
 ·rename_i h0
  obtain ⟨y,hy,e,hP⟩:=pw_at h hp h0;rw [e,Int.toNat_natCast];exact byG_lo (room_code h (by omega)) hP _
 split <;> decide
def auN (E:Nat->Ev)(n p:Nat):Nat:=(auV E n p+1000000).toNat
def sooB (E:Nat->Ev)(n p q:Nat):Bool :=
 if auV E n p=auV E n q then (if (E p).tm=(E q).tm then Op.bytesLess (E p).id.toList (E q).id.toList else decide ((E p).tm<(E q).tm)) else decide (auV E n q<auV E n p)
theorem sooB_iff (h:roomTo E n=true)(hp:p<n)(hq:q<n):sooB E n p q=true↔Bef E (auN E n) p q:=by
 have b1:=auV_lo h hp;have b2:=auV_lo h hq;unfold sooB Bef auN
 by_cases h1:auV E n p=auV E n q
 ·rw [if_pos h1]
  by_cases h2:(E p).tm=(E q).tm
  ·rw [if_pos h2,ByteArray.toList_eq,ByteArray.toList_eq,bytesLess_eq,decide_eq_true_eq]
   constructor
   ·exact fun h=>Or.inr ⟨by rw [h1],Or.inr ⟨h2,h⟩⟩
   rintro (h|⟨_,h|⟨_,h⟩⟩)
   ·omega
   ·omega
   exact h
  rw [if_neg h2,decide_eq_true_eq];constructor
  ·exact fun h=>Or.inr ⟨by rw [h1],Or.inl h⟩
  rintro (h|⟨_,h|⟨h,_⟩⟩)
  ·omega
  ·exact h
  exact absurd h h2
 rw [if_neg h1,decide_eq_true_eq];constructor
 ·exact fun h=>Or.inl (by omega)
 rintro (h|⟨h,_⟩)
 ·omega
 omega
theorem l6Au_sl (w:World)(hroom:roomTo E n=true)(hq:q<n)(h:SlV w a n cap E)(he:EvOk w (E q) pa cp aa ca ga cg) :
  Calls Tryz.prog 214 #[.agg #[.slice a n cap],(E q).val' pa cp aa ca ga cg] w fun x w'=>x=.returned (.int .i64 (auV E n q))∧Below w.heap.size w w':=by
 obtain ⟨wb,hwb⟩:∃ wb,wb=boxes w a n cap (E q) pa cp aa ca ga cg:=⟨_,rfl⟩;have hb0:Below w.heap.size w wb:=by rw [hwb];exact bA.alloc (by simp) _
 have hs0:wb.heap.size=w.heap.size+2:=by rw [hwb];simp
 have hbx:Hid (∀ wx,Below (w.heap.size+2) wb wx->wx.cell? ⟨w.heap.size,0,none⟩=some (.slice a n cap)∧wx.cell? ⟨w.heap.size+1,1,none⟩=some (.string (E q).sd)):=fun wx hx=>by
  subst hwb
  have:=boxes_cells (E q) w hx;exact ⟨this.1,this.2 1⟩
 have HP:Hid (Calls Tryz.prog 182 #[.agg #[.slice a n cap],(E q).val' pa cp aa ca ga cg] wb fun x w'=>x=.returned (.string (pwS E n q))∧Below wb.heap.size wb w'):=l6Pow_sl wb hroom hq (h.below hb0) (he.below hb0);have Hv:Hid (∀ z,z=pwV E n q->auV E n q=if 0<=z then byG (E z.toNat) (E q).sd else if (E q).sd.toList == (E 0).sd.toList then 100 else 0):=fun z hz=>by rw [hz];rfl
 have HE:Hid (SlV w a n cap E):=h;have Hroom:Hid (_):=hroom
 go_enter Tryz.func214,Tryz.ntmps214
 go_wp2_with fail
 have hwb':(w.alloc (.cells #[.slice a n cap] 25)).alloc (.cells (ec (E q) pa cp aa ca ga cg) 30)=wb:=hwb.symm;rw [hwb'];clear hwb' hwb he hroom;refine (HP.out).mono ?_;rintro e w1 ⟨rfl,hb1⟩;have hB1:=hb1.mono (B':=w.heap.size+2) (by omega);have hw1:=hb0.trans (hB1.mono (by omega));have hs1:w.heap.size+2<=w1.heap.size:=by have:=hB1.size;omega
 obtain ⟨x0,x1⟩:=hbx.out _ hB1;clear HP hb1
 by_cases h0:0<=pwV E n q
 ·obtain ⟨y,hy,ey,hpy⟩:=pw_at Hroom.out hq h0
  have hps:pwS E n q=(E y).id:=by unfold pwS;rw [if_pos h0,ey,Int.toNat_natCast]
  have Hr:Hid (auV E n q=byG (E y) (E q).sd):=by
   have:=Hv.out _ rfl;rw [if_pos h0,ey,Int.toNat_natCast] at this;exact this
  have hne:(E y).id.toList.isEmpty=false:=ev_id (room_code Hroom.out (by omega));have hev:Hid (∀ W,Below w1.heap.size w1 W->Calls Tryz.prog 103 #[.agg #[.slice a n cap],.string (E y).id] W (EePost W (E y))):=fun W hW=>l6Event_sl _ W (HE.out.below (hw1.trans (hW.mono hw1.size))) (by omega) (posV_here Hroom.out (by omega))
  have hrf:Below w1.heap.size w1 w1:=kB;rw [hps];clear Hv h0 ey hpy hps;generalize (E q).sd=us at *;generalize E y=ev at *;have hfd:∀ (pa:Option Addr) (cp:Nat) (aa:Option Addr) (ca:Nat) (ga:Option Addr) (cg:Nat) (W:World),(Instr.field 30 (.agg (ec ev pa cp aa ca ga cg)) 9).run Tryz.prog W=.ok (.slice ga ev.ng cg) W:=fun _ _ _ _ _ _ _=>by kernel_rfl
  have hz0:w.heap.size<w1.heap.size:=by omega
  have hz1:w.heap.size+1<w1.heap.size:=by omega
  go_wp2_with fail
  go_region_held3 (fun W=>W.cell? ⟨w.heap.size,0,none⟩=some (.slice a n cap)∧W.cell? ⟨w.heap.size+1,1,none⟩=some (.string us))
   (first|(with_reducible exact ⟨x0,x1⟩)|go_keep)
   (first
    | (go_at_call 103;refine (hev.out _ (by with_reducible (repeat refine .drew ?_);exact hrf)).mono ?_;rintro e w2 ⟨hb2',pa2,cp2,aa2,ca2,ga2,cg2,hee,hok2⟩;have hef:e=.returned (.agg (ec ev pa2 cp2 aa2 ca2 ga2 cg2)):=hee;clear hee;subst hef;have hg2:Hid (SlG w2 ga2 ev.ng cg2 ev.M ev.L):=hok2.hg;clear hok2;have hb2:Below w1.heap.size w1 w2:=Below.trans (by with_reducible (repeat refine .drew ?_);exact hrf) hb2';clear hb2';have k0:=(hb2.cell (p:=⟨w.heap.size,0,none⟩) hz0).trans x0;have k1:=(hb2.cell (p:=⟨w.heap.size+1,1,none⟩) hz1).trans x1)
    | (go_at_call 100;refine (l5By_sl (e0:=ev) us _ (hg2.out.below (by first|exact kB|exact kB.drew|exact kB.drew.drew))).mono ?_;rintro e w3 ⟨rfl,rfl⟩))
  all_goals
   go_wp2
   go_ret;exact ⟨ret_int Hr.out.symm,by first|exact hw1.trans (hb2.mono hw1.size)|exact (hw1.trans (hb2.mono hw1.size)).drew|exact (hw1.trans (hb2.mono hw1.size)).drew.drew⟩
 have hps:pwS E n q=⟨#[]⟩:=by unfold pwS;rw [if_neg h0]
 rcases h.cells with hz|⟨b,off,rfl,hb,hc⟩
 ·omega
 obtain ⟨_,_,_,_,_,_,hec,_⟩:=hc 0 (by omega)
 have c1:w1.cell? ⟨b,off+1,none⟩=some (.string (E 0).sd):=by
  have:=(hw1.cell (p:=⟨b,off+0 * 10+1,none⟩) hb).trans hec.c1;simpa using this
 have Hr:Hid (∀ bq:Bool,((E q).sd.toList == (E 0).sd.toList)=bq->auV E n q=if bq then 100 else 0):=fun bq hbq=>by
  have:=Hv.out _ rfl;rw [if_neg h0,hbq] at this;exact this
 have hn0:(0:Int)<(n:Int):=by omega
 have hn1:0<n:=by omega
 rw [hps];clear Hv h0 hps hc hec h;generalize (E q).sd=us at *;generalize (E 0).sd=u0 at *;cases hq2:(us.toList == u0.toList)
 all_goals
  have HR:Hid (_=_):=Hr.out _ hq2;clear Hr
  go_wp2_with fail
  go_region_held3 (fun W=>W.cell? ⟨w.heap.size,0,none⟩=some (.slice (some ⟨b,off,none⟩) n cap)∧W.cell? ⟨w.heap.size+1,1,none⟩=some (.string us)∧W.cell? ⟨b,off+1,none⟩=some (.string u0))
   (first|(with_reducible exact ⟨x0,x1,c1⟩)|go_keep) (fail)
  all_goals
   go_wp2
   go_ret;exact ⟨ret_int (by rw [HR.out];rfl),by first|exact hw1|exact hw1.drew|exact hw1.drew.drew⟩
def wtyB (e:Ev):Bool :=
 if e.ty.toList == [109,101,109,98,101,114] then (e.val.toList == [108,101,97,118,101] || e.val.toList == [98,97,110]) && !(e.sd.toList == e.key.toList)
 else e.ty.toList == [112,111,119,101,114] || e.ty.toList == [106,111,105,110,95,114,117,108,101,115]
theorem l6Wt_any (ev:Ev)(pa:Option Addr)(cp:Nat)(aa:Option Addr)(ca:Nat)(ga:Option Addr)(cg:Nat)(w:World) :
  Calls Tryz.prog 102 #[ev.val' pa cp aa ca ga cg] w fun x w'=>x=.returned (.bool (wtyB ev))∧Below w.heap.size w w':=by
 have hb0:∀ o,Below w.heap.size w (w.alloc o):=fun o=>bA
 have Hr:Hid (∀ b1 b2 b3 b4 b5 b6,(ev.ty.toList == [109,101,109,98,101,114])=b1->(ev.val.toList == [108,101,97,118,101])=b2->(ev.val.toList == [98,97,110])=b3->(ev.sd.toList == ev.key.toList)=b4->(ev.ty.toList == [112,111,119,101,114])=b5->(ev.ty.toList == [106,111,105,110,95,114,117,108,101,115])=b6->wtyB ev=if b1 then (b2 || b3) && !b4 else b5 || b6):=fun b1 b2 b3 b4 b5 b6 e1 e2 e3 e4 e5 e6=>by
  unfold wtyB;rw [e1,e2,e3,e4,e5,e6]
 generalize wtyB ev=vv at *;cases h1:(ev.ty.toList == [109,101,109,98,101,114])
 case true =>
  cases h2:(ev.val.toList == [108,101,97,118,101]) <;> cases h3:(ev.val.toList == [98,97,110]) <;> cases h4:(ev.sd.toList == ev.key.toList)
  all_goals
   have HR:Hid (_=_):=Hr.out _ _ _ _ _ _ h1 h2 h3 h4 rfl rfl;clear Hr
   go_enter Tryz.func102,Tryz.ntmps102
   go_wp2
   go_ret;exact ⟨ret_bool (by rw [HR.out];first|rfl|simp [h4]),hb0 _⟩
 case false =>
  cases h5:(ev.ty.toList == [112,111,119,101,114]) <;> cases h6:(ev.ty.toList == [106,111,105,110,95,114,117,108,101,115])
  all_goals
   have HR:Hid (_=_):=Hr.out _ _ _ _ _ _ h1 rfl rfl rfl h5 h6;clear Hr
   go_enter Tryz.func102,Tryz.ntmps102
   go_wp2
   go_ret;exact ⟨ret_bool (by rw [HR.out];rfl),hb0 _⟩
end Go.Proofs.YtkdalopokdhndaaGreat
