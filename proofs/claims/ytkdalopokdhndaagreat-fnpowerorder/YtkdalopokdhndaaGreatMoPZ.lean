import Derived.Test.YtkdalopokdhndaaGreatL6fZ
import Derived.Deep.RegionHeld3
set_option maxHeartbeats 16000000
set_option maxRecDepth 100000
namespace Go.Proofs.YtkdalopokdhndaaGreat
open Go.RowKit
variable {b c k n p:Nat}{E:Nat->Ev}{D:Nat->Nat}
def lnI (line:List Nat)(p:Nat):Nat:=line.findIdx (fun x=>x == p)
theorem lnI_le (line:List Nat)(p:Nat):lnI line p<=line.length:=List.findIdx_le_length
theorem lnI_hit {line:List Nat}(hk:k<line.length)(h0:∀ i,i<k->line.getD i 0≠p)(h1:line.getD k 0=p):lnI line p=k:=by
 unfold lnI;rw [List.findIdx_eq hk];refine ⟨by simpa [List.getD,List.getElem?_eq_getElem hk] using h1,fun j hj=>?_⟩
 have:=h0 j hj;have hj':j<line.length:=by omega
 simpa [List.getD,List.getElem?_eq_getElem hj'] using this
theorem lnI_miss {line:List Nat}(h0:∀ i,i<line.length->line.getD i 0≠p):lnI line p=line.length:=by
 unfold lnI;rw [List.findIdx_eq_length];intro x hx;obtain ⟨i,hi,rfl⟩:=List.mem_iff_getElem.1 hx
 have:=h0 i hi;simpa [List.getD,List.getElem?_eq_getElem hi] using this
def dpF (E:Nat->Ev)(n:Nat)(line:List Nat):Nat->Int->Nat
 | 0,_=>line.length
 | f+1,q=>if q<0 then line.length else if lnI line q.toNat<line.length then lnI line q.toNat else dpF E n line f (pwV E n q.toNat)
theorem dpF_neg (E:Nat->Ev)(n:Nat)(line:List Nat){q:Int}(hq:q<0):∀ f,dpF E n line f q=line.length
 | 0=>rfl
 | f+1=>by rw [dpF,if_pos hq]
theorem dpF_more {E:Nat->Ev}{n:Nat}(line:List Nat)(h:roomTo E n=true):∀ (f f':Nat) (q:Int),q<f->q<n->f<=f'->dpF E n line f' q=dpF E n line f q
 | 0,f',q,hq,_,_=>by rw [dpF_neg E n line (by omega),dpF_neg E n line (by omega)]
 | f+1,0,q,_,_,hf=>by omega
 | f+1,f'+1,q,hq,hn,hf=>by
  rw [dpF,dpF]
  by_cases h0:q<0
  ·rw [if_pos h0,if_pos h0]
  rw [if_neg h0,if_neg h0];split
  ·rfl
  have:=pwV_bd h (show q.toNat<n by omega);rw [dpF_more line h f f' _ (by omega) (by omega) (by omega)]
theorem dpF_le (E:Nat->Ev)(n:Nat)(line:List Nat):∀ (f:Nat) (q:Int),dpF E n line f q<=line.length
 | 0,_=>nL
 | f+1,q=>by
  rw [dpF];split
  ·exact nL
  split
  ·exact lnI_le _ _
  exact dpF_le E n line f _
def dp (E:Nat->Ev)(n:Nat)(line:List Nat)(q:Int):Nat:=dpF E n line n q
theorem dp_neg (E:Nat->Ev)(n:Nat)(line:List Nat){q:Int}(hq:q<0):dp E n line q=line.length:=dpF_neg E n line hq n
theorem dp_le (E:Nat->Ev)(n:Nat)(line:List Nat)(q:Int):dp E n line q<=line.length:=dpF_le E n line n q
theorem dp_in {line:List Nat}(hp:p<n)(h:lnI line p<line.length):dp E n line (p:Int)=lnI line p:=by
 obtain ⟨m,rfl⟩:∃ m,n=m+1:=⟨n - 1,by omega⟩;unfold dp;rw [dpF,if_neg (by omega),Int.toNat_natCast,if_pos h]
theorem dp_step {line:List Nat}(hr:roomTo E n=true)(hp:p<n)(h:lnI line p=line.length):dp E n line (p:Int)=dp E n line (pwV E n p):=by
 obtain ⟨m,rfl⟩:∃ m,n=m+1:=⟨n - 1,by omega⟩;have hb:=pwV_bd hr hp;unfold dp;rw [dpF_more line hr m (m+1) (pwV E (m+1) p) (by omega) (by omega) (by omega),dpF,if_neg (by omega),Int.toNat_natCast,if_neg (by omega)]
def Bef (E:Nat->Ev)(D:Nat->Nat)(a b:Nat):Prop:=D b<D a∨(D a=D b∧((E a).tm<(E b).tm∨((E a).tm=(E b).tm∧(E a).id.data.toList<(E b).id.data.toList)))
theorem Bef.irrefl (a:Nat):¬ Bef E D a a:=by
 rintro (h|⟨_,h|⟨_,h⟩⟩)
 ·omega
 ·omega
 exact List.lt_irrefl _ h
theorem Bef.trans {a:Nat}(h1:Bef E D a b)(h2:Bef E D b c):Bef E D a c:=by
 rcases h1 with h1|⟨e1,h1⟩
 ·rcases h2 with h2|⟨e2,h2⟩
  ·exact Or.inl (by omega)
  exact Or.inl (by omega)
 rcases h2 with h2|⟨e2,h2⟩
 ·exact Or.inl (by omega)
 refine Or.inr ⟨by omega,?_⟩;rcases h1 with h1|⟨f1,h1⟩ <;> rcases h2 with h2|⟨f2,h2⟩
 ·exact Or.inl (by omega)
 ·exact Or.inl (by omega)
 ·exact Or.inl (by omega)
 exact Or.inr ⟨by omega,List.lt_trans h1 h2⟩
theorem Bef.asymm {a:Nat}(h:Bef E D a b):¬ Bef E D b a:=fun h'=>Bef.irrefl a (h.trans h')
theorem Bef.total {a:Nat}(hr:roomTo E n=true)(ha:a<n)(hb:b<n)(hne:a≠b):Bef E D a b∨Bef E D b a:=by
 unfold Bef
 by_cases h1:D b<D a
 ·exact Or.inl (Or.inl h1)
 by_cases h2:D a<D b
 ·exact Or.inr (Or.inl h2)
 have e1:D a=D b:=by omega
 by_cases h3:(E a).tm<(E b).tm
 ·exact Or.inl (Or.inr ⟨e1,Or.inl h3⟩)
 by_cases h4:(E b).tm<(E a).tm
 ·exact Or.inr (Or.inr ⟨e1.symm,Or.inl h4⟩)
 have e2:(E a).tm=(E b).tm:=by omega
 have hid:(E a).id.data.toList≠(E b).id.data.toList:=fun e=>hne (by
  have e3:(E a).id=(E b).id:=ba_inj e;have e4:=posV_here hr ha;rw [e3,posV_here hr hb] at e4;omega)
 rcases Nat.lt_or_ge 0 1 with _|h
 ·by_cases h5:(E a).id.data.toList<(E b).id.data.toList
  ·exact Or.inl (Or.inr ⟨e1,Or.inr ⟨e2,h5⟩⟩)
  rcases List.le_iff_lt_or_eq.1 (List.not_lt.1 h5) with h6|h6
  ·exact Or.inr (Or.inr ⟨e1.symm,Or.inr ⟨e2.symm,h6⟩⟩)
  exact absurd h6.symm hid
 omega
variable {q:Nat}{out:List Nat}
def Rst (E:Nat->Ev)(n p q:Nat):Prop:=∃ k,k<(E p).na∧posV E n ((E p).Av k)=(q:Int)
def Rdy (E:Nat->Ev)(n:Nat)(T:Nat->Prop)(out:List Nat)(p:Nat):Prop:=∀ q,Rst E n p q->T q->q ∈ out
def Cand (E:Nat->Ev)(n:Nat)(T:Nat->Prop)(out:List Nat)(p:Nat):Prop:=T p∧p ∉ out∧Rdy E n T out p
def Nxt (E:Nat->Ev)(n:Nat)(T:Nat->Prop)(D:Nat->Nat)(out:List Nat)(p:Nat):Prop:=Cand E n T out p∧∀ q,Cand E n T out q->q=p∨Bef E D p q
def OrdP (E:Nat->Ev)(n:Nat)(T:Nat->Prop)(D:Nat->Nat)(l:List Nat):Prop:=∀ k p,l[k]?=some p->Nxt E n T D (l.take k) p
theorem Nxt.uniq {T:Nat->Prop}(h1:Nxt E n T D out p)(h2:Nxt E n T D out q):p=q:=by
 rcases h1.2 q h2.1 with h|h
 ·exact h.symm
 rcases h2.2 p h1.1 with h'|h'
 ·exact h'
 exact absurd h' h.asymm
theorem OrdP.nil (E:Nat->Ev)(n:Nat)(T:Nat->Prop)(D:Nat->Nat):OrdP E n T D []:=fun k p h=>by cases h
theorem OrdP.snoc {T:Nat->Prop}{l:List Nat}(h:OrdP E n T D l)(hp:Nxt E n T D l p):OrdP E n T D (l ++ [p]):=by
 intro k q hk;rcases Nat.lt_trichotomy k l.length with h1|h1|h1
 ·rw [List.getElem?_append_left h1] at hk
  rw [List.take_append_of_le_length (by omega)];exact h k q hk
 ·subst h1
  rw [List.getElem?_append_right nL,Nat.sub_self] at hk;injection hk with hk
  rw [List.take_append_of_le_length nL,List.take_length,<- hk];exact hp
 rw [List.getElem?_eq_none (by simp;omega)] at hk;cases hk
theorem OrdP.nodup {T:Nat->Prop}{l:List Nat}(h:OrdP E n T D l):l.Nodup:=by
 refine List.pairwise_iff_getElem.2 fun i j hi hj hij e=>?_
 have h1:=(h j l[j] (List.getElem?_eq_getElem hj)).1.2.1;refine h1 ?_;rw [<- e];exact List.mem_iff_getElem.2 ⟨i,by simp;omega,by simp⟩
theorem OrdP.sub {T:Nat->Prop}{l:List Nat}(h:OrdP E n T D l):∀ p ∈ l,T p:=fun p hp=>by
 obtain ⟨i,hi,rfl⟩:=List.mem_iff_getElem.1 hp;exact (h i _ (List.getElem?_eq_getElem hi)).1.1
theorem OrdP.uniq {T:Nat->Prop}{l1 l2:List Nat}(h1:OrdP E n T D l1)(h2:OrdP E n T D l2)(c1:∀ p,T p->p ∈ l1)(c2:∀ p,T p->p ∈ l2):l1=l2:=by
 have hl:l1.length=l2.length:=((List.perm_ext_iff_of_nodup h1.nodup h2.nodup).2 fun p=>⟨fun hp=>c2 p (h1.sub p hp),fun hp=>c1 p (h2.sub p hp)⟩).length_eq
 have ht:∀ k,l1.take k=l2.take k:=by
  intro k
  induction k with
  | zero=>rfl
  | succ k ih =>
   rcases Nat.lt_or_ge k l1.length with hk|hk
   ·have e:l1[k]=l2[k]:=by
     have q1:=h1 k _ (List.getElem?_eq_getElem hk);have q2:=h2 k _ (List.getElem?_eq_getElem (by omega:k<l2.length));rw [ih] at q1;exact q1.uniq q2
    rw [List.take_add_one,List.take_add_one,ih,List.getElem?_eq_getElem hk,List.getElem?_eq_getElem (by omega:k<l2.length),e]
   rw [List.take_of_length_le hk,List.take_of_length_le (by omega)] at ih;rw [List.take_of_length_le (by omega),List.take_of_length_le (by omega),ih]
 have:=ht l1.length;rw [List.take_length,hl,List.take_length] at this;exact this
theorem rst_lt (hr:roomTo E n=true)(hp:p<n)(h:Rst E n p q):q<p:=by
 obtain ⟨k,hk,e⟩:=h;exact (auth_at hr hp hk e).1
theorem cand_ex {T:Nat->Prop}(hr:roomTo E n=true)(hT:∀ p,T p->p<n):∀ p,T p->p ∉ out->∃ q,Cand E n T out q:=by
 intro p
 induction p using Nat.strongRecOn with
 | ind p ih =>
  intro h1 h2
  by_cases hc:Rdy E n T out p
  ·exact ⟨p,h1,h2,hc⟩
  unfold Rdy at hc;obtain ⟨q,hq⟩:=Classical.not_forall.1 hc;obtain ⟨hr',hq⟩:=Classical.not_imp.1 hq;obtain ⟨ht,hq⟩:=Classical.not_imp.1 hq;exact ih q (rst_lt hr (hT p h1) hr') ht hq
theorem Bef.cotrans {a:Nat}(b:Nat)(h:Bef E D a c):Bef E D a b∨Bef E D b c:=by
 unfold Bef at *
 by_cases h1:D b<D a
 ·exact Or.inl (Or.inl h1)
 by_cases h2:D c<D b
 ·exact Or.inr (Or.inl h2)
 rcases h with h|⟨e,h⟩
 ·omega
 by_cases h3:(E a).tm<(E b).tm
 ·exact Or.inl (Or.inr ⟨by omega,Or.inl h3⟩)
 by_cases h4:(E b).tm<(E c).tm
 ·exact Or.inr (Or.inr ⟨by omega,Or.inl h4⟩)
 rcases h with h|⟨e2,h⟩
 ·omega
 by_cases h5:(E a).id.data.toList<(E b).id.data.toList
 ·exact Or.inl (Or.inr ⟨by omega,Or.inr ⟨by omega,h5⟩⟩)
 refine Or.inr (Or.inr ⟨by omega,Or.inr ⟨by omega,?_⟩⟩);rcases List.le_iff_lt_or_eq.1 (List.not_lt.1 h5) with h6|h6
 ·exact List.lt_trans h6 h
 rw [h6];exact h
theorem nb_trans {a:Nat}(h1:¬ Bef E D b a)(h2:¬ Bef E D c b):¬ Bef E D c a:=fun h=>(h.cotrans b).elim h2 h1
variable {e:Ev}{ca cg cp cap:Nat}{a aa ga pa:Option Addr}
def auV (E:Nat->Ev)(n p:Nat):Int :=
 if 0<=pwV E n p then byG (E (pwV E n p).toNat) (E p).sd else if (E p).sd.toList == (E 0).sd.toList then 100 else 0
theorem gr_lv (h:e.code=0)(ht:isPow e=true):∀ i,i<e.ng->-1000000<=e.L i:=by
 unfold isPow at ht;unfold Ev.code evCode at h;split at h
 ·cases h
 split at h
 ·cases h
 split at h
 ·cases h
 split at h
 ·cases h
 split at h
 ·cases h
 rename_i h5
 have hc:ctB e.ty e.key e.val e.st e.np e.na e.ng e.M e.L=true:=by
  cases hq:ctB e.ty e.key e.val e.st e.np e.na e.ng e.M e.L
  ·exact absurd hq h5
  rfl
 have ht':e.ty.toList=[112,111,119,101,114]:=by simpa using ht
 unfold ctB at hc;rw [ht'] at hc;have e1:(([112,111,119,101,114]:List UInt8) == [99,114,101,97,116,101])=false:=by decide
 have e2:(([112,111,119,101,114]:List UInt8) == [109,101,109,98,101,114])=false:=by decide
 have e3:(([112,111,119,101,114]:List UInt8) == [106,111,105,110,95,114,117,108,101,115])=false:=by decide
 rw [e1,e2,e3] at hc;simp at hc;have hg:grB e.M e.L e.ng=true:=by first|exact hc.2|exact hc.1.2|exact hc.2.2|exact hc.2.1
 unfold grB at hg;rw [Bool.and_eq_true,decide_eq_true_eq] at hg
 have step:∀ m,grTo e.M e.L m=true->∀ i,i<m->-1000000<=e.L i:=fun m=>by
  induction m with
  | zero=>intro _ i hi;omega
  | succ m ih =>
   intro hm i hi;rw [grTo,Bool.and_eq_true] at hm
   by_cases e:i=m
   ·have hx:=hm.2
    simp only [Bool.and_eq_true,Bool.or_eq_true,Bool.not_eq_true',decide_eq_false_iff_not] at hx;rw [e];omega
   exact ih hm.1 i (by omega)
 exact step _ hg.1
theorem gV_some {M:Nat->ByteArray}{L:Nat->Int}{name:ByteArray}{v:Int}:∀ {k},gV M L name k=some v->∃ i,i<k∧L i=v
 | k+1,h=>by
  rw [gV] at h
  cases hq:gV M L name k with
  | some u =>
   rw [hq] at h;obtain ⟨i,hi,e⟩:=gV_some (k:=k) (hq.trans h)
   exact ⟨i,by omega,e⟩
  | none =>
   rw [hq] at h;simp only at h;split at h
   ·injection h with h;exact ⟨k,by omega,h⟩
   cases h
theorem byG_lo (h:e.code=0)(ht:isPow e=true)(u:ByteArray):-1000000<=byG e u:=by
 unfold byG
 cases hq:gV e.M e.L u e.ng with
 | some v =>
  obtain ⟨i,hi,rfl⟩:=gV_some hq
  exact gr_lv h ht i hi
 | none =>
  show -1000000<=(gV e.M e.L ⟨#[42,100,101,102,97,117,108,116]⟩ e.ng).getD 0
  cases hq2:gV e.M e.L ⟨#[42,100,101,102,97,117,108,116]⟩ e.ng with
  | some v =>
   obtain ⟨i,hi,rfl⟩:=gV_some hq2
   exact gr_lv h ht i hi
  | none=>decide
theorem pw_at (h:roomTo E n=true)(hp:p<n)(h0:0<=pwV E n p):∃ y,y<p∧pwV E n p=(y:Int)∧isPow (E y)=true:=by
 rcases scTo_bd (P:=isPow) h hp with h1|⟨q,hq,e,hP⟩
 ·unfold pwV at h0;omega
 exact ⟨q,hq,e,hP⟩
theorem auV_lo (h:roomTo E n=true)(hp:p<n):-1000000<=auV E n p:=by
 unfold auV;split
 ·rename_i h0
  obtain ⟨y,hy,e,hP⟩:=pw_at h hp h0;rw [e,Int.toNat_natCast];exact byG_lo (room_code h (by omega)) hP _
 split <;> decide
def auN (E:Nat->Ev)(n p:Nat):Nat:=(auV E n p+1000000).toNat
def sooB (E:Nat->Ev)(n p q:Nat):Bool :=
 if auV E n p=auV E n q then (if (E p).tm=(E q).tm then Op.bytesLess (E p).id.toList (E q).id.toList else decide ((E p).tm<(E q).tm)) else decide (auV E n q<auV E n p)
theorem sooB_iff (h:roomTo E n=true)(hp:p<n)(hq:q<n):sooB E n p q=true↔Bef E (auN E n) p q:=by
 have b1:=auV_lo h hp;have b2:=auV_lo h hq;unfold sooB Bef auN
 by_cases h1:auV E n p=auV E n q
 ·rw [if_pos h1]
  by_cases h2:(E p).tm=(E q).tm
  ·rw [if_pos h2,ByteArray.toList_eq,ByteArray.toList_eq,bytesLess_eq,decide_eq_true_eq]
   constructor
   ·exact fun h=>Or.inr ⟨by rw [h1],Or.inr ⟨h2,h⟩⟩
   rintro (h|⟨_,h|⟨_,h⟩⟩)
   ·omega
   ·omega
   exact h
  rw [if_neg h2,decide_eq_true_eq];constructor
  ·exact fun h=>Or.inr ⟨by rw [h1],Or.inl h⟩
  rintro (h|⟨_,h|⟨h,_⟩⟩)
  ·omega
  ·exact h
  exact absurd h h2
 rw [if_neg h1,decide_eq_true_eq];constructor
 ·exact fun h=>Or.inl (by omega)
 rintro (h|⟨h,_⟩)
 ·omega
 omega
theorem l6Au_sl (w:World)(hroom:roomTo E n=true)(hq:q<n)(h:SlV w a n cap E)(he:EvOk w (E q) pa cp aa ca ga cg) :
  Calls Tryz.prog 214 #[.agg #[.slice a n cap],(E q).val' pa cp aa ca ga cg] w fun x w'=>x=.returned (.int .i64 (auV E n q))∧Below w.heap.size w w':=by
 obtain ⟨wb,hwb⟩:∃ wb,wb=boxes w a n cap (E q) pa cp aa ca ga cg:=⟨_,rfl⟩;have hb0:Below w.heap.size w wb:=by rw [hwb];exact bA.alloc (by simp) _
 have hs0:wb.heap.size=w.heap.size+2:=by rw [hwb];simp
 have hbx:Hid (∀ wx,Below (w.heap.size+2) wb wx->wx.cell? ⟨w.heap.size,0,none⟩=some (.slice a n cap)∧wx.cell? ⟨w.heap.size+1,1,none⟩=some (.string (E q).sd)):=fun wx hx=>by
  subst hwb
  have:=boxes_cells (E q) w hx;exact ⟨this.1,this.2 1⟩
 have HP:Hid (Calls Tryz.prog 182 #[.agg #[.slice a n cap],(E q).val' pa cp aa ca ga cg] wb fun x w'=>x=.returned (.string (pwS E n q))∧Below wb.heap.size wb w'):=l6Pow_sl wb hroom hq (h.below hb0) (he.below hb0);have Hv:Hid (∀ z,z=pwV E n q->auV E n q=if 0<=z then byG (E z.toNat) (E q).sd else if (E q).sd.toList == (E 0).sd.toList then 100 else 0):=fun z hz=>by rw [hz];rfl
 have HE:Hid (SlV w a n cap E):=h;have Hroom:Hid (_):=hroom
 go_enter Tryz.func214,Tryz.ntmps214
 go_wp2_with fail
 have hwb':(w.alloc (.cells #[.slice a n cap] 25)).alloc (.cells (ec (E q) pa cp aa ca ga cg) 30)=wb:=hwb.symm;rw [hwb'];clear hwb' hwb he hroom;refine (HP.out).mono ?_;rintro e w1 ⟨rfl,hb1⟩;have hB1:=hb1.mono (B':=w.heap.size+2) (by omega);have hw1:=hb0.trans (hB1.mono (by omega));have hs1:w.heap.size+2<=w1.heap.size:=by have:=hB1.size;omega
 obtain ⟨x0,x1⟩:=hbx.out _ hB1;clear HP hb1
 by_cases h0:0<=pwV E n q
 ·obtain ⟨y,hy,ey,hpy⟩:=pw_at Hroom.out hq h0
  have hps:pwS E n q=(E y).id:=by unfold pwS;rw [if_pos h0,ey,Int.toNat_natCast]
  have Hr:Hid (auV E n q=byG (E y) (E q).sd):=by
   have:=Hv.out _ rfl;rw [if_pos h0,ey,Int.toNat_natCast] at this;exact this
  have hne:(E y).id.toList.isEmpty=false:=ev_id (room_code Hroom.out (by omega));have hev:Hid (∀ W,Below w1.heap.size w1 W->Calls Tryz.prog 103 #[.agg #[.slice a n cap],.string (E y).id] W (EePost W (E y))):=fun W hW=>l6Event_sl _ W (HE.out.below (hw1.trans (hW.mono hw1.size))) (by omega) (posV_here Hroom.out (by omega))
  have hrf:Below w1.heap.size w1 w1:=kB;rw [hps];clear Hv h0 ey hpy hps;generalize (E q).sd=us at *;generalize E y=ev at *;have hfd:∀ (pa:Option Addr) (cp:Nat) (aa:Option Addr) (ca:Nat) (ga:Option Addr) (cg:Nat) (W:World),(Instr.field 30 (.agg (ec ev pa cp aa ca ga cg)) 9).run Tryz.prog W=.ok (.slice ga ev.ng cg) W:=fun _ _ _ _ _ _ _=>by kernel_rfl
  have hz0:w.heap.size<w1.heap.size:=by omega
  have hz1:w.heap.size+1<w1.heap.size:=by omega
  go_wp2_with fail
  go_region_held3 (fun W=>W.cell? ⟨w.heap.size,0,none⟩=some (.slice a n cap)∧W.cell? ⟨w.heap.size+1,1,none⟩=some (.string us))
   (first|(with_reducible exact ⟨x0,x1⟩)|go_keep)
   (first
    | (go_at_call 103;refine (hev.out _ (by with_reducible (repeat refine .drew ?_);exact hrf)).mono ?_;rintro e w2 ⟨hb2',pa2,cp2,aa2,ca2,ga2,cg2,hee,hok2⟩;have hef:e=.returned (.agg (ec ev pa2 cp2 aa2 ca2 ga2 cg2)):=hee;clear hee;subst hef;have hg2:Hid (SlG w2 ga2 ev.ng cg2 ev.M ev.L):=hok2.hg;clear hok2;have hb2:Below w1.heap.size w1 w2:=Below.trans (by with_reducible (repeat refine .drew ?_);exact hrf) hb2';clear hb2';have k0:=(hb2.cell (p:=⟨w.heap.size,0,none⟩) hz0).trans x0;have k1:=(hb2.cell (p:=⟨w.heap.size+1,1,none⟩) hz1).trans x1)
    | (go_at_call 100;refine (l5By_sl (e0:=ev) us _ (hg2.out.below (by first|exact kB|exact kB.drew|exact kB.drew.drew))).mono ?_;rintro e w3 ⟨rfl,rfl⟩))
  all_goals
   go_wp2
   go_ret;exact ⟨ret_int Hr.out.symm,by first|exact hw1.trans (hb2.mono hw1.size)|exact (hw1.trans (hb2.mono hw1.size)).drew|exact (hw1.trans (hb2.mono hw1.size)).drew.drew⟩
 have hps:pwS E n q=⟨#[]⟩:=by unfold pwS;rw [if_neg h0]
 rcases h.cells with hz|⟨b,off,rfl,hb,hc⟩
 ·omega
 obtain ⟨_,_,_,_,_,_,hec,_⟩:=hc 0 (by omega)
 have c1:w1.cell? ⟨b,off+1,none⟩=some (.string (E 0).sd):=by
  have:=(hw1.cell (p:=⟨b,off+0 * 10+1,none⟩) hb).trans hec.c1;simpa using this
 have Hr:Hid (∀ bq:Bool,((E q).sd.toList == (E 0).sd.toList)=bq->auV E n q=if bq then 100 else 0):=fun bq hbq=>by
  have:=Hv.out _ rfl;rw [if_neg h0,hbq] at this;exact this
 have hn0:(0:Int)<(n:Int):=by omega
 have hn1:0<n:=by omega
 rw [hps];clear Hv h0 hps hc hec h;generalize (E q).sd=us at *;generalize (E 0).sd=u0 at *;cases hq2:(us.toList == u0.toList)
 all_goals
  have HR:Hid (_=_):=Hr.out _ hq2;clear Hr
  go_wp2_with fail
  go_region_held3 (fun W=>W.cell? ⟨w.heap.size,0,none⟩=some (.slice (some ⟨b,off,none⟩) n cap)∧W.cell? ⟨w.heap.size+1,1,none⟩=some (.string us)∧W.cell? ⟨b,off+1,none⟩=some (.string u0))
   (first|(with_reducible exact ⟨x0,x1,c1⟩)|go_keep) (fail)
  all_goals
   go_wp2
   go_ret;exact ⟨ret_int (by rw [HR.out];rfl),by first|exact hw1|exact hw1.drew|exact hw1.drew.drew⟩
def wtyB (e:Ev):Bool :=
 if e.ty.toList == [109,101,109,98,101,114] then (e.val.toList == [108,101,97,118,101] || e.val.toList == [98,97,110]) && !(e.sd.toList == e.key.toList)
 else e.ty.toList == [112,111,119,101,114] || e.ty.toList == [106,111,105,110,95,114,117,108,101,115]
theorem l6Wt_any (ev:Ev)(pa:Option Addr)(cp:Nat)(aa:Option Addr)(ca:Nat)(ga:Option Addr)(cg:Nat)(w:World) :
  Calls Tryz.prog 102 #[ev.val' pa cp aa ca ga cg] w fun x w'=>x=.returned (.bool (wtyB ev))∧Below w.heap.size w w':=by
 have hb0:∀ o,Below w.heap.size w (w.alloc o):=fun o=>bA
 have Hr:Hid (∀ b1 b2 b3 b4 b5 b6,(ev.ty.toList == [109,101,109,98,101,114])=b1->(ev.val.toList == [108,101,97,118,101])=b2->(ev.val.toList == [98,97,110])=b3->(ev.sd.toList == ev.key.toList)=b4->(ev.ty.toList == [112,111,119,101,114])=b5->(ev.ty.toList == [106,111,105,110,95,114,117,108,101,115])=b6->wtyB ev=if b1 then (b2 || b3) && !b4 else b5 || b6):=fun b1 b2 b3 b4 b5 b6 e1 e2 e3 e4 e5 e6=>by
  unfold wtyB;rw [e1,e2,e3,e4,e5,e6]
 generalize wtyB ev=vv at *;cases h1:(ev.ty.toList == [109,101,109,98,101,114])
 case true =>
  cases h2:(ev.val.toList == [108,101,97,118,101]) <;> cases h3:(ev.val.toList == [98,97,110]) <;> cases h4:(ev.sd.toList == ev.key.toList)
  all_goals
   have HR:Hid (_=_):=Hr.out _ _ _ _ _ _ h1 h2 h3 h4 rfl rfl;clear Hr
   go_enter Tryz.func102,Tryz.ntmps102
   go_wp2
   go_ret;exact ⟨ret_bool (by rw [HR.out];first|rfl|simp [h4]),hb0 _⟩
 case false =>
  cases h5:(ev.ty.toList == [112,111,119,101,114]) <;> cases h6:(ev.ty.toList == [106,111,105,110,95,114,117,108,101,115])
  all_goals
   have HR:Hid (_=_):=Hr.out _ _ _ _ _ _ h1 rfl rfl rfl h5 h6;clear Hr
   go_enter Tryz.func102,Tryz.ntmps102
   go_wp2
   go_ret;exact ⟨ret_bool (by rw [HR.out];rfl),hb0 _⟩
variable {i j:Nat}{x:ByteArray}{S:Nat->ByteArray}
def plc (E:Nat->Ev)(n:Nat)(s:ByteArray):Nat:=(posV E n s).toNat
def OrdL (E:Nat->Ev)(n:Nat)(D:Nat->Nat)(l:List ByteArray):Prop:=l.Pairwise fun a b=>Bef E D (plc E n a) (plc E n b)
theorem ord_get {l:List ByteArray}(h:OrdL E n D l)(hij:i<j)(hj:j<l.length):Bef E D (plc E n (getL l i)) (plc E n (getL l j)):=by
 have:=List.pairwise_iff_getElem.1 h i j (by omega) hj hij;simpa [getL,List.getD,List.getElem?_eq_getElem hj,List.getElem?_eq_getElem (show i<l.length by omega)] using this
theorem ins_ord {l:List ByteArray}(h:OrdL E n D l)(hlo:∀ i,i<k->i<l.length->Bef E D (plc E n (getL l i)) (plc E n x))(hhi:∀ i,k<=i->i<l.length->Bef E D (plc E n x) (plc E n (getL l i))):OrdL E n D (insAt l k x):=by
 have h':(l.take k ++ l.drop k).Pairwise fun a b=>Bef E D (plc E n a) (plc E n b):=by rw [List.take_append_drop];exact h
 obtain ⟨p1,p2,p3⟩:=List.pairwise_append.1 h';unfold OrdL insAt;refine List.pairwise_append.2 ⟨p1,List.pairwise_cons.2 ⟨fun b hb=>?_,p2⟩,fun a ha b hb=>?_⟩
 ·obtain ⟨i,hi,rfl⟩:=mem_getL hb
  rw [List.length_drop] at hi
  have:getL (l.drop k) i=getL l (k+i):=by simp [getL,List.getD]
  rw [this];exact hhi _ (by omega) (by omega)
 rcases List.mem_cons.1 hb with rfl|hb
 ·obtain ⟨i,hi,rfl⟩:=mem_getL ha
  rw [List.length_take] at hi
  have:getL (l.take k) i=getL l i:=by simp [getL,List.getD,show i<k by omega]
  rw [this];exact hlo _ (by omega) (by omega)
 exact p3 a ha b hb
theorem ord_done {l:List ByteArray}(hr:roomTo E n=true)(hin:∀ s ∈ l,0<=posV E n s)(hx0:0<=posV E n x)(h:OrdL E n D l)(hx:x ∉ l)(hj:j<=l.length)(hhi:∀ i,j<=i->i<l.length->Bef E D (plc E n x) (plc E n (getL l i)))
  (hstop:j=0∨∃ q,j=q+1∧¬ Bef E D (plc E n x) (plc E n (getL l q))):OrdL E n D (insAt l j x):=by
 refine ins_ord h (fun i hi hl=>?_) hhi;rcases hstop with h0|⟨q,rfl,hq⟩
 ·omega
 have hql:q<l.length:=by omega
 have h1:Bef E D (plc E n (getL l q)) (plc E n x):=by
  have hq0:=hin _ (getL_mem hql);have b1:=posV_bd E x n;have b2:=posV_bd E (getL l q) n
  have hne:plc E n x≠plc E n (getL l q):=fun e=>by
   obtain ⟨i1,_,e1,hb1⟩:=posV_found E x n hx0;obtain ⟨i2,_,e2,hb2⟩:=posV_found E (getL l q) n hq0;unfold plc at e
   have:i1=i2:=by omega
   subst this
   have:x=getL l q:=(ba_of_toList hb1).symm.trans (ba_of_toList hb2);exact hx (this ▸ getL_mem hql)
  rcases Bef.total hr (show plc E n x<n by unfold plc;omega) (show plc E n (getL l q)<n by unfold plc;omega) hne with h'|h'
  ·exact absurd h' hq
  exact h'
 by_cases e:i=q
 ·subst e;exact h1
 exact (ord_get h (show i<q by omega) hql).trans h1
def MrPost (w:World)(E:Nat->Ev)(n:Nat)(D:Nat->Nat)(S:Nat->ByteArray)(m:Nat)(e:Ending)(w':World):Prop :=
 ∃ v l,e=.returned v∧OwnL w' w.heap.size v l∧OrdL E n D l∧(∀ s,s ∈ l↔∃ i,i<m∧S i=s)∧Below w.heap.size w w'
theorem mem_moreM {l l':List ByteArray}(h:∀ s,s ∈ l↔∃ i,i<k∧S i=s)(h':∀ s,s ∈ l'↔s=S k∨s ∈ l)(s:ByteArray):s ∈ l'↔∃ i,i<k+1∧S i=s:=by
 rw [h',h];constructor
 ·rintro (rfl|⟨i,hi,e⟩)
  ·exact ⟨k,by omega,rfl⟩
  exact ⟨i,by omega,e⟩
 rintro ⟨i,hi,e⟩
 by_cases ek:i=k
 ·subst ek;exact Or.inl e.symm
 exact Or.inr ⟨i,by omega,e⟩
end Go.Proofs.YtkdalopokdhndaaGreat
