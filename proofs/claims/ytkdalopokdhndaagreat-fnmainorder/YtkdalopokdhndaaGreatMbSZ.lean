import Derived.Test.YtkdalopokdhndaaGreatMlSZ
import Derived.Sort.Walk0
import Derived.Deep.RegionHeld3
set_option maxHeartbeats 16000000
set_option maxRecDepth 100000
namespace Go.Proofs.YtkdalopokdhndaaGreat
open Go.RowKit
variable {a la:Option Addr}{n p q lc cap:Nat}{E:Nat->Ev}
def befQ (dx dy:Nat)(x y:Ev):Bool:=if dx=dy then (if x.tm=y.tm then Op.bytesLess x.id.toList y.id.toList else decide (x.tm<y.tm)) else decide (dy<dx)
theorem befQ_iff (E:Nat->Ev)(D:Nat->Nat)(a b:Nat):befQ (D a) (D b) (E a) (E b)=true↔Bef E D a b:=by
 unfold befQ Bef
 by_cases h1:D a=D b
 ·rw [if_pos h1]
  by_cases h2:(E a).tm=(E b).tm
  ·rw [if_pos h2,ByteArray.toList_eq,ByteArray.toList_eq,bytesLess_eq,decide_eq_true_eq]
   constructor
   ·exact fun h=>Or.inr ⟨h1,Or.inr ⟨h2,h⟩⟩
   rintro (h|⟨_,h|⟨_,h⟩⟩)
   ·omega
   ·omega
   exact h
  rw [if_neg h2,decide_eq_true_eq];constructor
  ·exact fun h=>Or.inr ⟨h1,Or.inl h⟩
  rintro (h|⟨_,h|⟨h,_⟩⟩)
  ·omega
  ·exact h
  exact absurd h h2
 rw [if_neg h1,decide_eq_true_eq];constructor
 ·exact Or.inl
 rintro (h|⟨h,_⟩)
 ·exact h
 exact absurd h h1
theorem l6Bef_sl {l:List Nat}(w:World)(hroom:roomTo E n=true)(hp:p<n)(hq:q<n)(hl:∀ i ∈ l,i<n)(hll:l.length<=300)(h:SlV w a n cap E)(hL:SlS w la l.length lc (lnS E l)) :
  Calls Tryz.prog 116 #[.agg #[.slice a n cap],.slice la l.length lc,.string (E p).id,.string (E q).id] w fun x w'=>x=.returned (.bool (befQ (dp E n l (p:Int)) (dp E n l (q:Int)) (E p) (E q)))∧Below w.heap.size w w':=by
 obtain ⟨wb,hwb⟩:∃ wb,wb=w.alloc (.cells #[.slice a n cap] 25):=⟨_,rfl⟩;have hb0:Below w.heap.size w wb:=by rw [hwb];exact bA
 have hs0:wb.heap.size=w.heap.size+1:=by rw [hwb];simp
 have hbx:Hid (∀ wx,Below (w.heap.size+1) wb wx->wx.cell? ⟨w.heap.size,0,none⟩=some (.slice a n cap)):=fun wx hx=>by subst hwb;exact box_cells hx 0
 have hid:∀ i:Nat,i<n->idQ E (i:Int)=(E i).id:=fun i hi=>by unfold idQ;rw [if_pos (by omega),Int.toNat_natCast]
 have hdx:Hid (∀ W,Below w.heap.size w W->Calls Tryz.prog 183 #[.agg #[.slice a n cap],.slice la l.length lc,.string (E p).id] W fun x w'=>x=.returned (.int .i64 (dp E n l (p:Int):Int))∧Below W.heap.size W w'):=fun W hW=>by
  have:=l6Depth_sl (p:Int) W hroom (by omega) (by omega) hl hll (h.below hW) (hL.below hW);rw [hid p hp] at this;exact this
 have hdy:Hid (∀ W,Below w.heap.size w W->Calls Tryz.prog 183 #[.agg #[.slice a n cap],.slice la l.length lc,.string (E q).id] W fun x w'=>x=.returned (.int .i64 (dp E n l (q:Int):Int))∧Below W.heap.size W w'):=fun W hW=>by
  have:=l6Depth_sl (q:Int) W hroom (by omega) (by omega) hl hll (h.below hW) (hL.below hW);rw [hid q hq] at this;exact this
 have hex:Hid (∀ W,Below w.heap.size w W->Calls Tryz.prog 103 #[.agg #[.slice a n cap],.string (E p).id] W (EePost W (E p))):=fun W hW=>l6Event_sl _ W (h.below hW) hp (posV_here hroom hp)
 have hey:Hid (∀ W,Below w.heap.size w W->Calls Tryz.prog 103 #[.agg #[.slice a n cap],.string (E q).id] W (EePost W (E q))):=fun W hW=>l6Event_sl _ W (h.below hW) hq (posV_here hroom hq)
 have hbx2:=dp_le E n l (p:Int);have hby2:=dp_le E n l (q:Int);clear hid hroom hl h hL;generalize dp E n l (p:Int)=dx at *;generalize dp E n l (q:Int)=dy at *;generalize E p=x at *;generalize E q=y at *;have hfx:∀ (pa:Option Addr) (cp:Nat) (aa:Option Addr) (ca:Nat) (ga:Option Addr) (cg:Nat) (W:World),(Instr.field 30 (.agg (ec x pa cp aa ca ga cg)) 5).run Tryz.prog W=.ok (.int .i64 x.tm) W:=fun _ _ _ _ _ _ _=>by kernel_rfl
 have hfy:∀ (pa:Option Addr) (cp:Nat) (aa:Option Addr) (ca:Nat) (ga:Option Addr) (cg:Nat) (W:World),(Instr.field 30 (.agg (ec y pa cp aa ca ga cg)) 5).run Tryz.prog W=.ok (.int .i64 y.tm) W:=fun _ _ _ _ _ _ _=>by kernel_rfl
 go_enter Tryz.func116,Tryz.ntmps116
 go_wp2_with fail
 rw [<- hwb];clear hwb;refine (hdx.out _ hb0).mono ?_;rintro e w1 ⟨rfl,hb1⟩;have hB1:=hb1.mono (B':=w.heap.size+1) (by omega);have hw1:=hb0.trans (hB1.mono (by omega));have hs1:w.heap.size+1<=w1.heap.size:=by have:=hB1.size;omega
 have hc1:=hbx.out _ hB1
 go_wp2_with fail
 refine (hdy.out _ hw1).mono ?_;rintro e wq ⟨rfl,hb2⟩;have hBq:=hB1.trans (hb2.mono hs1);have hwq:=hb0.trans (hBq.mono (by omega));have hsq:w.heap.size+1<=wq.heap.size:=by have:=hBq.size;omega
 have hcq:=hbx.out _ hBq;clear hdx hdy hb1 hb2 hB1 hw1 hs1 hc1
 by_cases hd:dx=dy
 case neg =>
  have Hr:Hid (decide (dy<dx)=befQ dx dy x y):=by unfold Hid befQ;rw [if_neg hd]
  have hd1:((dx:Int) == (dy:Int))=false:=by simp;omega
  have hd2:((dx:Int) != (dy:Int))=true:=by simp;omega
  have hd3:decide ((dy:Int)<(dx:Int))=decide (dy<dx):=by simp
  clear hd;go_wp2
  go_ret;exact ⟨by first|(rw [<- Hr.out,<- hd3];done)|(rw [<- Hr.out];simp),hwq⟩
 case pos =>
  subst hd;have hevx:Hid (∀ W,Below wq.heap.size wq W->Calls Tryz.prog 103 #[.agg #[.slice a n cap],.string x.id] W (EePost W x)):=fun W hW=>hex.out W (hwq.trans (hW.mono hwq.size))
  have hevy:Hid (∀ W,Below wq.heap.size wq W->Calls Tryz.prog 103 #[.agg #[.slice a n cap],.string y.id] W (EePost W y)):=fun W hW=>hey.out W (hwq.trans (hW.mono hwq.size))
  have hrf:Below wq.heap.size wq wq:=kB
  by_cases ht:x.tm=y.tm
  case pos =>
   have Hr:Hid (Op.bytesLess x.id.toList y.id.toList=befQ dx dx x y):=by unfold Hid befQ;rw [if_pos rfl,if_pos ht]
   have ht1:(x.tm != y.tm)=false:=by simp [ht]
   clear ht hex hey
   go_wp2_with fail
   go_region_with (first
    | (go_at_call_of 103 x.id;refine (hevx.out _ (by with_reducible (repeat refine .drew ?_);exact hrf)).mono ?_;rintro e wA ⟨hbA',paA,cpA,aaA,caA,gaA,cgA,hee,-⟩;have hef:e=.returned (.agg (ec x paA cpA aaA caA gaA cgA)):=hee;clear hee;subst hef;have hA:Below wq.heap.size wq wA:=Below.trans (by with_reducible (repeat refine .drew ?_);exact hrf) hbA';have hcA:=hbx.out _ (hBq.trans (hA.mono hsq)))
    | (go_at_call_of 103 y.id;refine (hevy.out _ (by with_reducible (repeat refine .drew ?_);exact hrf)).mono ?_;rintro e wB ⟨hbB',paB,cpB,aaB,caB,gaB,cgB,hee,-⟩;have hef:e=.returned (.agg (ec y paB cpB aaB caB gaB cgB)):=hee;clear hee;subst hef;have hB:Below wq.heap.size wq wB:=Below.trans (by with_reducible (repeat refine .drew ?_);exact hrf) hbB';have hcB:=hbx.out _ (hBq.trans (hB.mono hsq)))
    | (go_at_call_of 103 x.id;refine (hevx.out _ (by with_reducible (repeat refine .drew ?_);exact hB)).mono ?_;rintro e wA ⟨hbA',paA,cpA,aaA,caA,gaA,cgA,hee,-⟩;have hef:e=.returned (.agg (ec x paA cpA aaA caA gaA cgA)):=hee;clear hee;subst hef;have hA:Below wq.heap.size wq wA:=Below.trans (by with_reducible (repeat refine .drew ?_);exact hB) (hbA'.mono hB.size);have hcA:=hbx.out _ (hBq.trans (hA.mono hsq)))
    | (go_at_call_of 103 y.id;refine (hevy.out _ (by with_reducible (repeat refine .drew ?_);exact hA)).mono ?_;rintro e wB ⟨hbB',paB,cpB,aaB,caB,gaB,cgB,hee,-⟩;have hef:e=.returned (.agg (ec y paB cpB aaB caB gaB cgB)):=hee;clear hee;subst hef;have hB:Below wq.heap.size wq wB:=Below.trans (by with_reducible (repeat refine .drew ?_);exact hA) (hbB'.mono hA.size);have hcB:=hbx.out _ (hBq.trans (hB.mono hsq))))
   all_goals
    go_wp2
    go_ret;exact ⟨ret_bool Hr.out,by first|exact hwq.trans (hA.mono hwq.size)|exact hwq.trans (hB.mono hwq.size)|exact (hwq.trans (hA.mono hwq.size)).drew|exact (hwq.trans (hB.mono hwq.size)).drew⟩
  case neg =>
   have Hr:Hid (decide (x.tm<y.tm)=befQ dx dx x y):=by unfold Hid befQ;rw [if_pos rfl,if_neg ht]
   have ht1:(x.tm != y.tm)=true:=by simpa using ht
   have hevx0:Hid (∀ W,Below w.heap.size w W->Calls Tryz.prog 103 #[.agg #[.slice a n cap],.string x.id] W (EePost W x)):=hex;have hevy0:Hid (∀ W,Below w.heap.size w W->Calls Tryz.prog 103 #[.agg #[.slice a n cap],.string y.id] W (EePost W y)):=hey;clear ht hex hey
   go_wp2_with fail
   go_cut [33] from 11 to 45 (fun v wx=>v=.bool true∧Below wq.heap.size wq wx)
   case first =>
    go_region_with (first
     | (go_at_call_of 103 x.id;refine (hevx.out _ (by with_reducible (repeat refine .drew ?_);exact hrf)).mono ?_;rintro e wA ⟨hbA',paA,cpA,aaA,caA,gaA,cgA,hee,-⟩;have hef:e=.returned (.agg (ec x paA cpA aaA caA gaA cgA)):=hee;clear hee;subst hef;have hA:Below wq.heap.size wq wA:=Below.trans (by with_reducible (repeat refine .drew ?_);exact hrf) hbA';have hcA:=hbx.out _ (hBq.trans (hA.mono hsq)))
     | (go_at_call_of 103 y.id;refine (hevy.out _ (by with_reducible (repeat refine .drew ?_);exact hrf)).mono ?_;rintro e wB ⟨hbB',paB,cpB,aaB,caB,gaB,cgB,hee,-⟩;have hef:e=.returned (.agg (ec y paB cpB aaB caB gaB cgB)):=hee;clear hee;subst hef;have hB:Below wq.heap.size wq wB:=Below.trans (by with_reducible (repeat refine .drew ?_);exact hrf) hbB';have hcB:=hbx.out _ (hBq.trans (hB.mono hsq)))
     | (go_at_call_of 103 x.id;refine (hevx.out _ (by with_reducible (repeat refine .drew ?_);exact hB)).mono ?_;rintro e wA ⟨hbA',paA,cpA,aaA,caA,gaA,cgA,hee,-⟩;have hef:e=.returned (.agg (ec x paA cpA aaA caA gaA cgA)):=hee;clear hee;subst hef;have hA:Below wq.heap.size wq wA:=Below.trans (by with_reducible (repeat refine .drew ?_);exact hB) (hbA'.mono hB.size);have hcA:=hbx.out _ (hBq.trans (hA.mono hsq)))
     | (go_at_call_of 103 y.id;refine (hevy.out _ (by with_reducible (repeat refine .drew ?_);exact hA)).mono ?_;rintro e wB ⟨hbB',paB,cpB,aaB,caB,gaB,cgB,hee,-⟩;have hef:e=.returned (.agg (ec y paB cpB aaB caB gaB cgB)):=hee;clear hee;subst hef;have hB:Below wq.heap.size wq wB:=Below.trans (by with_reducible (repeat refine .drew ?_);exact hA) (hbB'.mono hA.size);have hcB:=hbx.out _ (hBq.trans (hB.mono hsq))))
    all_goals (try go_wp2_with fail)
    all_goals go_meet
    all_goals exact ⟨by first|rfl|rw [ht1],by first|exact hA|exact hB|exact hA.drew|exact hB.drew⟩
   case rest =>
    obtain ⟨rfl,hbc⟩:=hcut;obtain ⟨wr5,hwr5⟩:∃ wr5:World,wr5=wc:=⟨_,rfl⟩;subst hwr5;have hBq2:=hBq.trans (hbc.mono hsq);have hwq2:=hb0.trans (hBq2.mono (by omega));have hsq2:w.heap.size+1<=wr5.heap.size:=by have:=hBq2.size;omega
    have hcq2:=hbx.out _ hBq2;clear hevx hevy hrf hBq hwq hsq hcq hbc ht1;have hevx:Hid (∀ W,Below wr5.heap.size wr5 W->Calls Tryz.prog 103 #[.agg #[.slice a n cap],.string x.id] W (EePost W x)):=fun W hW=>hevx0.out W (hwq2.trans (hW.mono hwq2.size))
    have hevy:Hid (∀ W,Below wr5.heap.size wr5 W->Calls Tryz.prog 103 #[.agg #[.slice a n cap],.string y.id] W (EePost W y)):=fun W hW=>hevy0.out W (hwq2.trans (hW.mono hwq2.size))
    have hrf:Below wr5.heap.size wr5 wr5:=kB;clear hevx0 hevy0
    go_wp2_with fail
    go_region_with (first
     | (go_at_call_of 103 x.id;refine (hevx.out _ (by with_reducible (repeat refine .drew ?_);exact hrf)).mono ?_;rintro e wA ⟨hbA',paA,cpA,aaA,caA,gaA,cgA,hee,-⟩;have hef:e=.returned (.agg (ec x paA cpA aaA caA gaA cgA)):=hee;clear hee;subst hef;have hA:Below wr5.heap.size wr5 wA:=Below.trans (by with_reducible (repeat refine .drew ?_);exact hrf) hbA';have hcA:=hbx.out _ (hBq2.trans (hA.mono hsq2)))
     | (go_at_call_of 103 y.id;refine (hevy.out _ (by with_reducible (repeat refine .drew ?_);exact hrf)).mono ?_;rintro e wB ⟨hbB',paB,cpB,aaB,caB,gaB,cgB,hee,-⟩;have hef:e=.returned (.agg (ec y paB cpB aaB caB gaB cgB)):=hee;clear hee;subst hef;have hB:Below wr5.heap.size wr5 wB:=Below.trans (by with_reducible (repeat refine .drew ?_);exact hrf) hbB';have hcB:=hbx.out _ (hBq2.trans (hB.mono hsq2)))
     | (go_at_call_of 103 x.id;refine (hevx.out _ (by with_reducible (repeat refine .drew ?_);exact hB)).mono ?_;rintro e wA ⟨hbA',paA,cpA,aaA,caA,gaA,cgA,hee,-⟩;have hef:e=.returned (.agg (ec x paA cpA aaA caA gaA cgA)):=hee;clear hee;subst hef;have hA:Below wr5.heap.size wr5 wA:=Below.trans (by with_reducible (repeat refine .drew ?_);exact hB) (hbA'.mono hB.size);have hcA:=hbx.out _ (hBq2.trans (hA.mono hsq2)))
     | (go_at_call_of 103 y.id;refine (hevy.out _ (by with_reducible (repeat refine .drew ?_);exact hA)).mono ?_;rintro e wB ⟨hbB',paB,cpB,aaB,caB,gaB,cgB,hee,-⟩;have hef:e=.returned (.agg (ec y paB cpB aaB caB gaB cgB)):=hee;clear hee;subst hef;have hB:Below wr5.heap.size wr5 wB:=Below.trans (by with_reducible (repeat refine .drew ?_);exact hA) (hbB'.mono hA.size);have hcB:=hbx.out _ (hBq2.trans (hB.mono hsq2))))
    all_goals
     go_wp2
     go_ret;exact ⟨ret_bool Hr.out,by first|exact hwq2.trans (hA.mono hwq2.size)|exact hwq2.trans (hB.mono hwq2.size)|exact (hwq2.trans (hA.mono hwq2.size)).drew|exact (hwq2.trans (hB.mono hwq2.size)).drew⟩
variable {i j k:Nat}{D:Nat->Nat}{x:ByteArray}{S:Nat->ByteArray}
def plc (E:Nat->Ev)(n:Nat)(s:ByteArray):Nat:=(posV E n s).toNat
def OrdL (E:Nat->Ev)(n:Nat)(D:Nat->Nat)(l:List ByteArray):Prop:=l.Pairwise fun a b=>Bef E D (plc E n a) (plc E n b)
theorem ord_get {l:List ByteArray}(h:OrdL E n D l)(hij:i<j)(hj:j<l.length):Bef E D (plc E n (getL l i)) (plc E n (getL l j)):=by
 have:=List.pairwise_iff_getElem.1 h i j (by omega) hj hij;simpa [getL,List.getD,List.getElem?_eq_getElem hj,List.getElem?_eq_getElem (show i<l.length by omega)] using this
theorem ins_ord {l:List ByteArray}(h:OrdL E n D l)(hlo:∀ i,i<k->i<l.length->Bef E D (plc E n (getL l i)) (plc E n x))(hhi:∀ i,k<=i->i<l.length->Bef E D (plc E n x) (plc E n (getL l i))):OrdL E n D (insAt l k x):=by
 have h':(l.take k ++ l.drop k).Pairwise fun a b=>Bef E D (plc E n a) (plc E n b):=by rw [List.take_append_drop];exact h
 obtain ⟨p1,p2,p3⟩:=List.pairwise_append.1 h';unfold OrdL insAt;refine List.pairwise_append.2 ⟨p1,List.pairwise_cons.2 ⟨fun b hb=>?_,p2⟩,fun a ha b hb=>?_⟩
 ·obtain ⟨i,hi,rfl⟩:=mem_getL hb
  rw [List.length_drop] at hi
  have:getL (l.drop k) i=getL l (k+i):=by simp [getL,List.getD]
  rw [this];exact hhi _ (by omega) (by omega)
 rcases List.mem_cons.1 hb with rfl|hb
 ·obtain ⟨i,hi,rfl⟩:=mem_getL ha
  rw [List.length_take] at hi
  have:getL (l.take k) i=getL l i:=by simp [getL,List.getD,show i<k by omega]
  rw [this];exact hlo _ (by omega) (by omega)
 exact p3 a ha b hb
theorem ord_done {l:List ByteArray}(hr:roomTo E n=true)(hin:∀ s ∈ l,0<=posV E n s)(hx0:0<=posV E n x)(h:OrdL E n D l)(hx:x ∉ l)(hj:j<=l.length)(hhi:∀ i,j<=i->i<l.length->Bef E D (plc E n x) (plc E n (getL l i)))
  (hstop:j=0∨∃ q,j=q+1∧¬ Bef E D (plc E n x) (plc E n (getL l q))):OrdL E n D (insAt l j x):=by
 refine ins_ord h (fun i hi hl=>?_) hhi;rcases hstop with h0|⟨q,rfl,hq⟩
 ·omega
 have hql:q<l.length:=by omega
 have h1:Bef E D (plc E n (getL l q)) (plc E n x):=by
  have hq0:=hin _ (getL_mem hql);have b1:=posV_bd E x n;have b2:=posV_bd E (getL l q) n
  have hne:plc E n x≠plc E n (getL l q):=fun e=>by
   obtain ⟨i1,_,e1,hb1⟩:=posV_found E x n hx0;obtain ⟨i2,_,e2,hb2⟩:=posV_found E (getL l q) n hq0;unfold plc at e
   have:i1=i2:=by omega
   subst this
   have:x=getL l q:=(ba_of_toList hb1).symm.trans (ba_of_toList hb2);exact hx (this ▸ getL_mem hql)
  rcases Bef.total hr (show plc E n x<n by unfold plc;omega) (show plc E n (getL l q)<n by unfold plc;omega) hne with h'|h'
  ·exact absurd h' hq
  exact h'
 by_cases e:i=q
 ·subst e;exact h1
 exact (ord_get h (show i<q by omega) hql).trans h1
def MrPost (w:World)(E:Nat->Ev)(n:Nat)(D:Nat->Nat)(S:Nat->ByteArray)(m:Nat)(e:Ending)(w':World):Prop :=
 ∃ v l,e=.returned v∧OwnL w' w.heap.size v l∧OrdL E n D l∧(∀ s,s ∈ l↔∃ i,i<m∧S i=s)∧Below w.heap.size w w'
theorem mem_moreM {l l':List ByteArray}(h:∀ s,s ∈ l↔∃ i,i<k∧S i=s)(h':∀ s,s ∈ l'↔s=S k∨s ∈ l)(s:ByteArray):s ∈ l'↔∃ i,i<k+1∧S i=s:=by
 rw [h',h];constructor
 ·rintro (rfl|⟨i,hi,e⟩)
  ·exact ⟨k,by omega,rfl⟩
  exact ⟨i,by omega,e⟩
 rintro ⟨i,hi,e⟩
 by_cases ek:i=k
 ·subst ek;exact Or.inl e.symm
 exact Or.inr ⟨i,by omega,e⟩
variable {ia:Option Addr}{m icap:Nat}
def MoRel (w1:World)(E:Nat->Ev)(n:Nat)(D:Nat->Nat)(S:Nat->ByteArray)(m:Nat)(v i:Value)(wr:World):Prop :=
 ∃ (k:Nat) (l:List ByteArray) (g cp mm:Nat),k<=m∧i=.int .i64 (k:Int)∧v=.slice (some ⟨g,0,none⟩) mm cp∧Hid (mm=l.length)∧mm<=k∧OwnL wr w1.heap.size (.slice (some ⟨g,0,none⟩) mm cp) l∧Hid (OrdL E n D l)∧Hid (∀ s,s ∈ l↔∃ i,i<k∧S i=s)∧Below w1.heap.size w1 wr
def MiRel (w1:World)(E:Nat->Ev)(n:Nat)(D:Nat->Nat)(gg mm cq:Nat)(l:List ByteArray)(s:ByteArray)(jv:Value)(wi:World):Prop :=
 ∃ j:Nat,jv=.int .i64 (j:Int)∧j<=mm∧OwnL wi w1.heap.size (.slice (some ⟨gg,0,none⟩) (mm+1) cq) (insAt l j s)∧Hid (∀ i,j<=i->i<l.length->Bef E D (plc E n s) (plc E n (getL l i)))∧Below w1.heap.size w1 wi
theorem l6Ord_sl (q0:Int)(w:World)(hroom:roomTo E n=true)(h1:-1<=q0)(h2:q0<n)(hm:m<=300)(hth:∀ i,i<m->0<=posV E n (S i))(h:SlV w a n cap E)(hids:SlS w ia m icap S) :
  Calls Tryz.prog 59 #[.agg #[.slice a n cap],.slice ia m icap,.string (idQ E q0)] w (MrPost w E n (fun p:Nat=>dp E n (ln E n q0) (p:Int)) S m):=by
 obtain ⟨i0,hi,hz0,hz1,hz2⟩:=info_parts Tryz.infoString;obtain ⟨wb,hwb⟩:∃ wb,wb=w.alloc (.cells #[.slice a n cap] 25):=⟨_,rfl⟩;have hb0:Below w.heap.size w wb:=by rw [hwb];exact bA
 have hs0:wb.heap.size=w.heap.size+1:=by rw [hwb];simp
 have hbx:Hid (∀ wx,Below (w.heap.size+1) wb wx->wx.cell? ⟨w.heap.size,0,none⟩=some (.slice a n cap)):=fun wx hx=>by subst hwb;exact box_cells hx 0
 have hln:=ln_len E n q0;have h300:=room_300 hroom;have hlm:=ln_mem hroom h2
 have hidz:∀ i,i<n->(E i).id.size<=maxLen:=fun i hi'=>by
  rcases h.cells with h0|⟨b,off,_,_,hc⟩
  ·omega
  obtain ⟨_,_,_,_,_,_,_,hok⟩:=hc i hi';exact hok.hid
 obtain ⟨D,hD⟩:∃ D:Nat->Nat,D=fun p:Nat=>dp E n (ln E n q0) (p:Int):=⟨_,rfl⟩
 rw [<- hD];have HLn:Hid (∀ W,Below w.heap.size w W->Calls Tryz.prog 115 #[.agg #[.slice a n cap],.string (idQ E q0)] W (LmPost W E (ln E n q0))):=fun W hW=>l6Line_sl q0 W hroom h1 h2 (h.below hW)
 have HBf:Hid (∀ (W:World) (la:Option Addr) (lc p q:Nat),p<n->q<n->Below w.heap.size w W->SlS W la (ln E n q0).length lc (lnS E (ln E n q0))->Calls Tryz.prog 116 #[.agg #[.slice a n cap],.slice la (ln E n q0).length lc,.string (E p).id,.string (E q).id] W fun x w'=>x=.returned (.bool (befQ (D p) (D q) (E p) (E q)))∧Below W.heap.size W w'):=fun W la lc p q hp hq hW hL=>by
  have:=l6Bef_sl (p:=p) (q:=q) W hroom hp hq hlm (by omega) (h.below hW) hL;rw [hD];exact this
 have HOk:Hid (∀ k,k<(ln E n q0).length->(lnS E (ln E n q0) k).size<=maxLen):=fun k hk=>by
  obtain ⟨p,hp,e⟩:=lX_lt hlm hk;unfold lnS;rw [e,Int.toNat_natCast];exact hidz p hp
 have Hpl:Hid (∀ s:ByteArray,0<=posV E n s->plc E n s<n∧(E (plc E n s)).id=s):=fun s hs=>by
  obtain ⟨i,hi',e,hb⟩:=posV_found E s n hs;unfold plc;rw [e,Int.toNat_natCast];exact ⟨hi',ba_of_toList hb⟩
 have Hth:Hid (_):=hth;have Hroom:Hid (_):=hroom;generalize ln E n q0=line at *;clear hD hlm hidz hth hroom hln
 go_enter Tryz.func59,Tryz.ntmps59
 go_wp2_with fail
 rw [<- hwb];clear hwb;refine (HLn.out _ hb0).mono ?_;rintro e w1 ⟨v1,rfl,ho1,hb1⟩;have hB1:=hb1.mono (B':=w.heap.size+1) (by omega);have hw1:=hb0.trans (hB1.mono (by omega));have hs1:w.heap.size+1<=w1.heap.size:=by have:=hB1.size;omega
 obtain ⟨la,lc,rfl,hL1⟩:=ho1.sl HOk.out;have hL1':SlS w1 la line.length lc (lnS E line):=hL1;have hbO:Below w1.heap.size w1 (w1.alloc (.cells #[] 9)):=bA;have hoO:OwnL (w1.alloc (.cells #[] 9)) w1.heap.size (.slice (some ⟨w1.heap.size,0,none⟩) 0 0) []:=OwnL.new w1 _ nL;clear HLn ho1 hL1 hb1
 go_wp2_with fail
 go_loopw [8,9] (fun v i wr=>MoRel w1 E n D S m v i wr) (fun _ i _=>m - (intOf i).toNat)
 case atStart=>exact ⟨0,[],_,_,0,nz,rfl,rfl,rfl,nL,hoO,List.Pairwise.nil,fun s=>by simp,hbO⟩
 case round =>
  clear hbO hoO;obtain ⟨k,l,g,cp,mm,hk,rfl,rfl,hmm,hmk,hown,hord,hmem,hbel⟩:=hrel;have hbw:=hw1.trans (hbel.mono hw1.size);have hbB:=hB1.trans (hbel.mono hs1);have hsr:w1.heap.size<=wr.heap.size:=hbel.size
  by_cases hlt:k<m
  ·rcases hids.cells with h0|⟨bi,oi,rfl,hbi,hci⟩
   ·omega
   have hck:wr.cell? ⟨bi,oi+k,none⟩=some (.string (S k)):=(hbw.cell (by exact hbi)).trans (hci k hlt);have hcl:∀ i,i<mm->wr.cell? ⟨g,0+i,none⟩=some (.string (getL l i)):=fun i hi'=>by rw [Nat.zero_add];exact hown.cell hmm.out (by rw [<- hmm.out];exact hi')
   have Hc:Hid (_):=hci;clear hci
   go_wp2_with fail
   refine (has_any g 0 mm cp (getL l) (S k) wr (by unfold maxLen;omega) hcl).mono ?_;rintro e w1' ⟨rfl,hw1'⟩;subst hw1';have hmmb:=hasB_mem l (S k) mm (by rw [hmm.out];exact nL);rw [hmm.out,List.take_length,<- hmm.out] at hmmb;clear hcl;cases hh:hasB (getL l) mm (S k)
   case true =>
    rw [hh] at hmmb;have Hin:Hid (S k ∈ l):=hmmb.1 rfl;clear hmmb;go_wp2
    go_roundw
    case rel=>first|exact ⟨k+1,l,g,cp,mm,by omega,by go_num,rfl,hmm.out,by omega,hown,hord.out,mem_moreM hmem.out (fun s=>⟨Or.inr,fun h=>h.elim (fun e=>e ▸ Hin.out) id⟩),hbel⟩|((repeat apply Exists.intro);exact ⟨⟨k+1,l,g,cp,mm,by omega,by go_num,rfl,hmm.out,by omega,hown,hord.out,mem_moreM hmem.out (fun s=>⟨Or.inr,fun h=>h.elim (fun e=>e ▸ Hin.out) id⟩),hbel⟩,rfl⟩)
    simp [intOf];omega
   case false =>
    rw [hh] at hmmb;have Hin:Hid (S k ∉ l):=fun h=>by cases hmmb.2 h
    have Hk0:Hid (0<=posV E n (S k)):=Hth.out k hlt
    have Hlin:Hid (∀ s ∈ l,0<=posV E n s):=fun s hs=>by
     obtain ⟨i,hi',rfl⟩:=(hmem.out s).1 hs;exact Hth.out i (by omega)
    clear hmmb hh;have hm1:mm+1<=maxLen:=by unfold maxLen;omega
    have hm2:(mm+1) * 16<=140737488355328:=by omega
    have hm3:∀ o,w1.heap.size<=(w1'.alloc o).heap.size:=fun o=>by simp;omega
    have hag:Hid (∀ q,(Value.slice (some ⟨g,0,none⟩) mm cp).ownBlock=some q->w1.heap.size<=q):=fun q hq=>by have:=World.ownsRow.lt hown q hq;exact this.1
    have hown':w1'.ownsRow w1.heap.size 9 1 (.slice (some ⟨g,0,none⟩) mm cp) mm (l.map Value.string):=by have:=hown;unfold OwnL at this;rw [<- hmm.out] at this;exact this
    go_wp2_with (at_builtin;refine wpList_append_lies _ rfl _ _ 27 rfl w1.heap.size 9 i0 (.string ByteArray.empty) 1 16 Tryz.underlying27 hi hz0 hz1 hz2 rfl (by decide) _ _ _ rfl (World.ownsRow.alloc hown' _) ⟨w1'.heap.size,0,none⟩ 1 1 [.string (S k)] rfl rfl (one_cells _ _ _) (one_one _) (by decide) hm1 hm2 (hm3 _) (w1'.heap.size+1) (by simp) ?_;intro gg cq w2 hown2 hgrow2 hat2 hlt2)
    have hown3:OwnL w2 w1.heap.size (.slice (some ⟨gg,0,none⟩) (mm+1) cq) (insAt l mm (S k)):=by
     rw [hmm.out,insAt_end];rw [hmm.out] at hown2;exact OwnL.snoc hown2
    have hbel2:=(hbel.alloc hbel.size _).grown hgrow2 (hm3 _) hag.out;clear hown2 hgrow2 hat2 hown' hown hm1 hm2 hm3 hag hck;obtain ⟨wo,hwo⟩:∃ wo:World,wo=w1':=⟨_,rfl⟩;subst hwo
    go_loopw [10] (fun jv wi=>MiRel w1 E n D gg mm cq l (S k) jv wi) (fun jv _=>(intOf jv).toNat)
    case atStart=>exact ⟨mm,by go_num,nL,hown3,fun i h1 h2=>absurd h1 (by rw [hmm.out];omega),hbel2⟩
    case round =>
     clear hown3 hbel2;obtain ⟨j,rfl,hj,hown4,hhi,hbel4⟩:=hrel;have hlen:mm+1=(insAt l j (S k)).length:=by rw [insAt_len (by rw [<- hmm.out];exact hj),<- hmm.out]
     have hml:mm<=l.length:=by rw [hmm.out];exact nL
     have hbw4:=hw1.trans (hbel4.mono hw1.size);have hc4:=hbx.out _ (hB1.trans (hbel4.mono hs1));have hL4:=hL1'.below hbel4;have hs4:w1.heap.size<=wr.heap.size:=hbel4.size
     by_cases h0:0<j
     ·obtain ⟨q,rfl⟩:∃ q,j=q+1:=⟨j - 1,by omega⟩
      have c1:wr.cell? ⟨gg,q+1,none⟩=some (.string (S k)):=by rw [hown4.cell hlen (by omega),insAt_get (by omega)]
      have c2:wr.cell? ⟨gg,q,none⟩=some (.string (getL l q)):=by rw [hown4.cell hlen (by omega),insAt_before (by omega)]
      have f1:=hown4.frozen hlen (q+1);have f2:=hown4.frozen hlen q;have hgg:gg<wr.heap.size:=(World.ownsRow.lt hown4 gg rfl).2;have Hq0:Hid (0<=posV E n (getL l q)):=Hlin.out _ (getL_mem (by omega))
      have hBf:Hid (∀ W,Below wr.heap.size wr W->Calls Tryz.prog 116 #[.agg #[.slice a n cap],.slice la line.length lc,.string (S k),.string (getL l q)] W fun x w'=>x=.returned (.bool (befQ (D (plc E n (S k))) (D (plc E n (getL l q))) (E (plc E n (S k))) (E (plc E n (getL l q)))))∧Below W.heap.size W w'):=fun W hW=>by
       obtain ⟨p1,e1⟩:=Hpl.out _ Hk0.out;obtain ⟨p2,e2⟩:=Hpl.out _ Hq0.out
       have:=HBf.out W la lc _ _ p1 p2 (hbw4.trans (hW.mono hbw4.size)) (hL4.below hW);rw [e1,e2] at this;exact this
      have hrf:Below wr.heap.size wr wr:=kB;obtain ⟨bq,hbq⟩:∃ bq,bq=befQ (D (plc E n (S k))) (D (plc E n (getL l q))) (E (plc E n (S k))) (E (plc E n (getL l q))):=⟨_,rfl⟩;have Hbq:Hid (bq=true↔Bef E D (plc E n (S k)) (plc E n (getL l q))):=by unfold Hid;rw [hbq];exact befQ_iff E D _ _
      rw [<- hbq] at hBf;have HL:Hid (_):=hlen;have hgl:Hid (w1.heap.size<=gg):=by have:=World.ownsRow.lt hown4 gg rfl;exact this.1
      clear hbq hlen;have hwz:w.heap.size<wr.heap.size:=by omega
      have y1:q<mm:=by omega
      have y2:q<=mm:=by omega
      have y3:(q:Int)<(mm:Int):=by omega
      have y4:(q:Int)<=(mm:Int):=by omega
      have y5:(0:Int)<=(q:Int):=by omega
      have y6:(0:Int)<=(q:Int)+1:=by omega
      have y7:IntKind.i64.wrap ((q:Int)+1 - 1)=(q:Int):=by rw [IntKind.wrap_i64];omega
      have y8:IntKind.i64.wrap (q:Int)=(q:Int):=by rw [IntKind.wrap_i64];omega
      have x1:((q+1:Nat):Int)<((mm+1:Nat):Int):=by omega
      have x2:(q:Int)+1<(mm:Int)+1:=by omega
      have x3:(q:Int)<(mm:Int)+1:=by omega
      have x4:(0:Int)<(q:Int)+1:=by omega
      have xd1:decide ((0:Int)<((q+1:Nat):Int))=true:=decide_eq_true (by omega);have xd2:decide ((0:Int)<(q:Int)+1)=true:=decide_eq_true (by omega);clear HBf HOk h hids Hc h300 h1 h2 hL1' hbw4 hbB hbw
      go_wp2_with fail
      go_cut [53] from 38 to 72 (fun v wx=>v=.bool bq∧Below wr.heap.size wr wx)
      case first =>
       go_region_held3 (fun W=>W.cell? ⟨w.heap.size,0,none⟩=some (.slice a n cap)∧W.cell? ⟨gg,q+1,none⟩=some (.string (S k))∧W.cell? ⟨gg,q,none⟩=some (.string (getL l q)))
        (first|(with_reducible exact ⟨hc4,c1,c2⟩)|go_keep)
        ((go_at_call 116;refine (hBf.out _ (by with_reducible (repeat refine .drew ?_);exact hrf)).mono ?_;rintro e w5 ⟨rfl,hb5'⟩;have hb5:Below wr.heap.size wr w5:=Below.trans (by with_reducible (repeat refine .drew ?_);exact hrf) hb5';clear hb5';have hk0:=(hb5.cell (by exact hwz)).trans hc4;have hk1:=(hb5.cell (by exact hgg)).trans c1;have hk2:=(hb5.cell (by exact hgg)).trans c2))
       all_goals (try go_wp2_with fail)
       all_goals go_meet
       all_goals exact ⟨rfl,hb5⟩
      case rest =>
       obtain ⟨rfl,hb5⟩:=hcut;obtain ⟨w5,hw5⟩:∃ w5:World,w5=wc:=⟨_,rfl⟩;subst hw5;have c15:=(hb5.cell (by exact hgg)).trans c1;have c25:=(hb5.cell (by exact hgg)).trans c2;have f15:=(hb5.frozen (p:=⟨gg,q+1,none⟩) hgg).trans f1;have f25:=(hb5.frozen (p:=⟨gg,q,none⟩) hgg).trans f2;clear hBf hrf c1 c2 f1 f2 hc4 hL4;cases bq
       case false =>
        have Hs:Hid (OrdL E n D (insAt l (q+1) (S k))):=ord_done Hroom.out Hlin.out Hk0.out hord.out Hin.out (by omega) hhi.out (Or.inr ⟨q,rfl,fun h=>by have:=Hbq.out.2 h;cases this⟩);clear hml Hbq;go_wp2
        go_roundw
        case rel=>first|exact ⟨k+1,insAt l (q+1) (S k),gg,cq,mm+1,by omega,by go_num,rfl,HL.out,by omega,hown4.below hb5,Hs.out,mem_moreM hmem.out (fun s=>insAt_mem),hbel4.trans (hb5.mono hs4)⟩|((repeat apply Exists.intro);exact ⟨⟨k+1,insAt l (q+1) (S k),gg,cq,mm+1,by omega,by go_num,rfl,HL.out,by omega,hown4.below hb5,Hs.out,mem_moreM hmem.out (fun s=>insAt_mem),hbel4.trans (hb5.mono hs4)⟩,rfl⟩)
        simp [intOf];omega
       case true =>
        have Hl:Hid (Bef E D (plc E n (S k)) (plc E n (getL l q))):=Hbq.out.1 rfl
        have HoF:Hid (∀ W,Below wr.heap.size wr W->OwnL ((W.setCell ⟨gg,q+1,none⟩ (.string (getL l q))).setCell ⟨gg,q,none⟩ (.string (S k))) w1.heap.size (.slice (some ⟨gg,0,none⟩) (mm+1) cq) (insAt l q (S k))):=fun W hW=>by
         have h5:=(((hown4.below hW).put HL.out (q+1) (getL l q)).put (by rw [List.length_set];exact HL.out) q (S k));rw [insAt_swap (by omega)] at h5;exact h5
        clear hml Hbq;have c35:(w5.setCell ⟨gg,q+1,none⟩ (.string (getL l q))).cell? ⟨gg,q,none⟩=some (.string (getL l q)):=by rw [set_far (by omega)];exact c25
        have f35:(w5.setCell ⟨gg,q+1,none⟩ (.string (getL l q))).frozen? ⟨gg,q,none⟩=false:=by rw [World.frozen?_setCell];exact f25
        have Ho:Hid (OwnL ((w5.setCell ⟨gg,q+1,none⟩ (.string (getL l q))).setCell ⟨gg,q,none⟩ (.string (S k))) w1.heap.size (.slice (some ⟨gg,0,none⟩) (mm+1) cq) (insAt l q (S k))):=HoF.out w5 hb5;go_wp2
        go_roundw
        case rel=>first|exact ⟨q,by go_num,by omega,Ho.out,fun i h1 h2=>by (by_cases e:i=q;(subst e;exact Hl.out);exact hhi.out i (by omega) h2),((hbel4.trans (hb5.mono hs4)).setCell hgl.out _).setCell hgl.out _⟩|((repeat apply Exists.intro);exact ⟨⟨q,by go_num,by omega,Ho.out,fun i h1 h2=>by (by_cases e:i=q;(subst e;exact Hl.out);exact hhi.out i (by omega) h2),((hbel4.trans (hb5.mono hs4)).setCell hgl.out _).setCell hgl.out _⟩,rfl⟩)
        simp [intOf]
     have hj0:j=0:=by omega
     subst hj0;have Hs:Hid (OrdL E n D (insAt l 0 (S k))):=ord_done Hroom.out Hlin.out Hk0.out hord.out Hin.out (by omega) hhi.out (Or.inl rfl);have HL:Hid (_):=hlen;clear hlen hml
     go_wp2_with fail
     go_region
     all_goals
      go_wp2
      go_roundw
      case rel=>first|exact ⟨k+1,insAt l 0 (S k),gg,cq,mm+1,by omega,by go_num,rfl,HL.out,by omega,hown4.kept (fun _ _ _=>rfl),Hs.out,mem_moreM hmem.out (fun s=>insAt_mem),by first|exact hbel4|exact hbel4.drew|exact hbel4.drew.drew⟩|((repeat apply Exists.intro);exact ⟨⟨k+1,insAt l 0 (S k),gg,cq,mm+1,by omega,by go_num,rfl,HL.out,by omega,hown4.kept (fun _ _ _=>rfl),Hs.out,mem_moreM hmem.out (fun s=>insAt_mem),by first|exact hbel4|exact hbel4.drew|exact hbel4.drew.drew⟩,rfl⟩)
      simp [intOf];omega
  have hkm:k=m:=by omega
  subst hkm;go_wp2
  go_ret;exact ⟨_,l,rfl,hown.mono hw1.size,hord.out,hmem.out,hbw⟩
end Go.Proofs.YtkdalopokdhndaaGreat
