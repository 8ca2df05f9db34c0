import Derived.Test.YtkdalopokdhndaaGreatMoPZ
set_option maxHeartbeats 16000000
set_option maxRecDepth 100000
namespace Go.Proofs.YtkdalopokdhndaaGreat
open Go.RowKit
variable {E:Nat->Ev}{b n cap:Nat}{a:Option Addr}
def lnS (E:Nat->Ev)(l:List Nat)(k:Nat):ByteArray:=(E (lX l k).toNat).id
theorem ids_ne {a:Nat}(h:roomTo E n=true)(ha:a<n)(hb:b<n)(hne:a≠b):((E a).id.toList == (E b).id.toList)=false:=by
 cases hq:((E a).id.toList == (E b).id.toList)
 ·rfl
 have e:=ba_of_toList hq;have e1:=posV_here h ha;rw [e,posV_here h hb] at e1;omega
def DpRel (wb:World)(B:Nat)(E:Nat->Ev)(n:Nat)(l:List Nat)(q0:Int)(s:Value)(wr:World):Prop :=
 ∃ q:Int,s=.string (idQ E q)∧-1<=q∧q<n∧Hid (dp E n l q0=dp E n l q)∧Below B wb wr
theorem l6Depth_sl {la:Option Addr}{lc:Nat}{l:List Nat}(q0:Int)(w:World)(hroom:roomTo E n=true)(h1:-1<=q0)(h2:q0<n)(hl:∀ i ∈ l,i<n)(hll:l.length<=300)(h:SlV w a n cap E)(hL:SlS w la l.length lc (lnS E l)) :
  Calls Tryz.prog 183 #[.agg #[.slice a n cap],.slice la l.length lc,.string (idQ E q0)] w fun x w'=>x=.returned (.int .i64 (dp E n l q0:Int))∧Below w.heap.size w w':=by
 have h300:=room_300 hroom;obtain ⟨wb,hwb⟩:∃ wb,wb=w.alloc (.cells #[.slice a n cap] 25):=⟨_,rfl⟩;have hb0:Below w.heap.size w wb:=by rw [hwb];exact bA
 have hs0:wb.heap.size=w.heap.size+1:=by rw [hwb];simp
 have hbx:Hid (∀ wx,Below (w.heap.size+1) wb wx->wx.cell? ⟨w.heap.size,0,none⟩=some (.slice a n cap)):=fun wx hx=>by subst hwb;exact box_cells hx 0
 have Hroom:Hid (_):=hroom;have HE:Hid (SlV w a n cap E):=h;have HLs:Hid (SlS w la l.length lc (lnS E l)):=hL;have Hl:Hid (_):=hl;clear hroom h hL hl
 go_enter Tryz.func183,Tryz.ntmps183
 go_wp2_with fail
 rw [<- hwb];clear hwb
 go_loopw [2] (fun s wr=>DpRel wb (w.heap.size+1) E n l q0 s wr) (fun s _=>(strPos E n s+1).toNat)
 case atStart=>exact ⟨q0,rfl,h1,h2,rfl,kB⟩
 case round =>
  obtain ⟨q,rfl,hq1,hq2,hdq,hbl⟩:=hrel;have hbw:=hb0.trans (hbl.mono (by omega));have hso:w.heap.size+1<=wr.heap.size:=by have:=hbl.size;omega
  by_cases hneg:q=-1
  ·subst hneg
   have hid:idQ E (-1)=⟨#[]⟩:=rfl;have Hd:Hid ((l.length:Int)=(dp E n l q0:Int)):=by unfold Hid;rw [hdq.out,dp_neg _ _ _ (by decide)]
   rw [hid];go_wp2
   go_ret;exact ⟨ret_int Hd.out,hbw⟩
  obtain ⟨y,rfl⟩:∃ y:Nat,q=(y:Int):=⟨q.toNat,by omega⟩;have hyn:y<n:=by omega
  have hid:idQ E (y:Int)=(E y).id:=by unfold idQ;rw [if_pos (by omega),Int.toNat_natCast]
  have Hmeas:Hid (∀ z,z=pwS E n y->(strPos E n (.string z)+1).toNat<(strPos E n (.string (E y).id)+1).toNat):=fun z hz=>by
   have hbd:=pwV_bd Hroom.out hyn;rw [hz,pwS_idQ,strPos_idQ Hroom.out hbd.1 (by omega),<- hid,strPos_idQ Hroom.out (by omega) (by omega)];omega
  rw [hid];have Hbd:Hid (_∧_):=pwV_bd Hroom.out hyn;have hne:(E y).id.toList.isEmpty=false:=ev_id (room_code Hroom.out hyn);clear hneg hid;obtain ⟨wo,hwo⟩:∃ wo:World,wo=wr:=⟨_,rfl⟩;subst hwo
  go_wp2_with fail
  go_loop [7] (fun iv=>∃ k:Nat,k<=l.length∧iv=.int .i64 k∧Hid (∀ i,i<k->l.getD i 0≠y)) (fun iv=>l.length - (intOf iv).toNat)
  case atStart=>exact ⟨0,nz,rfl,fun i hi=>absurd hi (Nat.not_lt_zero _)⟩
  case round =>
   obtain ⟨k,hk,rfl,hto⟩:=hrel
   by_cases hlt:k<l.length
   ·rcases HLs.out.cells with h0|⟨lb,lo,rfl,hlb,hlc⟩
    ·omega
    have hp:l.getD k 0<n:=Hl.out _ (by simp [List.getD,List.getElem?_eq_getElem hlt])
    have hck:wo.cell? ⟨lb,lo+k,none⟩=some (.string (E (l.getD k 0)).id):=by
     have:=(hbw.cell (by exact hlb)).trans (hlc k hlt);unfold lnS lX at this;rw [Int.toNat_natCast] at this;exact this
    by_cases he:l.getD k 0=y
    ·have Hd:Hid ((k:Int)=(dp E n l q0:Int)):=by
      have hh:=lnI_hit hlt hto.out he;unfold Hid;rw [hdq.out,dp_in hyn (by rw [hh];exact hlt),hh]
     rw [he] at hck;have heq:((E y).id.toList == (E y).id.toList)=true:=by simp
     clear hlc hto he;go_wp2
     go_ret;exact ⟨ret_int Hd.out,hbw⟩
    have heq:=ids_ne Hroom.out hp hyn he
    have Hto:Hid (∀ i,i<k+1->l.getD i 0≠y):=fun i hi=>by
     by_cases e:i=k
     ·subst e;exact he
     exact hto.out i (by omega)
    clear hlc hto he hp;generalize (E (l.getD k 0)).id=s at *;go_wp2
    go_round
    case rel=>exact ⟨k+1,by omega,by go_num,Hto⟩
    simp [intOf];omega
   have hmiss:=lnI_miss (line:=l) (p:=y) (fun i hi=>hto.out i (by omega));have Hdq:Hid (dp E n l q0=dp E n l (pwV E n y)):=hdq.out.trans (dp_step Hroom.out hyn hmiss);have x02:=hbx.out _ hbl;have hrf:Below wo.heap.size wo wo:=kB;have hev:Hid (∀ W,Below wo.heap.size wo W->Calls Tryz.prog 103 #[.agg #[.slice a n cap],.string (E y).id] W (EePost W (E y))):=fun W hW=>l6Event_sl _ W (HE.out.below (hbw.trans (hW.mono hbw.size))) hyn (posV_here Hroom.out hyn)
   clear hto hmiss hdq
   go_wp2_with fail
   go_region_with (first
    | (go_at_call 103;refine (hev.out _ (by with_reducible (repeat refine .drew ?_);exact hrf)).mono ?_;rintro e w3 ⟨hb3',pa3,cp3,aa3,ca3,ga3,cg3,rfl,hok3'⟩;have Hok3:Hid (EvOk w3 (E y) pa3 cp3 aa3 ca3 ga3 cg3):=hok3';have hb3:Below wo.heap.size wo w3:=Below.trans (by with_reducible (repeat refine .drew ?_);exact hrf) hb3';clear hok3' hb3';have hB3:=hbl.trans (hb3.mono hso);have x03:=hbx.out _ hB3;have hbw3:=hb0.trans (hB3.mono (by omega));have hrf3:Below w3.heap.size w3 w3:=kB)
    | (go_at_call 182;refine (l6Pow_sl (a:=a) (n:=n) (cap:=cap) (E:=E) (q:=y) _ Hroom.out hyn ((HE.out.below hbw3).below (by with_reducible (repeat refine .drew ?_);exact hrf3)) (Hok3.out.below (by with_reducible (repeat refine .drew ?_);exact hrf3))).mono ?_;rintro e w4 ⟨rfl,hb4'⟩;have hb4:Below w3.heap.size w3 w4:=Below.trans (by with_reducible (repeat refine .drew ?_);exact hrf3) hb4';clear hb4'))
   all_goals
    have hB4:=hB3.trans (hb4.mono (nZ hso hb3.size));have Hz:Hid (pwS E n y=idQ E (pwV E n y)):=pwS_idQ E n y;have Hm2:Hid ((strPos E n (.string (pwS E n y))+1).toNat<(strPos E n (.string (E y).id)+1).toNat):=Hmeas.out _ rfl;clear Hmeas hev;generalize pwS E n y=z at *;go_wp2
    go_roundw
    case rel=>first|exact ⟨pwV E n y,by rw [Hz.out],Hbd.out.1,by have:=Hbd.out.2;omega,Hdq,hB4⟩|((repeat apply Exists.intro);exact ⟨⟨pwV E n y,by rw [Hz.out],Hbd.out.1,by have:=Hbd.out.2;omega,Hdq,hB4⟩,rfl⟩)
    exact Hm2.out
variable {p q:Nat}
def befQ (dx dy:Nat)(x y:Ev):Bool:=if dx=dy then (if x.tm=y.tm then Op.bytesLess x.id.toList y.id.toList else decide (x.tm<y.tm)) else decide (dy<dx)
theorem befQ_iff (E:Nat->Ev)(D:Nat->Nat)(a b:Nat):befQ (D a) (D b) (E a) (E b)=true↔Bef E D a b:=by
 unfold befQ Bef
 by_cases h1:D a=D b
 ·rw [if_pos h1]
  by_cases h2:(E a).tm=(E b).tm
  ·rw [if_pos h2,ByteArray.toList_eq,ByteArray.toList_eq,bytesLess_eq,decide_eq_true_eq]
   constructor
   ·exact fun h=>Or.inr ⟨h1,Or.inr ⟨h2,h⟩⟩
   rintro (h|⟨_,h|⟨_,h⟩⟩)
   ·omega
   ·omega
   exact h
  rw [if_neg h2,decide_eq_true_eq];constructor
  ·exact fun h=>Or.inr ⟨h1,Or.inl h⟩
  rintro (h|⟨_,h|⟨h,_⟩⟩)
  ·omega
  ·exact h
  exact absurd h h2
 rw [if_neg h1,decide_eq_true_eq];constructor
 ·exact Or.inl
 rintro (h|⟨h,_⟩)
 ·exact h
 exact absurd h h1
theorem l6Bef_sl {la:Option Addr}{lc:Nat}{l:List Nat}(w:World)(hroom:roomTo E n=true)(hp:p<n)(hq:q<n)(hl:∀ i ∈ l,i<n)(hll:l.length<=300)(h:SlV w a n cap E)(hL:SlS w la l.length lc (lnS E l)) :
  Calls Tryz.prog 116 #[.agg #[.slice a n cap],.slice la l.length lc,.string (E p).id,.string (E q).id] w fun x w'=>x=.returned (.bool (befQ (dp E n l (p:Int)) (dp E n l (q:Int)) (E p) (E q)))∧Below w.heap.size w w':=by
 obtain ⟨wb,hwb⟩:∃ wb,wb=w.alloc (.cells #[.slice a n cap] 25):=⟨_,rfl⟩;have hb0:Below w.heap.size w wb:=by rw [hwb];exact bA
 have hs0:wb.heap.size=w.heap.size+1:=by rw [hwb];simp
 have hbx:Hid (∀ wx,Below (w.heap.size+1) wb wx->wx.cell? ⟨w.heap.size,0,none⟩=some (.slice a n cap)):=fun wx hx=>by subst hwb;exact box_cells hx 0
 have hid:∀ i:Nat,i<n->idQ E (i:Int)=(E i).id:=fun i hi=>by unfold idQ;rw [if_pos (by omega),Int.toNat_natCast]
 have hdx:Hid (∀ W,Below w.heap.size w W->Calls Tryz.prog 183 #[.agg #[.slice a n cap],.slice la l.length lc,.string (E p).id] W fun x w'=>x=.returned (.int .i64 (dp E n l (p:Int):Int))∧Below W.heap.size W w'):=fun W hW=>by
  have:=l6Depth_sl (p:Int) W hroom (by omega) (by omega) hl hll (h.below hW) (hL.below hW);rw [hid p hp] at this;exact this
 have hdy:Hid (∀ W,Below w.heap.size w W->Calls Tryz.prog 183 #[.agg #[.slice a n cap],.slice la l.length lc,.string (E q).id] W fun x w'=>x=.returned (.int .i64 (dp E n l (q:Int):Int))∧Below W.heap.size W w'):=fun W hW=>by
  have:=l6Depth_sl (q:Int) W hroom (by omega) (by omega) hl hll (h.below hW) (hL.below hW);rw [hid q hq] at this;exact this
 have hex:Hid (∀ W,Below w.heap.size w W->Calls Tryz.prog 103 #[.agg #[.slice a n cap],.string (E p).id] W (EePost W (E p))):=fun W hW=>l6Event_sl _ W (h.below hW) hp (posV_here hroom hp)
 have hey:Hid (∀ W,Below w.heap.size w W->Calls Tryz.prog 103 #[.agg #[.slice a n cap],.string (E q).id] W (EePost W (E q))):=fun W hW=>l6Event_sl _ W (h.below hW) hq (posV_here hroom hq)
 have hbx2:=dp_le E n l (p:Int);have hby2:=dp_le E n l (q:Int);clear hid hroom hl h hL;generalize dp E n l (p:Int)=dx at *;generalize dp E n l (q:Int)=dy at *;generalize E p=x at *;generalize E q=y at *;have hfx:∀ (pa:Option Addr) (cp:Nat) (aa:Option Addr) (ca:Nat) (ga:Option Addr) (cg:Nat) (W:World),(Instr.field 30 (.agg (ec x pa cp aa ca ga cg)) 5).run Tryz.prog W=.ok (.int .i64 x.tm) W:=fun _ _ _ _ _ _ _=>by kernel_rfl
 have hfy:∀ (pa:Option Addr) (cp:Nat) (aa:Option Addr) (ca:Nat) (ga:Option Addr) (cg:Nat) (W:World),(Instr.field 30 (.agg (ec y pa cp aa ca ga cg)) 5).run Tryz.prog W=.ok (.int .i64 y.tm) W:=fun _ _ _ _ _ _ _=>by kernel_rfl
 go_enter Tryz.func116,Tryz.ntmps116
 go_wp2_with fail
 rw [<- hwb];clear hwb;refine (hdx.out _ hb0).mono ?_;rintro e w1 ⟨rfl,hb1⟩;have hB1:=hb1.mono (B':=w.heap.size+1) (by omega);have hw1:=hb0.trans (hB1.mono (by omega));have hs1:w.heap.size+1<=w1.heap.size:=by have:=hB1.size;omega
 have hc1:=hbx.out _ hB1
 go_wp2_with fail
 refine (hdy.out _ hw1).mono ?_;rintro e wq ⟨rfl,hb2⟩;have hBq:=hB1.trans (hb2.mono hs1);have hwq:=hb0.trans (hBq.mono (by omega));have hsq:w.heap.size+1<=wq.heap.size:=by have:=hBq.size;omega
 have hcq:=hbx.out _ hBq;clear hdx hdy hb1 hb2 hB1 hw1 hs1 hc1
 by_cases hd:dx=dy
 case neg =>
  have Hr:Hid (decide (dy<dx)=befQ dx dy x y):=by unfold Hid befQ;rw [if_neg hd]
  have hd1:((dx:Int) == (dy:Int))=false:=by simp;omega
  have hd2:((dx:Int) != (dy:Int))=true:=by simp;omega
  have hd3:decide ((dy:Int)<(dx:Int))=decide (dy<dx):=by simp
  clear hd;go_wp2
  go_ret;exact ⟨by first|(rw [<- Hr.out,<- hd3];done)|(rw [<- Hr.out];simp),hwq⟩
 case pos =>
  subst hd;have hevx:Hid (∀ W,Below wq.heap.size wq W->Calls Tryz.prog 103 #[.agg #[.slice a n cap],.string x.id] W (EePost W x)):=fun W hW=>hex.out W (hwq.trans (hW.mono hwq.size))
  have hevy:Hid (∀ W,Below wq.heap.size wq W->Calls Tryz.prog 103 #[.agg #[.slice a n cap],.string y.id] W (EePost W y)):=fun W hW=>hey.out W (hwq.trans (hW.mono hwq.size))
  have hrf:Below wq.heap.size wq wq:=kB
  by_cases ht:x.tm=y.tm
  case pos =>
   have Hr:Hid (Op.bytesLess x.id.toList y.id.toList=befQ dx dx x y):=by unfold Hid befQ;rw [if_pos rfl,if_pos ht]
   have ht1:(x.tm != y.tm)=false:=by simp [ht]
   clear ht hex hey
   go_wp2_with fail
   go_region_with (first
    | (go_at_call_of 103 x.id;refine (hevx.out _ (by with_reducible (repeat refine .drew ?_);exact hrf)).mono ?_;rintro e wA ⟨hbA',paA,cpA,aaA,caA,gaA,cgA,hee,-⟩;have hef:e=.returned (.agg (ec x paA cpA aaA caA gaA cgA)):=hee;clear hee;subst hef;have hA:Below wq.heap.size wq wA:=Below.trans (by with_reducible (repeat refine .drew ?_);exact hrf) hbA';have hcA:=hbx.out _ (hBq.trans (hA.mono hsq)))
    | (go_at_call_of 103 y.id;refine (hevy.out _ (by with_reducible (repeat refine .drew ?_);exact hrf)).mono ?_;rintro e wB ⟨hbB',paB,cpB,aaB,caB,gaB,cgB,hee,-⟩;have hef:e=.returned (.agg (ec y paB cpB aaB caB gaB cgB)):=hee;clear hee;subst hef;have hB:Below wq.heap.size wq wB:=Below.trans (by with_reducible (repeat refine .drew ?_);exact hrf) hbB';have hcB:=hbx.out _ (hBq.trans (hB.mono hsq)))
    | (go_at_call_of 103 x.id;refine (hevx.out _ (by with_reducible (repeat refine .drew ?_);exact hB)).mono ?_;rintro e wA ⟨hbA',paA,cpA,aaA,caA,gaA,cgA,hee,-⟩;have hef:e=.returned (.agg (ec x paA cpA aaA caA gaA cgA)):=hee;clear hee;subst hef;have hA:Below wq.heap.size wq wA:=Below.trans (by with_reducible (repeat refine .drew ?_);exact hB) (hbA'.mono hB.size);have hcA:=hbx.out _ (hBq.trans (hA.mono hsq)))
    | (go_at_call_of 103 y.id;refine (hevy.out _ (by with_reducible (repeat refine .drew ?_);exact hA)).mono ?_;rintro e wB ⟨hbB',paB,cpB,aaB,caB,gaB,cgB,hee,-⟩;have hef:e=.returned (.agg (ec y paB cpB aaB caB gaB cgB)):=hee;clear hee;subst hef;have hB:Below wq.heap.size wq wB:=Below.trans (by with_reducible (repeat refine .drew ?_);exact hA) (hbB'.mono hA.size);have hcB:=hbx.out _ (hBq.trans (hB.mono hsq))))
   all_goals
    go_wp2
    go_ret;exact ⟨ret_bool Hr.out,by first|exact hwq.trans (hA.mono hwq.size)|exact hwq.trans (hB.mono hwq.size)|exact (hwq.trans (hA.mono hwq.size)).drew|exact (hwq.trans (hB.mono hwq.size)).drew⟩
  case neg =>
   have Hr:Hid (decide (x.tm<y.tm)=befQ dx dx x y):=by unfold Hid befQ;rw [if_pos rfl,if_neg ht]
   have ht1:(x.tm != y.tm)=true:=by simpa using ht
   have hevx0:Hid (∀ W,Below w.heap.size w W->Calls Tryz.prog 103 #[.agg #[.slice a n cap],.string x.id] W (EePost W x)):=hex;have hevy0:Hid (∀ W,Below w.heap.size w W->Calls Tryz.prog 103 #[.agg #[.slice a n cap],.string y.id] W (EePost W y)):=hey;clear ht hex hey
   go_wp2_with fail
   go_cut [33] from 11 to 45 (fun v wx=>v=.bool true∧Below wq.heap.size wq wx)
   case first =>
    go_region_with (first
     | (go_at_call_of 103 x.id;refine (hevx.out _ (by with_reducible (repeat refine .drew ?_);exact hrf)).mono ?_;rintro e wA ⟨hbA',paA,cpA,aaA,caA,gaA,cgA,hee,-⟩;have hef:e=.returned (.agg (ec x paA cpA aaA caA gaA cgA)):=hee;clear hee;subst hef;have hA:Below wq.heap.size wq wA:=Below.trans (by with_reducible (repeat refine .drew ?_);exact hrf) hbA';have hcA:=hbx.out _ (hBq.trans (hA.mono hsq)))
     | (go_at_call_of 103 y.id;refine (hevy.out _ (by with_reducible (repeat refine .drew ?_);exact hrf)).mono ?_;rintro e wB ⟨hbB',paB,cpB,aaB,caB,gaB,cgB,hee,-⟩;have hef:e=.returned (.agg (ec y paB cpB aaB caB gaB cgB)):=hee;clear hee;subst hef;have hB:Below wq.heap.size wq wB:=Below.trans (by with_reducible (repeat refine .drew ?_);exact hrf) hbB';have hcB:=hbx.out _ (hBq.trans (hB.mono hsq)))
     | (go_at_call_of 103 x.id;refine (hevx.out _ (by with_reducible (repeat refine .drew ?_);exact hB)).mono ?_;rintro e wA ⟨hbA',paA,cpA,aaA,caA,gaA,cgA,hee,-⟩;have hef:e=.returned (.agg (ec x paA cpA aaA caA gaA cgA)):=hee;clear hee;subst hef;have hA:Below wq.heap.size wq wA:=Below.trans (by with_reducible (repeat refine .drew ?_);exact hB) (hbA'.mono hB.size);have hcA:=hbx.out _ (hBq.trans (hA.mono hsq)))
     | (go_at_call_of 103 y.id;refine (hevy.out _ (by with_reducible (repeat refine .drew ?_);exact hA)).mono ?_;rintro e wB ⟨hbB',paB,cpB,aaB,caB,gaB,cgB,hee,-⟩;have hef:e=.returned (.agg (ec y paB cpB aaB caB gaB cgB)):=hee;clear hee;subst hef;have hB:Below wq.heap.size wq wB:=Below.trans (by with_reducible (repeat refine .drew ?_);exact hA) (hbB'.mono hA.size);have hcB:=hbx.out _ (hBq.trans (hB.mono hsq))))
    all_goals (try go_wp2_with fail)
    all_goals go_meet
    all_goals exact ⟨by first|rfl|rw [ht1],by first|exact hA|exact hB|exact hA.drew|exact hB.drew⟩
   case rest =>
    obtain ⟨rfl,hbc⟩:=hcut;obtain ⟨wr5,hwr5⟩:∃ wr5:World,wr5=wc:=⟨_,rfl⟩;subst hwr5;have hBq2:=hBq.trans (hbc.mono hsq);have hwq2:=hb0.trans (hBq2.mono (by omega));have hsq2:w.heap.size+1<=wr5.heap.size:=by have:=hBq2.size;omega
    have hcq2:=hbx.out _ hBq2;clear hevx hevy hrf hBq hwq hsq hcq hbc ht1;have hevx:Hid (∀ W,Below wr5.heap.size wr5 W->Calls Tryz.prog 103 #[.agg #[.slice a n cap],.string x.id] W (EePost W x)):=fun W hW=>hevx0.out W (hwq2.trans (hW.mono hwq2.size))
    have hevy:Hid (∀ W,Below wr5.heap.size wr5 W->Calls Tryz.prog 103 #[.agg #[.slice a n cap],.string y.id] W (EePost W y)):=fun W hW=>hevy0.out W (hwq2.trans (hW.mono hwq2.size))
    have hrf:Below wr5.heap.size wr5 wr5:=kB;clear hevx0 hevy0
    go_wp2_with fail
    go_region_with (first
     | (go_at_call_of 103 x.id;refine (hevx.out _ (by with_reducible (repeat refine .drew ?_);exact hrf)).mono ?_;rintro e wA ⟨hbA',paA,cpA,aaA,caA,gaA,cgA,hee,-⟩;have hef:e=.returned (.agg (ec x paA cpA aaA caA gaA cgA)):=hee;clear hee;subst hef;have hA:Below wr5.heap.size wr5 wA:=Below.trans (by with_reducible (repeat refine .drew ?_);exact hrf) hbA';have hcA:=hbx.out _ (hBq2.trans (hA.mono hsq2)))
     | (go_at_call_of 103 y.id;refine (hevy.out _ (by with_reducible (repeat refine .drew ?_);exact hrf)).mono ?_;rintro e wB ⟨hbB',paB,cpB,aaB,caB,gaB,cgB,hee,-⟩;have hef:e=.returned (.agg (ec y paB cpB aaB caB gaB cgB)):=hee;clear hee;subst hef;have hB:Below wr5.heap.size wr5 wB:=Below.trans (by with_reducible (repeat refine .drew ?_);exact hrf) hbB';have hcB:=hbx.out _ (hBq2.trans (hB.mono hsq2)))
     | (go_at_call_of 103 x.id;refine (hevx.out _ (by with_reducible (repeat refine .drew ?_);exact hB)).mono ?_;rintro e wA ⟨hbA',paA,cpA,aaA,caA,gaA,cgA,hee,-⟩;have hef:e=.returned (.agg (ec x paA cpA aaA caA gaA cgA)):=hee;clear hee;subst hef;have hA:Below wr5.heap.size wr5 wA:=Below.trans (by with_reducible (repeat refine .drew ?_);exact hB) (hbA'.mono hB.size);have hcA:=hbx.out _ (hBq2.trans (hA.mono hsq2)))
     | (go_at_call_of 103 y.id;refine (hevy.out _ (by with_reducible (repeat refine .drew ?_);exact hA)).mono ?_;rintro e wB ⟨hbB',paB,cpB,aaB,caB,gaB,cgB,hee,-⟩;have hef:e=.returned (.agg (ec y paB cpB aaB caB gaB cgB)):=hee;clear hee;subst hef;have hB:Below wr5.heap.size wr5 wB:=Below.trans (by with_reducible (repeat refine .drew ?_);exact hA) (hbB'.mono hA.size);have hcB:=hbx.out _ (hBq2.trans (hB.mono hsq2))))
    all_goals
     go_wp2
     go_ret;exact ⟨ret_bool Hr.out,by first|exact hwq2.trans (hA.mono hwq2.size)|exact hwq2.trans (hB.mono hwq2.size)|exact (hwq2.trans (hA.mono hwq2.size)).drew|exact (hwq2.trans (hB.mono hwq2.size)).drew⟩
end Go.Proofs.YtkdalopokdhndaaGreat
