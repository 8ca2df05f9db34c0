import Derived.Test.YtkdalopokdhndaaGreatRmSZ
set_option maxHeartbeats 16000000
set_option maxRecDepth 100000
namespace Go.Proofs.YtkdalopokdhndaaGreat
open Go.RowKit
variable {E:Nat->Ev}{n p q ca cg cp cap:Nat}{a aa ga pa:Option Addr}
theorem evP_pow (h:roomTo E n=true):∀ i,i<n->evP ⟨#[112,111,119,101,114]⟩ ⟨#[]⟩ (E i)=isPow (E i):=fun i hi=>by
 have e1:(⟨#[112,111,119,101,114]⟩:ByteArray).toList=[112,111,119,101,114]:=by rw [ByteArray.toList_eq]
 have e2:(⟨#[]⟩:ByteArray).toList=[]:=by rw [ByteArray.toList_eq]
 unfold evP;rw [e1,e2];cases hp:isPow (E i)
 ·unfold isPow at hp
  rw [hp];simp
 obtain ⟨h1,h2⟩:=ev_pow (room_code h hi) hp;unfold isPow at hp;rw [hp,h1]
 have:(E i).key.toList=[]:=by simpa using h2
 rw [this];rfl
def pwS (E:Nat->Ev)(n p:Nat):ByteArray:=if 0<=pwV E n p then (E (pwV E n p).toNat).id else ⟨#[]⟩
theorem frV_pw (h:roomTo E n=true)(hp:p<n):frV E n (evP ⟨#[112,111,119,101,114]⟩ ⟨#[]⟩) (E p)=pwS E n p:=by
 unfold frV pwS pwV;rw [scTo_congr h hp (evP_pow h) _ nL]
theorem l6Pow_sl (w:World)(hroom:roomTo E n=true)(hq:q<n)(h:SlV w a n cap E)(he:EvOk w (E q) pa cp aa ca ga cg) :
  Calls Tryz.prog 182 #[.agg #[.slice a n cap],(E q).val' pa cp aa ca ga cg] w fun x w'=>x=.returned (.string (pwS E n q))∧Below w.heap.size w w':=by
 have hC:Hid (∀ W,Below w.heap.size w W->Calls Tryz.prog 218 #[.agg #[.slice a n cap],(E q).val' pa cp aa ca ga cg,.string ⟨#[112,111,119,101,114]⟩,.string ⟨#[]⟩] W fun x w'=>x=.returned (.string (pwS E n q))∧Below W.heap.size W w'):=fun W hW=>by
  have:=l6From_sl ⟨#[112,111,119,101,114]⟩ ⟨#[]⟩ W hroom hq (h.below hW) (he.below hW);rw [frV_pw hroom hq] at this;exact this
 have hb0:Below w.heap.size w (boxes w a n cap (E q) pa cp aa ca ga cg):=bA.alloc (by simp) _;clear hroom hq h he;generalize pwS E n q=z at *;generalize E q=ev at *
 go_enter Tryz.func182,Tryz.ntmps182
 go_wp2_with fail
 refine (hC.out _ hb0).mono ?_;rintro e w1 ⟨rfl,hb1⟩;go_wp2
 go_ret;exact ⟨rfl,hb0.trans (hb1.mono hb0.size)⟩
def idQ (E:Nat->Ev)(q:Int):ByteArray:=if 0<=q then (E q.toNat).id else ⟨#[]⟩
theorem pwS_idQ (E:Nat->Ev)(n p:Nat):pwS E n p=idQ E (pwV E n p):=rfl
def strPos (E:Nat->Ev)(n:Nat):Value->Int
 | .string t=>posV E n t
 | _=>-1
theorem strPos_idQ (h:roomTo E n=true){q:Int}(h1:-1<=q)(h2:q<n):strPos E n (.string (idQ E q))=q:=by
 show posV E n (idQ E q)=q
 unfold idQ
 by_cases h0:0<=q
 ·rw [if_pos h0,posV_here h (show q.toNat<n by omega)]
  omega
 rw [if_neg h0,posV_empty h (by rw [ByteArray.toList_eq];rfl)];omega
def LmPost (w:World)(E:Nat->Ev)(l:List Nat)(e:Ending)(w':World):Prop :=
 ∃ v,e=.returned v∧OwnT w' w.heap.size v l.length (fun k=>(E (lX l k).toNat).id)∧Below w.heap.size w w'
def LmRel (w wb:World)(E:Nat->Ev)(n:Nat)(l:List Nat)(s v:Value)(wr:World):Prop :=
 ∃ (q:Int) (k:Nat),s=.string (idQ E q)∧-1<=q∧q<n∧k<=l.length∧Hid (l.drop k=ln E n q)∧OwnT wr (w.heap.size+1) v k (fun k=>(E (lX l k).toNat).id)∧Below (w.heap.size+1) wb wr
theorem l6Line_sl (q0:Int)(w:World)(hroom:roomTo E n=true)(h1:-1<=q0)(h2:q0<n)(h:SlV w a n cap E) :
  Calls Tryz.prog 115 #[.agg #[.slice a n cap],.string (idQ E q0)] w (LmPost w E (ln E n q0)):=by
 have h300:=room_300 hroom;obtain ⟨i0,hi,hz0,hz1,hz2⟩:=info_parts Tryz.infoString;obtain ⟨l,hl⟩:∃ l,l=ln E n q0:=⟨_,rfl⟩;have hll:l.length<=300:=by rw [hl];have:=ln_len E n q0;omega
 have Hl0:Hid (l.drop 0=ln E n q0):=by unfold Hid;rw [<- hl];rfl
 rw [<- hl];clear hl;obtain ⟨wb,hwb⟩:∃ wb,wb=w.alloc (.cells #[.slice a n cap] 25):=⟨_,rfl⟩;have hb0:Below w.heap.size w wb:=by rw [hwb];exact bA
 have hs0:wb.heap.size=w.heap.size+1:=by rw [hwb];simp
 have hb1:Below (w.heap.size+1) wb (wb.alloc (.cells #[] 9)):=kB.alloc (by omega) _;have ho1:OwnT (wb.alloc (.cells #[] 9)) (w.heap.size+1) (.slice (some ⟨wb.heap.size,0,none⟩) 0 0) 0 (fun k=>(E (lX l k).toNat).id):=OwnT.new wb _ (by omega) _;rw [hs0] at ho1;have hbx:Hid (∀ wx,Below (w.heap.size+1) wb wx->wx.cell? ⟨w.heap.size,0,none⟩=some (.slice a n cap)):=fun wx hx=>by subst hwb;exact box_cells hx 0
 have Hroom:Hid (_):=hroom;have HE:Hid (SlV w a n cap E):=h;clear hroom h
 go_enter Tryz.func115,Tryz.ntmps115
 go_wp2_with fail
 rw [<- hwb];clear hwb
 go_loopw [1,5] (fun s v wr=>LmRel w wb E n l s v wr) (fun s _ _=>(strPos E n s+1).toNat)
 case atStart=>exact ⟨q0,0,rfl,h1,h2,nz,Hl0,ho1,hb1⟩
 case round =>
  clear Hl0 ho1 hb1;obtain ⟨q,k,rfl,hq1,hq2,hk,hdr,hown,hbl⟩:=hrel;have hbw:=hb0.trans (hbl.mono (by omega));have hso:w.heap.size+1<=wr.heap.size:=by have:=hbl.size;omega
  by_cases hneg:q=-1
  ·subst hneg
   have hke:k=l.length:=ln_end (by rw [hdr.out,ln_neg _ _ (by decide)]) hk;subst hke;have hid:idQ E (-1)=⟨#[]⟩:=rfl;rw [hid];go_wp2
   go_ret;exact ⟨_,rfl,hown.mono (by omega),hbw⟩
  obtain ⟨y,rfl⟩:∃ y:Nat,q=(y:Int):=⟨q.toNat,by omega⟩;have hyn:y<n:=by omega
  have hid:idQ E (y:Int)=(E y).id:=by unfold idQ;rw [if_pos (by omega),Int.toNat_natCast]
  have Hmeas:Hid (∀ z,z=pwS E n y->(strPos E n (.string z)+1).toNat<(strPos E n (.string (E y).id)+1).toNat):=fun z hz=>by
   have hbd:=pwV_bd Hroom.out hyn;rw [hz,pwS_idQ,strPos_idQ Hroom.out hbd.1 (by omega),<- hid,strPos_idQ Hroom.out (by omega) (by omega)];omega
  rw [hid];obtain ⟨hx1,hx2,hx3⟩:=ln_at (hdr.out.trans (ln_cons Hroom.out hyn));have Hx1:Hid ((E y).id=(E (lX l k).toNat).id):=by unfold Hid;rw [hx1,Int.toNat_natCast]
  have Hx2:Hid (_=_):=hx2;have Hbd:Hid (_∧_):=pwV_bd Hroom.out hyn;have hne:(E y).id.toList.isEmpty=false:=ev_id (room_code Hroom.out hyn);have hm1:k+1<=maxLen:=by unfold maxLen;omega
  have hm2:(k+1) * 16<=140737488355328:=by omega
  have hm3:∀ o,w.heap.size+1<=(wr.alloc o).heap.size:=fun o=>by simp;omega
  have hag:Hid (∀ q',u5.ownBlock=some q'->w.heap.size+1<=q'):=fun q' hq'=>(World.ownsRow.lt hown q' hq').1
  clear hx1 hx2 hdr hneg hid
  go_wp2_with (at_builtin;refine wpList_append_own _ rfl _ _ 27 rfl (w.heap.size+1) 9 i0 (.string ByteArray.empty) 1 16 Tryz.underlying27 hi hz0 hz1 hz2 rfl (by decide) _ _ _ rfl (World.ownsRow.alloc hown _) ⟨wr.heap.size,0,none⟩ 1 1 [.string (E y).id] rfl rfl (one_cells _ _ _) (one_one _) hm1 hm2 (hm3 _) ?_;intro v2 w2 hown2 hgrow2 _)
  have hB2:Below (w.heap.size+1) wb w2:=(hbl.alloc (by omega) _).grown hgrow2 (hm3 _) hag.out;have hown3:OwnT w2 (w.heap.size+1) v2 (k+1) (fun k=>(E (lX l k).toNat).id):=OwnT.snoc hown2 Hx1.out;have hbw2:=hb0.trans (hB2.mono (by omega));have hso2:w.heap.size+1<=w2.heap.size:=by have:=hB2.size;omega
  have x02:=hbx.out _ hB2;have hrf:Below w2.heap.size w2 w2:=kB;have hev:Hid (∀ W,Below w2.heap.size w2 W->Calls Tryz.prog 103 #[.agg #[.slice a n cap],.string (E y).id] W (EePost W (E y))):=fun W hW=>l6Event_sl _ W (HE.out.below (hbw2.trans (hW.mono hbw2.size))) hyn (posV_here Hroom.out hyn)
  clear hown hown2 hgrow2 hbl hbw hm3 hag
  go_region_with (first
   | (go_at_call 103;refine (hev.out _ (by with_reducible (repeat refine .drew ?_);exact hrf)).mono ?_;rintro e w3 ⟨hb3',pa3,cp3,aa3,ca3,ga3,cg3,rfl,hok3'⟩;have Hok3:Hid (EvOk w3 (E y) pa3 cp3 aa3 ca3 ga3 cg3):=hok3';have hb3:Below w2.heap.size w2 w3:=Below.trans (by with_reducible (repeat refine .drew ?_);exact hrf) hb3';clear hok3' hb3';have hB3:=hB2.trans (hb3.mono hso2);have x03:=hbx.out _ hB3;have hbw3:=hb0.trans (hB3.mono (by omega));have hrf3:Below w3.heap.size w3 w3:=kB)
   | (go_at_call 182;refine (l6Pow_sl (a:=a) (n:=n) (cap:=cap) (E:=E) (q:=y) _ Hroom.out hyn ((HE.out.below hbw3).below (by with_reducible (repeat refine .drew ?_);exact hrf3)) (Hok3.out.below (by with_reducible (repeat refine .drew ?_);exact hrf3))).mono ?_;rintro e w4 ⟨rfl,hb4'⟩;have hb4:Below w3.heap.size w3 w4:=Below.trans (by with_reducible (repeat refine .drew ?_);exact hrf3) hb4';clear hb4'))
  all_goals
   have hB4:=hB3.trans (hb4.mono (nZ hso2 hb3.size));have hown4:=(hown3.below hb3).below hb4;have Hz:Hid (pwS E n y=idQ E (pwV E n y)):=pwS_idQ E n y;have Hm2:Hid ((strPos E n (.string (pwS E n y))+1).toNat<(strPos E n (.string (E y).id)+1).toNat):=Hmeas.out _ rfl;clear Hmeas hev;generalize pwS E n y=z at *;go_wp2
   go_roundw
   case rel =>
    (repeat apply Exists.intro)
    exact ⟨⟨pwV E n y,k+1,by rw [Hz.out],Hbd.out.1,by have:=Hbd.out.2;omega,hx3,Hx2,hown4,hB4⟩,rfl⟩
   exact Hm2.out
theorem mlS_sl (s:ByteArray)(w:World)(h:SlV w a n cap E) :
  Calls Tryz.prog 58 #[.agg #[.slice a n cap],.string s] w (MlPost w E n s):=by
 have hb0:∀ o,Below w.heap.size w (w.alloc o):=fun o=>bA
 go_enter Tryz.func58,Tryz.ntmps58
 go_wp2_with fail
 refine (roomS_sl _ (h.below (hb0 _))).mono ?_;rintro e w1 ⟨rfl,hb1⟩;have hB1:=hb1.mono (B':=w.heap.size+1) (by simp);have hw1:=(hb0 _).trans (hb1.mono (by simp));have hcl:=box_cells hB1 0;have hs1:w.heap.size+1<=w1.heap.size:=by simpa using hB1.size
 clear hb1;cases hroom:roomTo E n
 case false =>
  have Hq:Hid (mlOk E n s=false):=by unfold Hid mlOk;rw [hroom];rfl
  go_wp2
  refine bodyPost_ret (v:=.tuple #[.slice (some ⟨w1.heap.size,0,none⟩) 0 0,.bool false]) (by simp [results,Tryz.results58,go_sem]) rfl (MlPost.no Hq.out (hw1.alloc hw1.size _) (fun S=>OwnT.new w1 _ hw1.size S))
 case true =>
  have Hroom:Hid (_):=hroom;cases hse:s.toList.isEmpty
  case true =>
   have Hq:Hid (mlOk E n s=true):=by unfold Hid mlOk;rw [hroom,hse];rfl
   have Hpos:Hid (posV E n s=-1):=posV_empty hroom hse
   have hsz:s=⟨#[]⟩:=by
    have h0:s.toList=[]:=by simpa using hse
    exact ba_of_toList (by rw [h0,ByteArray.toList_eq];rfl)
   have HC:Hid (∀ W,Below w.heap.size w W->Calls Tryz.prog 115 #[.agg #[.slice a n cap],.string s] W (LmPost W E (ln E n (-1)))):=fun W hW=>by
    have:=l6Line_sl (E:=E) (n:=n) (-1) W Hroom.out (by omega) (by omega) (h.below hW);rw [hsz];exact this
   clear hsz hroom
   go_wp2_with fail
   refine (HC.out _ hw1).mono ?_;rintro e w2 ⟨v,rfl,ho,hb2⟩;have hw2:=hw1.trans (hb2.mono hw1.size);go_wp2
   refine bodyPost_ret (v:=.tuple #[v,.bool true]) (by simp [results,Tryz.results58,go_sem]) rfl (MlPost.yes Hq.out (by rw [Hpos.out]) hw2 (ho.mono hw1.size))
  case false =>
   cases hkn:decide (0<=posV E n s)
   case false =>
    have Hq:Hid (mlOk E n s=false):=by unfold Hid mlOk;rw [hroom,hse,hkn];rfl
    have hneg:posV E n s<0:=by have:=of_decide_eq_false hkn;omega
    have HA:Hid (∀ W,Below w.heap.size w W->Calls Tryz.prog 55 #[.agg #[.slice a n cap],.string s] W fun e w'=>e=.returned (.int .i64 (posV E n s))∧w'=W.alloc (.cells #[.slice a n cap] 25)):=fun W hW=>l2At_sl s W (h.below hW)
    clear hroom hkn;generalize posV E n s=z at *
    go_wp2_with fail
    refine (HA.out _ hw1).mono ?_;rintro e w2 ⟨rfl,hw2e⟩;have hb2:Below w1.heap.size w1 w2:=by rw [hw2e];exact bA
    have hw2:=hw1.trans (hb2.mono hw1.size);have hcl2:=(hb2.cell (p:=⟨w.heap.size,0,none⟩) (by show w.heap.size<w1.heap.size;omega)).trans hcl;clear hw2e;go_wp2
    refine bodyPost_ret (v:=.tuple #[.slice (some ⟨w2.heap.size,0,none⟩) 0 0,.bool false]) (by simp [results,Tryz.results58,go_sem]) rfl (MlPost.no Hq.out (hw2.alloc hw2.size _) (fun S=>OwnT.new w2 _ hw2.size S))
   case true =>
    obtain ⟨p,hp,ep,eid⟩:∃ p:Nat,p<n∧posV E n s=(p:Int)∧(E p).id=s:=by
     obtain ⟨i,hi,e,hb⟩:=posV_found E s n (of_decide_eq_true hkn);exact ⟨i,hi,e,ba_of_toList hb⟩
    have HA:Hid (∀ W,Below w.heap.size w W->Calls Tryz.prog 55 #[.agg #[.slice a n cap],.string s] W fun e w'=>e=.returned (.int .i64 (p:Int))∧w'=W.alloc (.cells #[.slice a n cap] 25)):=fun W hW=>by
     have:=l2At_sl s W (h.below hW);rw [ep] at this;exact this
    have HV:Hid (∀ W,Below w.heap.size w W->Calls Tryz.prog 103 #[.agg #[.slice a n cap],.string s] W (EePost W (E p))):=fun W hW=>l6Event_sl s W (h.below hW) hp ep
    have HL:Hid (∀ W,Below w.heap.size w W->Calls Tryz.prog 115 #[.agg #[.slice a n cap],.string s] W (LmPost W E (ln E n (p:Int)))):=fun W hW=>by
     have:=l6Line_sl (E:=E) (n:=n) (p:Int) W Hroom.out (by omega) (by omega) (h.below hW);rw [show idQ E (p:Int)=s from by unfold idQ;rw [if_pos (by omega),Int.toNat_natCast];exact eid] at this;exact this
    have Hq:Hid (mlOk E n s=isPow (E p)):=by unfold Hid mlOk;rw [hroom,hse,ep,Int.toNat_natCast];simp
    have Hep:Hid (_=_):=ep;clear hroom hkn ep eid
    go_wp2_with fail
    refine (HA.out _ hw1).mono ?_;rintro e w2 ⟨rfl,hw2e⟩;have hb2:Below w1.heap.size w1 w2:=by rw [hw2e];exact bA
    have hw2:=hw1.trans (hb2.mono hw1.size);have hs2:w.heap.size+1<=w2.heap.size:=nZ hs1 hb2.size;have hcl2:=(hb2.cell (p:=⟨w.heap.size,0,none⟩) (by show w.heap.size<w1.heap.size;omega)).trans hcl;have hpn:¬ ((p:Int)<0):=by omega
    clear hw2e
    go_wp2_with fail
    refine (HV.out _ hw2).mono ?_;rintro e w3 ⟨hb3,pa3,cp3,aa3,ca3,ga3,cg3,hee,-⟩;have hef:e=.returned (.agg (ec (E p) pa3 cp3 aa3 ca3 ga3 cg3)):=hee;clear hee;subst hef;have hw3:=hw2.trans (hb3.mono hw2.size);have hcl3:=(hb3.cell (p:=⟨w.heap.size,0,none⟩) (by show w.heap.size<w2.heap.size;omega)).trans hcl2;clear HA HV;cases hpw:isPow (E p)
    case false =>
     have hqt:((E p).ty.toList == [112,111,119,101,114])=false:=hpw;have Hq2:Hid (mlOk E n s=false):=Hq.out.trans hpw;clear Hq hpw;generalize E p=ev at *;have hfd:∀ W:World,(Instr.field 30 (.agg (ec ev pa3 cp3 aa3 ca3 ga3 cg3)) 2).run Tryz.prog W=.ok (.string ev.ty) W:=fun _=>by kernel_rfl
     go_wp2
     refine bodyPost_ret (v:=.tuple #[.slice (some ⟨w3.heap.size,0,none⟩) 0 0,.bool false]) (by simp [results,Tryz.results58,go_sem]) rfl (MlPost.no Hq2.out (hw3.alloc hw3.size _) (fun S=>OwnT.new w3 _ hw3.size S))
    case true =>
     have hqt:((E p).ty.toList == [112,111,119,101,114])=true:=hpw;have Hq2:Hid (mlOk E n s=true):=Hq.out.trans hpw;clear Hq hpw;generalize E p=ev at *;have hfd:∀ W:World,(Instr.field 30 (.agg (ec ev pa3 cp3 aa3 ca3 ga3 cg3)) 2).run Tryz.prog W=.ok (.string ev.ty) W:=fun _=>by kernel_rfl
     go_wp2_with fail
     refine (HL.out _ hw3).mono ?_;rintro e w4 ⟨v,rfl,ho,hb4⟩;have hw4:=hw3.trans (hb4.mono hw3.size);go_wp2
     refine bodyPost_ret (v:=.tuple #[v,.bool true]) (by simp [results,Tryz.results58,go_sem]) rfl (MlPost.yes Hq2.out (by rw [Hep.out]) hw4 (ho.mono hw3.size))
variable {b lc:Nat}{la:Option Addr}
def lnS (E:Nat->Ev)(l:List Nat)(k:Nat):ByteArray:=(E (lX l k).toNat).id
theorem ids_ne {a:Nat}(h:roomTo E n=true)(ha:a<n)(hb:b<n)(hne:a≠b):((E a).id.toList == (E b).id.toList)=false:=by
 cases hq:((E a).id.toList == (E b).id.toList)
 ·rfl
 have e:=ba_of_toList hq;have e1:=posV_here h ha;rw [e,posV_here h hb] at e1;omega
def DpRel (wb:World)(B:Nat)(E:Nat->Ev)(n:Nat)(l:List Nat)(q0:Int)(s:Value)(wr:World):Prop :=
 ∃ q:Int,s=.string (idQ E q)∧-1<=q∧q<n∧Hid (dp E n l q0=dp E n l q)∧Below B wb wr
theorem l6Depth_sl {l:List Nat}(q0:Int)(w:World)(hroom:roomTo E n=true)(h1:-1<=q0)(h2:q0<n)(hl:∀ i ∈ l,i<n)(hll:l.length<=300)(h:SlV w a n cap E)(hL:SlS w la l.length lc (lnS E l)) :
  Calls Tryz.prog 183 #[.agg #[.slice a n cap],.slice la l.length lc,.string (idQ E q0)] w fun x w'=>x=.returned (.int .i64 (dp E n l q0:Int))∧Below w.heap.size w w':=by
 have h300:=room_300 hroom;obtain ⟨wb,hwb⟩:∃ wb,wb=w.alloc (.cells #[.slice a n cap] 25):=⟨_,rfl⟩;have hb0:Below w.heap.size w wb:=by rw [hwb];exact bA
 have hs0:wb.heap.size=w.heap.size+1:=by rw [hwb];simp
 have hbx:Hid (∀ wx,Below (w.heap.size+1) wb wx->wx.cell? ⟨w.heap.size,0,none⟩=some (.slice a n cap)):=fun wx hx=>by subst hwb;exact box_cells hx 0
 have Hroom:Hid (_):=hroom;have HE:Hid (SlV w a n cap E):=h;have HLs:Hid (SlS w la l.length lc (lnS E l)):=hL;have Hl:Hid (_):=hl;clear hroom h hL hl
 go_enter Tryz.func183,Tryz.ntmps183
 go_wp2_with fail
 rw [<- hwb];clear hwb
 go_loopw [2] (fun s wr=>DpRel wb (w.heap.size+1) E n l q0 s wr) (fun s _=>(strPos E n s+1).toNat)
 case atStart=>exact ⟨q0,rfl,h1,h2,rfl,kB⟩
 case round =>
  obtain ⟨q,rfl,hq1,hq2,hdq,hbl⟩:=hrel;have hbw:=hb0.trans (hbl.mono (by omega));have hso:w.heap.size+1<=wr.heap.size:=by have:=hbl.size;omega
  by_cases hneg:q=-1
  ·subst hneg
   have hid:idQ E (-1)=⟨#[]⟩:=rfl;have Hd:Hid ((l.length:Int)=(dp E n l q0:Int)):=by unfold Hid;rw [hdq.out,dp_neg _ _ _ (by decide)]
   rw [hid];go_wp2
   go_ret;exact ⟨ret_int Hd.out,hbw⟩
  obtain ⟨y,rfl⟩:∃ y:Nat,q=(y:Int):=⟨q.toNat,by omega⟩;have hyn:y<n:=by omega
  have hid:idQ E (y:Int)=(E y).id:=by unfold idQ;rw [if_pos (by omega),Int.toNat_natCast]
  have Hmeas:Hid (∀ z,z=pwS E n y->(strPos E n (.string z)+1).toNat<(strPos E n (.string (E y).id)+1).toNat):=fun z hz=>by
   have hbd:=pwV_bd Hroom.out hyn;rw [hz,pwS_idQ,strPos_idQ Hroom.out hbd.1 (by omega),<- hid,strPos_idQ Hroom.out (by omega) (by omega)];omega
  rw [hid];have Hbd:Hid (_∧_):=pwV_bd Hroom.out hyn;have hne:(E y).id.toList.isEmpty=false:=ev_id (room_code Hroom.out hyn);clear hneg hid;obtain ⟨wo,hwo⟩:∃ wo:World,wo=wr:=⟨_,rfl⟩;subst hwo
  go_wp2_with fail
  go_loop [7] (fun iv=>∃ k:Nat,k<=l.length∧iv=.int .i64 k∧Hid (∀ i,i<k->l.getD i 0≠y)) (fun iv=>l.length - (intOf iv).toNat)
  case atStart=>exact ⟨0,nz,rfl,fun i hi=>absurd hi (Nat.not_lt_zero _)⟩
  case round =>
   obtain ⟨k,hk,rfl,hto⟩:=hrel
   by_cases hlt:k<l.length
   ·rcases HLs.out.cells with h0|⟨lb,lo,rfl,hlb,hlc⟩
    ·omega
    have hp:l.getD k 0<n:=Hl.out _ (by simp [List.getD,List.getElem?_eq_getElem hlt])
    have hck:wo.cell? ⟨lb,lo+k,none⟩=some (.string (E (l.getD k 0)).id):=by
     have:=(hbw.cell (by exact hlb)).trans (hlc k hlt);unfold lnS lX at this;rw [Int.toNat_natCast] at this;exact this
    by_cases he:l.getD k 0=y
    ·have Hd:Hid ((k:Int)=(dp E n l q0:Int)):=by
      have hh:=lnI_hit hlt hto.out he;unfold Hid;rw [hdq.out,dp_in hyn (by rw [hh];exact hlt),hh]
     rw [he] at hck;have heq:((E y).id.toList == (E y).id.toList)=true:=by simp
     clear hlc hto he;go_wp2
     go_ret;exact ⟨ret_int Hd.out,hbw⟩
    have heq:=ids_ne Hroom.out hp hyn he
    have Hto:Hid (∀ i,i<k+1->l.getD i 0≠y):=fun i hi=>by
     by_cases e:i=k
     ·subst e;exact he
     exact hto.out i (by omega)
    clear hlc hto he hp;generalize (E (l.getD k 0)).id=s at *;go_wp2
    go_round
    case rel=>exact ⟨k+1,by omega,by go_num,Hto⟩
    simp [intOf];omega
   have hmiss:=lnI_miss (line:=l) (p:=y) (fun i hi=>hto.out i (by omega));have Hdq:Hid (dp E n l q0=dp E n l (pwV E n y)):=hdq.out.trans (dp_step Hroom.out hyn hmiss);have x02:=hbx.out _ hbl;have hrf:Below wo.heap.size wo wo:=kB;have hev:Hid (∀ W,Below wo.heap.size wo W->Calls Tryz.prog 103 #[.agg #[.slice a n cap],.string (E y).id] W (EePost W (E y))):=fun W hW=>l6Event_sl _ W (HE.out.below (hbw.trans (hW.mono hbw.size))) hyn (posV_here Hroom.out hyn)
   clear hto hmiss hdq
   go_wp2_with fail
   go_region_with (first
    | (go_at_call 103;refine (hev.out _ (by with_reducible (repeat refine .drew ?_);exact hrf)).mono ?_;rintro e w3 ⟨hb3',pa3,cp3,aa3,ca3,ga3,cg3,rfl,hok3'⟩;have Hok3:Hid (EvOk w3 (E y) pa3 cp3 aa3 ca3 ga3 cg3):=hok3';have hb3:Below wo.heap.size wo w3:=Below.trans (by with_reducible (repeat refine .drew ?_);exact hrf) hb3';clear hok3' hb3';have hB3:=hbl.trans (hb3.mono hso);have x03:=hbx.out _ hB3;have hbw3:=hb0.trans (hB3.mono (by omega));have hrf3:Below w3.heap.size w3 w3:=kB)
    | (go_at_call 182;refine (l6Pow_sl (a:=a) (n:=n) (cap:=cap) (E:=E) (q:=y) _ Hroom.out hyn ((HE.out.below hbw3).below (by with_reducible (repeat refine .drew ?_);exact hrf3)) (Hok3.out.below (by with_reducible (repeat refine .drew ?_);exact hrf3))).mono ?_;rintro e w4 ⟨rfl,hb4'⟩;have hb4:Below w3.heap.size w3 w4:=Below.trans (by with_reducible (repeat refine .drew ?_);exact hrf3) hb4';clear hb4'))
   all_goals
    have hB4:=hB3.trans (hb4.mono (nZ hso hb3.size));have Hz:Hid (pwS E n y=idQ E (pwV E n y)):=pwS_idQ E n y;have Hm2:Hid ((strPos E n (.string (pwS E n y))+1).toNat<(strPos E n (.string (E y).id)+1).toNat):=Hmeas.out _ rfl;clear Hmeas hev;generalize pwS E n y=z at *;go_wp2
    go_roundw
    case rel=>first|exact ⟨pwV E n y,by rw [Hz.out],Hbd.out.1,by have:=Hbd.out.2;omega,Hdq,hB4⟩|((repeat apply Exists.intro);exact ⟨⟨pwV E n y,by rw [Hz.out],Hbd.out.1,by have:=Hbd.out.2;omega,Hdq,hB4⟩,rfl⟩)
    exact Hm2.out
end Go.Proofs.YtkdalopokdhndaaGreat
