import Derived.Test.YtkdalopokdhndaaGreatMlPZ
import Derived.Deep.CutRange
set_option maxHeartbeats 16000000
set_option maxRecDepth 100000
namespace Go.Proofs.YtkdalopokdhndaaGreat
open Go.RowKit
variable {w2 wr:World}{ev:Ev}{a aa ga pa:Option Addr}{n q ca cg cp cap:Nat}{E:Nat->Ev}
def EvF (w:World)(B:Nat)(e:Ev):Prop:=w.cell? ⟨B,0,none⟩=some (.string e.id)∧w.cell? ⟨B,2,none⟩=some (.string e.ty)∧w.cell? ⟨B,3,none⟩=some (.bool e.st)∧w.cell? ⟨B,4,none⟩=some (.string e.key)
def CutF (wr:World)(ev:Ev)(pv:Value)(wx:World):Prop:=∃ B,pv=.pointer (some ⟨B,0,none⟩)∧EvF wx B ev∧Below wr.heap.size wr wx
theorem cutF_a (hb2:Below wr.heap.size wr w2):CutF wr ev (.pointer (some ⟨w2.heap.size,0,none⟩)) (w2.alloc (.cells (ec ev pa cp aa ca ga cg) 30)):=by
 refine ⟨_,rfl,⟨?_,?_,?_,?_⟩,hb2.alloc hb2.size _⟩
 all_goals
  rw [kA rfl];rfl
theorem cutF_b {z0 z2 z3 z4:Value}(hb2:Below wr.heap.size wr w2)(y0:w2.cell? ⟨wr.heap.size,0,none⟩=some z0)(y2:w2.cell? ⟨wr.heap.size,2,none⟩=some z2)(y3:w2.cell? ⟨wr.heap.size,3,none⟩=some z3)(y4:w2.cell? ⟨wr.heap.size,4,none⟩=some z4) :
  CutF wr ev (.pointer (some ⟨wr.heap.size,0,none⟩)) ((((((((((w2.setCell ⟨wr.heap.size,0,none⟩ (.string ev.id)).setCell ⟨wr.heap.size,1,none⟩ (.string ev.sd)).setCell ⟨wr.heap.size,2,none⟩ (.string ev.ty)).setCell ⟨wr.heap.size,3,none⟩ (.bool ev.st)).setCell ⟨wr.heap.size,4,none⟩ (.string ev.key)).setCell ⟨wr.heap.size,5,none⟩ (.int .i64 ev.tm)).setCell ⟨wr.heap.size,6,none⟩ (.slice pa ev.np cp)).setCell ⟨wr.heap.size,7,none⟩ (.slice aa ev.na ca)).setCell ⟨wr.heap.size,8,none⟩ (.string ev.val)).setCell ⟨wr.heap.size,9,none⟩ (.slice ga ev.ng cg)):=by
 refine ⟨_,rfl,⟨by rw [set_far (by decide),set_far (by decide),set_far (by decide),set_far (by decide),set_far (by decide),set_far (by decide),set_far (by decide),set_far (by decide),set_far (by decide),set_same ⟨_,y0⟩],by rw [set_far (by decide),set_far (by decide),set_far (by decide),set_far (by decide),set_far (by decide),set_far (by decide),set_far (by decide),set_same ⟨_,by rw [set_far (by decide),set_far (by decide)];exact y2⟩],by rw [set_far (by decide),set_far (by decide),set_far (by decide),set_far (by decide),set_far (by decide),set_far (by decide),set_same ⟨_,by rw [set_far (by decide),set_far (by decide),set_far (by decide)];exact y3⟩],by rw [set_far (by decide),set_far (by decide),set_far (by decide),set_far (by decide),set_far (by decide),set_same ⟨_,by rw [set_far (by decide),set_far (by decide),set_far (by decide),set_far (by decide)];exact y4⟩]⟩,?_⟩
 iterate 10 (refine Below.setCell ?_ (by show wr.heap.size<=wr.heap.size;exact nL) _)
 exact hb2
theorem zero_ev (W:World)(o:Nat)(ho:o<10):∃ v,(W.alloc (.cells #[.string ⟨#[]⟩,.string ⟨#[]⟩,.string ⟨#[]⟩,.bool false,.string ⟨#[]⟩,.int .i64 0,.slice none 0 0,.slice none 0 0,.string ⟨#[]⟩,.slice none 0 0] 30)).cell? ⟨W.heap.size,o,none⟩=some v:=by
 rw [kA rfl]
 match o,ho with
 | 0,_=>exact ⟨_,rfl⟩
 | 1,_=>exact ⟨_,rfl⟩
 | 2,_=>exact ⟨_,rfl⟩
 | 3,_=>exact ⟨_,rfl⟩
 | 4,_=>exact ⟨_,rfl⟩
 | 5,_=>exact ⟨_,rfl⟩
 | 6,_=>exact ⟨_,rfl⟩
 | 7,_=>exact ⟨_,rfl⟩
 | 8,_=>exact ⟨_,rfl⟩
 | 9,_=>exact ⟨_,rfl⟩
theorem l6From_sl (kind key:ByteArray)(w:World)(hroom:roomTo E n=true)(hq:q<n)(h:SlV w a n cap E)(he:EvOk w (E q) pa cp aa ca ga cg) :
  Calls Tryz.prog 218 #[.agg #[.slice a n cap],(E q).val' pa cp aa ca ga cg,.string kind,.string key] w fun x w'=>x=.returned (.string (frV E n (evP kind key) (E q)))∧Below w.heap.size w w':=by
 have hna:(E q).na<=maxLen:=nZ he.ha.le he.ha.max;unfold maxLen at hna;obtain ⟨wb,hwb⟩:∃ wb,wb=boxes w a n cap (E q) pa cp aa ca ga cg:=⟨_,rfl⟩;have hb0:Below w.heap.size w wb:=by rw [hwb];exact bA.alloc (by simp) _
 have hs0:wb.heap.size=w.heap.size+2:=by rw [hwb];simp
 have hbx:Hid (∀ wx,Below (w.heap.size+2) wb wx->wx.cell? ⟨w.heap.size,0,none⟩=some (.slice a n cap)∧wx.cell? ⟨w.heap.size+1,7,none⟩=some (.slice aa (E q).na ca)):=fun wx hx=>by
  subst hwb
  have:=boxes_cells (E q) w hx;exact ⟨this.1,this.2 7⟩
 have Hroom:Hid (_):=hroom;have HE:Hid (SlV w a n cap E):=h;have Ha:Hid (SlS w aa (E q).na ca (E q).Av):=he.ha;clear he h hroom
 go_enter Tryz.func218,Tryz.ntmps218
 go_wp2_with fail
 have hwb':(w.alloc (.cells #[.slice a n cap] 25)).alloc (.cells (ec (E q) pa cp aa ca ga cg) 30)=wb:=hwb.symm;rw [hwb'];clear hwb' hwb
 go_loopw [9] (fun i wr=>∃ k:Nat,k<=(E q).na∧i=.int .i64 k∧Hid (∀ i,i<k->evP kind key (E (posV E n ((E q).Av i)).toNat)=false)∧Below (w.heap.size+2) wb wr) (fun i _=>(E q).na - (intOf i).toNat)
 case atStart=>exact ⟨0,nz,rfl,fun i hi=>absurd hi (Nat.not_lt_zero _),kB⟩
 case round =>
  obtain ⟨k,hk,rfl,hto,hB⟩:=hrel;have hbw:=hb0.trans (hB.mono (by omega));have hso:w.heap.size+2<=wr.heap.size:=by have:=hB.size;omega
  obtain ⟨x0,x7⟩:=hbx.out _ hB
  by_cases hlt:k<(E q).na
  ·rcases Ha.out.cells with h0|⟨ba,oa,rfl,hba,hca⟩
   ·omega
   obtain ⟨y,hy,ey,-⟩:=auth_there Hroom.out hq hlt;have hck:wr.cell? ⟨ba,oa+k,none⟩=some (.string ((E q).Av k)):=(hbw.cell (by exact hba)).trans (hca k hlt);have hev:Hid (∀ W,Below wr.heap.size wr W->Calls Tryz.prog 103 #[.agg #[.slice a n cap],.string ((E q).Av k)] W (EePost W (E y))):=fun W hW=>l6Event_sl _ W (HE.out.below (hbw.trans (hW.mono hbw.size))) (by omega) ey
   have Hno:Hid (evP kind key (E y)=false->∀ i,i<k+1->evP kind key (E (posV E n ((E q).Av i)).toNat)=false):=fun hf i hi=>by
    by_cases e:i=k
    ·subst e;rw [ey,Int.toNat_natCast];exact hf
    exact hto.out i (by omega)
   have Hyes:Hid (evP kind key (E y)=true->(E y).id=frV E n (evP kind key) (E q)):=fun ht=>frV_hit hlt hto.out ey ht
   have hk64:(k:Int)<9223372036854775807:=by omega
   have hrf:Below wr.heap.size wr wr:=kB;have hal:Below wr.heap.size wr (wr.alloc (.cells #[.string ⟨#[]⟩,.string ⟨#[]⟩,.string ⟨#[]⟩,.bool false,.string ⟨#[]⟩,.int .i64 0,.slice none 0 0,.slice none 0 0,.string ⟨#[]⟩,.slice none 0 0] 30)):=bA;have hck1:(wr.alloc (.cells #[.string ⟨#[]⟩,.string ⟨#[]⟩,.string ⟨#[]⟩,.bool false,.string ⟨#[]⟩,.int .i64 0,.slice none 0 0,.slice none 0 0,.string ⟨#[]⟩,.slice none 0 0] 30)).drew.cell? ⟨ba,oa+k,none⟩=some (.string ((E q).Av k)):=(hal.drew.cell (by show ba<wr.heap.size;omega)).trans hck;have x01:(wr.alloc (.cells #[.string ⟨#[]⟩,.string ⟨#[]⟩,.string ⟨#[]⟩,.bool false,.string ⟨#[]⟩,.int .i64 0,.slice none 0 0,.slice none 0 0,.string ⟨#[]⟩,.slice none 0 0] 30)).drew.cell? ⟨w.heap.size,0,none⟩=some (.slice a n cap):=(hal.drew.cell (by show w.heap.size<wr.heap.size;omega)).trans x0;have x71:(wr.alloc (.cells #[.string ⟨#[]⟩,.string ⟨#[]⟩,.string ⟨#[]⟩,.bool false,.string ⟨#[]⟩,.int .i64 0,.slice none 0 0,.slice none 0 0,.string ⟨#[]⟩,.slice none 0 0] 30)).drew.cell? ⟨w.heap.size+1,7,none⟩=some (.slice (some ⟨ba,oa,none⟩) (E q).na ca):=(hal.drew.cell (by show w.heap.size+1<wr.heap.size;omega)).trans x7;have hlt1:ba<wr.heap.size:=by omega
   clear hca ey hto;generalize E y=ev at *
   go_wp2_with fail
   go_cut [10] from 11 to 40 (fun pv wx=>CutF wr ev pv wx)
   case first =>
    go_region_with (first
     | (go_at_call 103;refine (hev.out _ (by with_reducible (repeat refine .drew ?_);exact hrf)).mono ?_;rintro e w2 ⟨hb2',pa2,cp2,aa2,ca2,ga2,cg2,hee,-⟩;have hef:e=.returned (.agg (ec ev pa2 cp2 aa2 ca2 ga2 cg2)):=hee;clear hee;subst hef;have hb2:Below wr.heap.size wr w2:=Below.trans (by with_reducible (repeat refine .drew ?_);exact hrf) hb2')
     | (go_at_call 103;(refine (hev.out _ (by with_reducible (repeat refine .drew ?_);exact hal)).mono ?_;rintro e w2 ⟨hb2',pa2,cp2,aa2,ca2,ga2,cg2,hee,-⟩;have hef:e=.returned (.agg (ec ev pa2 cp2 aa2 ca2 ga2 cg2)):=hee;clear hee;subst hef;have hs2:wr.heap.size<w2.heap.size:=nT (by simp) hb2'.size;have hb2:Below wr.heap.size wr w2:=Below.trans (by with_reducible (repeat refine .drew ?_);exact hal) (hb2'.mono (by simp));have hz:∀ o,o<10->∃ v,w2.cell? ⟨wr.heap.size,o,none⟩=some v:=fun o ho=>(zero_ev wr o ho).imp fun v hv=>(hb2'.cell (p:=⟨wr.heap.size,o,none⟩) (by simp)).trans hv;obtain ⟨z0,y0⟩:=hz 0 (by decide);obtain ⟨z1,y1⟩:=hz 1 (by decide);obtain ⟨z2,y2⟩:=hz 2 (by decide);obtain ⟨z3,y3⟩:=hz 3 (by decide);obtain ⟨z4,y4⟩:=hz 4 (by decide);obtain ⟨z5,y5⟩:=hz 5 (by decide);obtain ⟨z6,y6⟩:=hz 6 (by decide);obtain ⟨z7,y7⟩:=hz 7 (by decide);obtain ⟨z8,y8⟩:=hz 8 (by decide);obtain ⟨z9,y9⟩:=hz 9 (by decide);clear hz;have hf:∀ o,w2.frozen? ⟨wr.heap.size,o,none⟩=false:=fun o=>(hb2'.frozen (p:=⟨wr.heap.size,o,none⟩) (by simp)).trans (kF rfl))))
    all_goals (try go_wp2_with fail)
    all_goals go_meet
    all_goals first
     | with_reducible exact cutF_a hb2
     | with_reducible exact cutF_b hb2 y0 y2 y3 y4
   case rest =>
    obtain ⟨B,rfl,⟨f0,f2,f3,f4⟩,hbc⟩:=hcut;have hBc:=hB.trans (hbc.mono hso);have hbwc:=hb0.trans (hBc.mono (by omega));clear x0 x7 hck hev;cases hP:evP kind key ev
    case true =>
     have hP':=hP;unfold evP at hP';simp only [Bool.and_eq_true] at hP';obtain ⟨⟨p1,p2⟩,p3⟩:=hP';have Hy:Hid (_=_):=Hyes.out hP;rw [p1] at f3;clear hP Hyes Hno;go_wp2
     go_ret;exact ⟨ret_str Hy.out,hbwc⟩
    case false =>
     have Hn:Hid (_):=Hno.out hP
     have H3:ev.st=false∨(ev.st=true∧(ev.ty.toList == kind.toList)=false)∨(ev.st=true∧(ev.ty.toList == kind.toList)=true∧(ev.key.toList == key.toList)=false):=by
      unfold evP at hP;cases h1:ev.st
      ·exact Or.inl rfl
      cases h2:(ev.ty.toList == kind.toList)
      ·exact Or.inr (Or.inl ⟨rfl,rfl⟩)
      rw [h1,h2] at hP;exact Or.inr (Or.inr ⟨rfl,rfl,by simpa using hP⟩)
     clear hP Hyes Hno;rcases H3 with p1|⟨p1,p2⟩|⟨p1,p2,p3⟩
     all_goals
      rw [p1] at f3;go_wp2
      go_roundw
      case rel=>exact ⟨k+1,by omega,by go_num,Hn,hBc⟩
      simp [intOf];omega
  have Hm:Hid ((⟨#[]⟩:ByteArray)=frV E n (evP kind key) (E q)):=frV_miss (fun i hi=>hto.out i (by omega));go_wp2
  go_ret;exact ⟨ret_str Hm.out,hbw⟩
variable {p:Nat}
theorem evP_pow (h:roomTo E n=true):∀ i,i<n->evP ⟨#[112,111,119,101,114]⟩ ⟨#[]⟩ (E i)=isPow (E i):=fun i hi=>by
 have e1:(⟨#[112,111,119,101,114]⟩:ByteArray).toList=[112,111,119,101,114]:=by rw [ByteArray.toList_eq]
 have e2:(⟨#[]⟩:ByteArray).toList=[]:=by rw [ByteArray.toList_eq]
 unfold evP;rw [e1,e2];cases hp:isPow (E i)
 ·unfold isPow at hp
  rw [hp];simp
 obtain ⟨h1,h2⟩:=ev_pow (room_code h hi) hp;unfold isPow at hp;rw [hp,h1]
 have:(E i).key.toList=[]:=by simpa using h2
 rw [this];rfl
def pwS (E:Nat->Ev)(n p:Nat):ByteArray:=if 0<=pwV E n p then (E (pwV E n p).toNat).id else ⟨#[]⟩
theorem frV_pw (h:roomTo E n=true)(hp:p<n):frV E n (evP ⟨#[112,111,119,101,114]⟩ ⟨#[]⟩) (E p)=pwS E n p:=by
 unfold frV pwS pwV;rw [scTo_congr h hp (evP_pow h) _ nL]
theorem l6Pow_sl (w:World)(hroom:roomTo E n=true)(hq:q<n)(h:SlV w a n cap E)(he:EvOk w (E q) pa cp aa ca ga cg) :
  Calls Tryz.prog 182 #[.agg #[.slice a n cap],(E q).val' pa cp aa ca ga cg] w fun x w'=>x=.returned (.string (pwS E n q))∧Below w.heap.size w w':=by
 have hC:Hid (∀ W,Below w.heap.size w W->Calls Tryz.prog 218 #[.agg #[.slice a n cap],(E q).val' pa cp aa ca ga cg,.string ⟨#[112,111,119,101,114]⟩,.string ⟨#[]⟩] W fun x w'=>x=.returned (.string (pwS E n q))∧Below W.heap.size W w'):=fun W hW=>by
  have:=l6From_sl ⟨#[112,111,119,101,114]⟩ ⟨#[]⟩ W hroom hq (h.below hW) (he.below hW);rw [frV_pw hroom hq] at this;exact this
 have hb0:Below w.heap.size w (boxes w a n cap (E q) pa cp aa ca ga cg):=bA.alloc (by simp) _;clear hroom hq h he;generalize pwS E n q=z at *;generalize E q=ev at *
 go_enter Tryz.func182,Tryz.ntmps182
 go_wp2_with fail
 refine (hC.out _ hb0).mono ?_;rintro e w1 ⟨rfl,hb1⟩;go_wp2
 go_ret;exact ⟨rfl,hb0.trans (hb1.mono hb0.size)⟩
def idQ (E:Nat->Ev)(q:Int):ByteArray:=if 0<=q then (E q.toNat).id else ⟨#[]⟩
theorem pwS_idQ (E:Nat->Ev)(n p:Nat):pwS E n p=idQ E (pwV E n p):=rfl
def strPos (E:Nat->Ev)(n:Nat):Value->Int
 | .string t=>posV E n t
 | _=>-1
theorem strPos_idQ (h:roomTo E n=true){q:Int}(h1:-1<=q)(h2:q<n):strPos E n (.string (idQ E q))=q:=by
 show posV E n (idQ E q)=q
 unfold idQ
 by_cases h0:0<=q
 ·rw [if_pos h0,posV_here h (show q.toNat<n by omega)]
  omega
 rw [if_neg h0,posV_empty h (by rw [ByteArray.toList_eq];rfl)];omega
def LmPost (w:World)(E:Nat->Ev)(l:List Nat)(e:Ending)(w':World):Prop :=
 ∃ v,e=.returned v∧OwnT w' w.heap.size v l.length (fun k=>(E (lX l k).toNat).id)∧Below w.heap.size w w'
def LmRel (w wb:World)(E:Nat->Ev)(n:Nat)(l:List Nat)(s v:Value)(wr:World):Prop :=
 ∃ (q:Int) (k:Nat),s=.string (idQ E q)∧-1<=q∧q<n∧k<=l.length∧Hid (l.drop k=ln E n q)∧OwnT wr (w.heap.size+1) v k (fun k=>(E (lX l k).toNat).id)∧Below (w.heap.size+1) wb wr
theorem l6Line_sl (q0:Int)(w:World)(hroom:roomTo E n=true)(h1:-1<=q0)(h2:q0<n)(h:SlV w a n cap E) :
  Calls Tryz.prog 115 #[.agg #[.slice a n cap],.string (idQ E q0)] w (LmPost w E (ln E n q0)):=by
 have h300:=room_300 hroom;obtain ⟨i0,hi,hz0,hz1,hz2⟩:=info_parts Tryz.infoString;obtain ⟨l,hl⟩:∃ l,l=ln E n q0:=⟨_,rfl⟩;have hll:l.length<=300:=by rw [hl];have:=ln_len E n q0;omega
 have Hl0:Hid (l.drop 0=ln E n q0):=by unfold Hid;rw [<- hl];rfl
 rw [<- hl];clear hl;obtain ⟨wb,hwb⟩:∃ wb,wb=w.alloc (.cells #[.slice a n cap] 25):=⟨_,rfl⟩;have hb0:Below w.heap.size w wb:=by rw [hwb];exact bA
 have hs0:wb.heap.size=w.heap.size+1:=by rw [hwb];simp
 have hb1:Below (w.heap.size+1) wb (wb.alloc (.cells #[] 9)):=kB.alloc (by omega) _;have ho1:OwnT (wb.alloc (.cells #[] 9)) (w.heap.size+1) (.slice (some ⟨wb.heap.size,0,none⟩) 0 0) 0 (fun k=>(E (lX l k).toNat).id):=OwnT.new wb _ (by omega) _;rw [hs0] at ho1;have hbx:Hid (∀ wx,Below (w.heap.size+1) wb wx->wx.cell? ⟨w.heap.size,0,none⟩=some (.slice a n cap)):=fun wx hx=>by subst hwb;exact box_cells hx 0
 have Hroom:Hid (_):=hroom;have HE:Hid (SlV w a n cap E):=h;clear hroom h
 go_enter Tryz.func115,Tryz.ntmps115
 go_wp2_with fail
 rw [<- hwb];clear hwb
 go_loopw [1,5] (fun s v wr=>LmRel w wb E n l s v wr) (fun s _ _=>(strPos E n s+1).toNat)
 case atStart=>exact ⟨q0,0,rfl,h1,h2,nz,Hl0,ho1,hb1⟩
 case round =>
  clear Hl0 ho1 hb1;obtain ⟨q,k,rfl,hq1,hq2,hk,hdr,hown,hbl⟩:=hrel;have hbw:=hb0.trans (hbl.mono (by omega));have hso:w.heap.size+1<=wr.heap.size:=by have:=hbl.size;omega
  by_cases hneg:q=-1
  ·subst hneg
   have hke:k=l.length:=ln_end (by rw [hdr.out,ln_neg _ _ (by decide)]) hk;subst hke;have hid:idQ E (-1)=⟨#[]⟩:=rfl;rw [hid];go_wp2
   go_ret;exact ⟨_,rfl,hown.mono (by omega),hbw⟩
  obtain ⟨y,rfl⟩:∃ y:Nat,q=(y:Int):=⟨q.toNat,by omega⟩;have hyn:y<n:=by omega
  have hid:idQ E (y:Int)=(E y).id:=by unfold idQ;rw [if_pos (by omega),Int.toNat_natCast]
  have Hmeas:Hid (∀ z,z=pwS E n y->(strPos E n (.string z)+1).toNat<(strPos E n (.string (E y).id)+1).toNat):=fun z hz=>by
   have hbd:=pwV_bd Hroom.out hyn;rw [hz,pwS_idQ,strPos_idQ Hroom.out hbd.1 (by omega),<- hid,strPos_idQ Hroom.out (by omega) (by omega)];omega
  rw [hid];obtain ⟨hx1,hx2,hx3⟩:=ln_at (hdr.out.trans (ln_cons Hroom.out hyn));have Hx1:Hid ((E y).id=(E (lX l k).toNat).id):=by unfold Hid;rw [hx1,Int.toNat_natCast]
  have Hx2:Hid (_=_):=hx2;have Hbd:Hid (_∧_):=pwV_bd Hroom.out hyn;have hne:(E y).id.toList.isEmpty=false:=ev_id (room_code Hroom.out hyn);have hm1:k+1<=maxLen:=by unfold maxLen;omega
  have hm2:(k+1) * 16<=140737488355328:=by omega
  have hm3:∀ o,w.heap.size+1<=(wr.alloc o).heap.size:=fun o=>by simp;omega
  have hag:Hid (∀ q',u5.ownBlock=some q'->w.heap.size+1<=q'):=fun q' hq'=>(World.ownsRow.lt hown q' hq').1
  clear hx1 hx2 hdr hneg hid
  go_wp2_with (at_builtin;refine wpList_append_own _ rfl _ _ 27 rfl (w.heap.size+1) 9 i0 (.string ByteArray.empty) 1 16 Tryz.underlying27 hi hz0 hz1 hz2 rfl (by decide) _ _ _ rfl (World.ownsRow.alloc hown _) ⟨wr.heap.size,0,none⟩ 1 1 [.string (E y).id] rfl rfl (one_cells _ _ _) (one_one _) hm1 hm2 (hm3 _) ?_;intro v2 w2 hown2 hgrow2 _)
  have hB2:Below (w.heap.size+1) wb w2:=(hbl.alloc (by omega) _).grown hgrow2 (hm3 _) hag.out;have hown3:OwnT w2 (w.heap.size+1) v2 (k+1) (fun k=>(E (lX l k).toNat).id):=OwnT.snoc hown2 Hx1.out;have hbw2:=hb0.trans (hB2.mono (by omega));have hso2:w.heap.size+1<=w2.heap.size:=by have:=hB2.size;omega
  have x02:=hbx.out _ hB2;have hrf:Below w2.heap.size w2 w2:=kB;have hev:Hid (∀ W,Below w2.heap.size w2 W->Calls Tryz.prog 103 #[.agg #[.slice a n cap],.string (E y).id] W (EePost W (E y))):=fun W hW=>l6Event_sl _ W (HE.out.below (hbw2.trans (hW.mono hbw2.size))) hyn (posV_here Hroom.out hyn)
  clear hown hown2 hgrow2 hbl hbw hm3 hag
  go_region_with (first
   | (go_at_call 103;refine (hev.out _ (by with_reducible (repeat refine .drew ?_);exact hrf)).mono ?_;rintro e w3 ⟨hb3',pa3,cp3,aa3,ca3,ga3,cg3,rfl,hok3'⟩;have Hok3:Hid (EvOk w3 (E y) pa3 cp3 aa3 ca3 ga3 cg3):=hok3';have hb3:Below w2.heap.size w2 w3:=Below.trans (by with_reducible (repeat refine .drew ?_);exact hrf) hb3';clear hok3' hb3';have hB3:=hB2.trans (hb3.mono hso2);have x03:=hbx.out _ hB3;have hbw3:=hb0.trans (hB3.mono (by omega));have hrf3:Below w3.heap.size w3 w3:=kB)
   | (go_at_call 182;refine (l6Pow_sl (a:=a) (n:=n) (cap:=cap) (E:=E) (q:=y) _ Hroom.out hyn ((HE.out.below hbw3).below (by with_reducible (repeat refine .drew ?_);exact hrf3)) (Hok3.out.below (by with_reducible (repeat refine .drew ?_);exact hrf3))).mono ?_;rintro e w4 ⟨rfl,hb4'⟩;have hb4:Below w3.heap.size w3 w4:=Below.trans (by with_reducible (repeat refine .drew ?_);exact hrf3) hb4';clear hb4'))
  all_goals
   have hB4:=hB3.trans (hb4.mono (nZ hso2 hb3.size));have hown4:=(hown3.below hb3).below hb4;have Hz:Hid (pwS E n y=idQ E (pwV E n y)):=pwS_idQ E n y;have Hm2:Hid ((strPos E n (.string (pwS E n y))+1).toNat<(strPos E n (.string (E y).id)+1).toNat):=Hmeas.out _ rfl;clear Hmeas hev;generalize pwS E n y=z at *;go_wp2
   go_roundw
   case rel =>
    (repeat apply Exists.intro)
    exact ⟨⟨pwV E n y,k+1,by rw [Hz.out],Hbd.out.1,by have:=Hbd.out.2;omega,hx3,Hx2,hown4,hB4⟩,rfl⟩
   exact Hm2.out
variable {l:List Ent}{e:Ev}
def fit1 (E:Nat->Ev)(n:Nat)(x:Ent):Bool:=decide (0<=posV E n x.id) && ((E (posV E n x.id).toNat).st && (((E (posV E n x.id).toNat).ty.toList == x.ty.toList) && ((E (posV E n x.id).toNat).key.toList == x.key.toList)))
def fitTo (E:Nat->Ev)(n:Nat)(l:List Ent):Nat->Bool
 | 0=>true
 | k+1=>fitTo E n l k && fit1 E n (eAt l k)
theorem fitTo_le (E:Nat->Ev)(n:Nat)(l:List Ent):∀ m k,k<m->fitTo E n l (k+1)=false->fitTo E n l m=false
 | m+1,k,h,h1=>by
  by_cases e:k=m
  ·rw [<- e];exact h1
  rw [fitTo,fitTo_le E n l m k (by omega) h1];rfl
theorem fitTo_at {E:Nat->Ev}{n:Nat}{l:List Ent}:∀ {m},fitTo E n l m=true->∀ k,k<m->fit1 E n (eAt l k)=true
 | m+1,h,k,hk=>by
  rw [fitTo,Bool.and_eq_true] at h
  by_cases e:k=m
  ·subst e;exact h.2
  exact fitTo_at h.1 k (by omega)
def fitB (E:Nat->Ev)(n:Nat)(l:List Ent):Bool:=fitTo E n l l.length && stB l
theorem findB_eaL (l:List Ent)(x:Ent):findB l x.ty x.key=(eaV l x).id:=by
 have h0:eaV l x=eaV l ⟨x.ty,x.key,⟨#[]⟩⟩:=rfl;rw [h0];unfold findB eaV;rcases posI_look l ⟨x.ty,x.key,⟨#[]⟩⟩ with ⟨h1,h2⟩|⟨e,h1,h2,h3⟩
 ·rw [h1,h2,if_neg (by decide)];rfl
 rw [h1,if_pos h2,h3];rfl
def atV (E:Nat->Ev)(n:Nat)(l:List Ent)(ty key:ByteArray):Int:=posV E n (findB l ty key)
theorem at_ty (hr:roomTo E n=true)(hf:fitB E n l=true){ty key:ByteArray}(h:0<=atV E n l ty key):(E (atV E n l ty key).toNat).ty.toList=ty.toList:=by
 unfold fitB at hf;rw [Bool.and_eq_true] at hf;unfold atV at h ⊢;rw [findB_eaL l ⟨ty,key,⟨#[]⟩⟩] at h ⊢;unfold eaV at h ⊢
 cases hl:lookE l ⟨ty,key,⟨#[]⟩⟩ with
 | none =>
  rw [hl] at h
  have:posV E n ((none:Option Ent).getD Ent.none).id=-1:=posV_empty hr (by show ByteArray.empty.toList.isEmpty=true;rw [ByteArray.toList_eq];rfl);rw [this] at h
  exact absurd h (by decide)
 | some y =>
  obtain ⟨h1,h2,h3⟩:=lookE_some hl;obtain ⟨j,hj,e⟩:=List.mem_iff_getElem.1 h1;have hfy:=fitTo_at hf.1 j hj;rw [eAt_get l j hj,e] at hfy;unfold fit1 at hfy;simp only [Bool.and_eq_true,beq_iff_eq] at hfy
  show (E (posV E n y.id).toNat).ty.toList=ty.toList
  rw [hfy.2.2.1,h2]
def gV (M:Nat->ByteArray)(L:Nat->Int)(name:ByteArray):Nat->Option Int
 | 0=>none
 | k+1=>match gV M L name k with
  | some v=>some v
  | none=>if (M k).toList == name.toList then some (L k) else none
theorem gV_none {M:Nat->ByteArray}{L:Nat->Int}{name:ByteArray}:∀ {k},(∀ i,i<k->((M i).toList == name.toList)=false)->gV M L name k=none
 | 0,_=>rfl
 | k+1,h=>by rw [gV,gV_none (fun i hi=>h i (by omega)),h k (by omega)];rfl
theorem gV_hit {M:Nat->ByteArray}{L:Nat->Int}{name:ByteArray}{j:Nat}(h0:∀ i,i<j->((M i).toList == name.toList)=false)(h1:((M j).toList == name.toList)=true):∀ {k},j<k->gV M L name k=some (L j)
 | k+1,hk=>by
  by_cases e:j=k
  ·subst e;rw [gV,gV_none h0,h1];rfl
  rw [gV,gV_hit h0 h1 (show j<k by omega)]
theorem gr_asc (h:e.code=0)(ht:isPow e=true):e.ng<=50∧∀ i j,i<j->j<e.ng->(e.M i).data.toList<(e.M j).data.toList:=by
 unfold isPow at ht;unfold Ev.code evCode at h;split at h
 ·cases h
 split at h
 ·cases h
 split at h
 ·cases h
 split at h
 ·cases h
 split at h
 ·cases h
 rename_i h5
 have hc:ctB e.ty e.key e.val e.st e.np e.na e.ng e.M e.L=true:=by
  cases hq:ctB e.ty e.key e.val e.st e.np e.na e.ng e.M e.L
  ·exact absurd hq h5
  rfl
 have ht':e.ty.toList=[112,111,119,101,114]:=by simpa using ht
 unfold ctB at hc;rw [ht'] at hc;have e1:(([112,111,119,101,114]:List UInt8) == [99,114,101,97,116,101])=false:=by decide
 have e2:(([112,111,119,101,114]:List UInt8) == [109,101,109,98,101,114])=false:=by decide
 have e3:(([112,111,119,101,114]:List UInt8) == [106,111,105,110,95,114,117,108,101,115])=false:=by decide
 rw [e1,e2,e3] at hc;simp at hc;have hg:grB e.M e.L e.ng=true:=by first|exact hc.2|exact hc.1.2|exact hc.2.2|exact hc.2.1
 unfold grB at hg;rw [Bool.and_eq_true,decide_eq_true_eq] at hg;refine ⟨hg.2,?_⟩
 have step:∀ m,grTo e.M e.L m=true->∀ i,i+1<m->(e.M i).data.toList<(e.M (i+1)).data.toList:=fun m=>by
  induction m with
  | zero=>intro _ i hi;omega
  | succ m ih =>
   intro hm i hi;rw [grTo,Bool.and_eq_true] at hm
   by_cases e:i+1=m
   ·have hx:=hm.2
    simp only [Bool.and_eq_true,Bool.or_eq_true] at hx;rcases hx.2.2.2 with h0|h0
    ·have:m=0:=by simpa using h0
     omega
    rw [<- e,Nat.add_sub_cancel,bytesLess_eq,decide_eq_true_eq,ByteArray.toList_eq,ByteArray.toList_eq] at h0;exact h0
   exact ih hm.1 i (by omega)
 intro i j hij hj
 induction j with
 | zero=>omega
 | succ j ih =>
  by_cases e:i=j
  ·subst e;exact step _ hg.1 i hj
  exact List.lt_trans (ih (by omega) (by omega)) (step _ hg.1 j hj)
def byG (e:Ev)(user:ByteArray):Int:=match gV e.M e.L user e.ng with
 | some v=>v
 | none=>(gV e.M e.L ⟨#[42,100,101,102,97,117,108,116]⟩ e.ng).getD 0
abbrev tPow:ByteArray:=⟨#[112,111,119,101,114]⟩
abbrev tCre:ByteArray:=⟨#[99,114,101,97,116,101]⟩
abbrev tNil:ByteArray:=⟨#[]⟩
def lvV (E:Nat->Ev)(n:Nat)(l:List Ent)(user:ByteArray):Int :=
 if 0<=atV E n l tPow tNil then byG (E (atV E n l tPow tNil).toNat) user
 else if 0<=atV E n l tCre tNil∧((E (atV E n l tCre tNil).toNat).sd.toList == user.toList)=true then 100 else 0
variable {M:Nat->ByteArray}
def gAns (o:Option Int):Value:=.tuple #[.int .i64 (o.getD 0),.bool o.isSome]
theorem l5Gr_zero (a:Option Addr)(cap:Nat)(M:Nat->ByteArray)(L:Nat->Int)(name:ByteArray)(w:World) :
  Calls Tryz.prog 77 #[.slice a 0 cap,.string name] w fun e w'=>e=.returned (gAns (gV M L name 0))∧w'=w:=by
 go_enter Tryz.func77,Tryz.ntmps77
 go_wp2
 refine wp_loop_rounds 1 ?_;rw [rounds_succ];go_wp2
 refine bodyPost_ret (v:=.tuple #[.int .i64 0,.bool false]) (by simp [results,Tryz.results77,go_sem]) rfl ⟨rfl,rfl⟩
theorem l5Gr_any (b off n cap:Nat)(M:Nat->ByteArray)(L:Nat->Int)(name:ByteArray)(w:World)(hn:n<=maxLen)(h1:∀ i,i<n->w.cell? ⟨b,off+i * 2,none⟩=some (.string (M i)))(h2:∀ i,i<n->w.cell? ⟨b,off+i * 2+1,none⟩=some (.int .i64 (L i))) :
  Calls Tryz.prog 77 #[.slice (some ⟨b,off,none⟩) n cap,.string name] w fun e w'=>e=.returned (gAns (gV M L name n))∧w'=w:=by
 unfold maxLen at hn;have H1:Hid (_):=h1;have H2:Hid (_):=h2;clear h1 h2
 go_enter Tryz.func77,Tryz.ntmps77
 go_wp2
 go_loop [6] (fun i=>∃ k:Nat,k<=n∧i=.int .i64 k∧Hid (∀ i,i<k->((M i).toList == name.toList)=false)) (fun i=>n - (intOf i).toNat)
 case atStart=>exact ⟨0,nz,rfl,fun i hi=>absurd hi (Nat.not_lt_zero _)⟩
 case round =>
  obtain ⟨k,hk,rfl,hto⟩:=hrel
  by_cases hlt:k<n
  ·have c1:=H1.out k hlt
   have c2:=H2.out k hlt;cases hq:((M k).toList == name.toList)
   case true =>
    have Hh:Hid (gAns (gV M L name n)=.tuple #[.int .i64 (L k),.bool true]):=by unfold Hid;rw [gV_hit hto.out hq hlt];rfl
    clear hto;go_wp2
    refine bodyPost_ret (v:=.tuple #[.int .i64 (L k),.bool true]) (by simp [results,Tryz.results77,go_sem]) rfl ⟨by rw [Hh.out],rfl⟩
   case false =>
    have Hto:Hid (∀ i,i<k+1->((M i).toList == name.toList)=false):=fun i hi=>by
     by_cases e:i=k
     ·subst e;exact hq
     exact hto.out i (by omega)
    clear hto;go_wp2
    go_round
    case rel=>exact ⟨k+1,by omega,by go_num,Hto⟩
    simp [intOf];omega
  have hkn:k=n:=by omega
  subst hkn;have Hh:Hid (gAns (gV M L name k)=.tuple #[.int .i64 0,.bool false]):=by unfold Hid;rw [gV_none hto.out];rfl
  clear hto;go_wp2
  refine bodyPost_ret (v:=.tuple #[.int .i64 0,.bool false]) (by simp [results,Tryz.results77,go_sem]) rfl ⟨by rw [Hh.out],rfl⟩
theorem l5Gr_sl {L:Nat->Int}(name:ByteArray)(w:World)(h:SlG w a n cap M L) :
  Calls Tryz.prog 77 #[.slice a n cap,.string name] w fun e w'=>e=.returned (gAns (gV M L name n))∧w'=w:=by
 rcases h.cells with rfl|⟨b,off,rfl,hb,h1,h2⟩
 ·exact l5Gr_zero a cap M L name w
 exact l5Gr_any b off n cap M L name w (nZ h.le h.max) h1 h2
theorem l5By_sl {e0:Ev}(user:ByteArray)(w:World)(h:SlG w a e0.ng cap e0.M e0.L) :
  Calls Tryz.prog 100 #[.slice a e0.ng cap,.string user] w fun e w'=>e=.returned (.int .i64 (byG e0 user))∧w'=w:=by
 have Hb:Hid (∀ o,o=gV e0.M e0.L user e0.ng->byG e0 user=match o with|some v=>v|none=>(gV e0.M e0.L ⟨#[42,100,101,102,97,117,108,116]⟩ e0.ng).getD 0):=fun o ho=>by subst ho;rfl
 have HG:Hid (∀ W name,W=w->Calls Tryz.prog 77 #[.slice a e0.ng cap,.string name] W fun e w'=>e=.returned (gAns (gV e0.M e0.L name e0.ng))∧w'=W):=fun W name hW=>by subst hW;exact l5Gr_sl name W h
 cases ho:gV e0.M e0.L user e0.ng with
 | some v =>
  have hv:=Hb.out _ ho.symm;simp only at hv;have Hv:Hid (_=_):=hv;clear hv
  go_enter Tryz.func100,Tryz.ntmps100
  go_wp2_with fail
  refine (HG.out _ _ rfl).mono ?_;rintro e w1 ⟨rfl,rfl⟩;rw [ho];unfold gAns;simp only [Option.getD_some,Option.isSome_some];go_wp2
  go_ret
  exact ⟨ret_int Hv.out.symm,rfl⟩
 | none =>
  have hv:=Hb.out _ ho.symm;simp only at hv;have Hv:Hid (_=_):=hv;clear hv
  go_enter Tryz.func100,Tryz.ntmps100
  go_wp2_with fail
  refine (HG.out _ _ rfl).mono ?_;rintro e w1 ⟨rfl,rfl⟩;rw [ho];unfold gAns;simp only [Option.getD_none,Option.isSome_none]
  go_wp2_with fail
  refine (HG.out _ _ rfl).mono ?_;rintro e w2 ⟨rfl,rfl⟩;unfold gAns;go_wp2
  go_ret;exact ⟨ret_int Hv.out.symm,rfl⟩
end Go.Proofs.YtkdalopokdhndaaGreat
