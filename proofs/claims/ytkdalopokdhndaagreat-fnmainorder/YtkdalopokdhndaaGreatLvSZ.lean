import Derived.Test.YtkdalopokdhndaaGreatAlPZ
set_option maxHeartbeats 16000000
set_option maxRecDepth 100000
namespace Go.Proofs.YtkdalopokdhndaaGreat
open Go.RowKit
variable {B n sc cap:Nat}{w w':World}{a sa:Option Addr}{E:Nat->Ev}{l:List Ent}
theorem belowM (h:Below B w w')(n:Nat):Below B w (w'.drewN n):=h.trans ⟨rfl,rfl,rfl,nL,fun _ _=>rfl⟩
theorem l5F_zero (ra:Option Addr)(n cap:Nat)(E:Nat->Ev)(sa:Option Addr)(sc:Nat)(w:World) :
  Calls Tryz.prog 29 #[.agg #[.slice ra n cap],.slice sa 0 sc] w fun e w'=>e=.returned (.bool (fitB E n []))∧Below w.heap.size w w':=by
 go_enter Tryz.func29,Tryz.ntmps29
 go_wp2_with fail
 refine wp_loop_rounds 1 ?_;rw [rounds_succ]
 go_wp2_with fail
 refine (stateS_zero sa sc _).mono ?_;rintro e w1 ⟨rfl,hw1⟩;go_wp2
 go_ret;exact ⟨by first|rfl|(congr 2),by first|(rw [hw1];exact bA)|(subst hw1;exact bA)⟩
theorem l5F_any (B O:Nat)(w:World)(h:SlV w a n cap E)(hs:SlE w (some ⟨B,O,none⟩) sc l)(hB:B<w.heap.size)
  (d1:∀ i,i<l.length->w.cell? ⟨B,O+i * 3,none⟩=some (.string (eAt l i).ty)) (d2:∀ i,i<l.length->w.cell? ⟨B,O+i * 3+1,none⟩=some (.string (eAt l i).key)) (d3:∀ i,i<l.length->w.cell? ⟨B,O+i * 3+2,none⟩=some (.string (eAt l i).id)) :
  Calls Tryz.prog 29 #[.agg #[.slice a n cap],.slice (some ⟨B,O,none⟩) l.length sc] w fun e w'=>e=.returned (.bool (fitB E n l))∧Below w.heap.size w w':=by
 have hln:=nZ hs.le hs.max;have hnn:=nZ h.le h.max;unfold maxLen at hln hnn;obtain ⟨wb,hwb⟩:∃ wb,wb=w.alloc (.cells #[.slice a n cap] 25):=⟨_,rfl⟩;have hb0:Below w.heap.size w wb:=by rw [hwb];exact bA
 have hs0:wb.heap.size=w.heap.size+1:=by rw [hwb];simp
 have hbx:Hid (∀ wx,Below (w.heap.size+1) wb wx->wx.cell? ⟨w.heap.size,0,none⟩=some (.slice a n cap)):=fun wx hx=>by subst hwb;exact box_cells hx 0
 have H1:Hid (_):=d1;have H2:Hid (_):=d2;have H3:Hid (_):=d3;clear d1 d2 d3
 go_enter Tryz.func29,Tryz.ntmps29
 go_wp2_with fail
 rw [<- hwb];clear hwb
 go_loopw [5] (fun i wr=>∃ k:Nat,k<=l.length∧i=.int .i64 k∧Hid (fitTo E n l k=true)∧Below (w.heap.size+1) wb wr) (fun i _=>l.length - (intOf i).toNat)
 case atStart=>exact ⟨0,nz,rfl,rfl,kB⟩
 case round =>
  obtain ⟨k,hk,rfl,hto,hBq⟩:=hrel;have hbw:=hb0.trans (hBq.mono (by omega));have hso:w.heap.size+1<=wr.heap.size:=by have:=hBq.size;omega
  by_cases hlt:k<l.length
  ·have c0:=hbx.out _ hBq
   have a1:wr.cell? ⟨B,O+k * 3,none⟩=some (.string (eAt l k).ty):=(hbw.cell (by exact hB)).trans (H1.out k hlt);have a2:wr.cell? ⟨B,O+k * 3+1,none⟩=some (.string (eAt l k).key):=(hbw.cell (by exact hB)).trans (H2.out k hlt);have a3:wr.cell? ⟨B,O+k * 3+2,none⟩=some (.string (eAt l k).id):=(hbw.cell (by exact hB)).trans (H3.out k hlt);have Hft:Hid (fitTo E n l (k+1)=(fitTo E n l k && fit1 E n (eAt l k))):=rfl;generalize eAt l k=x at *;have hwz:w.heap.size<wr.heap.size:=by omega
   have hBr:B<wr.heap.size:=nT hB hbw.size;have hrf:Below wr.heap.size wr wr:=kB;have HA:Hid (∀ W,Below wr.heap.size wr W->Calls Tryz.prog 55 #[.agg #[.slice a n cap],.string x.id] W fun e w'=>e=.returned (.int .i64 (posV E n x.id))∧Below wr.heap.size wr w'):=fun W hW=>(l2At_sl x.id W ((h.below hbw).below hW)).mono fun e w' ⟨h1,h2⟩=>⟨h1,by rw [h2];exact hW.alloc hW.size _⟩
   have hi0:(0:Int)<=(k:Int):=by omega
   have hi1:(k:Int)<(l.length:Int):=by omega
   have hbd:=posV_bd E x.id n;have Hf1:Hid (fit1 E n x=(decide (0<=posV E n x.id) && ((E (posV E n x.id).toNat).st && (((E (posV E n x.id).toNat).ty.toList == x.ty.toList) && ((E (posV E n x.id).toNat).key.toList == x.key.toList))))):=rfl;obtain ⟨p,hp⟩:∃ p,p=posV E n x.id:=⟨_,rfl⟩;rw [<- hp] at hbd;have Hp:Hid (p=posV E n x.id):=hp;unfold Hid at Hf1;rw [<- hp] at Hf1;have HF1:Hid (_=_):=Hf1;clear Hf1
   go_wp2_with fail
   go_cut [6] (fun v wx=>v=.int .i64 p∧Below wr.heap.size wr wx)
   case first =>
    go_region_held3 (fun W=>W.cell? ⟨w.heap.size,0,none⟩=some (.slice a n cap)∧W.cell? ⟨B,O+k * 3+2,none⟩=some (.string x.id))
     (first|(with_reducible exact ⟨c0,a3⟩)|go_keep)
     ((go_at_call 55;refine (HA.out _ (by with_reducible (repeat refine .drew ?_);exact hrf)).mono ?_;rintro e w5 ⟨rfl,hb5⟩;have hk0:=(hb5.cell (by exact hwz)).trans c0;have hk1:=(hb5.cell (by exact hBr)).trans a3))
    all_goals (try go_wp2_with fail)
    all_goals go_meet
    all_goals (rw [Hp.out];exact ⟨rfl,by first|exact hb5|exact hb5.drew|exact hb5.drew.drew⟩)
   case rest =>
    obtain ⟨rfl,hb5⟩:=hcut;obtain ⟨w5,hw5⟩:∃ w5:World,w5=wc:=⟨_,rfl⟩;subst hw5;have hB5:=hBq.trans (hb5.mono hso);have hbw5:=hb0.trans (hB5.mono (by omega));have k0:=hbx.out _ hB5;have k1:=(hb5.cell (by exact hBr)).trans a1;have k2:=(hb5.cell (by exact hBr)).trans a2
    have Hno:Hid (fit1 E n x=false->Ending.returned (.bool false)=.returned (.bool (fitB E n l))):=fun hf=>by
     have:fitTo E n l (k+1)=false:=by rw [Hft.out,hf,Bool.and_false]
     unfold fitB;rw [fitTo_le E n l l.length k hlt this];rfl
    have Hye:Hid (fit1 E n x=true->fitTo E n l (k+1)=true):=fun hf=>by rw [Hft.out,hto.out,hf];rfl
    clear a1 a2 a3 c0 HA hto Hft Hp hp;obtain ⟨bq,hbq⟩:∃ bq,bq=!fit1 E n x:=⟨_,rfl⟩;have Hbq:Hid (bq=!fit1 E n x):=hbq;clear hbq
    go_wp2_with fail
    go_cut [58] (fun v wx=>v=.bool bq∧Below w5.heap.size w5 wx)
    case first =>
     have hr5:Below w5.heap.size w5 w5:=kB
     by_cases hneg:p<0
     ·have hv:Hid (Value.bool true=.bool bq):=by unfold Hid;rw [Hbq.out,HF1.out,decide_eq_false (by omega)];rfl
      have hdn:decide (p<0)=true:=decide_eq_true hneg;clear HF1 Hno Hye Hbq
      go_quiet (fail)
      all_goals (try go_wp2_with fail)
      all_goals go_meet
      all_goals exact ⟨hv.out,belowM hr5 _⟩
     obtain ⟨q,rfl⟩:∃ q:Nat,p=(q:Int):=⟨p.toNat,by omega⟩;have hqn:q<n:=by omega
     have hq0:(0:Int)<=(q:Int):=by omega
     have hq1:(q:Int)<(n:Int):=by omega
     have hdn:decide ((q:Int)<0)=false:=decide_eq_false (by omega);have hHF:=HF1.out;rw [Int.toNat_natCast,decide_eq_true hq0,Bool.true_and] at hHF;have HF2:Hid (_=_):=hHF;clear hHF HF1;rcases (h.below hbw5).cells with h0|⟨b,off,rfl,hb,hc⟩
     ·omega
     obtain ⟨_,_,_,_,_,_,hec,_⟩:=hc q hqn;have e2:=hec.c2;have e3:=hec.c3;have e4:=hec.c4;clear hc hec Hno Hye h hs;generalize (E q).st=st at *;generalize (E q).ty=ty at *;generalize (E q).key=key at *;cases st
     case false =>
      have hv:Hid (Value.bool true=.bool bq):=by unfold Hid;rw [Hbq.out,HF2.out];rfl
      clear HF2 Hbq
      go_quiet (fail)
      all_goals (try go_wp2_with fail)
      all_goals go_meet
      all_goals exact ⟨hv.out,belowM hr5 _⟩
     case true =>
      cases ht1:(ty.toList == x.ty.toList)
      case false =>
       have hv:Hid (Value.bool true=.bool bq):=by unfold Hid;rw [Hbq.out,HF2.out,ht1];rfl
       clear HF2 Hbq
       go_quiet (fail)
       all_goals (try go_wp2_with fail)
       all_goals go_meet
       all_goals exact ⟨hv.out,belowM hr5 _⟩
      case true =>
       cases hk1:(key.toList == x.key.toList)
       case false =>
        have hv:Hid (Value.bool true=.bool bq):=by unfold Hid;rw [Hbq.out,HF2.out,ht1,hk1];rfl
        clear HF2 Hbq
        go_quiet (fail)
        all_goals (try go_wp2_with fail)
        all_goals go_meet
        all_goals exact ⟨hv.out,belowM hr5 _⟩
       case true =>
        have hv:Hid (Value.bool false=.bool bq):=by unfold Hid;rw [Hbq.out,HF2.out,ht1,hk1];rfl
        clear HF2 Hbq
        go_quiet (fail)
        all_goals (try go_wp2_with fail)
        all_goals go_meet
        all_goals exact ⟨hv.out,belowM hr5 _⟩
    case rest =>
     obtain ⟨rfl,hb6⟩:=hcut;obtain ⟨w6,hw6⟩:∃ w6:World,w6=wc:=⟨_,rfl⟩;subst hw6;have hB6:=hB5.trans (hb6.mono (by have:=hB5.size;omega));have hbw6:=hbw5.trans (hb6.mono hbw5.size);clear HF1;cases bq
     case false =>
      have Ht:Hid (fitTo E n l (k+1)=true):=Hye.out (by have:=Hbq.out;simpa using this.symm);clear Hno Hye Hbq;go_wp2
      go_roundw
      case rel=>first|exact ⟨k+1,by omega,by go_num,Ht,hB6⟩|((repeat apply Exists.intro);exact ⟨⟨k+1,by omega,by go_num,Ht,hB6⟩,rfl⟩)
      simp [intOf];omega
     case true =>
      have HN:Hid (_=_):=Hno.out (by have:=Hbq.out;simpa using this.symm);clear Hno Hye Hbq;go_wp2
      go_ret;exact ⟨HN.out,hbw6⟩
  have hkn:k=l.length:=by omega
  subst hkn;have Hv:Hid (fitB E n l=stB l):=by unfold Hid fitB;rw [hto.out];rfl
  clear hto
  go_wp2_with fail
  refine (stateS_sl _ (hs.below hbw)).mono ?_;rintro e w1 ⟨rfl,hb1⟩;go_wp2
  go_ret;exact ⟨ret_bool Hv.out.symm,hbw.trans (hb1.mono hbw.size)⟩
theorem l5F_sl (w:World)(h:SlV w a n cap E)(hs:SlE w sa sc l) :
  Calls Tryz.prog 29 #[.agg #[.slice a n cap],.slice sa l.length sc] w fun e w'=>e=.returned (.bool (fitB E n l))∧Below w.heap.size w w':=by
 rcases hs.cells with rfl|⟨B,O,rfl,hB,d1,d2,d3⟩
 ·exact l5F_zero a n cap E sa sc w
 exact l5F_any B O w h hs hB d1 d2 d3
abbrev evNil:Value:=.agg #[.string ⟨#[]⟩,.string ⟨#[]⟩,.string ⟨#[]⟩,.bool false,.string ⟨#[]⟩,.int .i64 0,.slice none 0 0,.slice none 0 0,.string ⟨#[]⟩,.slice none 0 0]
def E5Post (w:World)(E:Nat->Ev)(p:Int)(x:Ending)(w':World):Prop:=Below w.heap.size w w' ∧
 ((p<0∧x=.returned (.tuple #[evNil,.bool false]))∨∃ q:Nat,p=(q:Int)∧∃ pa cp aa ca ga cg,x=.returned (.tuple #[(E q).val' pa cp aa ca ga cg,.bool true])∧EvOk w' (E q) pa cp aa ca ga cg)
theorem l5E_sl (kind key:ByteArray)(w:World)(h:SlV w a n cap E)(hs:SlE w sa sc l) :
  Calls Tryz.prog 72 #[.agg #[.slice a n cap],.slice sa l.length sc,.string kind,.string key] w (E5Post w E (atV E n l kind key)):=by
 have hnn:=nZ h.le h.max;unfold maxLen at hnn;have HF:Hid (∀ W,EZ w (.slice a n cap) W->Calls Tryz.prog 39 #[.slice sa l.length sc,.string kind,.string key] W fun e w'=>e=.returned (.string (findB l kind key))∧EZ w (.slice a n cap) w'):=fun W hW=>(l4Find_sl kind key W (hs.below hW.bl)).mono fun e w' ⟨h1,h2⟩=>⟨h1,hW.call h2⟩
 have HA:Hid (∀ W,EZ w (.slice a n cap) W->Calls Tryz.prog 55 #[.agg #[.slice a n cap],.string (findB l kind key)] W fun e w'=>e=.returned (.int .i64 (atV E n l kind key))∧EZ w (.slice a n cap) w'):=fun W hW=>by
  refine (l2At_sl (findB l kind key) W (h.below hW.bl)).mono ?_;rintro e w' ⟨rfl,rfl⟩;exact ⟨rfl,hW.call bA⟩
 have hbd:=posV_bd E (findB l kind key) n;have hbd':-1<=atV E n l kind key∧atV E n l kind key<n:=hbd;clear hbd;generalize atV E n l kind key=p at *;generalize findB l kind key=f at *
 go_enter Tryz.func72,Tryz.ntmps72
 go_wp2_with fail
 obtain ⟨W0,hW0⟩:∃ W0,W0=(w.alloc (.cells #[.slice a n cap] 25)).alloc (.cells #[.string ⟨#[]⟩,.string ⟨#[]⟩,.string ⟨#[]⟩,.bool false,.string ⟨#[]⟩,.int .i64 0,.slice none 0 0,.slice none 0 0,.string ⟨#[]⟩,.slice none 0 0] 30):=⟨_,rfl⟩;rw [<- hW0]
 have hZ:EZ w (.slice a n cap) W0:=by
  subst hW0;refine ⟨by simp,bA.alloc (by simp) _,by simp,fun o ho=>?_,fun o=>kF (by simp)⟩;rw [kA (by simp)]
  match o,ho with
  | 0,_=>exact ⟨_,rfl⟩
  | 1,_=>exact ⟨_,rfl⟩
  | 2,_=>exact ⟨_,rfl⟩
  | 3,_=>exact ⟨_,rfl⟩
  | 4,_=>exact ⟨_,rfl⟩
  | 5,_=>exact ⟨_,rfl⟩
  | 6,_=>exact ⟨_,rfl⟩
  | 7,_=>exact ⟨_,rfl⟩
  | 8,_=>exact ⟨_,rfl⟩
  | 9,_=>exact ⟨_,rfl⟩
 clear hW0;have rb0:=hZ.rb
 go_cut [10] (fun v wx=>v=.int .i64 p∧EZ w (.slice a n cap) wx)
 case first =>
  go_region_with (first
   | (go_at_call 39;refine (HF.out _ (by first|exact hZ|exact hZ.drew|exact hZ.drew.drew|exact hZ.drew.drew.drew)).mono ?_;rintro e w2 ⟨rfl,hZ2⟩;have rb2:=hZ2.rb)
   | (go_at_call 55;refine (HA.out _ (by first|exact hZ2|exact hZ2.drew|exact hZ2.drew.drew|exact hZ2.drew.drew.drew)).mono ?_;rintro e w3 ⟨rfl,hZ3⟩))
  all_goals (try go_wp2_with fail)
  all_goals go_meet
  all_goals exact ⟨rfl,by first|exact hZ3|exact hZ3.drew|exact hZ3.drew.drew⟩
 case rest =>
  obtain ⟨rfl,hZ2⟩:=hcut;obtain ⟨w2,hw2⟩:∃ w2:World,w2=wc:=⟨_,rfl⟩;subst hw2;clear hZ rb0 HF HA;have rb2:=hZ2.rb;have ff:=hZ2.rf;have hbl:=hZ2.bl;obtain ⟨x0,y0⟩:=hZ2.rs 0 (by decide);obtain ⟨x1,y1⟩:=hZ2.rs 1 (by decide);obtain ⟨x2,y2⟩:=hZ2.rs 2 (by decide);obtain ⟨x3,y3⟩:=hZ2.rs 3 (by decide);obtain ⟨x4,y4⟩:=hZ2.rs 4 (by decide);obtain ⟨x5,y5⟩:=hZ2.rs 5 (by decide);obtain ⟨x6,y6⟩:=hZ2.rs 6 (by decide);obtain ⟨x7,y7⟩:=hZ2.rs 7 (by decide);obtain ⟨x8,y8⟩:=hZ2.rs 8 (by decide);obtain ⟨x9,y9⟩:=hZ2.rs 9 (by decide)
  by_cases hneg:p<0
  ·have Hok:Hid (∀ w',Below w.heap.size w w'->E5Post w E p (.returned (.tuple #[evNil,.bool false])) w'):=fun w' hb'=>⟨hb',Or.inl ⟨hneg,rfl⟩⟩
   clear hZ2;go_wp2
   refine bodyPost_ret (v:=.tuple #[evNil,.bool false]) (by simp [results,Tryz.results72,go_sem,y0,y1,y2,y3,y4,y5,y6,y7,y8,y9]) rfl (Hok.out _ ?_)
   iterate 10 (refine Below.setCell ?_ (Nat.le_add_right _ 1) _)
   first|exact hbl|exact hbl.drew
  obtain ⟨q,rfl⟩:∃ q:Nat,p=(q:Int):=⟨p.toNat,by omega⟩;have hqn:q<n:=by omega
  have hq0:(0:Int)<=(q:Int):=by omega
  have hq1:(q:Int)<(n:Int):=by omega
  rcases h.cells with h0|⟨b,off,rfl,hb,hc⟩
  ·omega
  obtain ⟨pa,cp,aa,ca,ga,cg,hec,hok⟩:=hc q hqn;have Hok:Hid (∀ w',Below w.heap.size w w'->E5Post w E (q:Int) (.returned (.tuple #[(E q).val' pa cp aa ca ga cg,.bool true])) w'):=fun w' hb'=>⟨hb',Or.inr ⟨q,rfl,pa,cp,aa,ca,ga,cg,rfl,hok.below hb'⟩⟩
  obtain ⟨c0,c1,c2,c3,c4,c5,c6,c7,c8,c9⟩:=hec.below hbl hb;clear hc hok h hZ2 hec;generalize E q=ev at *;go_wp2
  refine bodyPost_ret (v:=.tuple #[ev.val' pa cp aa ca ga cg,.bool true]) (by simp [results,Tryz.results72,go_sem,y0,y1,y2,y3,y4,y5,y6,y7,y8,y9]) rfl (Hok.out _ ?_)
  iterate 10 (refine Below.setCell ?_ (Nat.le_add_right _ 1) _)
  first|exact hbl|exact hbl.drew
theorem l5L_sl (user:ByteArray)(w:World)(h:SlV w a n cap E)(hs:SlE w sa sc l) :
  Calls Tryz.prog 47 #[.agg #[.slice a n cap],.slice sa l.length sc,.string user] w fun e w'=>e=.returned (.int .i64 (lvV E n l user))∧Below w.heap.size w w':=by
 have hb0:∀ o,Below w.heap.size w (w.alloc o):=fun o=>bA
 have HL:Hid (lvV E n l user=if 0<=atV E n l tPow tNil then byG (E (atV E n l tPow tNil).toNat) user else if 0<=atV E n l tCre tNil∧((E (atV E n l tCre tNil).toNat).sd.toList == user.toList)=true then 100 else 0):=rfl;have HP:Hid (∀ W,Below w.heap.size w W->Calls Tryz.prog 72 #[.agg #[.slice a n cap],.slice sa l.length sc,.string tPow,.string tNil] W (E5Post W E (atV E n l tPow tNil))):=fun W hW=>l5E_sl tPow tNil W (h.below hW) (hs.below hW)
 have HC:Hid (∀ W,Below w.heap.size w W->Calls Tryz.prog 72 #[.agg #[.slice a n cap],.slice sa l.length sc,.string tCre,.string tNil] W (E5Post W E (atV E n l tCre tNil))):=fun W hW=>l5E_sl tCre tNil W (h.below hW) (hs.below hW)
 generalize atV E n l tPow tNil=pp at *;generalize atV E n l tCre tNil=pc at *;generalize lvV E n l user=v at *;clear h hs
 go_enter Tryz.func47,Tryz.ntmps47
 go_wp2_with fail
 refine (HP.out _ (hb0 _)).mono ?_;rintro e w1 ⟨hb1,hq⟩;have hB1:=hb1.mono (B':=w.heap.size+1) (by simp);have hw1:=(hb0 _).trans (hb1.mono (by simp));have hcl:=box_cells hB1 0;have hs1:w.heap.size+1<=w1.heap.size:=by simpa using hB1.size
 rcases hq with ⟨hneg,rfl⟩|⟨q,rfl,pa,cp,aa,ca,ga,cg,rfl,hok⟩
 ·have Hv:Hid (v=if 0<=pc∧((E pc.toNat).sd.toList == user.toList)=true then 100 else 0):=by unfold Hid;rw [HL.out,if_neg (by omega)]
  have hA1:∀ o,Below (w.heap.size+1) (w.alloc (.cells #[.slice a n cap] 25)) (w1.alloc o):=fun o=>hB1.alloc hs1 _
  have hcl1:∀ o,(w1.alloc o).cell? ⟨w.heap.size,0,none⟩=some (.slice a n cap):=fun o=>box_cells (hA1 o) 0
  have hwA:∀ o,Below w.heap.size w (w1.alloc o):=fun o=>hw1.alloc hw1.size _
  clear HL hb1
  go_wp2_with fail
  refine (HC.out _ (hwA _)).mono ?_;rintro e w2 ⟨hb2,hq2⟩;have hw2:=(hwA _).trans (hb2.mono (hwA _).size);rcases hq2 with ⟨hneg2,rfl⟩|⟨c,rfl,pa,cp,aa,ca,ga,cg,rfl,hok⟩
  ·have Hz:Hid (v=0):=by unfold Hid;rw [Hv.out,if_neg (by omega)]
   clear Hv;go_wp2
   go_ret;exact ⟨ret_int Hz.out.symm,hw2.alloc hw2.size _⟩
  cases hsd:((E c).sd.toList == user.toList)
  case true =>
   have Hz:Hid (v=100):=by unfold Hid;rw [Hv.out,Int.toNat_natCast,if_pos ⟨by omega,hsd⟩]
   clear Hv hok;generalize E c=ev at *;go_wp2
   go_ret;exact ⟨ret_int Hz.out.symm,hw2.alloc hw2.size _⟩
  case false =>
   have Hz:Hid (v=0):=by unfold Hid;rw [Hv.out,Int.toNat_natCast,if_neg (fun hx=>by rw [hsd] at hx;cases hx.2)]
   clear Hv hok;generalize E c=ev at *;go_wp2
   go_ret;exact ⟨ret_int Hz.out.symm,hw2.alloc hw2.size _⟩
 have Hv:Hid (v=byG (E q) user):=by unfold Hid;rw [HL.out,if_pos (by omega),Int.toNat_natCast]
 have hwA:∀ o,Below w1.heap.size w1 (w1.alloc o):=fun o=>bA
 have HB:Hid (∀ W,Below w1.heap.size w1 W->Calls Tryz.prog 100 #[.slice ga (E q).ng cg,.string user] W fun e w'=>e=.returned (.int .i64 (byG (E q) user))∧w'=W):=fun W hW=>l5By_sl user W (hok.hg.below hW)
 clear HL hok hb1;generalize E q=ev at *
 go_wp2_with fail
 refine (HB.out _ (hwA _)).mono ?_;rintro e w2 ⟨rfl,rfl⟩;go_wp2
 go_ret;exact ⟨ret_int Hv.out.symm,hw1.alloc hw1.size _⟩
variable {W W':World}{aa ga pa:Option Addr}{ca cg cp ll:Nat}{e:Ev}
def E5o (w:World)(o:Option Ev)(x:Ending)(w':World):Prop:=Below w.heap.size w w' ∧
 ((o=none∧x=.returned (.tuple #[evNil,.bool false]))∨∃ ev,o=some ev∧∃ pa cp aa ca ga cg,x=.returned (.tuple #[ev.val' pa cp aa ca ga cg,.bool true])∧EvOk w' ev pa cp aa ca ga cg)
def evZ:Ev:=⟨⟨#[]⟩,⟨#[]⟩,⟨#[]⟩,⟨#[]⟩,⟨#[]⟩,false,0,0,0,0,fun _=>⟨#[]⟩,fun _=>⟨#[]⟩,fun _=>⟨#[]⟩,fun _=>0⟩
theorem evZ_ok (w:World):EvOk w evZ none 0 none 0 none 0 :=
 ⟨by decide,by decide,by decide,by decide,by decide,⟨nL,by decide,fun i hi=>absurd hi (Nat.not_lt_zero _),Or.inl rfl⟩,⟨nL,by decide,fun i hi=>absurd hi (Nat.not_lt_zero _),Or.inl rfl⟩,⟨nL,by decide,fun i hi=>absurd hi (Nat.not_lt_zero _),Or.inl rfl⟩⟩
theorem E5o.get {o:Option Ev}{x:Ending}(h:E5o w o x w'):Below w.heap.size w w'∧∃ pa cp aa ca ga cg,x=.returned (.tuple #[(o.getD evZ).val' pa cp aa ca ga cg,.bool o.isSome])∧EvOk w' (o.getD evZ) pa cp aa ca ga cg:=by
 obtain ⟨hb,h⟩:=h;refine ⟨hb,?_⟩;rcases h with ⟨rfl,rfl⟩|⟨ev,rfl,r⟩
 ·exact ⟨_,_,_,_,_,_,rfl,evZ_ok w'⟩
 exact r
structure ViewS (w:World)(a:Option Addr)(n cap:Nat)(sa:Option Addr)(ll sc:Nat)(o:View):Prop where
 ev:∀ W kind key,Below w.heap.size w W->Calls Tryz.prog 72 #[.agg #[.slice a n cap],.slice sa ll sc,.string kind,.string key] W (E5o W (o kind key))
 lv:∀ W u,Below w.heap.size w W->Calls Tryz.prog 47 #[.agg #[.slice a n cap],.slice sa ll sc,.string u] W fun e w'=>e=.returned (.int .i64 (lvO o u))∧Below W.heap.size W w'
theorem ViewS.below {o:View}(h:ViewS w a n cap sa ll sc o)(hb:Below w.heap.size w w'):ViewS w' a n cap sa ll sc o :=
 ⟨fun W kind key hW=>h.ev W kind key (hb.trans (hW.mono hb.size)),fun W u hW=>h.lv W u (hb.trans (hW.mono hb.size))⟩
theorem viewS_of (h:SlV w a n cap E)(hs:SlE w sa sc l):ViewS w a n cap sa l.length sc (evO E n l):=by
 refine ⟨fun W kind key hW=>(l5E_sl kind key W (h.below hW) (hs.below hW)).mono fun e w' ⟨h1,h2⟩=>⟨h1,?_⟩,fun W u hW=>(l5L_sl u W (h.below hW) (hs.below hW)).mono fun e w' ⟨h1,h2⟩=>⟨by rw [lvO_evO];exact h1,h2⟩⟩;rcases h2 with ⟨hneg,rfl⟩|⟨q,hq,r⟩
 ·exact Or.inl ⟨if_neg (by omega),rfl⟩
 refine Or.inr ⟨E q,?_,r⟩;unfold evO;rw [hq,if_pos (by omega),Int.toNat_natCast]
theorem l5Mb_sl {o:View}(u:ByteArray)(w:World)(hV:ViewS w a n cap sa ll sc o) :
  Calls Tryz.prog 74 #[.agg #[.slice a n cap],.slice sa ll sc,.string u] w fun e w'=>e=.returned (.string (memO o u))∧Below w.heap.size w w':=by
 have hb0:∀ o,Below w.heap.size w (w.alloc o):=fun o=>bA
 have HP:Hid (∀ W,Below w.heap.size w W->Calls Tryz.prog 72 #[.agg #[.slice a n cap],.slice sa ll sc,.string tMem,.string u] W (E5o W (o tMem u))):=fun W hW=>hV.ev W tMem u hW
 have Hv:Hid (memO o u=match o tMem u with|some m=>m.val|none=>tLea):=rfl;generalize memO o u=v at *;generalize o tMem u=x at *;clear hV
 go_enter Tryz.func74,Tryz.ntmps74
 go_wp2_with fail
 refine (HP.out _ (hb0 _)).mono ?_;rintro e w1 ⟨hb1,hq⟩;have hw1:=(hb0 _).trans (hb1.mono (by simp));rcases hq with ⟨rfl,rfl⟩|⟨m,rfl,pa,cp,aa,ca,ga,cg,rfl,hok⟩
 ·have Hz:Hid (v=tLea):=Hv.out
  clear Hv hb1;go_wp2
  go_ret;exact ⟨by rw [Hz.out];rfl,hw1.alloc hw1.size _⟩
 have Hz:Hid (v=m.val):=Hv.out;clear Hv hb1 hok;go_wp2
 go_ret;exact ⟨by rw [Hz.out];rfl,hw1.alloc hw1.size _⟩
theorem l5Th_sl {o:View}(t:ByteArray)(ht:t.size<=1000)(w:World)(hV:ViewS w a n cap sa ll sc o) :
  Calls Tryz.prog 76 #[.agg #[.slice a n cap],.slice sa ll sc,.string t] w fun e w'=>e=.returned (.int .i64 (tgV o t))∧Below w.heap.size w w':=by
 have hb0:∀ o,Below w.heap.size w (w.alloc o):=fun o=>bA
 have HP:Hid (∀ W,Below w.heap.size w W->Calls Tryz.prog 72 #[.agg #[.slice a n cap],.slice sa ll sc,.string tPow,.string tNil] W (E5o W (o tPow tNil))):=fun W hW=>hV.ev W tPow tNil hW
 have Hv:Hid (tgV o t=match o tPow tNil with|some p=>(gV p.M p.L (⟨#[42]⟩ ++ t) p.ng).getD (dfV o t)|none=>dfV o t):=rfl;have Hd:Hid (dfV o t=if isBan t || isKic t || (isSta t && (o tPow tNil).isSome) then 50 else 0):=rfl;generalize tgV o t=v at *;generalize dfV o t=d at *;generalize o tPow tNil=x at *;clear hV
 go_enter Tryz.func76,Tryz.ntmps76
 go_wp2_with fail
 refine (HP.out _ (hb0 _)).mono ?_;rintro e w1 ⟨hb1,hq⟩;have hw1:=(hb0 _).trans (hb1.mono (by simp));cases hB:isBan t <;> cases hK:isKic t <;> cases hS:isSta t
 all_goals
  rw [hB,hK,hS] at Hd;unfold isBan at hB;unfold isKic at hK;unfold isSta at hS;rcases hq with ⟨rfl,rfl⟩|⟨m,rfl,pa,cp,aa,ca,ga,cg,rfl,hok⟩
  ·have Hz:Hid (v=d):=Hv.out
   clear Hv hb1;go_wp2
   go_ret;exact ⟨ret_int (by rw [Hz.out,Hd.out];rfl),hw1.alloc hw1.size _⟩
  have Hz:Hid (v=(gV m.M m.L (⟨#[42]⟩ ++ t) m.ng).getD d):=Hv.out;have HG:Hid (∀ W,Below w1.heap.size w1 W->Calls Tryz.prog 77 #[.slice ga m.ng cg,.string (⟨#[42]⟩ ++ t)] W fun e w'=>e=.returned (gAns (gV m.M m.L (⟨#[42]⟩ ++ t) m.ng))∧w'=W):=fun W hW=>l5Gr_sl _ W (hok.hg.below hW)
  have hwA:∀ o,Below w1.heap.size w1 (w1.alloc o):=fun o=>bA
  clear Hv hb1 hok
  go_wp2_with fail
  refine (HG.out _ (hwA _)).mono ?_;rintro e w2 ⟨rfl,rfl⟩;cases hg:gV m.M m.L (⟨#[42]⟩ ++ t) m.ng
  all_goals
   have Hg:Hid (_=_):=hg;clear hg;unfold gAns;simp only [Option.getD_some,Option.getD_none,Option.isSome_some,Option.isSome_none];go_wp2
   go_ret;exact ⟨ret_int (by rw [Hz.out,Hg.out];first|rfl|(rw [Hd.out];rfl)),hw1.alloc hw1.size _⟩
structure EZ2 (w W:World)(a:Option Addr)(n cap:Nat)(e:Ev)(pa:Option Addr)(cp:Nat)(aa:Option Addr)(ca:Nat)(ga:Option Addr)(cg:Nat):Prop where
 bl:Below w.heap.size w W
 sz:w.heap.size+2<=W.heap.size
 r:∀ o,W.cell? ⟨w.heap.size,o,none⟩=(#[.slice a n cap]:Array Value)[o]?
 c:∀ o,W.cell? ⟨w.heap.size+1,o,none⟩=((ec e pa cp aa ca ga cg):Array Value)[o]?
theorem EZ2.start (w:World)(a:Option Addr)(n cap:Nat)(e:Ev)(pa:Option Addr)(cp:Nat)(aa:Option Addr)(ca:Nat)(ga:Option Addr)(cg:Nat)(t u:TypeId):EZ2 w ((w.alloc (.cells #[.slice a n cap] t)).alloc (.cells (ec e pa cp aa ca ga cg) u)) a n cap e pa cp aa ca ga cg:=by
 refine ⟨bA.alloc (by simp) _,by simp,fun o=>?_,fun o=>?_⟩
 ·have h1:Below (w.heap.size+1) (w.alloc (.cells #[.slice a n cap] t)) ((w.alloc (.cells #[.slice a n cap] t)).alloc (.cells (ec e pa cp aa ca ga cg) u)):=kB.alloc (by simp) _
  exact box_cells h1 o
 exact kA (by simp)
theorem EZ2.call (h:EZ2 w W a n cap e pa cp aa ca ga cg)(hb:Below W.heap.size W W'):EZ2 w W' a n cap e pa cp aa ca ga cg :=
 ⟨h.bl.trans (hb.mono h.bl.size),nZ h.sz hb.size,fun o=>(hb.cell (by have:=h.sz;simp;omega)).trans (h.r o),fun o=>(hb.cell (by have:=h.sz;simp;omega)).trans (h.c o)⟩
theorem EZ2.alloc (h:EZ2 w W a n cap e pa cp aa ca ga cg)(o:Obj):EZ2 w (W.alloc o) a n cap e pa cp aa ca ga cg:=h.call bA
end Go.Proofs.YtkdalopokdhndaaGreat
