import Derived.Test.YtkdalopokdhndaaGreatLvPZ
set_option maxHeartbeats 16000000
set_option maxRecDepth 100000
namespace Go.Proofs.YtkdalopokdhndaaGreat
open Go.RowKit
variable {w2 wr:World}{a aa ga la pa:Option Addr}{b n p q ca cg cp lc cap off:Nat}{E:Nat->Ev}{S:Nat->ByteArray}
def CutG (wr:World)(ev:Ev)(pa:Option Addr)(cp:Nat)(aa:Option Addr)(ca:Nat)(ga:Option Addr)(cg:Nat)(pv:Value)(wx:World):Prop:=∃ B,pv=.pointer (some ⟨B,0,none⟩)∧B<wx.heap.size∧EvCells wx B 0 ev pa cp aa ca ga cg∧Below wr.heap.size wr wx
theorem cutG_a {ev:Ev}(hb2:Below wr.heap.size wr w2):CutG wr ev pa cp aa ca ga cg (.pointer (some ⟨w2.heap.size,0,none⟩)) (w2.alloc (.cells (ec ev pa cp aa ca ga cg) 30)):=by
 refine ⟨_,rfl,by simp,⟨?_,?_,?_,?_,?_,?_,?_,?_,?_,?_⟩,hb2.alloc hb2.size _⟩
 all_goals
  rw [kA rfl];rfl
theorem cutG_b {ev:Ev}{z0 z1 z2 z3 z4 z5 z6 z7 z8 z9:Value}(hb2:Below wr.heap.size wr w2)(hs:wr.heap.size<w2.heap.size)(y0:w2.cell? ⟨wr.heap.size,0,none⟩=some z0)(y1:w2.cell? ⟨wr.heap.size,1,none⟩=some z1)(y2:w2.cell? ⟨wr.heap.size,2,none⟩=some z2)(y3:w2.cell? ⟨wr.heap.size,3,none⟩=some z3)(y4:w2.cell? ⟨wr.heap.size,4,none⟩=some z4)(y5:w2.cell? ⟨wr.heap.size,5,none⟩=some z5)(y6:w2.cell? ⟨wr.heap.size,6,none⟩=some z6)(y7:w2.cell? ⟨wr.heap.size,7,none⟩=some z7)(y8:w2.cell? ⟨wr.heap.size,8,none⟩=some z8)(y9:w2.cell? ⟨wr.heap.size,9,none⟩=some z9) :
  CutG wr ev pa cp aa ca ga cg (.pointer (some ⟨wr.heap.size,0,none⟩)) ((((((((((w2.setCell ⟨wr.heap.size,0,none⟩ (.string ev.id)).setCell ⟨wr.heap.size,1,none⟩ (.string ev.sd)).setCell ⟨wr.heap.size,2,none⟩ (.string ev.ty)).setCell ⟨wr.heap.size,3,none⟩ (.bool ev.st)).setCell ⟨wr.heap.size,4,none⟩ (.string ev.key)).setCell ⟨wr.heap.size,5,none⟩ (.int .i64 ev.tm)).setCell ⟨wr.heap.size,6,none⟩ (.slice pa ev.np cp)).setCell ⟨wr.heap.size,7,none⟩ (.slice aa ev.na ca)).setCell ⟨wr.heap.size,8,none⟩ (.string ev.val)).setCell ⟨wr.heap.size,9,none⟩ (.slice ga ev.ng cg)):=by
 have hB:Below wr.heap.size w2 ((((((((((w2.setCell ⟨wr.heap.size,0,none⟩ (.string ev.id)).setCell ⟨wr.heap.size,1,none⟩ (.string ev.sd)).setCell ⟨wr.heap.size,2,none⟩ (.string ev.ty)).setCell ⟨wr.heap.size,3,none⟩ (.bool ev.st)).setCell ⟨wr.heap.size,4,none⟩ (.string ev.key)).setCell ⟨wr.heap.size,5,none⟩ (.int .i64 ev.tm)).setCell ⟨wr.heap.size,6,none⟩ (.slice pa ev.np cp)).setCell ⟨wr.heap.size,7,none⟩ (.slice aa ev.na ca)).setCell ⟨wr.heap.size,8,none⟩ (.string ev.val)).setCell ⟨wr.heap.size,9,none⟩ (.slice ga ev.ng cg)):=by
  iterate 10 (refine Below.setCell ?_ (by show wr.heap.size<=wr.heap.size;exact nL) _)
  exact kB
 refine ⟨_,rfl,nT hs hB.size,⟨by rw [set_far (by decide),set_far (by decide),set_far (by decide),set_far (by decide),set_far (by decide),set_far (by decide),set_far (by decide),set_far (by decide),set_far (by decide),set_same ⟨_,y0⟩],by rw [set_far (by decide),set_far (by decide),set_far (by decide),set_far (by decide),set_far (by decide),set_far (by decide),set_far (by decide),set_far (by decide),set_same ⟨_,by rw [set_far (by decide)];exact y1⟩],by rw [set_far (by decide),set_far (by decide),set_far (by decide),set_far (by decide),set_far (by decide),set_far (by decide),set_far (by decide),set_same ⟨_,by rw [set_far (by decide),set_far (by decide)];exact y2⟩],by rw [set_far (by decide),set_far (by decide),set_far (by decide),set_far (by decide),set_far (by decide),set_far (by decide),set_same ⟨_,by rw [set_far (by decide),set_far (by decide),set_far (by decide)];exact y3⟩],by rw [set_far (by decide),set_far (by decide),set_far (by decide),set_far (by decide),set_far (by decide),set_same ⟨_,by rw [set_far (by decide),set_far (by decide),set_far (by decide),set_far (by decide)];exact y4⟩],by rw [set_far (by decide),set_far (by decide),set_far (by decide),set_far (by decide),set_same ⟨_,by rw [set_far (by decide),set_far (by decide),set_far (by decide),set_far (by decide),set_far (by decide)];exact y5⟩],by rw [set_far (by decide),set_far (by decide),set_far (by decide),set_same ⟨_,by rw [set_far (by decide),set_far (by decide),set_far (by decide),set_far (by decide),set_far (by decide),set_far (by decide)];exact y6⟩],by rw [set_far (by decide),set_far (by decide),set_same ⟨_,by rw [set_far (by decide),set_far (by decide),set_far (by decide),set_far (by decide),set_far (by decide),set_far (by decide),set_far (by decide)];exact y7⟩],by rw [set_far (by decide),set_same ⟨_,by rw [set_far (by decide),set_far (by decide),set_far (by decide),set_far (by decide),set_far (by decide),set_far (by decide),set_far (by decide),set_far (by decide)];exact y8⟩],by rw [set_same ⟨_,by rw [set_far (by decide),set_far (by decide),set_far (by decide),set_far (by decide),set_far (by decide),set_far (by decide),set_far (by decide),set_far (by decide),set_far (by decide)];exact y9⟩]⟩,hb2.trans hB⟩
theorem l6EvX (s:ByteArray)(w:World)(h:SlV w (some ⟨b,off,none⟩) n cap E)(hb:b<w.heap.size)(hec:EvCells w b (off+p * 10) (E p) pa cp aa ca ga cg)(hp:p<n)(hs:posV E n s=(p:Int)) :
  Calls Tryz.prog 103 #[.agg #[.slice (some ⟨b,off,none⟩) n cap],.string s] w (fun x w'=>x=.returned ((E p).val' pa cp aa ca ga cg)∧Below w.heap.size w w'):=by
 have hat:Hid (∀ W,EZ w (.slice (some ⟨b,off,none⟩) n cap) W->Calls Tryz.prog 55 #[.agg #[.slice (some ⟨b,off,none⟩) n cap],.string s] W fun e w'=>e=.returned (.int .i64 (p:Int))∧EZ w (.slice (some ⟨b,off,none⟩) n cap) w'):=fun W hW=>by
  refine (l2At_sl s W (h.below hW.bl)).mono ?_;rintro e w' ⟨rfl,rfl⟩;exact ⟨by rw [hs],hW.call bA⟩
 have hn:=nZ h.le h.max;unfold maxLen at hn;clear h hs;generalize E p=ev at *
 go_enter Tryz.func103,Tryz.ntmps103
 go_wp2_with fail
 obtain ⟨W0,hW0⟩:∃ W0,W0=(w.alloc (.cells #[.slice (some ⟨b,off,none⟩) n cap] 25)).alloc (.cells #[.string ⟨#[]⟩,.string ⟨#[]⟩,.string ⟨#[]⟩,.bool false,.string ⟨#[]⟩,.int .i64 0,.slice none 0 0,.slice none 0 0,.string ⟨#[]⟩,.slice none 0 0] 30):=⟨_,rfl⟩;rw [<- hW0]
 have hZ:EZ w (.slice (some ⟨b,off,none⟩) n cap) W0:=by
  subst hW0;refine ⟨by simp,bA.alloc (by simp) _,by simp,fun o ho=>?_,fun o=>kF (by simp)⟩;rw [kA (by simp)]
  match o,ho with
  | 0,_=>exact ⟨_,rfl⟩
  | 1,_=>exact ⟨_,rfl⟩
  | 2,_=>exact ⟨_,rfl⟩
  | 3,_=>exact ⟨_,rfl⟩
  | 4,_=>exact ⟨_,rfl⟩
  | 5,_=>exact ⟨_,rfl⟩
  | 6,_=>exact ⟨_,rfl⟩
  | 7,_=>exact ⟨_,rfl⟩
  | 8,_=>exact ⟨_,rfl⟩
  | 9,_=>exact ⟨_,rfl⟩
 clear hW0;have rb0:=hZ.rb
 go_region_with (go_at_call 55;refine (hat.out _ (by first|exact hZ|exact hZ.drew|exact hZ.drew.drew|exact hZ.drew.drew.drew)).mono ?_;rintro e w2 ⟨rfl,hZ2⟩;have rb2:=hZ2.rb;obtain ⟨c0,c1,c2,c3,c4,c5,c6,c7,c8,c9⟩:=hec.below hZ2.bl hb;have ff:=hZ2.rf;obtain ⟨x0,y0⟩:=hZ2.rs 0 (by decide);obtain ⟨x1,y1⟩:=hZ2.rs 1 (by decide);obtain ⟨x2,y2⟩:=hZ2.rs 2 (by decide);obtain ⟨x3,y3⟩:=hZ2.rs 3 (by decide);obtain ⟨x4,y4⟩:=hZ2.rs 4 (by decide);obtain ⟨x5,y5⟩:=hZ2.rs 5 (by decide);obtain ⟨x6,y6⟩:=hZ2.rs 6 (by decide);obtain ⟨x7,y7⟩:=hZ2.rs 7 (by decide);obtain ⟨x8,y8⟩:=hZ2.rs 8 (by decide);obtain ⟨x9,y9⟩:=hZ2.rs 9 (by decide))
 all_goals
  have hbl:=hZ2.bl;clear hZ2 hZ hat;go_wp2
  refine bodyPost_ret (v:=ev.val' pa cp aa ca ga cg) (by simp [results,Tryz.results103,go_sem,y0,y1,y2,y3,y4,y5,y6,y7,y8,y9]) rfl ⟨rfl,?_⟩
  iterate 10 (refine Below.setCell ?_ (Nat.le_add_right _ 1) _)
  first|exact hbl|exact hbl.drew
theorem has_zero (a:Option Addr)(cap:Nat)(S:Nat->ByteArray)(s:ByteArray)(w:World) :
  Calls Tryz.prog 105 #[.slice a 0 cap,.string s] w fun e w'=>e=.returned (.bool (hasB S 0 s))∧w'=w:=by
 go_enter Tryz.func105,Tryz.ntmps105
 go_wp2
 refine wp_loop_rounds 1 ?_;rw [rounds_succ];go_wp2
 go_ret;exact ⟨rfl,rfl⟩
theorem has_sl (s:ByteArray)(w:World)(h:SlS w a n cap S) :
  Calls Tryz.prog 105 #[.slice a n cap,.string s] w fun e w'=>e=.returned (.bool (hasB S n s))∧w'=w:=by
 rcases h.cells with rfl|⟨b,off,rfl,_,hc⟩
 ·exact has_zero a cap S s w
 exact has_any b off n cap S s w (nZ h.le h.max) hc
theorem l6So_sl {pb ab gb:Option Addr}{dp da dg:Nat}(w:World)(hroom:roomTo E n=true)(hp:p<n)(hq:q<n)(h:SlV w a n cap E)(hep:EvOk w (E p) pa cp aa ca ga cg)(heq:EvOk w (E q) pb dp ab da gb dg) :
  Calls Tryz.prog 172 #[.agg #[.slice a n cap],(E p).val' pa cp aa ca ga cg,(E q).val' pb dp ab da gb dg] w fun x w'=>x=.returned (.bool (sooB E n p q))∧Below w.heap.size w w':=by
 obtain ⟨wb,hwb⟩:∃ wb,wb=(boxes w a n cap (E p) pa cp aa ca ga cg).alloc (.cells (ec (E q) pb dp ab da gb dg) 30):=⟨_,rfl⟩;have hb0:Below w.heap.size w wb:=by rw [hwb];exact (bA.alloc (by simp) _).alloc (by simp;omega) _
 have hs0:wb.heap.size=w.heap.size+3:=by rw [hwb];simp
 have hbx:Hid (∀ wx,Below (w.heap.size+3) wb wx->wx.cell? ⟨w.heap.size,0,none⟩=some (.slice a n cap)∧(∀ o,wx.cell? ⟨w.heap.size+1,o,none⟩=((ec (E p) pa cp aa ca ga cg):Array Value)[o]?)∧(∀ o,wx.cell? ⟨w.heap.size+2,o,none⟩=((ec (E q) pb dp ab da gb dg):Array Value)[o]?)):=fun wx hx=>by
  have h2:Below (w.heap.size+2) (boxes w a n cap (E p) pa cp aa ca ga cg) wx:=by
   have:Below (w.heap.size+2) (boxes w a n cap (E p) pa cp aa ca ga cg) wb:=by rw [hwb];exact kB.alloc (by simp) _
   exact this.trans (hx.mono (by omega))
  have h1:=boxes_cells (E p) w h2;refine ⟨h1.1,h1.2,fun o=>?_⟩;rw [hx.cell (by show w.heap.size+2<w.heap.size+3;omega),hwb];exact kA (by simp)
 have HP:Hid (∀ W,Below w.heap.size w W->Calls Tryz.prog 214 #[.agg #[.slice a n cap],(E p).val' pa cp aa ca ga cg] W fun x w'=>x=.returned (.int .i64 (auV E n p))∧Below W.heap.size W w'):=fun W hW=>l6Au_sl W hroom hp (h.below hW) (hep.below hW)
 have HQ:Hid (∀ W,Below w.heap.size w W->Calls Tryz.prog 214 #[.agg #[.slice a n cap],(E q).val' pb dp ab da gb dg] W fun x w'=>x=.returned (.int .i64 (auV E n q))∧Below W.heap.size W w'):=fun W hW=>l6Au_sl W hroom hq (h.below hW) (heq.below hW)
 have Hv:Hid (∀ x y,x=auV E n p->y=auV E n q->sooB E n p q=if x=y then (if (E p).tm=(E q).tm then Op.bytesLess (E p).id.toList (E q).id.toList else decide ((E p).tm<(E q).tm)) else decide (y<x)):=fun x y hx hy=>by subst hx hy;rfl
 clear hroom hp hq h hep heq
 go_enter Tryz.func172,Tryz.ntmps172
 go_wp2_with fail
 have hwb':((w.alloc (.cells #[.slice a n cap] 25)).alloc (.cells (ec (E p) pa cp aa ca ga cg) 30)).alloc (.cells (ec (E q) pb dp ab da gb dg) 30)=wb:=hwb.symm;rw [hwb'];clear hwb' hwb;refine (HP.out _ hb0).mono ?_;rintro e w1 ⟨rfl,hb1⟩;have hB1:=hb1.mono (B':=w.heap.size+3) (by omega);have hw1:=hb0.trans (hB1.mono (by omega));have hs1:w.heap.size+3<=w1.heap.size:=by have:=hB1.size;omega
 obtain ⟨r0,p0,q0⟩:=hbx.out _ hB1;have qq0:=q0 0;have qq1:=q0 1;have qq2:=q0 2;have qq3:=q0 3;have qq4:=q0 4;have qq5:=q0 5;have qq6:=q0 6;have qq7:=q0 7;have qq8:=q0 8;have qq9:=q0 9;clear HP p0 q0 hb1
 go_wp2_with fail
 refine (HQ.out _ hw1).mono ?_;rintro e w2 ⟨rfl,hb2⟩;have hB2:=hB1.trans (hb2.mono hs1);have hw2:=hb0.trans (hB2.mono (by omega));obtain ⟨-,p2,q2⟩:=hbx.out _ hB2;have pa0:=p2 0;have pa5:=p2 5;have qa0:=q2 0;have qa5:=q2 5;clear HQ p2 q2 hb2 qq0 qq1 qq2 qq3 qq4 qq5 qq6 qq7 qq8 qq9 r0 hbx;have HV:Hid (sooB E n p q=if auV E n p=auV E n q then (if (E p).tm=(E q).tm then Op.bytesLess (E p).id.toList (E q).id.toList else decide ((E p).tm<(E q).tm)) else decide (auV E n q<auV E n p)):=Hv.out _ _ rfl rfl;clear Hv;generalize auV E n p=x at *;generalize auV E n q=y at *;generalize E p=ep at *;generalize E q=eq at *
 by_cases hxy:x=y
 ·subst hxy
  by_cases ht:ep.tm=eq.tm
  ·have HR:Hid (sooB E n p q=Op.bytesLess ep.id.toList eq.id.toList):=by
    have:=HV.out;rw [if_pos rfl,if_pos ht] at this;exact this
   have t1:(ep.tm != eq.tm)=false:=by simp [ht]
   clear HV;go_wp2
   go_ret;exact ⟨ret_bool HR.out.symm,hw2⟩
  have HR:Hid (sooB E n p q=decide (ep.tm<eq.tm)):=by
   have:=HV.out;rw [if_pos rfl,if_neg ht] at this;exact this
  have t1:(ep.tm != eq.tm)=true:=by simpa using ht
  clear HV;go_wp2
  go_ret;exact ⟨ret_bool HR.out.symm,hw2⟩
 have HR:Hid (sooB E n p q=decide (y<x)):=by
  have:=HV.out;rw [if_neg hxy] at this;exact this
 have t1:(x != y)=true:=by simpa using hxy
 clear HV;go_wp2
 go_ret;exact ⟨ret_bool HR.out.symm,hw2⟩
def rdyTo (A LS:Nat->ByteArray)(lm:Nat)(OS:Nat->ByteArray)(om:Nat):Nat->Bool
 | 0=>true
 | k+1=>rdyTo A LS lm OS om k && !(hasB LS lm (A k) && !hasB OS om (A k))
theorem rdyTo_le (A LS:Nat->ByteArray)(lm:Nat)(OS:Nat->ByteArray)(om:Nat):∀ m k,k<m->rdyTo A LS lm OS om (k+1)=false->rdyTo A LS lm OS om m=false
 | m+1,k,hk,e=>by
  by_cases h:k=m
  ·subst h;exact e
  rw [rdyTo,rdyTo_le A LS lm OS om m k (by omega) e];rfl
theorem rdyTo_iff (A LS:Nat->ByteArray)(lm:Nat)(OS:Nat->ByteArray)(om:Nat):∀ m,rdyTo A LS lm OS om m=true↔∀ k,k<m->hasB LS lm (A k)=true->hasB OS om (A k)=true
 | 0=>by simp [rdyTo]
 | m+1=>by
  rw [rdyTo,Bool.and_eq_true,rdyTo_iff A LS lm OS om m];constructor
  ·rintro ⟨h1,h2⟩ k hk h3
   by_cases e:k=m
   ·subst e
    rw [h3] at h2;simpa using h2
   exact h1 k (by omega) h3
  intro h;refine ⟨fun k hk=>h k (by omega),?_⟩;cases h1:hasB LS lm (A m)
  ·rfl
  rw [h m (by omega) h1];rfl
theorem l6Rd_sl {ev:Ev}{lm:Nat}{LS:Nat->ByteArray}{oa:Option Addr}{om oc:Nat}{OS:Nat->ByteArray}(w:World)(he:SlS w aa ev.na ca ev.Av)(hl:SlS w la lm lc LS)(ho:SlS w oa om oc OS) :
  Calls Tryz.prog 171 #[ev.val' pa cp aa ca ga cg,.slice la lm lc,.slice oa om oc] w fun x w'=>x=.returned (.bool (rdyTo ev.Av LS lm OS om ev.na))∧Below w.heap.size w w':=by
 have hna:=nZ he.le he.max;unfold maxLen at hna;obtain ⟨wb,hwb⟩:∃ wb,wb=w.alloc (.cells (ec ev pa cp aa ca ga cg) 30):=⟨_,rfl⟩;have hb0:Below w.heap.size w wb:=by rw [hwb];exact bA
 have c7:wb.cell? ⟨w.heap.size,7,none⟩=some (.slice aa ev.na ca):=by rw [hwb];exact kA rfl
 have HL:Hid (∀ s,Calls Tryz.prog 105 #[.slice la lm lc,.string s] wb fun e w'=>e=.returned (.bool (hasB LS lm s))∧w'=wb):=fun s=>has_sl s wb (hl.below hb0)
 have HO:Hid (∀ s,Calls Tryz.prog 105 #[.slice oa om oc,.string s] wb fun e w'=>e=.returned (.bool (hasB OS om s))∧w'=wb):=fun s=>has_sl s wb (ho.below hb0)
 have HA:Hid (SlS wb aa ev.na ca ev.Av):=he.below hb0;clear hl ho he
 go_enter Tryz.func171,Tryz.ntmps171
 go_wp2_with fail
 rw [<- hwb];clear hwb
 go_loopw [7] (fun i wr=>∃ k:Nat,k<=ev.na∧i=.int .i64 k∧Hid (rdyTo ev.Av LS lm OS om k=true)∧wr=wb) (fun i _=>ev.na - (intOf i).toNat)
 case atStart=>exact ⟨0,nz,rfl,rfl,rfl⟩
 case round =>
  obtain ⟨k,hk,rfl,hto,hwr⟩:=hrel;subst hwr
  by_cases hlt:k<ev.na
  ·rcases HA.out.cells with h0|⟨ba,oa',rfl,hba,hca⟩
   ·omega
   have hck:=hca k hlt;have H1:Hid (∀ b1,hasB LS lm (ev.Av k)=b1->Calls Tryz.prog 105 #[.slice la lm lc,.string (ev.Av k)] wr fun e w'=>e=.returned (.bool b1)∧w'=wr):=fun b1 e1=>by rw [<- e1];exact HL.out _
   have H2:Hid (∀ b1,hasB OS om (ev.Av k)=b1->Calls Tryz.prog 105 #[.slice oa om oc,.string (ev.Av k)] wr fun e w'=>e=.returned (.bool b1)∧w'=wr):=fun b1 e1=>by rw [<- e1];exact HO.out _
   have HS:Hid (∀ b1 b2,hasB LS lm (ev.Av k)=b1->hasB OS om (ev.Av k)=b2->rdyTo ev.Av LS lm OS om (k+1)=!(b1 && !b2)):=fun b1 b2 e1 e2=>by rw [rdyTo,hto.out,e1,e2];rfl
   have HF:Hid (rdyTo ev.Av LS lm OS om (k+1)=false->rdyTo ev.Av LS lm OS om ev.na=false):=rdyTo_le _ _ _ _ _ _ k hlt;clear hca hto;cases h1:hasB LS lm (ev.Av k)
   case false =>
    have Hn:Hid (_=_):=HS.out _ _ h1 rfl;have H1':Hid (Calls Tryz.prog 105 #[.slice la lm lc,.string (ev.Av k)] wr fun e w'=>e=.returned (.bool false)∧w'=wr):=H1.out _ h1;clear HS HF H1 H2 h1
    go_wp2_with fail
    refine (H1'.out).mono ?_;rintro e w1 ⟨rfl,rfl⟩;go_wp2
    go_roundw
    case rel=>exact ⟨k+1,by omega,by go_num,Hn,by first|rfl|trivial⟩
    simp [intOf];omega
   case true =>
    cases h2:hasB OS om (ev.Av k)
    case true =>
     have Hn:Hid (_=_):=HS.out _ _ h1 h2;have H1':Hid (Calls Tryz.prog 105 #[.slice la lm lc,.string (ev.Av k)] wr fun e w'=>e=.returned (.bool true)∧w'=wr):=H1.out _ h1;have H2':Hid (Calls Tryz.prog 105 #[.slice oa om oc,.string (ev.Av k)] wr fun e w'=>e=.returned (.bool true)∧w'=wr):=H2.out _ h2;clear HS HF H1 H2 h1 h2
     go_wp2_with fail
     refine (H1'.out).mono ?_;rintro e w1 ⟨rfl,rfl⟩
     go_wp2_with fail
     refine (H2'.out).mono ?_;rintro e w2 ⟨rfl,rfl⟩;go_wp2
     go_roundw
     case rel=>exact ⟨k+1,by omega,by go_num,Hn,by first|rfl|trivial⟩
     simp [intOf];omega
    case false =>
     have Hn:Hid (_=_):=HF.out (HS.out _ _ h1 h2);have H1':Hid (Calls Tryz.prog 105 #[.slice la lm lc,.string (ev.Av k)] wr fun e w'=>e=.returned (.bool true)∧w'=wr):=H1.out _ h1;have H2':Hid (Calls Tryz.prog 105 #[.slice oa om oc,.string (ev.Av k)] wr fun e w'=>e=.returned (.bool false)∧w'=wr):=H2.out _ h2;clear HS HF H1 H2 h1 h2
     go_wp2_with fail
     refine (H1'.out).mono ?_;rintro e w1 ⟨rfl,rfl⟩
     go_wp2_with fail
     refine (H2'.out).mono ?_;rintro e w2 ⟨rfl,rfl⟩;go_wp2
     go_ret;exact ⟨ret_bool Hn.out.symm,hb0⟩
  have hkn:ev.na=k:=by omega
  have Hn:Hid (rdyTo ev.Av LS lm OS om ev.na=true):=by rw [hkn];exact hto
  clear hto;go_wp2
  go_ret;exact ⟨ret_bool Hn.out.symm,hb0⟩
end Go.Proofs.YtkdalopokdhndaaGreat
