import Derived.Test.YtkdalopokdhndaaGreatDmWZ
set_option maxHeartbeats 16000000
set_option maxRecDepth 100000
namespace Go.Proofs.YtkdalopokdhndaaGreat
open Go.RowKit
variable {bs:Nat->Nat}{i m q st:Nat}{u14 u15 u16 u17 u18 u19 u20 u21 u22 u23 u24 u25 u26 u27 u28 u29 u30 u31 u32 u33 u34 u35 u36 u37 u38 u39 u40 u41 u42 u43 u44 u45 u46 u47 u48 u49 u50 u51 u52 u53 u54 u55 u56 u57 u58 u59 u60 u61 u62 u63 u64 u65 u66 u67 u68 u69 u70 u71 u72 u73 u74 u75 u76 u77 u78 u79 u80 u81 u82 u83 u84 u85 u86 u87 u88 u89 u90 u91 u92 u93 u94 u95 u96 u97 u98 u99 u100 u101 u102 u103 u104 u105 u106:Value}
def DmPost (p:Nat)(w:World)(bs:Nat->Nat)(m q:Nat)(x:Ending)(w':World):Prop :=
 ∃ i rb rc T sg sc Aa Ca,0<i∧DrOk i (drFin bs m q)∧x=.returned (.tuple #[.agg #[.slice (some ⟨rb,0,none⟩) (drFin bs m q).n rc],.slice (some ⟨sg,0,none⟩) (drFin bs m q).n sc])∧RowV QO w' w.heap.size (.slice (some ⟨rb,0,none⟩) (drFin bs m q).n rc) (drFin bs m q).n (drFin bs m q).E T∧RowL List.length PE 26 w' w.heap.size (.slice (some ⟨sg,0,none⟩) (drFin bs m q).n sc) (drFin bs m q).n (drFin bs m q).A Aa Ca∧(∀ j,j<(drFin bs m q).n->((drFin bs m q).A j).length=0∨∃ b off,Aa j=some ⟨b,off,none⟩∧w.heap.size<=b)∧DwF p w w' bs m (drFin bs m q).q
def DrRel (p:Nat)(w:World)(bs:Nat->Nat)(m q mo st r5 fb i:Nat)(sv:Value)(wr:World):Prop :=
 ∃ n E A q0 b3 rb rc T sg sc Aa Ca,sv=.slice (some ⟨sg,0,none⟩) n sc∧Hid (DrOk i ⟨n,E,A,q0⟩)∧Hid (drRun bs m mo st (16 - i) i ⟨n,E,A,q0⟩=drFin bs m q)∧Hid (DrI p w wr bs m q0 n E n A r5 b3 rb rc T sg sc Aa Ca (r5+2) (r5+12) fb (fstT (r5+2)))
def DrEv (p:Nat)(w:World)(bs:Nat->Nat)(m st i n:Nat)(E:Nat->Ev)(A:Nat->List Ent)(q0 r5 b3 rb rc:Nat)(T:Nat->Ls)(sg sc:Nat)(Aa:Nat->Option Addr)(Ca:Nat->Nat)(fb B:Nat)(wx:World):Prop :=
 ∃ e pa cp aa ca ga cg,Hid (e=drE bs m st i ⟨n,E,A,q0⟩)∧Hid (EvReach e)∧Hid (EvOk wx e pa cp aa ca ga cg)∧(∀ o,o<10->wx.cell? ⟨B,o,none⟩=some (((ec e pa cp aa ca ga cg):Array Value)[o]?.getD undef))∧Hid (DrI p w wx bs m (drQ bs m st i ⟨n,E,A,q0⟩) n E n A r5 b3 rb rc T sg sc Aa Ca (r5+2) (r5+12) fb (fstT (r5+2)))
def GwPost2 (p:Nat)(w:World)(bs:Nat->Nat)(m q:Nat)(E:Nat->Ev)(n:Nat)(A:Nat->List Ent)(x:Ending)(w':World):Prop :=
 ∃ e pa cp aa ca ga cg,GwR bs m q E n A e∧x=.returned (.agg (ec e pa cp aa ca ga cg))∧EvOk w' e pa cp aa ca ga cg∧EvLo w.heap.size e pa aa ga∧GwO w' w.heap.size e pa cp aa ca ga cg∧DwF p w w' bs m (gwQ bs m q)
theorem drRun_stop {mo:Nat}{s:DrSt}(h:¬ drC m mo st i s)(hi:i<=15):drRun bs m mo st (16 - i) i s=s:=by
 rw [show 16 - i=(15 - i)+1 by omega];unfold drRun;rw [if_neg h]
theorem drRun_go {mo:Nat}{s:DrSt}(h:drC m mo st i s)(hi:i<=15):drRun bs m mo st (16 - i) i s=drRun bs m mo st (16 - (i+1)) (i+1) (drStep bs m st i s):=by
 rw [show 16 - i=(16 - (i+1))+1 by omega]
 conv=>lhs;unfold drRun
 rw [if_pos h]
theorem drLoop (p:Nat){q1 mo r5 b0 rb0 fb:Nat}{u4:Value}(w w5:World)(hp:p<w.heap.size)(hst5:1<=st∧st<=5)(hmo15:mo<=15∧1<=mo)(Hfin:Hid (drRun bs m mo st 16 0 ⟨0,fun _=>fstE 0,fun _=>[],q1⟩=drFin bs m q))(HI5:Hid (DrI p w w5 bs m q1 0 (fun _=>fstE 0) 0 (fun _=>[]) r5 b0 rb0 0 (fun _=>fstT 0 0) (r5+1) 0 (fun _=>none) (fun _=>0) (r5+2) (r5+12) fb (fstT (r5+2)))) :
  Code.wp Tryz.prog (tlN (Tryz.f62.body.getD .skip) 9) (bodyPost Tryz.prog Tryz.f62 (DmPost p w bs m q)) { tmps:=#[.pointer (some ⟨p,0,none⟩),undef,.pointer (some ⟨w.heap.size,0,none⟩),.slice none 0 0,u4,.pointer (some ⟨r5,0,none⟩),.slice (some ⟨r5+1,0,none⟩) 0 0,.slice (some ⟨fb,0,none⟩) 5 5,.int .i64 (st:Int),.int .i64 (mo:Int),undef,undef,undef,undef,u14,u15,u16,u17,u18,u19,u20,u21,u22,u23,u24,u25,u26,u27,u28,u29,u30,u31,u32,u33,u34,u35,u36,u37,u38,u39,u40,u41,u42,u43,u44,u45,u46,u47,u48,u49,u50,u51,u52,u53,u54,u55,u56,u57,u58,u59,u60,u61,u62,u63,u64,u65,u66,u67,u68,u69,u70,u71,u72,u73,u74,u75,u76,u77,u78,u79,u80,u81,u82,u83,u84,u85,u86,u87,u88,u89,u90,u91,u92,u93,u94,u95,u96,u97,u98,u99,u100,u101,u102,u103,u104,u105,u106],defers:=[] } w5:=by
 obtain ⟨j0,hj0,hy0,hy1,hy2⟩:=info_parts Tryz.infoRowE;rw [show tlN (Tryz.f62.body.getD .skip) 9=Code.seq _ _ from rfl];have HR0:Hid (DrRel p w bs m q mo st r5 fb 0 (.slice (some ⟨r5+1,0,none⟩) 0 0) w5):=⟨0,_,_,q1,b0,rb0,0,_,r5+1,0,_,_,rfl,DrOk.zero q1,Hfin.out,HI5.out⟩;clear Hfin HI5
 go_wp2_with fail
 go_loopw [6,10] (fun sv iv wr=>∃ i:Nat,i<=mo∧iv=.int .i64 (i:Int)∧DrRel p w bs m q mo st r5 fb i sv wr) (fun _ iv _=>16 - (intOf iv).toNat)
 case atStart=>exact ⟨0,nz,rfl,HR0.out⟩
 case round =>
  clear HR0;obtain ⟨i,hi,rfl,n,E,A,q0,b3,rb,rc,T,sg,sc,Aa,Ca,rfl,hok,hrun,hI⟩:=hrel;have hm1000:m<=1000:=hI.out.dw.1.m1;have hq2000:q0<=2000:=hI.out.dw.1.q1;have hn15:n<=15:=nZ hok.out.le (by omega);obtain ⟨cC,hcC⟩:∃ cC,cC=decide (i<mo∧(i<st∨q0<m)):=⟨_,rfl⟩;have HcC:Hid (cC=decide (i<mo∧(i<st∨q0<m))):=hcC;clear hcC
  go_upto_region 12 with fail
  go_cut [69] (fun v wx=>v=.bool cC∧Below wr.heap.size wr wx)
  case first =>
   have HL:Hid (Calls Tryz.prog 120 #[.pointer (some ⟨p,0,none⟩)] wr (fun e w'=>e=.returned (.int .i64 ((m:Int) - (q0:Int)))∧Below wr.heap.size wr w')):=leftF p wr hI.out.dw.1;have hcC:=HcC.out;clear hI hok hrun HcC
   by_cases h1:i<mo
   ·have h1i:(i:Int)<(mo:Int):=by omega
    by_cases h2:i<st
    ·have h2i:(i:Int)<(st:Int):=by omega
     have e1:cC=true:=by rw [hcC];exact decide_eq_true ⟨h1,Or.inl h2⟩
     clear hcC HL;go_wp2
     go_meet;exact ⟨by rw [e1],kB⟩
    have h2i:¬ (i:Int)<(st:Int):=by omega
    have h2b:decide ((i:Int)<(st:Int))=false:=decide_eq_false h2i
    have e1:cC=decide (q0<m):=by
     rw [hcC]
     by_cases h3:q0<m
     ·rw [decide_eq_true h3];exact decide_eq_true ⟨h1,Or.inr h3⟩
     rw [decide_eq_false h3];exact decide_eq_false (fun h=>h.2.elim h2 h3)
    clear hcC
    go_wp2_with fail
    refine HL.out.mono ?_;rintro x w2 ⟨rfl,hb2⟩;clear HL;go_wp2
    go_meet;exact ⟨by rw [e1],hb2⟩
   have h1i:¬ (i:Int)<(mo:Int):=by omega
   have h1b:decide ((i:Int)<(mo:Int))=false:=decide_eq_false h1i;have e1:cC=false:=by rw [hcC];exact decide_eq_false (fun h=>h1 h.1)
   clear hcC HL;go_wp2
   go_meet;exact ⟨by rw [e1],kB⟩
  case rest =>
   obtain ⟨rfl,hb2⟩:=hcut;obtain ⟨w2,hw2⟩:∃ w2:World,w2=wc:=⟨_,rfl⟩;subst hw2;have HI2:Hid (DrI p w w2 bs m q0 n E n A r5 b3 rb rc T sg sc Aa Ca (r5+2) (r5+12) fb (fstT (r5+2))):=hI.out.below hp hb2;clear hI hb2;cases cC
   case false =>
    have hno:¬ drC m mo st i ⟨n,E,A,q0⟩:=fun h=>by have hq:=HcC.out;rw [decide_eq_true (show i<mo∧(i<st∨q0<m) from h)] at hq;cases hq
    have Hi0:Hid (0<i):=Nat.pos_of_ne_zero fun e=>hno (by subst e;exact ⟨by omega,Or.inl (by omega)⟩)
    have Hs:Hid (⟨n,E,A,q0⟩=drFin bs m q):=by unfold Hid;rw [<- hrun.out];exact (drRun_stop hno (by omega)).symm
    obtain ⟨z0,hz0⟩:=HI2.out.z;have f0:=HI2.out.fz;have x5:=HI2.out.box
    have HP:Hid (∀ W',Kb w.heap.size w2 W'->DwF p w W' bs m q0->DmPost p w bs m q (.returned (.tuple #[.agg #[.slice (some ⟨rb,0,none⟩) n rc],.slice (some ⟨sg,0,none⟩) n sc])) W'):=fun W' hk hd=>by
     have hlo:=HI2.out.lo;have hb3l:=HI2.out.b3l;have hsg:=HI2.out.aft.at.2.1;have hr:=HI2.out.room.kb qkO hk hb3l;have ha:=HI2.out.aft.kx hk (fun e=>by have:sg=w.heap.size:=(by simpa [Value.ownBlock] using e);omega) (fun i hi=>(HI2.out.alo i hi).imp id fun ⟨b,off,e,hb⟩=>⟨b,off,e,by omega⟩);unfold DmPost;rw [<- Hs.out];exact ⟨i,rb,rc,T,sg,sc,Aa,Ca,Hi0.out,hok.out,rfl,hr.lo (by omega),ha.mono (by omega),fun j hj=>(HI2.out.alo j hj).imp id fun ⟨b,off,e,hb⟩=>⟨b,off,e,by omega⟩,hd⟩
    have HD:Hid (DwF p w w2 bs m q0):=HI2.out.dw;clear hok hrun HcC hno HI2;go_wp2
    refine bodyPost_ret (v:=.tuple #[.agg #[.slice (some ⟨rb,0,none⟩) n rc],.slice (some ⟨sg,0,none⟩) n sc]) (by simp [results,Tryz.results62,go_sem,hz0]) rfl (HP.out _ ((Kb.refl _ _).set 0 _) (HD.out.own nL hp 0 _))
   case true =>
    have hgo:i<mo∧(i<st∨q0<m):=by have hq:=HcC.out;simpa using hq.symm
    have hrun2:Hid (drRun bs m mo st (16 - (i+1)) (i+1) (drStep bs m st i ⟨n,E,A,q0⟩)=drFin bs m q):=by unfold Hid;rw [<- hrun.out];exact (drRun_go (show drC m mo st i ⟨n,E,A,q0⟩ from hgo) (by omega)).symm
    clear hrun HcC;obtain ⟨e0,he0⟩:∃ e0,e0=fstE 0:=⟨_,rfl⟩;obtain ⟨t0,ht0⟩:∃ t0,t0=fstT (r5+2) 0:=⟨_,rfl⟩;have hx0:=(HI2.out.fst.at qkJ).2.2.2 0 (by decide);rw [Nat.zero_mul,<- he0,<- ht0] at hx0;obtain ⟨c0,c1,c2,c3,c4,c5,c6,c7,c8,c9⟩:=hx0;simp only [Nat.zero_add] at c1 c2 c3 c4 c5 c6 c7 c8 c9;clear he0 ht0
    go_upto_if 77 with fail
    obtain ⟨w3,hw3⟩:∃ w3:World,w3=w2.alloc (.cells (ec e0 t0.pa t0.cp t0.aa t0.ca t0.ga t0.cg) 30):=⟨_,rfl⟩;rw [<- hw3];have hb3':Below w2.heap.size w2 w3:=by rw [hw3];exact bA
    have HV3:Hid (∀ o,o<10->w3.cell? ⟨w2.heap.size,o,none⟩=some (((ec e0 t0.pa t0.cp t0.aa t0.ca t0.ga t0.cg):Array Value)[o]?.getD undef)):=fun o ho=>by
     rw [hw3,kA rfl,Array.getElem?_eq_getElem (by show o<10;omega)];rfl
    have HF3:Hid (∀ o,w3.frozen? ⟨w2.heap.size,o,none⟩=false):=fun o=>by rw [hw3];exact kF rfl
    obtain ⟨B,hB⟩:∃ B,B=w2.heap.size:=⟨_,rfl⟩;have hB3:B<w3.heap.size:=by rw [hw3,hB];simp
    rw [<- hB] at HV3 HF3 ⊢;have HB2:Hid (w2.heap.size<=B):=by unfold Hid;omega
    have HI3:Hid (DrI p w w3 bs m q0 n E n A r5 b3 rb rc T sg sc Aa Ca (r5+2) (r5+12) fb (fstT (r5+2))):=HI2.out.below hp hb3';have HK3:Hid (Kb p w2 w3):=(Kb.refl _ _).below hb3';clear c0 c1 c2 c3 c4 c5 c6 c7 c8 c9 hw3 hb3' hB
    go_cut [85] (fun _ wx=>DrEv p w bs m st i n E A q0 r5 b3 rb rc T sg sc Aa Ca fb B wx)
    case first =>
     have z0:w3.cell? ⟨B,0,none⟩=some (.string e0.id):=HV3.out 0 (by decide);have z1:w3.cell? ⟨B,1,none⟩=some (.string e0.sd):=HV3.out 1 (by decide);have z2:w3.cell? ⟨B,2,none⟩=some (.string e0.ty):=HV3.out 2 (by decide);have z3:w3.cell? ⟨B,3,none⟩=some (.bool e0.st):=HV3.out 3 (by decide);have z4:w3.cell? ⟨B,4,none⟩=some (.string e0.key):=HV3.out 4 (by decide);have z5:w3.cell? ⟨B,5,none⟩=some (.int .i64 e0.tm):=HV3.out 5 (by decide);have z6:w3.cell? ⟨B,6,none⟩=some (.slice t0.pa e0.np t0.cp):=HV3.out 6 (by decide);have z7:w3.cell? ⟨B,7,none⟩=some (.slice t0.aa e0.na t0.ca):=HV3.out 7 (by decide);have z8:w3.cell? ⟨B,8,none⟩=some (.string e0.val):=HV3.out 8 (by decide);have z9:w3.cell? ⟨B,9,none⟩=some (.slice t0.ga e0.ng t0.cg):=HV3.out 9 (by decide);have f0:=HF3.out
     by_cases h2:i<st
     ·have h2i:(i:Int)<(st:Int):=by omega
      have h5i:(i:Int)<5:=by omega
      have hii:(0:Int)<=(i:Int):=by omega
      obtain ⟨ei,hei⟩:∃ ei,ei=fstE i:=⟨_,rfl⟩;obtain ⟨ti,hti⟩:∃ ti,ti=fstT (r5+2) i:=⟨_,rfl⟩;have hxi:=(HI3.out.fst.at qkJ).2.2.2 i (by omega);rw [<- hei,<- hti] at hxi;obtain ⟨c0,c1,c2,c3,c4,c5,c6,c7,c8,c9⟩:=hxi
      have HP:Hid (∀ W,DrI p w W bs m q0 n E n A r5 b3 rb rc T sg sc Aa Ca (r5+2) (r5+12) fb (fstT (r5+2))->(∀ o,o<10->W.cell? ⟨B,o,none⟩=some (((ec ei ti.pa ti.cp ti.aa ti.ca ti.ga ti.cg):Array Value)[o]?.getD undef))->DrEv p w bs m st i n E A q0 r5 b3 rb rc T sg sc Aa Ca fb B W):=fun W hW hc=>by
       have hq:=(hW.fst.q i (by omega)).ok;rw [<- hei,<- hti] at hq;refine ⟨ei,ti.pa,ti.cp,ti.aa,ti.ca,ti.ga,ti.cg,?_,?_,hq,hc,?_⟩
       ·unfold Hid drE;rw [if_pos h2];exact hei
       ·rw [hei];exact fstE_reach i
       unfold Hid drQ;rw [if_pos h2];exact hW
      have HX:=HI2.out.fill hp (W4:=w3) HK3.out HI3.out.dw HB2.out;have HY:=fill_cells HV3.out;have HXh:Hid (_):=HX;have HYh:Hid (_):=HY;clear HX HY hok hrun2 HI2 HI3 HV3 HF3 HK3 hei hti;go_wp2
      go_meet;exact HP.out _ (HXh.out _ _ _ _ _ _ _ _ _ _) (HYh.out _ _ _ _ _ _ _ _ _ _)
     have h2i:¬ (i:Int)<(st:Int):=by omega
     have h0i:0<i:=by omega
     have HGw:Hid (Calls Tryz.prog 64 #[.pointer (some ⟨p,0,none⟩),.agg #[.slice (some ⟨rb,0,none⟩) n rc],.slice (some ⟨sg,0,none⟩) n sc] w3 (GwPost2 p w3 bs m q0 E n A)):=l2Gw p w3 HI3.out.dw.1 (hok.out.pos h0i) hok.out.room nL (by unfold maxLen;omega) hok.out.fit (HI3.out.gwK hp);have x5:=HI3.out.box;have HD3:Hid (DwF p w w3 bs m q0):=HI3.out.dw;have hsz3:w.heap.size<=B:=nZ HI2.out.dw.size HB2.out;have HQ:Hid (drQ bs m st i ⟨n,E,A,q0⟩=gwQ bs m q0):=by unfold Hid drQ;rw [if_neg h2]
     have HE:Hid (∀ e,GwR bs m q0 E n A e->e=drE bs m st i ⟨n,E,A,q0⟩):=fun e he=>by unfold drE;rw [if_neg h2];exact gwF_is he
     clear hok hrun2 HI3
     go_wp2_with fail
     refine HGw.out.mono ?_;rintro x w4 ⟨e,pa,cp,aa,ca,ga,cg,hgr,rfl,hok4,hlo4,_,hd4⟩;have HK4:Hid (Kb p w2 w4):=HK3.out.trans (Kb.of hd4.2 (fun b hb=>by injection hb with hb;exact hb.symm));have HV4:Hid (∀ o,o<10->w4.cell? ⟨B,o,none⟩=some (((ec e0 t0.pa t0.cp t0.aa t0.ca t0.ga t0.cg):Array Value)[o]?.getD undef)):=fun o ho=>(World.cell?_of_block (a:=⟨B,o,none⟩) (hd4.2.block B hB3 (fun q=>by injection q with q;omega))).trans (HV3.out o ho)
     have HF4:Hid (∀ o,w4.frozen? ⟨B,o,none⟩=false):=fun o=>(World.frozen?_of_block (a:=⟨B,o,none⟩) (hd4.2.block B hB3 (fun q=>by injection q with q;omega))).trans (HF3.out o)
     have HI4:=HI2.out.fill hp (W4:=w4) HK4.out (HD3.out.trans hd4) HB2.out;have HI4h:Hid (_):=HI4;have HY:=fill_cells HV4.out;have HYh:Hid (_):=HY;have Hok4:Hid (EvOk w4 e pa cp aa ca ga cg):=hok4;have HR4:Hid (GwR bs m q0 E n A e):=hgr;have HL4:Hid (EvLo w3.heap.size e pa aa ga):=hlo4;have HS4:Hid (w3.heap.size<=w4.heap.size):=hd4.size;clear z0 z1 z2 z3 z4 z5 z6 z7 z8 z9 f0 x5 HI4 HY hgr hok4 hlo4 hd4 HGw HK3 HV3 HF3 HI2;have z0:w4.cell? ⟨B,0,none⟩=some (.string e0.id):=HV4.out 0 (by decide);have z1:w4.cell? ⟨B,1,none⟩=some (.string e0.sd):=HV4.out 1 (by decide);have z2:w4.cell? ⟨B,2,none⟩=some (.string e0.ty):=HV4.out 2 (by decide);have z3:w4.cell? ⟨B,3,none⟩=some (.bool e0.st):=HV4.out 3 (by decide);have z4:w4.cell? ⟨B,4,none⟩=some (.string e0.key):=HV4.out 4 (by decide);have z5:w4.cell? ⟨B,5,none⟩=some (.int .i64 e0.tm):=HV4.out 5 (by decide);have z6:w4.cell? ⟨B,6,none⟩=some (.slice t0.pa e0.np t0.cp):=HV4.out 6 (by decide);have z7:w4.cell? ⟨B,7,none⟩=some (.slice t0.aa e0.na t0.ca):=HV4.out 7 (by decide);have z8:w4.cell? ⟨B,8,none⟩=some (.string e0.val):=HV4.out 8 (by decide);have z9:w4.cell? ⟨B,9,none⟩=some (.slice t0.ga e0.ng t0.cg):=HV4.out 9 (by decide);have f0:=HF4.out;go_wp2
     go_meet;refine ⟨e,pa,cp,aa,ca,ga,cg,HE.out e HR4.out,HR4.out.reach,?_,HYh.out _ _ _ _ _ _ _ _ _ _,?_⟩
     ·exact Hok4.out.kl HL4.out (Kb.fill10 B w4 _ _ _ _ _ _ _ _ _ _) hB3
     unfold Hid;rw [HQ.out];exact HI4h.out _ _ _ _ _ _ _ _ _ _
    case rest =>
     obtain ⟨e,pa,cp,aa,ca,ga,cg,he,hre,hoke,hcl,hI⟩:=hcut;obtain ⟨w6,hw6⟩:∃ w6:World,w6=wc:=⟨_,rfl⟩;subst hw6;obtain ⟨q2,hq2⟩:∃ q2,q2=drQ bs m st i ⟨n,E,A,q0⟩:=⟨_,rfl⟩;rw [<- hq2] at hI;have Hq2:Hid (q2=drQ bs m st i ⟨n,E,A,q0⟩):=hq2;have hrm:=hI.out.room.at qkO;have HIn:Hid (Calls Tryz.prog 121 #[.agg #[.slice (some ⟨rb,0,none⟩) n rc],.agg (ec e pa cp aa ca ga cg)] w6 (InPost QO E n e w6)):=inS_q qsOO rb 0 n rc E e w6 (by omega) hok.out.reach hre.out hrm.2.2.1 (fun _=>hrm.1) (fun j hj=>by rw [Nat.zero_add];exact ⟨_,_,_,_,_,_,hrm.2.2.2 j hj,(hI.out.room.q j hj).j.ok⟩) hoke.out;have x5:=hI.out.box;have y0:w6.cell? ⟨B,0,none⟩=some (.string e.id):=hcl 0 (by decide);have y1:w6.cell? ⟨B,1,none⟩=some (.string e.sd):=hcl 1 (by decide);have y2:w6.cell? ⟨B,2,none⟩=some (.string e.ty):=hcl 2 (by decide);have y3:w6.cell? ⟨B,3,none⟩=some (.bool e.st):=hcl 3 (by decide);have y4:w6.cell? ⟨B,4,none⟩=some (.string e.key):=hcl 4 (by decide);have y5:w6.cell? ⟨B,5,none⟩=some (.int .i64 e.tm):=hcl 5 (by decide);have y6:w6.cell? ⟨B,6,none⟩=some (.slice pa e.np cp):=hcl 6 (by decide);have y7:w6.cell? ⟨B,7,none⟩=some (.slice aa e.na ca):=hcl 7 (by decide);have y8:w6.cell? ⟨B,8,none⟩=some (.string e.val):=hcl 8 (by decide);have y9:w6.cell? ⟨B,9,none⟩=some (.slice ga e.ng cg):=hcl 9 (by decide);clear HI2 HI3 HV3 HF3 HK3 HB2 hoke hrm hcl hq2
     go_wp2_with fail
     refine HIn.out.mono ?_;rintro x w7 ⟨v,T',rfl,hR,hb7⟩;obtain ⟨c,hc⟩:∃ c,c=insCode E n e:=⟨_,rfl⟩;rw [<- hc];have Hc:Hid (c=insCode E n e):=hc;have HI7:Hid (DrI p w w7 bs m q2 n E n A r5 b3 rb rc T sg sc Aa Ca (r5+2) (r5+12) fb (fstT (r5+2))):=hI.out.below hp hb7;have hr56:r5<w6.heap.size:=hI.out.hi;have hsg6:sg<w6.heap.size:=hI.out.aft.at.1;clear HIn x5 y0 y1 y2 y3 y4 y5 y6 y7 y8 y9 hc hI hb7
     by_cases hc0:c=0
     ·have Hc0:Hid (insCode E n e=0):=by unfold Hid;rw [<- Hc.out];exact hc0
      have hR':RowV QO w7 w6.heap.size v (n+1) (extE E n e) T':=by have h1:=hR.out;unfold insN at h1;rw [if_pos Hc0.out] at h1;exact h1
      obtain ⟨g,c',hv⟩:∃ g c',v=.slice (some ⟨g,0,none⟩) (n+1) c':=by
       rcases hR'.cells with ⟨_,h0⟩|⟨g,c',hv,_⟩
       ·omega
       exact ⟨g,c',hv⟩
      subst hv;subst hc0;have hba:Below w7.heap.size w7 (w7.alloc (.cells #[.slice (some ⟨g,0,none⟩) (n+1) c'] 25)):=bA;have hIa:=HI7.out.below hp hba;have hI8:=hIa.setRoom hp (hR'.below qcO hba) hr56;have x5a:=hIa.box;have f5a:=hIa.fbx;obtain ⟨w8,hw8⟩:∃ w8:World,w8=(w7.alloc (.cells #[.slice (some ⟨g,0,none⟩) (n+1) c'] 25)).setCell ⟨r5,0,none⟩ (.slice (some ⟨g,0,none⟩) (n+1) c'):=⟨_,rfl⟩;rw [<- hw8] at hI8;have hne5:w7.heap.size≠r5:=by have:=HI7.out.hi;omega
      have HI8:Hid (DrI p w w8 bs m q2 (n+1) (extE E n e) n A r5 w6.heap.size g c' T' sg sc Aa Ca (r5+2) (r5+12) fb (fstT (r5+2))):=hI8;have Hw8:Hid (w8=(w7.alloc (.cells #[.slice (some ⟨g,0,none⟩) (n+1) c'] 25)).setCell ⟨r5,0,none⟩ (.slice (some ⟨g,0,none⟩) (n+1) c')):=hw8;clear HI7 hIa hI8 hR hR' Hc hba hw8
      go_upto_region 21 with fail
      rw [<- Hw8.out];clear x5a f5a Hw8 hne5;have hroom':=roomTo_ext hok.out.room Hc0.out;have hf':∀ j,j<n->FitL (extE E n e) (n+1) (A j):=fun j hj=>(hok.out.fit j hj).grow hroom' (Nat.le_succ _) (fun i hi=>extE_lt e hi)
      have hgm:=HI8.out.room.at qkO;obtain ⟨sa',sc',esv,hee⟩:=HI8.out.aft.ee;injection esv with es1 _ es3
      subst es1 es3;have HAf:Hid (Calls Tryz.prog 122 #[.agg #[.slice (some ⟨g,0,none⟩) (n+1) c'],.slice (some ⟨sg,0,none⟩) n sc,.int .i64 (n:Int)] w8 (AfPost w8 (extE E n e) (n+1) A n)):=l7Af_any w8 hroom' (Nat.lt_succ_self n) (Nat.le_refl n) hf' hgm.2.2.1 hgm.1 (fun j hj=>by rw [Nat.zero_add];exact ⟨_,_,_,_,_,_,hgm.2.2.2 j hj,(HI8.out.room.q j hj).j.ok⟩) hee
      have Hz:Hid (∀ j,j<n+1->((extE E n e) j).ty.size<=maxLen∧((extE E n e) j).key.size<=maxLen∧((extE E n e) j).id.size<=maxLen):=fun j hj=>by
       have hk:=(HI8.out.room.q j hj).j.ok;exact ⟨hk.hty,hk.hkey,hk.hid⟩
      have Hfit:Hid (∀ l,AfR (extE E n e) (n+1) A n l->FitL (extE E n e) (n+1) l):=fun l hl=>hl.fit hroom' (Nat.lt_succ_self n) hf'
      have x8:=HI8.out.box;clear hroom' hf' hgm hee
      go_wp2_with fail
      refine HAf.out.mono ?_;rintro x w9 ⟨v2,l,rfl,hoE,haf,hb9⟩;have hfit:=Hfit.out l haf;obtain ⟨ta,tc,e10,hts⟩:=hoE.sl (fun i hi=>(hfit.ok Hz.out).at i hi);subst e10;have HI9:Hid (DrI p w w9 bs m q2 (n+1) (extE E n e) n A r5 w6.heap.size g c' T' sg sc Aa Ca (r5+2) (r5+12) fb (fstT (r5+2))):=HI8.out.below hp hb9;have HO9:Hid (w9.ownsRow (r5+1) 26 1 (.slice (some ⟨sg,0,none⟩) n sc) n (encA List.length A Aa Ca n)):=HI9.out.aft.own;have Hea:Hid (l.length=0∨∃ b off,ta=some ⟨b,off,none⟩∧r5<b∧b≠sg):=(own_lo hoE nL).imp id fun ⟨b,off,e',hb⟩=>⟨b,off,e',by have:=HI8.out.hi;omega,by have:=HI8.out.aft.at.1;omega⟩
      have Hts:Hid (SlE w9 ta tc l):=hts;have hwl:r5+1<=w9.heap.size:=HI9.out.hi
      have hstep:drStep bs m st i ⟨n,E,A,q0⟩=⟨n+1,(extE E n e),extF A n l,q2⟩:=by
       unfold drStep;rw [<- he.out];dsimp only;rw [if_pos Hc0.out,<- afF_is haf,<- Hq2.out]
      have HF:Hid (∀ gg cq w10,w10.ownsRow (r5+1) 26 1 (.slice (some ⟨gg,0,none⟩) (n+1) cq) (n+1) (encA List.length A Aa Ca n ++ [.slice ta l.length tc])->(w9.alloc (.cells #[.slice ta l.length tc] 26)).grownBy w10 (some sg)->(some sg=some gg∨gg=w9.heap.size+1)->DrRel p w bs m q mo st r5 fb (i+1) (.slice (some ⟨gg,0,none⟩) (n+1) cq) w10):=fun gg cq w10 h1 h2 h3=>by
       have hba:Below w9.heap.size w9 (w9.alloc (.cells #[.slice ta l.length tc] 26)):=bA;exact ⟨n+1,_,_,q2,w6.heap.size,g,c',T',gg,cq,_,_,rfl,hok.out.put Hc0.out hre.out haf,by unfold Hid;rw [<- hstep];exact hrun2.out,HI9.out.snocA hp hba (Hts.out.below hba) Hea.out h1 h2 (h3.imp id (fun q=>by simp;omega)) hsg6⟩
      have hm1:n+1<=maxLen:=by unfold maxLen;omega
      have hm2:(n+1) * 24<=140737488355328:=by omega
      obtain ⟨ll,hll⟩:∃ ll,ll=l.length:=⟨_,rfl⟩;rw [<- hll] at HF ⊢;clear hstep hts haf hoE hfit Hts Hea HI9 HI8 hok hrun2 Hfit Hz HAf x8 hb9 hll he hre
      go_wp2_with (at_builtin;refine wpList_append_lies _ rfl _ _ 104 rfl (r5+1) 26 j0 (.slice none 0 0) 1 24 Tryz.underlying104 hj0 hy0 hy1 hy2 rfl (by decide) _ _ _ rfl (World.ownsRow.alloc HO9.out _) ⟨w9.heap.size,0,none⟩ 1 1 [.slice ta ll tc] rfl rfl (one_cellS _ _ _) (one_slice _ ⟨_,_,_,rfl⟩) (by decide) hm1 hm2 (by simp;omega) (w9.heap.size+1) (by simp) ?_;intro gg cq w10 hown hgr hat hlt)
      exact ⟨⟨i+1,by omega,by go_num,HF.out gg cq w10 hown hgr hat⟩,by simp [intOf];omega⟩
     obtain ⟨av,ac,hv,_⟩:=hR.out.slv qcO;subst hv;obtain ⟨nn,hnn⟩:∃ nn,nn=insN E n e:=⟨_,rfl⟩;rw [<- hnn];clear hnn;have hcb:(c == 0)=false:=by simpa using hc0
     have hcn:(c != 0)=true:=by simpa using hc0
     have HF:Hid (DrRel p w bs m q mo st r5 fb (i+1) (.slice (some ⟨sg,0,none⟩) n sc) (w7.alloc (.cells #[.slice av nn ac] 25))):=by
      have hin:¬ insCode E n e=0:=by rw [<- Hc.out];exact hc0
      have hstep:drStep bs m st i ⟨n,E,A,q0⟩=⟨n,E,A,q2⟩:=by
       unfold drStep;rw [<- he.out];dsimp only;rw [if_neg hin,<- Hq2.out]
      have h0:0<i∨0<n:=by
       by_cases hi0:i=0
       ·exfalso
        have hn0:n=0:=by have h1:n<=i:=hok.out.le;omega
        have he0':e=fstE 0:=by rw [he.out];unfold drE;rw [if_pos (by omega),hi0]
        refine hin ?_;rw [hn0,he0',insCode_cong (E:=fun _=>fstE 0) (fun i hi=>absurd hi (Nat.not_lt_zero _))];exact fst_code
       exact Or.inl (by omega)
      exact ⟨n,E,A,q2,b3,rb,rc,T,sg,sc,Aa,Ca,rfl,hok.out.leave h0,by unfold Hid;rw [<- hstep];exact hrun2.out,HI7.out.below hp bA⟩
     clear hok hrun2 HI7 hR Hc he hre Hq2;go_wp2
     exact ⟨⟨i+1,by omega,by go_num,HF.out⟩,by simp [intOf];omega⟩
variable {w:World}{e:Ev}{t:Ls}
def oddS (v:Nat):ByteArray :=
 match v % 10 with
 | 0=>⟨#[]⟩
 | 1=>⟨#[97,32,98]⟩
 | 2=>⟨#[120,44,121]⟩
 | 3=>⟨#[45]⟩
 | 4=>⟨#[97,58,98]⟩
 | 5=>⟨#[48,49,50,51,52,53,54,55,56,57,48,49,50,51,52,53,54,55,56,57,48,49,50,51,52,53,54,55,56,57,48,49,50,51,52,53,54,55,56,57]⟩
 | 6=>⟨#[48,49,50,51,52,53,54,55,56,57,48,49,50,51,52,53,54,55,56,57,48,49,50,51,52,53,54,55,56,57,48,49,50,51,52,53,54,55,56,57,48]⟩
 | 7=>⟨#[61]⟩
 | 8=>⟨#[42,115,116,97,116,101]⟩
 | _=>⟨#[111,107]⟩
theorem oddS_size (v:Nat):(oddS v).size<=41:=by
 unfold oddS;split <;> decide
def oddT (v:Nat):ByteArray :=
 match v % 4 with
 | 0=>⟨#[99,114,101,97,116,101]⟩
 | 1=>⟨#[109,101,109,98,101,114]⟩
 | 2=>⟨#[112,111,119,101,114]⟩
 | _=>⟨#[106,111,105,110,95,114,117,108,101,115]⟩
theorem oddT_size (v:Nat):(oddT v).size<=10:=by
 unfold oddT;split <;> decide
def mx (a b:Nat):Nat:=if a<b then b else a
def spE (k v:Nat)(e:Ev):Ev :=
 if k % 16=0 then { e with id:=oddS v }
 else if k % 16=1 then { e with sd:=oddS v }
 else if k % 16=2 then { e with ty:=oddS v }
 else if k % 16=3 then { e with key:=oddS v }
 else if k % 16=4 then { e with st:=!e.st }
 else if k % 16=5 then { e with tm:=999999999999+((v % 3:Nat):Int) }
 else if k % 16=6 then { e with tm:=- (v:Int) }
 else if k % 16=7 then { e with np:=e.np+1,Pv:=extF e.Pv e.np (oddS v) }
 else if k % 16=8 then { e with na:=e.na+e.na,Av:=fun i=>if i<e.na then e.Av i else e.Av (i - e.na) }
 else if k % 16=9 then { e with np:=e.np+1,Pv:=extF e.Pv e.np e.id }
 else if k % 16=10 then { e with na:=mx e.na (9+v % 3),Av:=fun i=>if i<e.na then e.Av i else ⟨#[36,102]⟩ ++ decB i }
 else if k % 16=11 then { e with val:=oddS v }
 else if k % 16=12 then { e with ng:=e.ng+1,M:=extF e.M e.ng (oddS v),L:=extF e.L e.ng ((((v % 3:Nat):Int) - 1) * (1000000+((v / 128:Nat):Int))) }
 else if k % 16=13 then { e with ty:=oddT v }
 else if k % 16=14 then { e with ng:=mx e.ng (49+v % 3),M:=fun i=>if i<e.ng then e.M i else ⟨#[122]⟩ ++ decB (1000+i),L:=fun i=>if i<e.ng then e.L i else 0 }
 else { e with na:=0 }
def XeS (a:Option Addr)(n lo hi nw:Nat):Prop:=n=0∨∃ b off,a=some ⟨b,off,none⟩∧((lo<=b∧b<hi)∨nw<=b)
def XePost (p:Nat)(wo w:World)(bs:Nat->Nat)(m q:Nat)(e:Ev)(lo hi:Nat)(x:Ending)(w':World):Prop :=
 ∃ pa cp aa ca ga cg,x=.returned ((spE (nxB bs m q) (nxB bs m (nxQ m q)) e).val' pa cp aa ca ga cg)∧EvOk w' (spE (nxB bs m q) (nxB bs m (nxQ m q)) e) pa cp aa ca ga cg
  ∧ XeS pa (spE (nxB bs m q) (nxB bs m (nxQ m q)) e).np lo hi w.heap.size∧XeS aa (spE (nxB bs m q) (nxB bs m (nxQ m q)) e).na lo hi w.heap.size∧XeS ga (spE (nxB bs m q) (nxB bs m (nxQ m q)) e).ng lo hi w.heap.size
  ∧ w.heap.size<=w'.heap.size∧(∀ b,b<w.heap.size->b≠p->(b<lo∨hi<=b)->w'.heap[b]?=w.heap[b]?)∧DwF p wo w' bs m (nxQ m (nxQ m q))
theorem QO.xe (h:QO w e t)(nw:Nat):XeS t.pa e.np t.lo t.hi nw∧XeS t.aa e.na t.lo t.hi nw∧XeS t.ga e.ng t.lo t.hi nw :=
 ⟨h.j.ip.imp id fun ⟨b,off,e,h1,h2⟩=>⟨b,off,e,Or.inl ⟨h1,h2⟩⟩,h.j.ia.imp id fun ⟨b,off,e,h1,h2⟩=>⟨b,off,e,Or.inl ⟨h1,h2⟩⟩,h.j.ig.imp id fun ⟨b,off,e,h1,h2⟩=>⟨b,off,e,Or.inl ⟨h1,h2⟩⟩⟩
end Go.Proofs.YtkdalopokdhndaaGreat
