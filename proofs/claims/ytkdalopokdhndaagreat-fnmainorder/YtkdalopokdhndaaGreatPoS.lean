import Derived.Test.YtkdalopokdhndaaGreatRvPZ
set_option maxHeartbeats 16000000
set_option maxRecDepth 100000
namespace Go.Proofs.YtkdalopokdhndaaGreat
open Go.RowKit
variable {a ia:Option Addr}{m n cap icap:Nat}{E:Nat->Ev}{S:Nat->ByteArray}
def PlRel (w1:World)(base:Nat)(E:Nat->Ev)(n:Nat)(S:Nat->ByteArray)(m:Nat)(P:Nat->Prop)(once:Prop)(v i:Value)(wr:World):Prop :=
 ∃ (k:Nat) (l:List Nat) (g cp mm:Nat),k<=m∧i=.int .i64 (k:Int)∧v=.slice (some ⟨g,0,none⟩) mm cp∧Hid (mm=l.length)∧mm<=k∧OwnL wr base (.slice (some ⟨g,0,none⟩) mm cp) (l.map fun p=>(E p).id)∧Hid (∀ q,q ∈ l↔gvP E n S k q∧P q)∧Hid (once->l.Nodup)∧Below w1.heap.size w1 wr
def lenOfV:Value->Nat
 | .slice _ n _=>n
 | _=>0
def LpPost (w:World)(E:Nat->Ev)(n:Nat)(S:Nat->ByteArray)(m:Nat)(e:Ending)(w':World):Prop:=∃ v o,e=.returned v∧OwnL w' w.heap.size v (o.map fun p=>(E p).id)∧PoOrd E n S m o∧Below w.heap.size w w'
theorem gv_zero (E:Nat->Ev)(n:Nat)(S:Nat->ByteArray)(P:Nat->Prop)(q:Nat):q ∈ ([]:List Nat)↔gvP E n S 0 q∧P q:=by
 constructor
 ·intro h;cases h
 rintro ⟨⟨i,hi,_⟩,_⟩;omega
theorem l6Po_sl (w:World)(hroom:roomTo E n=true)(hm:m<=300)(hth:∀ i,i<m->0<=posV E n (S i))(h:SlV w a n cap E)(hids:SlS w ia m icap S) :
  Calls Tryz.prog 50 #[.agg #[.slice a n cap],.slice ia m icap] w (LpPost w E n S m):=by
 obtain ⟨i0,hi,hz0,hz1,hz2⟩:=info_parts Tryz.infoString;obtain ⟨wb,hwb⟩:∃ wb,wb=w.alloc (.cells #[.slice a n cap] 25):=⟨_,rfl⟩;have hb0:Below w.heap.size w wb:=by rw [hwb];exact bA
 have hs0:wb.heap.size=w.heap.size+1:=by rw [hwb];simp
 have hbx:Hid (∀ wx,Below wb.heap.size wb wx->wx.cell? ⟨w.heap.size,0,none⟩=some (.slice a n cap)):=fun wx hx=>by subst hwb;exact box_cells (hx.mono (by simp)) 0
 have h300:=room_300 hroom
 have Hidz:Hid (∀ i,i<n->(E i).id.size<=maxLen):=fun i hi'=>by
  rcases h.cells with h0|⟨b,off,_,_,hc⟩
  ·omega
  obtain ⟨_,_,_,_,_,_,_,hok⟩:=hc i hi';exact hok.hid
 have Hpl:Hid (∀ i,i<m->∃ y,y<n∧posV E n (S i)=(y:Int)∧(E y).id=S i):=fun i hi'=>by
  obtain ⟨y,hy,e,hb⟩:=posV_found E (S i) n (hth i hi');exact ⟨y,hy,e,ba_of_toList hb⟩
 have HE:Hid (SlV w a n cap E):=h;have HI:Hid (SlS w ia m icap S):=hids;have Hroom:Hid (_):=hroom;clear hroom h hids hth
 go_enter Tryz.func50,Tryz.ntmps50
 go_wp2_with fail
 rw [<- hwb];clear hwb;have hbO:Below wb.heap.size wb (wb.alloc (.cells #[] 9)):=bA;have hoO:OwnL (wb.alloc (.cells #[] 9)) wb.heap.size (.slice (some ⟨wb.heap.size,0,none⟩) 0 0) (([]:List Nat).map fun p=>(E p).id):=OwnL.new wb _ nL;rw [hs0] at hoO
 go_loopw [5,6] (fun v i wr=>PlRel wb (w.heap.size+1) E n S m (fun q=>wtyB (E q)=true) False v i wr) (fun _ i _=>m - (intOf i).toNat)
 case atStart=>exact ⟨0,[],_,_,0,nz,rfl,rfl,rfl,nL,hoO,gv_zero E n S _,fun h=>h.elim,hbO⟩
 case round =>
  clear hbO hoO;obtain ⟨k,l,g,cp,mm,hk,rfl,rfl,hmm,hmk,hown,hmem,hnd,hbel⟩:=hrel;have hbw:=hb0.trans (hbel.mono (by omega));have hsr:w.heap.size+1<=wr.heap.size:=by have:=hbel.size;omega
  have x0:=hbx.out _ hbel
  by_cases hlt:k<m
  ·rcases HI.out.cells with h0|⟨bi,oi,rfl,hbi,hci⟩
   ·omega
   obtain ⟨y,hy,ey,eid⟩:=Hpl.out k hlt;have hck:wr.cell? ⟨bi,oi+k,none⟩=some (.string (E y).id):=by rw [eid];exact (hbw.cell (by exact hbi)).trans (hci k hlt)
   have hev:Hid (∀ W,Below wr.heap.size wr W->Calls Tryz.prog 103 #[.agg #[.slice a n cap],.string (E y).id] W (EePost W (E y))):=fun W hW=>l6Event_sl _ W (HE.out.below (hbw.trans (hW.mono hbw.size))) hy (posV_here Hroom.out hy)
   have hrf:Below wr.heap.size wr wr:=kB;have hz1':w.heap.size<wr.heap.size:=by omega
   have hz2':bi<wr.heap.size:=nT hbi hbw.size
   have HYes:Hid (wtyB (E y)=true->∀ q,q ∈ l ++ [y]↔gvP E n S (k+1) q∧wtyB (E q)=true):=fun ht=>grow_mem (P:=fun q=>wtyB (E q)=true) ey hmem.out (fun q=>by
    rw [List.mem_append,List.mem_singleton];exact or_congr_right ⟨fun e=>⟨e,ht⟩,fun e=>e.1⟩)
   have HNo:Hid (wtyB (E y)=false->∀ q,q ∈ l↔gvP E n S (k+1) q∧wtyB (E q)=true):=fun hf=>grow_mem (P:=fun q=>wtyB (E q)=true) ey hmem.out (fun q=>by
    rw [hf];simp)
   have Hw:Hid (wtyB (E y)=wtyB (E y)):=rfl;clear hci ey hmem;generalize hwt:wtyB (E y)=wt at *;have HW:Hid (∀ (pa:Option Addr) (cp:Nat) (aa:Option Addr) (ca:Nat) (ga:Option Addr) (cg:Nat) (W:World),Calls Tryz.prog 102 #[(E y).val' pa cp aa ca ga cg] W fun x w'=>x=.returned (.bool wt)∧Below W.heap.size W w'):=fun pa cp aa ca ga cg W=>by rw [<- hwt];exact l6Wt_any _ _ _ _ _ _ _ W
   clear hwt Hw;obtain ⟨ev,hev0⟩:∃ ev,ev=E y:=⟨_,rfl⟩;rw [<- hev0] at hck hev HW;have Hev0:Hid (ev=E y):=hev0;clear hev0
   go_wp2_with fail
   go_cut [24] from 12 to 31 (fun pv wx=>pv=.bool wt∧Below wr.heap.size wr wx)
   case first =>
    go_region_held3 (fun W=>W.cell? ⟨w.heap.size,0,none⟩=some (.slice a n cap)∧W.cell? ⟨bi,oi+k,none⟩=some (.string ev.id))
     (first|(with_reducible exact ⟨x0,hck⟩)|go_keep)
     (first
      | (go_at_call 103;refine (hev.out _ (by with_reducible (repeat refine .drew ?_);exact hrf)).mono ?_;rintro e w2 ⟨hb2',pa2,cp2,aa2,ca2,ga2,cg2,hee,-⟩;have hef:e=.returned (.agg (ec ev pa2 cp2 aa2 ca2 ga2 cg2)):=hee;clear hee;subst hef;have hb2:Below wr.heap.size wr w2:=Below.trans (by with_reducible (repeat refine .drew ?_);exact hrf) hb2';clear hb2';have k0:=(hb2.cell (p:=⟨w.heap.size,0,none⟩) hz1').trans x0;have k1:=(hb2.cell (p:=⟨bi,oi+k,none⟩) hz2').trans hck)
      | (go_at_call 102;refine (HW.out _ _ _ _ _ _ _).mono ?_;rintro e w3 ⟨rfl,hb3'⟩;have hb3:Below wr.heap.size wr w3:=Below.trans (by with_reducible (repeat refine .drew ?_);exact hb2) (hb3'.mono hb2.size);clear hb3';have j0:=(hb3.cell (p:=⟨w.heap.size,0,none⟩) hz1').trans x0;have j1:=(hb3.cell (p:=⟨bi,oi+k,none⟩) hz2').trans hck))
    all_goals (try go_wp2_with fail)
    all_goals go_meet
    all_goals exact ⟨rfl,by first|exact hb3|exact hb3.drew⟩
   case rest =>
    obtain ⟨rfl,hbz⟩:=hcut;obtain ⟨wz,hwz⟩:∃ wz:World,wz=wc:=⟨_,rfl⟩;subst hwz;have hBz:=hbel.trans (hbz.mono (by omega));have hckz:=(hbz.cell (p:=⟨bi,oi+k,none⟩) hz2').trans hck;have hownz:=hown.below hbz;have hsz:w.heap.size+1<=wz.heap.size:=by have:=hbz.size;omega
    clear hev HW hrf hown x0 hck;cases wt
    case false =>
     have Hn:Hid (∀ q,q ∈ l↔gvP E n S (k+1) q∧wtyB (E q)=true):=HNo.out rfl;clear HYes HNo;go_wp2
     go_roundw
     case rel=>exact ⟨k+1,l,g,cp,mm,by omega,by go_num,rfl,hmm.out,by omega,hownz,Hn.out,hnd.out,hBz⟩
     simp [intOf];omega
    case true =>
     have Hn:Hid (∀ q,q ∈ l ++ [y]↔gvP E n S (k+1) q∧wtyB (E q)=true):=HYes.out rfl;clear HYes HNo;have hm1:mm+1<=maxLen:=by unfold maxLen;omega
     have hm2:(mm+1) * 16<=140737488355328:=by omega
     have hm3:∀ o,w.heap.size+1<=(wz.alloc o).heap.size:=fun o=>by simp;omega
     have hag:Hid (∀ q,(Value.slice (some ⟨g,0,none⟩) mm cp).ownBlock=some q->wb.heap.size<=q):=fun q hq=>by have:=World.ownsRow.lt hownz q hq;have:=this.1;omega
     have hown':wz.ownsRow (w.heap.size+1) 9 1 (.slice (some ⟨g,0,none⟩) mm cp) mm ((l.map fun p=>(E p).id).map Value.string):=by have:=hownz;unfold OwnL at this;rw [List.length_map,<- hmm.out] at this;exact this
     go_wp2_with (at_builtin;refine wpList_append_lies _ rfl _ _ 27 rfl (w.heap.size+1) 9 i0 (.string ByteArray.empty) 1 16 Tryz.underlying27 hi hz0 hz1 hz2 rfl (by decide) _ _ _ rfl (World.ownsRow.alloc hown' _) ⟨wz.heap.size,0,none⟩ 1 1 [.string ev.id] rfl rfl (one_cells _ _ _) (one_one _) (by decide) hm1 hm2 (hm3 _) (wz.heap.size+1) (by simp) ?_;intro gg cq w2 hown2 hgrow2 hat2 hlt2)
     have hown3:OwnL w2 (w.heap.size+1) (.slice (some ⟨gg,0,none⟩) (mm+1) cq) ((l ++ [y]).map fun p=>(E p).id):=by
      have h1:(l ++ [y]).map (fun p=>(E p).id)=(l.map fun p=>(E p).id) ++ [ev.id]:=by rw [List.map_append,Hev0.out];rfl
      rw [h1];rw [hmm.out] at hown2 ⊢
      have:=OwnL.snoc (w:=w2) (base:=(w.heap.size+1)) (v:=(.slice (some ⟨gg,0,none⟩) (l.length+1) cq)) (l:=(l.map fun p=>(E p).id)) (x:=ev.id) (by rw [List.length_map];exact hown2);exact this
     have hbel2:Below wb.heap.size wb w2:=(hBz.alloc hBz.size _).grown hgrow2 (by have:=hm3 (.cells #[.string ev.id] 9);omega) hag.out;clear hown2 hgrow2 hat2 hown' hm3 hag;go_roundw
     case rel=>exact ⟨k+1,l ++ [y],gg,cq,mm+1,by omega,by go_num,rfl,by unfold Hid;rw [List.length_append,<- hmm.out];rfl,by omega,hown3,Hn.out,fun h=>h.elim,hbel2⟩
     simp [intOf];omega
  have hkn:m=k:=by omega
  subst hkn;have hmm':=hmm.out;subst hmm'
  have Hln:Hid (∀ q ∈ l,q<n):=fun q hq=>by
   obtain ⟨⟨i,_,e⟩,_⟩:=(hmem.out q).1 hq
   have:=posV_bd E (S i) n;omega
  obtain ⟨la,lc,e1,hsl⟩:=hown.nsl (fun p hp=>Hidz.out p (Hln.out p hp));injection e1 with e11 _ e13
  subst e11 e13;have Hget:Hid (∀ i,i<l.length->∃ q,q ∈ l∧q<n∧idsL E l i=(E q).id):=fun i hi'=>⟨l.getD i 0,getD_mem hi',Hln.out _ (getD_mem hi'),by show (E (lX l i).toNat).id=_;unfold lX;rw [Int.toNat_natCast]⟩
  have HG:Hid (∀ s,(∃ i,i<l.length∧idsL E l i=s)↔wgP E n S m s):=fun s=>by
   constructor
   ·rintro ⟨i,hi',e⟩
    obtain ⟨q,hq,hqn,eq⟩:=Hget.out i hi';obtain ⟨h1,h2⟩:=(hmem.out q).1 hq;exact ⟨q,hqn,h1,h2,eq.symm.trans e⟩
   rintro ⟨q,hqn,h1,h2,rfl⟩;obtain ⟨i,hi',e⟩:=List.mem_iff_getElem.1 ((hmem.out q).2 ⟨h1,h2⟩);refine ⟨i,hi',?_⟩
   show (E (lX l i).toNat).id=_
   unfold lX;rw [Int.toNat_natCast,List.getD,List.getElem?_eq_getElem hi']
   show (E (l[i])).id=_
   rw [e]
  have HU:Hid (∀ s,((∃ i,i<l.length∧idsL E l i=s)∨Chn E n (idsL E l) l.length s)↔(wgP E n S m s∨ChQ E n (wgP E n S m) s)):=fun s=>by
   rw [HG.out s,chn_iff];exact or_congr_right ⟨ChQ.mono (fun t ht=>(HG.out t).1 ht),ChQ.mono (fun t ht=>(HG.out t).2 ht)⟩
  have HF:Hid (Calls Tryz.prog 104 #[.agg #[.slice a n cap],.slice (some ⟨g,0,none⟩) l.length cp] wr (FuPost wr (fun s=>(∃ i,i<l.length∧idsL E l i=s)∨Chn E n (idsL E l) l.length s))):=fullS_sl wr Hroom.out (HE.out.below hbw) hsl (by omega) (fun i hi'=>by
   obtain ⟨q,_,hqn,eq⟩:=Hget.out i hi';rw [eq,posV_here Hroom.out hqn];omega)
  clear hmem hown hsl HG Hget Hln hnd hmm;generalize l.length=ll at *
  go_wp2_with fail
  refine (HF.out).mono ?_;rintro e w2 ⟨v2,lu,rfl,ho2,hsu,hmu,hb2⟩;have hbw2:=hbw.trans (hb2.mono hbw.size);have hB2:=hbel.trans (hb2.mono hbel.size);have hs2:w.heap.size+1<=w2.heap.size:=by have:=hb2.size;omega
  have Hmu:Hid (∀ s,s ∈ lu↔(wgP E n S m s∨ChQ E n (wgP E n S m) s)):=fun s=>(hmu s).trans (HU.out s)
  have Hlu:Hid (∀ s ∈ lu,∃ j,j<n∧(E j).id=s):=fun s hs=>by
   rcases (Hmu.out s).1 hs with ⟨q,hq,_,_,e⟩|h1
   ·exact ⟨q,hq,e⟩
   cases h1 with
   | base hp _ hk=>obtain ⟨j,hj,_,e1⟩:=auth_there Hroom.out hp hk;exact ⟨j,by omega,e1⟩
   | step _ hp e hk=>obtain ⟨j,hj,_,e1⟩:=auth_there Hroom.out hp hk;exact ⟨j,by omega,e1⟩
  have Hlul:Hid (lu.length<=300):=nZ (ids_len Hroom.out hsu.nodup Hlu.out) h300
  obtain ⟨ua,uc,rfl,hus,_⟩:=ho2.sl (fun s hs=>by
   obtain ⟨j,hj,rfl⟩:=Hlu.out s hs;exact Hidz.out j hj)
  have HUs:Hid (SlS w2 ua lu.length uc (getL lu)):=hus;have HHu:Hid (∀ W,Below w2.heap.size w2 W->∀ s b1,hasB (getL lu) lu.length s=b1->Calls Tryz.prog 105 #[.slice ua lu.length uc,.string s] W fun e w'=>e=.returned (.bool b1)∧w'=W):=fun W hW s b1 e1=>by rw [<- e1];exact has_sl s W (HUs.out.below hW)
  have HuB:Hid (∀ s,hasB (getL lu) lu.length s=true↔s ∈ lu):=fun s=>by
   have:=hasB_mem lu s lu.length nL;rw [List.take_length] at this;exact this
  have hbO2:Below w2.heap.size w2 (w2.alloc (.cells #[] 9)):=bA;have hoO2:OwnL (w2.alloc (.cells #[] 9)) w2.heap.size (.slice (some ⟨w2.heap.size,0,none⟩) 0 0) (([]:List Nat).map fun p=>(E p).id):=OwnL.new w2 _ nL;have Hw2:Hid (Below wb.heap.size wb w2):=hB2;clear hus hmu hsu ho2 HF HU hb2 hbw hbel Hlu Hlul;generalize lu.length=lul at *
  go_wp2_with fail
  go_loopw [8,9] (fun v i wr=>PlRel w2 w2.heap.size E n S m (fun q=>(E q).id ∈ lu) True v i wr) (fun _ i _=>m - (intOf i).toNat)
  case atStart=>exact ⟨0,[],_,_,0,nz,rfl,rfl,rfl,nL,hoO2,gv_zero E n S _,fun _=>List.nodup_nil,hbO2⟩
  case round =>
   clear hbO2 hoO2;obtain ⟨k,l,g,cp,mm,hk,rfl,rfl,hmm,hmk,hown,hmem,hnd,hbel⟩:=hrel;have hbw:=hbw2.trans (hbel.mono hbw2.size);have hsr:w2.heap.size<=wr.heap.size:=hbel.size
   have Hln:Hid (∀ q ∈ l,q<n):=fun q hq=>by
    obtain ⟨⟨i,_,e⟩,_⟩:=(hmem.out q).1 hq
    have:=posV_bd E (S i) n;omega
   by_cases hlt:k<m
   ·rcases HI.out.cells with h0|⟨bi,oi,rfl,hbi,hci⟩
    ·omega
    obtain ⟨y,hy,ey,eid⟩:=Hpl.out k hlt;have hck:wr.cell? ⟨bi,oi+k,none⟩=some (.string (E y).id):=by rw [eid];exact (hbw.cell (by exact hbi)).trans (hci k hlt)
    have H1:Hid (∀ b1,hasB (getL lu) lul (E y).id=b1->Calls Tryz.prog 105 #[.slice ua lul uc,.string (E y).id] wr fun e w'=>e=.returned (.bool b1)∧w'=wr):=fun b1 e1=>HHu.out wr hbel _ b1 e1
    have H2:Hid (∀ b1,(b1=true↔y ∈ l)->Calls Tryz.prog 105 #[.slice (some ⟨g,0,none⟩) mm cp,.string (E y).id] wr fun e w'=>e=.returned (.bool b1)∧w'=wr):=fun b1 e1=>by
     obtain ⟨la,lc,e2,hsl⟩:=hown.nsl (fun p hp=>Hidz.out p (Hln.out p hp));rw [<- hmm.out] at e2;injection e2 with e21 _ e23
     subst e21 e23;have hq:=has_ids Hroom.out Hln.out hy
     have:hasB (idsL E l) l.length (E y).id=b1:=by
      cases hb:hasB (idsL E l) l.length (E y).id
      ·cases b1
       ·rfl
       rw [hb] at hq;exact absurd (hq.2 (e1.1 rfl)) (by simp)
      rw [hb] at hq;exact (e1.2 (hq.1 rfl)).symm
     rw [<- this,hmm.out];exact has_sl _ wr hsl
    have HSk:Hid (((E y).id ∈ lu->y ∈ l)->∀ q,q ∈ l↔gvP E n S (k+1) q∧(E q).id ∈ lu):=fun hs=>grow_mem (P:=fun q=>(E q).id ∈ lu) ey hmem.out (fun q=>⟨Or.inl,fun h=>h.elim id fun ⟨e,h2⟩=>by rw [e];exact hs h2⟩)
    have HAd:Hid ((E y).id ∈ lu->∀ q,q ∈ l ++ [y]↔gvP E n S (k+1) q∧(E q).id ∈ lu):=fun hs=>grow_mem (P:=fun q=>(E q).id ∈ lu) ey hmem.out (fun q=>by
     rw [List.mem_append,List.mem_singleton];exact or_congr_right ⟨fun e=>⟨e,hs⟩,fun e=>e.1⟩)
    have HuY:Hid (hasB (getL lu) lul (E y).id=true↔(E y).id ∈ lu):=HuB.out _;clear hci ey hmem eid;cases hu:hasB (getL lu) lul (E y).id
    case false =>
     have Hn:Hid (∀ q,q ∈ l↔gvP E n S (k+1) q∧(E q).id ∈ lu):=HSk.out (fun h=>by have:=HuY.out.2 h;rw [hu] at this;cases this);have H1':Hid (Calls Tryz.prog 105 #[.slice ua lul uc,.string (E y).id] wr fun e w'=>e=.returned (.bool false)∧w'=wr):=H1.out _ hu;clear H1 H2 HSk HAd HuY hu
     go_wp2_with fail
     refine (H1'.out).mono ?_;rintro e w5 ⟨rfl,rfl⟩;go_wp2
     go_roundw
     case rel=>exact ⟨k+1,l,g,cp,mm,by omega,by go_num,rfl,hmm.out,by omega,hown,Hn.out,hnd.out,hbel⟩
     simp [intOf];omega
    case true =>
     have Hin:Hid ((E y).id ∈ lu):=HuY.out.1 hu;have H1':Hid (Calls Tryz.prog 105 #[.slice ua lul uc,.string (E y).id] wr fun e w'=>e=.returned (.bool true)∧w'=wr):=H1.out _ hu;clear H1 HuY hu
     by_cases hyl:y ∈ l
     ·have Hn:Hid (∀ q,q ∈ l↔gvP E n S (k+1) q∧(E q).id ∈ lu):=HSk.out (fun _=>hyl)
      have H2':Hid (Calls Tryz.prog 105 #[.slice (some ⟨g,0,none⟩) mm cp,.string (E y).id] wr fun e w'=>e=.returned (.bool true)∧w'=wr):=H2.out true ⟨fun _=>hyl,fun _=>rfl⟩;clear H2 HSk HAd hyl
      go_wp2_with fail
      refine (H1'.out).mono ?_;rintro e w5 ⟨rfl,rfl⟩
      go_wp2_with fail
      refine (H2'.out).mono ?_;rintro e w6 ⟨rfl,rfl⟩;go_wp2
      go_roundw
      case rel=>exact ⟨k+1,l,g,cp,mm,by omega,by go_num,rfl,hmm.out,by omega,hown,Hn.out,hnd.out,hbel⟩
      simp [intOf];omega
     have Hn:Hid (∀ q,q ∈ l ++ [y]↔gvP E n S (k+1) q∧(E q).id ∈ lu):=HAd.out Hin.out;have Hnd2:Hid (True->(l ++ [y]).Nodup):=fun _=>List.nodup_append.2 ⟨hnd.out trivial,by simp,fun p hp q hq e=>by rw [List.mem_singleton] at hq;subst hq;subst e;exact hyl hp⟩
     have H2':Hid (Calls Tryz.prog 105 #[.slice (some ⟨g,0,none⟩) mm cp,.string (E y).id] wr fun e w'=>e=.returned (.bool false)∧w'=wr):=H2.out false ⟨fun h=>absurd h (by decide),fun h=>absurd h hyl⟩;clear H2 HSk HAd hyl;have hm1:mm+1<=maxLen:=by unfold maxLen;omega
     have hm2:(mm+1) * 16<=140737488355328:=by omega
     have hm3:∀ o,w2.heap.size<=(wr.alloc o).heap.size:=fun o=>by simp;omega
     have hag:Hid (∀ q,(Value.slice (some ⟨g,0,none⟩) mm cp).ownBlock=some q->w2.heap.size<=q):=fun q hq=>(World.ownsRow.lt hown q hq).1
     have hown':wr.ownsRow w2.heap.size 9 1 (.slice (some ⟨g,0,none⟩) mm cp) mm ((l.map fun p=>(E p).id).map Value.string):=by have:=hown;unfold OwnL at this;rw [List.length_map,<- hmm.out] at this;exact this
     obtain ⟨sy,hsy⟩:∃ sy,sy=(E y).id:=⟨_,rfl⟩;rw [<- hsy] at hck H1' H2';have Hsy:Hid (sy=(E y).id):=hsy;clear hsy
     go_wp2_with fail
     refine (H1'.out).mono ?_;rintro e w5 ⟨rfl,rfl⟩
     go_wp2_with fail
     refine (H2'.out).mono ?_;rintro e w6 ⟨rfl,rfl⟩;clear H1' H2'
     go_wp2_with (at_builtin;refine wpList_append_lies _ rfl _ _ 27 rfl w2.heap.size 9 i0 (.string ByteArray.empty) 1 16 Tryz.underlying27 hi hz0 hz1 hz2 rfl (by decide) _ _ _ rfl (World.ownsRow.alloc hown' _) ⟨w6.heap.size,0,none⟩ 1 1 [.string sy] rfl rfl (one_cells _ _ _) (one_one _) (by decide) hm1 hm2 (hm3 _) (w6.heap.size+1) (by simp) ?_;intro gg cq w7 hown2 hgrow2 hat2 hlt2)
     have hown3:OwnL w7 w2.heap.size (.slice (some ⟨gg,0,none⟩) (mm+1) cq) ((l ++ [y]).map fun p=>(E p).id):=by
      have h1:(l ++ [y]).map (fun p=>(E p).id)=(l.map fun p=>(E p).id) ++ [sy]:=by rw [List.map_append,Hsy.out];rfl
      rw [h1];rw [hmm.out] at hown2 ⊢
      have:=OwnL.snoc (w:=w7) (base:=w2.heap.size) (v:=(.slice (some ⟨gg,0,none⟩) (l.length+1) cq)) (l:=(l.map fun p=>(E p).id)) (x:=sy) (by rw [List.length_map];exact hown2);exact this
     have hbel2:Below w2.heap.size w2 w7:=(hbel.alloc hbel.size _).grown hgrow2 (hm3 _) hag.out;clear hown2 hgrow2 hat2 hown' hm3 hag;go_roundw
     case rel=>exact ⟨k+1,l ++ [y],gg,cq,mm+1,by omega,by go_num,rfl,by unfold Hid;rw [List.length_append,<- hmm.out];rfl,by omega,hown3,Hn.out,Hnd2.out,hbel2⟩
     simp [intOf];omega
   have hkn:m=k:=by omega
   subst hkn;have hmm':=hmm.out;subst hmm'
   have HT:Hid (∀ p,p ∈ l↔TkP E n S m p):=fun p=>by
    refine (hmem.out p).trans ?_
    show gvP E n S m p∧(E p).id ∈ lu↔_
    rw [Hmu.out];exact ⟨fun ⟨h1,h2⟩=>⟨Hln.out p ((hmem.out p).2 ⟨h1,(Hmu.out _).2 h2⟩),h1,h2⟩,fun ⟨_,h1,h2⟩=>⟨h1,h2⟩⟩
   have Hnd:Hid (l.Nodup):=hnd.out trivial;obtain ⟨la,lc,e1,hsl⟩:=hown.nsl (fun p hp=>Hidz.out p (Hln.out p hp));injection e1 with e11 _ e13
   subst e11 e13;have Hsl:Hid (SlS wr (some ⟨g,0,none⟩) l.length cp (idsL E l)):=hsl;obtain ⟨w3,hw3⟩:∃ w3:World,w3=wr:=⟨_,rfl⟩;subst hw3;have hbO3:Below w3.heap.size w3 (w3.alloc (.cells #[] 9)):=bA;have hoO3:OwnL (w3.alloc (.cells #[] 9)) w3.heap.size (.slice (some ⟨w3.heap.size,0,none⟩) 0 0) (([]:List Nat).map fun p=>(E p).id):=OwnL.new w3 _ nL;have hxb:Hid (∀ W,Below w3.heap.size w3 W->W.cell? ⟨w.heap.size,0,none⟩=some (.slice a n cap)):=fun W hW=>hbx.out _ ((Hw2.out.trans (hbel.mono Hw2.out.size)).trans (hW.mono (by have:=Hw2.out.size;omega)))
   clear hsl hown hmem hnd hmm HHu HuB HUs Hmu hbx Hw2 Hpl;generalize hL:l.length=ll at *;have HL:Hid (l.length=ll):=hL;clear hL
   go_wp2_with fail
   go_loopw [10] (fun v wr=>∃ (o:List Nat) (g cp mm:Nat),v=.slice (some ⟨g,0,none⟩) mm cp∧Hid (mm=o.length)∧mm<=ll∧OwnL wr w3.heap.size (.slice (some ⟨g,0,none⟩) mm cp) (o.map fun p=>(E p).id)∧Hid (OrdP E n (fun q=>q ∈ l) (auN E n) o)∧Below w3.heap.size w3 wr) (fun v _=>ll - lenOfV v)
   case atStart=>exact ⟨[],_,_,0,rfl,rfl,nz,hoO3,OrdP.nil _ _ _ _,hbO3⟩
   case round =>
    clear hbO3 hoO3;obtain ⟨o,go,co,mo,rfl,hmo,hml,hown,hord,hbel3⟩:=hrel;have hbw3:=hbw.trans (hbel3.mono hbw.size);have hsr3:w3.heap.size<=wr.heap.size:=hbel3.size;have x3:=hxb.out _ hbel3;have Hon:Hid (∀ q ∈ o,q<n):=fun q hq=>Hln.out q (hord.out.sub q hq)
    by_cases hlt:mo<ll
    ·have HN:Hid (Calls Tryz.prog 106 #[.agg #[.slice a n cap],.slice (some ⟨g,0,none⟩) ll cp,.slice (some ⟨go,0,none⟩) mo co] wr (NxPost wr E n l o)):=by
      obtain ⟨oa,oc,e2,hso⟩:=hown.nsl (fun p hp=>Hidz.out p (Hon.out p hp));rw [<- hmo.out] at e2;injection e2 with e21 _ e23
      subst e21 e23;unfold Hid;rw [hmo.out,<- HL.out];exact l6Nx_sl wr Hroom.out Hln.out Hon.out (HE.out.below hbw3) (by have:=Hsl.out.below hbel3;rw [<- HL.out] at this;exact this) hso
     have HEx:Hid (∃ q,Cand E n (fun q=>q ∈ l) o q):=by
      obtain ⟨p,hp1,hp2⟩:=short_left Hnd.out (show o.length<l.length by rw [<- hmo.out,HL.out];exact hlt);exact cand_ex Hroom.out Hln.out p hp1 hp2
     have hm1:mo+1<=maxLen:=by unfold maxLen;omega
     have hm2:(mo+1) * 16<=140737488355328:=by omega
     have hown':∀ W,Below wr.heap.size wr W->W.ownsRow w3.heap.size 9 1 (.slice (some ⟨go,0,none⟩) mo co) mo ((o.map fun p=>(E p).id).map Value.string):=fun W hW=>by have:=hown.below hW;unfold OwnL at this;rw [List.length_map,<- hmo.out] at this;exact this
     have Hown':Hid (_):=hown';have hag:Hid (∀ q,(Value.slice (some ⟨go,0,none⟩) mo co).ownBlock=some q->w3.heap.size<=q):=fun q hq=>(World.ownsRow.lt hown q hq).1
     clear hown'
     go_wp2_with fail
     refine (HN.out).mono ?_;rintro e w5 ⟨s,rfl,hs,hb5⟩
     obtain ⟨p,hp,es⟩:∃ p,Nxt E n (fun q=>q ∈ l) (auN E n) o p∧s=(E p).id:=by
      rcases hs with hs|hs
      ·exact hs
      obtain ⟨q,hq⟩:=HEx.out;exact absurd hq (hs q)
     have Hes:Hid (s=(E p).id):=es;have Hord2:Hid (OrdP E n (fun q=>q ∈ l) (auN E n) (o ++ [p])):=hord.out.snoc hp;have hown5:=Hown'.out w5 hb5;have hB5:=hbel3.trans (hb5.mono hsr3);have hm3:∀ o,w3.heap.size<=(w5.alloc o).heap.size:=fun o=>by have:=hb5.size;simp;omega
     clear hs hp es HN HEx Hown'
     go_wp2_with (at_builtin;refine wpList_append_lies _ rfl _ _ 27 rfl w3.heap.size 9 i0 (.string ByteArray.empty) 1 16 Tryz.underlying27 hi hz0 hz1 hz2 rfl (by decide) _ _ _ rfl (World.ownsRow.alloc hown5 _) ⟨w5.heap.size,0,none⟩ 1 1 [.string s] rfl rfl (one_cells _ _ _) (one_one _) (by decide) hm1 hm2 (hm3 _) (w5.heap.size+1) (by simp) ?_;intro gg cq w7 hown2 hgrow2 hat2 hlt2)
     have hown3:OwnL w7 w3.heap.size (.slice (some ⟨gg,0,none⟩) (mo+1) cq) ((o ++ [p]).map fun p=>(E p).id):=by
      have h1:(o ++ [p]).map (fun p=>(E p).id)=(o.map fun p=>(E p).id) ++ [s]:=by rw [List.map_append,Hes.out];rfl
      rw [h1];rw [hmo.out] at hown2 ⊢
      have:=OwnL.snoc (w:=w7) (base:=w3.heap.size) (v:=(.slice (some ⟨gg,0,none⟩) (o.length+1) cq)) (l:=(o.map fun p=>(E p).id)) (x:=s) (by rw [List.length_map];exact hown2);exact this
     have hbel4:Below w3.heap.size w3 w7:=(hB5.alloc hB5.size _).grown hgrow2 (hm3 _) hag.out;clear hown2 hgrow2 hat2 hown5 hm3 hag;go_roundw
     case rel=>exact ⟨o ++ [p],gg,cq,mo+1,rfl,by unfold Hid;rw [List.length_append,<- hmo.out];rfl,by omega,hown3,Hord2.out,hbel4⟩
     simp [lenOfV];omega
    have HP:Hid (LpPost w E n S m (.returned (.slice (some ⟨go,0,none⟩) mo co)) wr):=⟨_,o,rfl,hown.mono (by have:=hbw.size;omega),⟨hord.out.congr HT.out,fun p hp=>full_in hord.out.nodup hord.out.sub (by rw [HL.out,<- hmo.out];omega) p ((HT.out p).2 hp)⟩,hbw3⟩;clear hord hmo;go_wp2
    go_ret;exact HP.out
end Go.Proofs.YtkdalopokdhndaaGreat
