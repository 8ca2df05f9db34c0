import Derived.Test.YtkdalopokdhndaaGreatPwI
import Derived.Test.YtkdalopokdhndaaGreatIdDZ
import Derived.ProofKit
import Derived.SizedLaws
import Derived.Deep.Strs
set_option maxHeartbeats 16000000
set_option maxRecDepth 100000
namespace Go.Proofs.YtkdalopokdhndaaGreat
open Go.RowKit
variable {a ia ra:Option Addr}{m n rc cap icap:Nat}{E:Nat->Ev}{S:Nat->ByteArray}
def GvPostG (w:World)(E:Nat->Ev)(n:Nat)(S:Nat->ByteArray)(m:Nat)(ok:Bool)(e:Ending)(w':World):Prop:=Below w.heap.size w w' ∧
 ((ok=true∧∃ ga gc,e=.returned (.tuple #[.slice ga m gc,.bool true])∧SlI w' ga m gc (fun i=>posV E n (S i)))∨(ok=false∧e=.returned (.tuple #[.slice none 0 0,.bool false])))
theorem givenG_sl {mm:Nat}{nr:Nat}(w:World)(hm:MapAt w mm n (knE E n) (posV E n))(hs:SlS w ia m icap S) :
  Calls Tryz.prog 51 #[.agg #[.slice a n cap,.map (some mm),.slice ra nr rc],.slice ia m icap] w (GvPostG w E n S m (thereB E n S m)):=by
 have hmx:=nZ hs.le hs.max;unfold maxLen at hmx;have hb0:∀ o,Below w.heap.size w (w.alloc o):=fun o=>bA
 by_cases h3:m<=300
 ·have ht:thereB E n S m=allTo (knE E n) S m:=by unfold thereB;rw [decide_eq_true h3,allTo_there];rfl
  have Ht:Hid (_=_):=ht;have hg:¬ (300<m):=by omega
  clear ht
  go_enter Tryz.func51,Tryz.ntmps51
  go_wp2_with fail
  refine (find_sl _ (hm.below (hb0 _)) (by omega) (hs.below (hb0 _))).mono ?_;rintro e w1 ⟨hb1,hp⟩;have hbw:=(hb0 _).trans (hb1.mono (by simp));rcases hp with ⟨hq,v,rfl,ho⟩|⟨hq,rfl⟩
  ·obtain ⟨ga,gc,rfl,hsl⟩:=ho.sl
   have Hq:Hid (_):=hq;clear hq;go_wp2
   refine bodyPost_ret (v:=.tuple #[.slice ga m gc,.bool true]) (by simp [results,Tryz.results51,go_sem]) rfl ⟨hbw,Or.inl ⟨Ht.out.trans Hq.out,ga,gc,rfl,hsl⟩⟩
  have Hq:Hid (_):=hq;clear hq;go_wp2
  refine bodyPost_ret (v:=.tuple #[.slice none 0 0,.bool false]) (by simp [results,Tryz.results51,go_sem]) rfl ⟨hbw,Or.inr ⟨Ht.out.trans Hq.out,rfl⟩⟩
 have ht:Hid (thereB E n S m=false):=by unfold Hid thereB;rw [decide_eq_false h3];rfl
 go_enter Tryz.func51,Tryz.ntmps51
 go_wp2
 refine bodyPost_ret (v:=.tuple #[.slice none 0 0,.bool false]) (by simp [results,Tryz.results51,go_sem]) rfl ⟨hb0 _,Or.inr ⟨ht.out,rfl⟩⟩
end Go.Proofs.YtkdalopokdhndaaGreat
namespace Go.Proofs.YtkdalopokdhndaaGreat
open Go.RowKit Go.Maps Go.ChangeMaps
variable {a ia:Option Addr}{m n cap icap:Nat}{E:Nat->Ev}{S:Nat->ByteArray}
def MkP (w3:World)(n:Nat)(M:Nat->Bool)(e:Ending)(w':World):Prop:=∃ b,e=.returned (.slice (some ⟨b,0,none⟩) n n)∧BlAt w' b n M∧Below w3.heap.size w3 w'
def PwQ (w3:World)(E:Nat->Ev)(n:Nat)(S:Nat->ByteArray)(m:Nat)(e:Ending)(w':World):Prop:=∃ oa oc o,e=.returned (.slice oa o.length oc)∧SlI w' oa o.length oc (lX o)∧Hid (PoOrd E n S m o)∧Below w3.heap.size w3 w'
def IaP (w3:World)(base:Nat)(E:Nat->Ev)(o:List Nat)(e:Ending)(w':World):Prop:=∃ v,e=.returned v∧OwnL w' base v (o.map fun p=>(E p).id)∧Below w3.heap.size w3 w'
theorem ids_map (E:Nat->Ev)(o:List Nat):(List.range o.length).map (fun k=>(E (lX o k).toNat).id)=o.map fun p=>(E p).id:=by
 apply List.ext_getElem?;intro j
 by_cases hj:j<o.length
 ·simp [hj,lX,List.getD]
 rw [List.getElem?_eq_none (by simpa using hj),List.getElem?_eq_none (by simpa using hj)]
theorem poJ_sl (w:World)(h:SlV w a n cap E)(hids:SlS w ia m icap S) :
  Calls Tryz.prog 15 #[.agg #[.slice a n cap],.slice ia m icap] w (PoPost w E n S m):=by
 have hb0:∀ o,Below w.heap.size w (w.alloc o):=fun o=>bA
 have HN:Hid (∀ w',poOk E n S m=false->Below w.heap.size w w'->PoPost w E n S m (.returned (.tuple #[.slice none 0 0,.bool false])) w'):=fun w' hq hb=>⟨hb,_,[],by rw [hq],OwnL.nil _ _,Or.inr ⟨hq,rfl⟩⟩
 go_enter Tryz.func15,Tryz.ntmps15
 go_wp2_with fail
 refine (graph_sl _ (h.below (hb0 _))).mono ?_;rintro e w1 ⟨hb1,hp⟩;have hw1:=(hb0 _).trans (hb1.mono (hb0 _).size);rcases hp with ⟨hq,mm,ra,rc,rfl,hmp,hrs⟩|⟨hq,rfl⟩
 ·have Hq:Hid (_):=hq
  have h300:=room_300 hq;have hbA:∀ o,Below w1.heap.size w1 (w1.alloc o):=fun o=>bA
  clear hq hb1
  go_wp2_with fail
  refine (givenG_sl _ (hmp.below (hbA _)) ((hids.below hw1).below (hbA _))).mono ?_;rintro e w3 ⟨hb3,hpg⟩;have hX3:=hb3.mono (B':=w1.heap.size+1) (by simp);have h13:=(hbA _).trans (hb3.mono (by simp));have hw3:=hw1.trans (h13.mono hw1.size);have hS3:w1.heap.size+1<=w3.heap.size:=by simpa using hX3.size
  rcases hpg with ⟨hth,ga,gc,rfl,hgi⟩|⟨hth,rfl⟩
  ·have Hth:Hid (thereB E n S m=true):=hth
   have HMk:Hid (∀ W,Below w3.heap.size w3 W->Calls Tryz.prog 54 #[.agg #[.slice a n cap,.map (some mm),.slice ra n rc],.slice ga m gc] W (MkP w3 n (fun i=>hitX (fun i=>posV E n (S i)) i m))):=fun W hW =>
    (markI_sl W h300 (hgi.below hW) (fun i hi=>by
     have h1:=(there_allP Hth.out).2 i hi;have h2:=posV_bd E (S i) n;exact ⟨(posV E n (S i)).toNat,by omega,by omega⟩)).mono fun e w' ⟨b,he,_,hM,hb⟩=>⟨b,he,hM,hW.trans (hb.mono hW.size)⟩
   have HMo:Hid (∀ W b,Below w3.heap.size w3 W->BlAt W b n (fun i=>hitX (fun i=>posV E n (S i)) i m)->Calls Tryz.prog 53 #[.agg #[.slice a n cap,.map (some mm),.slice ra n rc],.slice (some ⟨b,0,none⟩) n n] W (PwQ w3 E n S m)):=fun W b hW hM =>
    (pwI_sl W Hq.out ((h.below hw3).below hW) ((hrs.below h13).below hW) hM (fun p hp=>hitX_iff _ p m)).mono fun e w' ⟨v,o,he,ho,hpo,hb⟩=>by
     obtain ⟨oa,oc,rfl,hsl⟩:=ho.sl;exact ⟨oa,oc,o,he,hsl,hpo,hW.trans (hb.mono hW.size)⟩
   have HIa:Hid (∀ W oa oc o,Below w3.heap.size w3 W->SlI W oa (List.length o) oc (lX o)->Hid (PoOrd E n S m o)->Calls Tryz.prog 52 #[.agg #[.slice a n cap,.map (some mm),.slice ra n rc],.slice oa o.length oc] W (IaP w3 w.heap.size E o)):=fun W oa oc o hW hsl hpm=>by
    have hmem:∀ p ∈ o,p<n:=hpm.out.lt;have hol:o.length<=1048576:=by have:=ord_len hpm.out.1 (fun q hq=>hq.1);omega
    refine (idsI_sl W hol ((h.below hw3).below hW) hsl (fun k hk=>lX_lt hmem hk)).mono ?_;rintro e w' ⟨v,rfl,ho,hb⟩
    have:=ho.list;rw [ids_map] at this;exact ⟨v,rfl,this.mono (by have:=hw3.size;have:=hW.size;omega),hW.trans (hb.mono hW.size)⟩
   have HF:Hid (∀ w' v (o:List Nat),Below w3.heap.size w3 w'->Hid (PoOrd E n S m o)->OwnL w' w.heap.size v (o.map fun p=>(E p).id)->PoPost w E n S m (.returned (.tuple #[v,.bool true])) w'):=fun w' v o hb hpm ho=>by
    have hok:poOk E n S m=true:=by unfold poOk;rw [Hq.out,Hth.out];rfl
    exact ⟨hw3.trans (hb.mono hw3.size),v,o,by rw [hok],ho,Or.inl ⟨hok,hpm.out⟩⟩
   have hso:Hid (∀ W,Below w3.heap.size w3 W->∀ o,W.cell? ⟨w1.heap.size,o,none⟩=(#[.slice a n cap,.map (some mm),.slice ra n rc]:Array Value)[o]?):=fun W hW=>box_cells (hX3.trans (hW.mono hS3))
   have hcx3:=hso.out _ kB;generalize (fun i=>hitX (fun i=>posV E n (S i)) i m)=M at *;clear hth hgi hmp hrs hX3
   go_wp2_with fail
   go_region_with (first
    | (go_at_call 54;refine (HMk.out _ (by first|exact kB|exact kB.drew|exact kB.drew.drew|exact kB.drew.drew.drew)).mono ?_;rintro e w4 ⟨bm,rfl,hM4,hb4⟩;have hcx4:=hso.out _ hb4)
    | (go_at_call 53;refine (HMo.out _ _ (by first|exact hb4|exact hb4.drew|exact hb4.drew.drew|exact hb4.drew.drew.drew) (hM4.below (by first|exact kB|exact kB.drew|exact kB.drew.drew|exact kB.drew.drew.drew))).mono ?_;rintro e w5 ⟨oa,oc,o,rfl,hsl5,hpm5,hb5⟩;have hcx5:=hso.out _ hb5)
    | (go_at_call 52;refine (HIa.out _ oa oc o (by first|exact hb5|exact hb5.drew|exact hb5.drew.drew|exact hb5.drew.drew.drew) (hsl5.below (by first|exact kB|exact kB.drew|exact kB.drew.drew|exact kB.drew.drew.drew)) hpm5).mono ?_;rintro e w6 ⟨v,rfl,ho6,hb6⟩))
   all_goals
    go_wp2
    refine bodyPost_ret (v:=.tuple #[v,.bool true]) (by simp [results,Tryz.results15,go_sem]) rfl (HF.out _ _ o (by first|exact hb6|exact hb6.drew|exact hb6.drew.drew) hpm5 (by first|exact ho6|exact ho6.below kB.drew))
  have Hf:Hid (poOk E n S m=false):=by unfold Hid poOk;rw [hth,Bool.and_false]
  clear hth;go_wp2
  refine bodyPost_ret (v:=.tuple #[.slice none 0 0,.bool false]) (by simp [results,Tryz.results15,go_sem]) rfl (HN.out _ Hf.out hw3)
 have Hf:Hid (poOk E n S m=false):=by unfold Hid poOk;rw [hq];rfl
 clear hq;go_wp2
 refine bodyPost_ret (v:=.tuple #[.slice none 0 0,.bool false]) (by simp [results,Tryz.results15,go_sem]) rfl (HN.out _ Hf.out (hw1.alloc hw1.size _))
end Go.Proofs.YtkdalopokdhndaaGreat
namespace Go.Proofs.YtkdalopokdhndaaGreat
open Go.RowKit
variable {E:Nat->Ev}{m n cap:Nat}{S:Nat->ByteArray}{o:List Nat}{W w':World}{a:Option Addr}{bs:Nat->Nat}
def PvR (L:Nat)(X:Nat->ByteArray)(ok:Bool)(W0:World)(x:Ending)(w':World):Prop :=
 ∃ a c,x=.returned (.tuple #[.slice a L c,.bool ok])∧Hid (SlS w' a L c X)∧Below W0.heap.size W0 w'
def PvO (E:Nat->Ev)(n:Nat)(S:Nat->ByteArray)(m:Nat)(o:List Nat):Prop:=(poOk E n S m=true∧PoOrd E n S m o)∨(poOk E n S m=false∧o=[])
theorem PvO.uniq {o':List Nat}(h:PvO E n S m o)(h':PvO E n S m o'):o'=o:=by
 rcases h with ⟨h1,h2⟩|⟨h1,h2⟩
 ·rcases h' with ⟨h3,h4⟩|⟨h3,h4⟩
  ·exact h4.uniq h2
  rw [h1] at h3;cases h3
 rcases h' with ⟨h3,h4⟩|⟨h3,h4⟩
 ·rw [h1] at h3;cases h3
 rw [h2,h4]
theorem PvO.trn (h:PvO E n (trn S m) m o):PvO E n S m o:=by
 unfold PvO at h;rw [poOk_trn] at h;exact h.imp (fun ⟨h1,h2⟩=>⟨h1,h2.trn⟩) id
theorem PvO.sz (h:PvO E n S m o)(hV:SlV W a n cap E):∀ p ∈ o,(E p).id.size<=maxLen:=fun p hp=>by
 rcases h with ⟨_,h2⟩|⟨_,h2⟩
 ·have hn:=h2.lt p hp
  rcases hV.cells with h0|⟨b,off,_,_,hc⟩
  ·omega
  obtain ⟨_,_,_,_,_,_,_,hok⟩:=hc p hn;exact hok.hid
 rw [h2] at hp;cases hp
theorem pv_of {S':Nat->ByteArray}{W0:World}{x:Ending}(hS:S'=S∨S'=trn S m)(h:PoPost W E n S' m x w')(ho:PvO E n S m o)(hsz:∀ p ∈ o,(E p).id.size<=maxLen)(hW:Below W0.heap.size W0 W):PvR o.length (idsL E o) (poOk E n S m) W0 x w':=by
 obtain ⟨hb,v,o',rfl,how,hq⟩:=h
 have ho':PvO E n S m o':=by
  rcases hS with rfl|rfl
  ·exact hq
  exact PvO.trn hq
 have e:=ho.uniq ho';subst e;obtain ⟨a,c,rfl,hs⟩:=how.nsl hsz;refine ⟨a,c,?_,hs,hW.trans (hb.mono hW.size)⟩;rcases hS with rfl|rfl
 ·rfl
 rw [poOk_trn]
def PvRel (lo hi:Nat)(w0:World)(iv:Value)(wr:World):Prop:=∃ k:Nat,lo<=k∧k<=hi∧iv=.int .i64 (k:Int)∧Below w0.heap.size w0 wr
theorem lawPower {n0:Nat}(w:World)(hle:n0<=cap)(hmax:cap<=maxLen)(h:BytesV w a n0 bs)(hb1:∀ i,i<n0->bs i<256) :
  Calls Tryz.prog 4 #[.slice a n0 cap] w fun e w'=>e=.returned (.bool true)∧Below w.heap.size w w':=by
 have HD:Hid (Calls Tryz.prog 13 #[.slice a n0 cap] w (PdPost w)):=drawPo w hle hmax h hb1;have hnm:(n0:Int)<=9223372036854775807:=by unfold maxLen at hmax;omega
 clear hmax hle h hb1
 by_cases hbig:1048576<n0
 ·go_enter Tryz.func4,Tryz.ntmps4
  go_wp2
  go_ret;exact ⟨rfl,kB⟩
 go_enter Tryz.func4,Tryz.ntmps4
 go_wp2_with fail
 refine HD.out.mono ?_;rintro x w1 ⟨ra,n,rc,E,ia,mm,ic,S,rfl,hV1,hS1,hn3,hm3,hw1⟩;clear HD;obtain ⟨wa,hwa⟩:∃ wa,wa=w1.alloc (.cells #[.slice ra n rc] 25):=⟨_,rfl⟩;have hba:Below w1.heap.size w1 wa:=by rw [hwa];exact bA
 have hsa:w1.heap.size<wa.heap.size:=by rw [hwa];simp
 have r0:wa.cell? ⟨w1.heap.size,0,none⟩=some (.slice ra n rc):=by rw [hwa];exact kA rfl
 have hV:Hid (SlV wa ra n rc E):=hV1.out.below hba;have hS:Hid (SlS wa ia mm ic S):=hS1.out.below hba;have hww:=hw1.trans (hba.mono hw1.size);have hlen:=hS1.out.le;have hlmx:=hS1.out.max;unfold maxLen at hlmx;obtain ⟨B,hB⟩:∃ B,B=w1.heap.size:=⟨_,rfl⟩;rw [<- hB] at hsa r0
 go_upto_region 4 with fail
 rw [<- hwa,<- hB];clear hwa hB hba hw1 hV1 hS1;have HPs:Hid (Calls Tryz.prog 14 #[.agg #[.slice ra n rc],.slice ia mm ic] wa (PoPost wa E n S mm)):=poS_sl wa hV.out hS.out
 go_wp2_with fail
 refine HPs.out.mono ?_;rintro x w2 ⟨hb2,v,o,rfl,how,hq⟩;have HO:Hid (PvO E n S mm o):=hq;have HZ:Hid (∀ p ∈ o,(E p).id.size<=maxLen):=HO.out.sz hV.out;obtain ⟨va,vc,rfl,hsv⟩:=how.nsl HZ.out;have hl2:=nZ hsv.le hsv.max;unfold maxLen at hl2;clear how hq HPs hsv;have HPi:Hid (∀ W,Below wa.heap.size wa W->Calls Tryz.prog 15 #[.agg #[.slice ra n rc],.slice ia mm ic] W (PvR o.length (idsL E o) (poOk E n S mm) wa)):=fun W hW=>(poJ_sl W (hV.out.below hW) (hS.out.below hW)).mono fun _ _ hx=>pv_of (Or.inl rfl) hx HO.out HZ.out hW
 have HPt:Hid (∀ U V W g c,Below wa.heap.size wa U->Below U.heap.size U V->SlS V (some ⟨g,0,none⟩) mm c (trn S mm)->Below V.heap.size V W->Calls Tryz.prog 15 #[.agg #[.slice ra n rc],.slice (some ⟨g,0,none⟩) mm c] W (PvR o.length (idsL E o) (poOk E n S mm) U)):=fun U V W g c hU hUV hs hW=>by
  have hUW:=hUV.trans (hW.mono hUV.size);exact (poJ_sl W (hV.out.below (hU.trans (hUW.mono hU.size))) (hs.below hW)).mono fun _ _ hx=>pv_of (Or.inr rfl) hx HO.out HZ.out hUW
 have HT:Hid (∀ W,Below wa.heap.size wa W->Calls Tryz.prog 18 #[.slice ia mm ic] W (TrPost W S mm)):=fun W hW=>lwT_sl W (hS.out.below hW) (by omega)
 have HH:Hid (∀ W i,i<o.length->Below wa.heap.size wa W->Calls Tryz.prog 16 #[.slice ia mm ic,.string (idsL E o i)] W fun e w'=>e=.returned (.bool true)∧w'=W):=fun W i hi hW=>(lwH_sl _ W (hS.out.below hW)).mono fun _ _ ⟨h1,h2⟩=>⟨by
  rcases HO.out with ⟨_,hP⟩|⟨_,hP⟩
  ·rw [h1,po_given hP hi]
  rw [hP] at hi;exact absurd hi (Nat.not_lt_zero _),h2⟩
 have HR:Hid (0<o.length->roomTo E n=true∧PoOrd E n S mm o):=fun h0=>by
  rcases HO.out with ⟨h1,h2⟩|⟨_,h2⟩
  ·unfold poOk at h1
   rw [Bool.and_eq_true] at h1;exact ⟨h1.1,h2⟩
  rw [h2] at h0;exact absurd h0 (Nat.lt_irrefl _)
 have c2:=(hb2.cell (by exact hsa)).trans r0;clear HO HZ
 go_wp2_with fail
 refine (HPi.out w2 hb2).mono ?_;rintro x w3 ⟨pa,pc,rfl,hs3,hb3⟩;clear HPi c2;have HXs:Hid (SlS w3 pa o.length pc (idsL E o)):=hs3;clear hs3;have hl3:=HXs.out.le;have hl4:=HXs.out.max;unfold maxLen at hl4;obtain ⟨L,hL⟩:∃ L,L=o.length:=⟨_,rfl⟩;rw [<- hL] at hl2 HPt hl3 ⊢;have HL:Hid (L=o.length):=hL;clear hL;generalize poOk E n S mm=ok at *
 go_wp2_with fail
 go_loopw [9] (fun iv wr=>PvRel 0 L w3 iv wr) (fun iv _=>L - (intOf iv).toNat)
 case atStart=>exact ⟨0,nL,nz,rfl,kB⟩
 case round =>
  obtain ⟨i,-,hiL,rfl,hbr⟩:=hrel;have hbw:=hb3.trans (hbr.mono hb3.size);have sB:=nT hsa hbw.size;have cB:=(hbw.cell (by exact hsa)).trans r0
  by_cases hlt:i<L
  ·have hio:i<o.length:=by rw [<- HL.out];exact hlt
   obtain ⟨hroom,hord⟩:=HR.out (by omega);rcases (HXs.out.below hbr).cells with h0|⟨ob,oo,rfl,hob,hoc⟩
   ·omega
   have y1:=hoc i hio;have HH2:Hid (∀ W,Below wr.heap.size wr W->Calls Tryz.prog 16 #[.slice ia mm ic,.string (idsL E o i)] W fun e w'=>e=.returned (.bool true)∧w'=W):=fun W hW=>HH.out W i hio (hbw.trans (hW.mono hbw.size))
   have HH1:Hid (∀ W,Below wr.heap.size wr W->Calls Tryz.prog 16 #[.slice (some ⟨ob,oo,none⟩) i pc,.string (idsL E o i)] W fun e w'=>e=.returned (.bool false)∧w'=W):=fun W hW=>(lwH_any ob oo i pc (idsL E o) (idsL E o i) W (by unfold maxLen;omega) (fun j hj=>(hW.cell (by exact hob)).trans (hoc j (by omega)))).mono fun _ _ ⟨h1,h2⟩=>⟨by rw [h1,po_once hroom hord hio],h2⟩
   obtain ⟨p,hp⟩:∃ p,p=o[i]:=⟨_,rfl⟩;have hpn:p<n:=by rw [hp];exact hord.lt _ (List.getElem_mem hio)
   have hidp:idsL E o i=(E p).id:=by rw [hp];exact idsL_at hio
   have HRk:Hid (∀ k,i<k->k<o.length->hasB (E p).Av (E p).na (idsL E o k)=false):=fun k h1 h2=>by rw [hp];exact po_rest hroom hord h1 h2
   have HAt:Hid (∀ W,Below wr.heap.size wr W->Calls Tryz.prog 17 #[.agg #[.slice ra n rc],.string (idsL E o i)] W fun e w'=>e=.returned (.int .i64 (p:Int))∧Below wr.heap.size wr w'):=fun W hW=>(atR_sl _ W (hV.out.below (hbw.trans (hW.mono hbw.size)))).mono fun _ _ ⟨h1,h2⟩=>⟨by rw [h1,hidp,posV_here hroom hpn],hW.trans (h2.mono hW.size)⟩
   have HAt0:Hid (∀ W V,Below wr.heap.size wr V->Below V.heap.size V W->Calls Tryz.prog 17 #[.agg #[.slice ra n rc],.string (idsL E o i)] W fun e w'=>e=.returned (.int .i64 (p:Int))∧Below V.heap.size V w'):=fun W V hV2 hW=>(atR_sl _ W (hV.out.below (hbw.trans ((hV2.trans (hW.mono hV2.size)).mono hbw.size)))).mono fun _ _ ⟨h1,h2⟩=>⟨by rw [h1,hidp,posV_here hroom hpn],hW.trans (h2.mono hW.size)⟩
   rcases (hV.out.below hbw).cells with h0|⟨rb,ro,rfl,hrb,hre⟩
   ·omega
   obtain ⟨epa,ecp,aa,ca,ega,ecg,hcs,hok⟩:=hre p hpn;have y7:wr.cell? ⟨rb,ro+p * 10+7,none⟩=some (.slice aa (E p).na ca):=hcs.c7;have HA:Hid (SlS wr aa (E p).na ca (E p).Av):=hok.ha;generalize hX:idsL E o i=x at *;clear hX hidp hp hcs hok hre;have HS:Hid (∀ W,Below wr.heap.size wr W->W.cell? ⟨B,0,none⟩=some (.slice (some ⟨rb,ro,none⟩) n rc)∧W.cell? ⟨ob,oo+i,none⟩=some (.string x)∧W.cell? ⟨rb,ro+p * 10+7,none⟩=some (.slice aa (E p).na ca)):=fun W hW=>⟨(hW.cell (by exact sB)).trans cB,(hW.cell (by exact hob)).trans y1,(hW.cell (by exact hrb)).trans y7⟩
   have hrf:Below wr.heap.size wr wr:=kB;have i0:(0:Int)<=(i:Int):=by omega
   have i1:(i:Int)<(L:Int):=by omega
   have i2:(i:Int)<=(pc:Int):=by have:=HL.out;omega
   have p0:(0:Int)<=(p:Int):=by omega
   have p1:(p:Int)<(n:Int):=by omega
   obtain ⟨wq,hwq⟩:∃ wq:World,wq=wr:=⟨_,rfl⟩;subst hwq
   go_wp2_with fail
   go_cut [66] from 44 to 91 (fun v wx=>v=.bool false∧Below wq.heap.size wq wx)
   case first =>
    refine wp_region_held_drew (S:=fun X=>X.cell? ⟨ob,oo+i,none⟩=some (.string x)) (by kernel_rfl) ?_ (fun hHeld=>?_)
    ·(try dsimp only);exact y1
    refine tq 0 rfl ?_;simp only [si];refine tq 1 rfl ?_;simp only [si];refine wpAnyH_take (i:=2) (v:=.slice (some ⟨ob,oo,none⟩) i pc) rfl (by kernel_rfl) (by kernel_rfl) (by kernel_rfl) (fun _ _ _ h=>h) (Or.inl ⟨by rfl,?hm3⟩) (by assumption) ?_
    case hm3=>(intro w h;(try dsimp only at h);go_simp)
    simp only [si];refine tq 3 rfl ?_;simp only [si];refine tq 4 rfl ?_;simp only [si];refine tq 5 rfl ?_;simp only [si];refine tq 6 rfl ?_;simp only [si];refine rd 7 rfl fun K hK=>?_
    go_simp
    go_at_call 16
    refine (HH1.out _ (by with_reducible (repeat refine .drew ?_);exact hrf)).mono ?_;rintro e w5 ⟨rfl,rfl⟩;dsimp only;refine hK.out _ _ ?_ (fun hHeld=>?_)
    ·(try dsimp only);exact y1
    clear hK K;try simp only [si]
    refine tq 8 rfl ?_;simp only [si];refine tq 9 rfl ?_;simp only [si];refine tq 10 rfl ?_;simp only [si];refine tq 11 rfl ?_;simp only [si];refine tq 12 rfl ?_;simp only [si];refine tq 13 rfl ?_;simp only [si];refine rd 14 rfl fun K hK=>?_
    go_simp
    go_at_call 16
    refine (HH2.out _ (by with_reducible (repeat refine .drew ?_);exact hrf)).mono ?_;rintro e w6 ⟨rfl,rfl⟩;dsimp only;refine hK.out _ _ ?_ (fun hHeld=>?_)
    ·(try dsimp only);exact y1
    clear hK K;try simp only [si]
    refine tq 15 rfl ?_;simp only [si];refine tq 16 rfl ?_;simp only [si];refine wpAnyH_done (by kernel_rfl) ?_ _
    (try go_wp2_with fail)
    go_meet;exact ⟨rfl,by with_reducible first|exact hrf|exact hrf.drew|exact hrf.drew.drew|exact hrf.drew.drew.drew⟩
   case rest =>
    obtain ⟨rfl,hbc⟩:=hcut;obtain ⟨wd,hwd⟩:∃ wd:World,wd=wc:=⟨_,rfl⟩;subst hwd;have HS':Hid (∀ W,Below wd.heap.size wd W->W.cell? ⟨B,0,none⟩=some (.slice (some ⟨rb,ro,none⟩) n rc)∧W.cell? ⟨ob,oo+i,none⟩=some (.string x)∧W.cell? ⟨rb,ro+p * 10+7,none⟩=some (.slice aa (E p).na ca)):=fun W hW=>HS.out W (hbc.trans (hW.mono hbc.size))
    have HAt':Hid (∀ W,Below wd.heap.size wd W->Calls Tryz.prog 17 #[.agg #[.slice (some ⟨rb,ro,none⟩) n rc],.string x] W fun e w'=>e=.returned (.int .i64 (p:Int))∧Below wd.heap.size wd w'):=fun W hW=>by
     have:=HAt0.out W wd hbc hW;exact this
    clear HS HAt HAt0 HH1 HH2 hrf;have HS:Hid (_):=HS'.out;have HAt:Hid (_):=HAt'.out;clear HS' HAt';have hrf:Below wd.heap.size wd wd:=kB
    go_wp2_with fail
    go_cut [10] from 44 to 91 (fun v wx=>v=.slice aa (E p).na ca∧Below wd.heap.size wd wx)
    case first =>
     refine wp_region_held_drew (S:=fun X=>X.cell? ⟨B,0,none⟩=some (.slice (some ⟨rb,ro,none⟩) n rc)∧X.cell? ⟨ob,oo+i,none⟩=some (.string x)∧X.cell? ⟨rb,ro+p * 10+7,none⟩=some (.slice aa (E p).na ca)) (by kernel_rfl) ?_ (fun hHeld=>?_)
     ·(try dsimp only);exact HS.out _ (by with_reducible (repeat refine .drew ?_);exact hrf)
     refine tq 0 rfl ?_;simp only [si];refine tq 1 rfl ?_;simp only [si];refine tq 2 rfl ?_;simp only [si];refine tq 3 rfl ?_;simp only [si];refine tq 4 rfl ?_;simp only [si];refine tq 5 rfl ?_;simp only [si];refine tq 6 rfl ?_;simp only [si];refine rd 7 rfl fun K hK=>?_
     go_simp
     go_at_call 17
     refine (HAt.out _ (by with_reducible (repeat refine .drew ?_);exact hrf)).mono ?_;rintro e w5 ⟨rfl,hb5⟩;dsimp only;refine hK.out _ _ ?_ (fun hHeld=>?_)
     ·(try dsimp only);exact HS.out _ hb5
     clear hK K;try simp only [si]
     refine tq 8 rfl ?_;simp only [si];refine tq 9 rfl ?_;simp only [si];refine tq 10 rfl ?_;simp only [si];refine tq 11 rfl ?_;simp only [si];refine wpAnyH_done (by kernel_rfl) ?_ _
     (try go_wp2_with fail)
     go_meet;exact ⟨rfl,by with_reducible first|exact hb5|exact hb5.drew|exact hb5.drew.drew|exact hb5.drew.drew.drew⟩
    case rest =>
     obtain ⟨rfl,hbe⟩:=hcut;obtain ⟨we,hwe⟩:∃ we:World,we=wc:=⟨_,rfl⟩;subst hwe;have hqe:=hbc.trans (hbe.mono hbc.size);clear HS HAt hrf hbc hbe cB y1 y7;have hpna:=nZ HA.out.le HA.out.max
     go_wp2_with fail
     go_loopw [11] (fun iv wr=>PvRel (i+1) L we iv wr) (fun iv _=>L - (intOf iv).toNat)
     case atStart=>exact ⟨i+1,nL,by omega,by go_num,kB⟩
     case round =>
      obtain ⟨k,hik,hkL,rfl,hbk⟩:=hrel;have hqk:=hqe.trans (hbk.mono hqe.size)
      by_cases hlk:k<L
      ·have hko:k<o.length:=by rw [<- HL.out];exact hlk
       have yk:=(hqk.cell (p:=⟨ob,oo+k,none⟩) (by exact hob)).trans (hoc k hko);have HHk:Hid (Calls Tryz.prog 16 #[.slice aa (E p).na ca,.string (idsL E o k)] wr fun e w'=>e=.returned (.bool false)∧w'=wr):=(lwH_sl _ wr (HA.out.below hqk)).mono fun _ _ ⟨h1,h2⟩=>⟨by rw [h1,HRk.out k (by omega) hko],h2⟩
       generalize idsL E o k=xk at *;have k0:(0:Int)<=(k:Int):=by omega
       have k1:(k:Int)<(L:Int):=by omega
       go_wp2_with fail
       refine HHk.out.mono ?_;rintro e w9 ⟨rfl,rfl⟩
       go_wp2_with fail
       go_roundw
       case rel=>first|exact ⟨k+1,by omega,by omega,by go_num,hbk⟩|((repeat apply Exists.intro);exact ⟨⟨k+1,by omega,by omega,by go_num,hbk⟩,rfl⟩)
       simp [intOf];omega
      have hfin:=hbr.trans (hqk.mono hbr.size)
      go_wp2_with fail
      go_roundw
      case rel=>first|exact ⟨i+1,by omega,by omega,by go_num,hfin⟩|((repeat apply Exists.intro);exact ⟨⟨i+1,by omega,by omega,by go_num,hfin⟩,rfl⟩)
      simp [intOf];omega
  have HS:Hid (∀ W,Below wa.heap.size wa W->W.cell? ⟨B,0,none⟩=some (.slice ra n rc)):=fun W hW=>(hW.cell (by exact hsa)).trans r0
  have HXr:Hid (SlS wr pa L pc (idsL E o)):=by
   have:=HXs.out.below hbr;rw [<- HL.out] at this;exact this
  have HTu:Hid (∀ W,Below wr.heap.size wr W->Calls Tryz.prog 18 #[.slice ia mm ic] W fun x w'=>∃ g c,x=.returned (.slice (some ⟨g,0,none⟩) mm c)∧SlS w' (some ⟨g,0,none⟩) mm c (trn S mm)∧Below wr.heap.size wr w'):=fun W hW=>(HT.out W (hbw.trans (hW.mono hbw.size))).mono fun _ _ ⟨g,c,h1,h2,h3⟩=>⟨g,c,h1,h2,hW.trans (h3.mono hW.size)⟩
  have HS':Hid (∀ W,Below wr.heap.size wr W->W.cell? ⟨B,0,none⟩=some (.slice ra n rc)):=fun W hW=>HS.out W (hbw.trans (hW.mono hbw.size))
  clear HS;have HS:Hid (_):=HS'.out;clear HS';have hrf:Below wr.heap.size wr wr:=kB;have hwwr:=hww.trans (hbw.mono hww.size);clear HT HH HR HXs hS hV HL
  go_wp2_with fail
  go_cut [12,13] (fun u v wx=>∃ a6 c6,u=.slice a6 L c6∧v=.bool ok∧Hid (SlS wx a6 L c6 (idsL E o))∧Below wr.heap.size wr wx)
  case first =>
   refine wp_region_held_drew (S:=fun X=>X.cell? ⟨B,0,none⟩=some (.slice ra n rc)) (by kernel_rfl) ?_ (fun hHeld=>?_)
   ·(try dsimp only);exact HS.out _ (by with_reducible (repeat refine .drew ?_);exact hrf)
   refine tq 0 rfl ?_;simp only [si];refine tq 1 rfl ?_;simp only [si];refine rd 2 rfl fun K hK=>?_
   go_simp
   go_at_call 18
   refine (HTu.out _ (by with_reducible (repeat refine .drew ?_);exact hrf)).mono ?_;rintro e w5 ⟨g5,c5,rfl,hs5,hb5⟩;dsimp only;refine hK.out _ _ ?_ (fun hHeld=>?_)
   ·(try dsimp only);exact HS.out _ hb5
   clear hK K;try simp only [si]
   refine rd 3 rfl fun K hK=>?_
   go_simp
   go_at_call 15
   refine (HPt.out wr w5 _ _ _ hbw hb5 hs5 (by with_reducible first|exact (Below.refl w5.heap.size w5)|exact (Below.refl w5.heap.size w5).drew|exact (Below.refl w5.heap.size w5).drew.drew|exact (Below.refl w5.heap.size w5).drew.drew.drew)).mono ?_;rintro e w6 ⟨a6,c6,rfl,hs6,hb6⟩;dsimp only;refine hK.out _ _ ?_ (fun hHeld=>?_)
   ·(try dsimp only);exact HS.out _ hb6
   clear hK K;try simp only [si]
   refine tq 4 rfl ?_;simp only [si];refine tq 5 rfl ?_;simp only [si];refine tq 6 rfl ?_;simp only [si];refine tq 7 rfl ?_;simp only [si];refine tq 8 rfl ?_;simp only [si];refine wpAnyH_done (by kernel_rfl) ?_ _
   (try go_wp2_with fail)
   go_meet
   first
    | exact ⟨a6,c6,rfl,rfl,hs6,hb6⟩
    | exact ⟨a6,c6,rfl,rfl,hs6.out.below kB.drew,hb6.drew⟩
    | exact ⟨a6,c6,rfl,rfl,hs6.out.below kB.drew.drew,hb6.drew.drew⟩
  case rest =>
   obtain ⟨a6,c6,rfl,rfl,hs6,hb6⟩:=hcut;obtain ⟨w7,hw7⟩:∃ w7:World,w7=wc:=⟨_,rfl⟩;subst hw7;have HE:Hid (Calls Tryz.prog 19 #[.slice a6 L c6,.slice pa L pc] w7 fun e w'=>e=.returned (.bool true)∧Dr w7 w'):=lwE_sl w7 hs6.out (HXr.out.below hb6);have hfin:=hwwr.trans (hb6.mono hwwr.size);clear hs6 HXr HS HTu HPt hb6
   go_wp2_with fail
   refine HE.out.mono ?_;rintro e w8 ⟨rfl,hd8⟩
   go_wp2_with fail
   go_ret;exact ⟨rfl,hfin.trans (hd8.below _)⟩
def BytesIn (w:World)(a:Option Addr)(n:Nat):Prop :=
 n=0∨∃ b off,a=some ⟨b,off,none⟩∧b<w.heap.size∧∀ i,i<n->∃ x:Nat,x<256∧w.cell? ⟨b,off+i,none⟩=some (.int .u8 (x:Int))
end Go.Proofs.YtkdalopokdhndaaGreat
namespace Go.Proofs.YtkdalopokdhndaaGreat
open Go.ChangeShapes Go.WideShapes Go.ChangeAt Go.RowKit Go.Deep
variable {W:World}
theorem Tryz.cellsU8:Tryz.prog.cellsOf 5=1:=by kernel_rfl
theorem in_bytes {H:Type}{enc:TypeId × Value->H}{fuel:Nat}{cs:List Value}{x:DataW H × List MemPlace}(h:DataW.trod enc Tryz.prog W 0 (fun _=>true) true fuel 22 cs=some x)
  (hlt:∀ q ∈ x.2,q.block<W.heap.size):∃ a n cap,cs=[.slice a n cap]∧n<=cap∧cap<=maxLen∧BytesIn W a n:=by
 rcases open_slice1 Tryz.underlying22 Tryz.cellsU8 h with ⟨rfl,rfl⟩|⟨a,len,cap,m,n,V,D,Pl,rfl,_,hl,hm,hmm,rfl,hx⟩
 ·exact ⟨none,0,0,rfl,nL,by decide,Or.inl rfl⟩
 simp only [if_true] at hmm;subst hmm;refine ⟨some a,len,m,rfl,hl,hm,?_⟩
 by_cases h0:len=0
 ·exact Or.inl h0
 right
 obtain ⟨b,off,spot⟩:=a;have hspot:spot=none:=by simpa [Addr.add] using World.cell?_spot (hx 0 (by omega)).1
 subst hspot;refine ⟨b,off,rfl,hlt (.cell b off) (List.mem_append_left _ (MemPlace.mem_row.2 ⟨0,by omega,by simp⟩)),fun i hi=>?_⟩;obtain ⟨q1,q2⟩:=hx i (by omega);obtain ⟨z,e1,_,hwf⟩:=DataW.trod_int Tryz.underlying5 q2;simp only [List.cons.injEq,and_true] at e1;rw [e1] at q1;simp only [Lit.wf,Bool.and_eq_true,decide_eq_true_eq] at hwf;have hz0:(0:Int)<=z:=hwf.1;have hz1:z<=255:=hwf.2;refine ⟨z.toNat,by omega,?_⟩;rw [Int.toNat_of_nonneg hz0,<- add_plain];exact q1
end Go.Proofs.YtkdalopokdhndaaGreat
namespace Go.Proofs.YtkdalopokdhndaaGreat
open Go.RowKit
variable {W:World}{a:Option Addr}{n:Nat}
theorem bytes_choose (h:BytesIn W a n):∃ bs:Nat->Nat,BytesV W a n bs∧∀ i,i<n->bs i<256:=by
 rcases h with h0|⟨b,off,e,hb,hx⟩
 ·exact ⟨fun _=>0,Or.inl h0,fun _ _=>by show (0:Nat)<256;decide⟩
 refine ⟨fun i=>if hi:i<n then Classical.choose (hx i hi) else 0,Or.inr ⟨b,off,e,hb,fun i hi=>?_⟩,fun i hi=>?_⟩
 ·dsimp only
  rw [dif_pos hi];exact (Classical.choose_spec (hx i hi)).2
 dsimp only;rw [dif_pos hi];exact (Classical.choose_spec (hx i hi)).1
end Go.Proofs.YtkdalopokdhndaaGreat
