import Derived.Test.YtkdalopokdhndaaGreatSoNZ
import Derived.ProofKit
import Derived.SizedLaws
import Derived.Deep.Strs
set_option maxHeartbeats 16000000
set_option maxRecDepth 100000
namespace Go.Proofs.YtkdalopokdhndaaGreat
open Go.RowKit
variable {E:Nat->Ev}{m n cap base:Nat}{S:Nat->ByteArray}{s:ByteArray}{W w w':World}{v:Value}{a:Option Addr}{bs:Nat->Nat}
def MvR (L:Nat)(X:Nat->ByteArray)(ok:Bool)(W0:World)(x:Ending)(w':World):Prop :=
 ∃ a c,x=.returned (.tuple #[.slice a L c,.bool ok])∧Hid (SlS w' a L c X)∧Below W0.heap.size W0 w'
theorem mv_of {S':Nat->ByteArray}{L:List ByteArray}{W0:World}{x:Ending}(hS:S'=S∨S'=trn S m)(h:MoPost W E n S' m s x w')(ho:MoO E n S m s L)(hsz:∀ t ∈ L,t.size<=maxLen)(hW:Below W0.heap.size W0 W):MvR L.length (getL L) (moOk E n S m s) W0 x w':=by
 obtain ⟨hb,v,L',rfl,how,hq⟩:=h
 have ho':MoO E n S m s L':=by
  rcases hS with rfl|rfl
  ·exact hq
  exact MoO.trn hq
 have e:=ho.uniq ho';subst e;obtain ⟨a,c,rfl,hs,_⟩:=how.sl hsz;refine ⟨a,c,?_,hs,hW.trans (hb.mono hW.size)⟩;rcases hS with rfl|rfl
 ·rfl
 rw [moOk_trn]
theorem ml_sls {X:Nat->ByteArray}(h:OwnT w base v n X)(hs:∀ i,i<n->(X i).size<=maxLen):∃ a c,v=.slice a n c∧SlS w a n c X:=by
 obtain ⟨a,c,e,h1,_⟩:=h.list.sl (fun t ht=>by
  obtain ⟨i,hi,rfl⟩:=List.mem_map.1 ht;exact hs i (List.mem_range.1 hi))
 rw [List.length_map,List.length_range] at e h1;refine ⟨a,c,e,h1.le,h1.max,hs,h1.cells.imp id fun ⟨b,off,e1,hlt,hc⟩=>⟨b,off,e1,hlt,fun i hi=>?_⟩⟩;rw [hc i hi];unfold getL;rw [List.getD_eq_getElem?_getD,List.getElem?_map,List.getElem?_range hi];rfl
def MvRel (hi:Nat)(w0:World)(iv:Value)(wr:World):Prop:=∃ k:Nat,k<=hi∧iv=.int .i64 (k:Int)∧Below w0.heap.size w0 wr
theorem lawMain {n0:Nat}(w:World)(hle:n0<=cap)(hmax:cap<=maxLen)(h:BytesV w a n0 bs)(hb1:∀ i,i<n0->bs i<256) :
  Calls Tryz.prog 5 #[.slice a n0 cap] w fun e w'=>e=.returned (.bool true)∧Below w.heap.size w w':=by
 have HD:Hid (Calls Tryz.prog 20 #[.slice a n0 cap] w (MdPost w)):=drawMo w hle hmax h hb1;have hnm:(n0:Int)<=9223372036854775807:=by unfold maxLen at hmax;omega
 clear hmax hle h hb1
 by_cases hbig:1048576<n0
 ·go_enter Tryz.func5,Tryz.ntmps5
  go_wp2
  go_ret;exact ⟨rfl,kB⟩
 go_enter Tryz.func5,Tryz.ntmps5
 go_wp2_with fail
 refine HD.out.mono ?_;rintro x w1 ⟨ra,n,rc,E,ia,mm,ic,S,s,rfl,hV1,hS1,hn3,hm3,hs0,hw1⟩;clear HD;obtain ⟨wa,hwa⟩:∃ wa,wa=w1.alloc (.cells #[.slice ra n rc] 25):=⟨_,rfl⟩;have hba:Below w1.heap.size w1 wa:=by rw [hwa];exact bA
 have hsa:w1.heap.size<wa.heap.size:=by rw [hwa];simp
 have r0:wa.cell? ⟨w1.heap.size,0,none⟩=some (.slice ra n rc):=by rw [hwa];exact kA rfl
 have hV:Hid (SlV wa ra n rc E):=hV1.out.below hba;have hS:Hid (SlS wa ia mm ic S):=hS1.out.below hba;have hww:=hw1.trans (hba.mono hw1.size);have hlen:=hS1.out.le;have hlmx:=hS1.out.max;unfold maxLen at hlmx;obtain ⟨B,hB⟩:∃ B,B=w1.heap.size:=⟨_,rfl⟩;rw [<- hB] at hsa r0
 go_upto_region 4 with fail
 rw [<- hwa,<- hB];clear hwa hB hba hw1 hV1 hS1;have HPs:Hid (Calls Tryz.prog 21 #[.agg #[.slice ra n rc],.slice ia mm ic,.string s] wa (MoPost wa E n S mm s)):=moS_sl s wa hV.out hS.out
 go_wp2_with fail
 refine HPs.out.mono ?_;rintro x w2 ⟨hb2,v,o,rfl,how,hq⟩;have HO:Hid (MoO E n S mm s o):=hq;have HZ:Hid (∀ t ∈ o,t.size<=maxLen):=HO.out.sz hS.out.size;obtain ⟨va,vc,rfl,hsv,_⟩:=how.sl HZ.out;have hl2:=nZ hsv.le hsv.max;unfold maxLen at hl2;clear how hq HPs hsv;have HPi:Hid (∀ W,Below wa.heap.size wa W->Calls Tryz.prog 22 #[.agg #[.slice ra n rc],.slice ia mm ic,.string s] W (MvR o.length (getL o) (moOk E n S mm s) wa)):=fun W hW=>(moJ_sl s hs0 W (hV.out.below hW) (hS.out.below hW)).mono fun _ _ hx=>mv_of (Or.inl rfl) hx HO.out HZ.out hW
 have HPt:Hid (∀ U V W g c,Below wa.heap.size wa U->Below U.heap.size U V->SlS V (some ⟨g,0,none⟩) mm c (trn S mm)->Below V.heap.size V W->Calls Tryz.prog 22 #[.agg #[.slice ra n rc],.slice (some ⟨g,0,none⟩) mm c,.string s] W (MvR o.length (getL o) (moOk E n S mm s) U)):=fun U V W g c hU hUV hs hW=>by
  have hUW:=hUV.trans (hW.mono hUV.size);exact (moJ_sl s hs0 W (hV.out.below (hU.trans (hUW.mono hU.size))) (hs.below hW)).mono fun _ _ hx=>mv_of (Or.inr rfl) hx HO.out HZ.out hUW
 have HT:Hid (∀ W,Below wa.heap.size wa W->Calls Tryz.prog 18 #[.slice ia mm ic] W (TrPost W S mm)):=fun W hW=>lwT_sl W (hS.out.below hW) (by omega)
 have HH:Hid (∀ W i,i<o.length->Below wa.heap.size wa W->Calls Tryz.prog 16 #[.slice ia mm ic,.string (getL o i)] W fun e w'=>e=.returned (.bool true)∧w'=W):=fun W i hi hW=>(lwH_sl _ W (hS.out.below hW)).mono fun _ _ ⟨h1,h2⟩=>⟨by rw [h1,mo_given HO.out hi],h2⟩
 have hidz:∀ p,p<n->(E p).id.size<=maxLen:=fun p hp=>by
  rcases hV.out.cells with h0|⟨b,off,_,_,hc⟩
  ·omega
  obtain ⟨_,_,_,_,_,_,_,hok⟩:=hc p hp;exact hok.hid
 have HMl:moOk E n S mm s=true->Hid (∀ W,Below wa.heap.size wa W->Calls Tryz.prog 23 #[.agg #[.slice ra n rc],.string s] W fun x w'=>∃ a c,x=.returned (.tuple #[.slice a (mlL E n s).length c,.bool true])∧Hid (SlS w' a (mlL E n s).length c (fun k=>(E (lX (mlL E n s) k).toNat).id))∧Below wa.heap.size wa w'∧Below W.heap.size W w'):=fun hok W hW=>(mlI_sl s hs0 W (hV.out.below hW)).mono fun x w' hx=>by
  obtain ⟨hb,v,rfl,how⟩:=hx;have hml:=(mo_line hok).1;have hr:=(ml_id hml).1
  obtain ⟨a,c,rfl,hs⟩:=ml_sls how (fun i hi=>by
   have hmem:∀ i ∈ mlL E n s,i<n:=by unfold mlL;rw [hml];exact ln_mem hr (posV_bd E s n).2
   obtain ⟨p,hp,e⟩:=lX_lt hmem hi;rw [e];exact hidz p hp)
  exact ⟨a,c,by rw [hml],hs,hW.trans (hb.mono hW.size),hb⟩
 have HLn:moOk E n S mm s=true->(0<(mlL E n s).length↔s.toList.isEmpty=false):=fun hok=>(mo_line hok).2
 have HNr:Hid (∀ i,i+1<o.length->hasB (fun k=>(E (lX (mlL E n s) k).toNat).id) (mlL E n s).length (getL o i)=true->hasB (fun k=>(E (lX (mlL E n s) k).toNat).id) (mlL E n s).length (getL o (i+1))=true->plB (fun k=>(E (lX (mlL E n s) k).toNat).id) (getL o (i+1)) (mlL E n s).length<=plB (fun k=>(E (lX (mlL E n s) k).toNat).id) (getL o i) (mlL E n s).length):=fun i hi h0 h1=>mo_near HO.out hi h0 h1
 have HOn:Hid (∀ i,i<o.length->hasB (getL o) i (getL o i)=false):=fun i hi=>mo_once HO.out hi
 have c2:=(hb2.cell (by exact hsa)).trans r0;clear HO HZ hidz
 go_wp2_with fail
 refine (HPi.out w2 hb2).mono ?_;rintro x w3 ⟨pa,pc,rfl,hs3,hb3⟩;clear HPi c2;have HXs:Hid (SlS w3 pa o.length pc (getL o)):=hs3;clear hs3;have hl3:=HXs.out.le;have hl4:=HXs.out.max;unfold maxLen at hl4;obtain ⟨L,hL⟩:∃ L,L=o.length:=⟨_,rfl⟩;rw [<- hL] at hl2 HPt hl3 HXs ⊢;have HL:Hid (L=o.length):=hL;clear hL;generalize moOk E n S mm s=ok at *;have hww3:=hww.trans (hb3.mono hww.size);cases ok
 ·go_wp2_with fail
  go_ret;exact ⟨rfl,hww3⟩
 have HM:Hid (∀ W,Below w3.heap.size w3 W->Calls Tryz.prog 23 #[.agg #[.slice ra n rc],.string s] W fun x w'=>∃ a c,x=.returned (.tuple #[.slice a (mlL E n s).length c,.bool true])∧Hid (SlS w' a (mlL E n s).length c (fun k=>(E (lX (mlL E n s) k).toNat).id))∧Below wa.heap.size wa w'∧Below W.heap.size W w'):=fun W hW=>(HMl rfl).out W (hb3.trans (hW.mono hb3.size))
 have hLn:=HLn rfl;clear HMl HLn;generalize (fun k=>(E (lX (mlL E n s) k).toNat).id)=X at *;generalize (mlL E n s).length=M at *;have c3:=(hb3.cell (by exact hsa)).trans r0
 go_wp2_with fail
 refine (HM.out w3 kB).mono ?_;rintro x w4 ⟨la,lc,rfl,hs4,hb4,hb34⟩;clear HM c3;have hl5:=hs4.out.le;have hl6:=hs4.out.max;unfold maxLen at hl6;have HXw:Hid (SlS w4 pa L pc (getL o)):=HXs.out.below hb34
 go_upto_region 11 with fail
 go_cut [65] (fun v wx=>v=.bool false∧wx=w4)
 case first =>
  cases he:s.toList.isEmpty
  ·have hM:=hLn.2 he
   have hM1:(0:Int)<(M:Int):=by omega
   go_wp2_with fail
   go_meet;exact ⟨by simp,rfl⟩
  have hM:¬ 0<M:=fun hx=>by have:=hLn.1 hx;rw [he] at this;cases this
  have hM1:¬ (0:Int)<(M:Int):=by omega
  go_wp2_with fail
  go_meet;exact ⟨by simp,rfl⟩
 case rest =>
  obtain ⟨rfl,hwc⟩:=hcut;subst hwc;obtain ⟨w8,hw8⟩:∃ w8:World,w8=wc:=⟨_,rfl⟩;subst hw8;have hb38:Below wa.heap.size wa w8:=hb4;clear hLn
  go_wp2_with fail
  go_loopw [12] (fun iv wr=>MvRel L w8 iv wr) (fun iv _=>L - (intOf iv).toNat)
  case atStart=>exact ⟨0,nz,rfl,kB⟩
  case round =>
   obtain ⟨i,hiL,rfl,hbr⟩:=hrel;have hbw:=hb38.trans (hbr.mono hb38.size);have HXr:Hid (SlS wr pa L pc (getL o)):=HXw.out.below hbr
   by_cases hlt:i<L
   ·have hio:i<o.length:=by rw [<- HL.out];exact hlt
    rcases HXr.out.cells with h0|⟨ob,oo,rfl,hob,hoc⟩
    ·omega
    have y1:=hoc i hlt;have HH2:Hid (∀ W,Below wr.heap.size wr W->Calls Tryz.prog 16 #[.slice ia mm ic,.string (getL o i)] W fun e w'=>e=.returned (.bool true)∧w'=W):=fun W hW=>HH.out W i hio (hbw.trans (hW.mono hbw.size))
    have HH1:Hid (∀ W,Below wr.heap.size wr W->Calls Tryz.prog 16 #[.slice (some ⟨ob,oo,none⟩) i pc,.string (getL o i)] W fun e w'=>e=.returned (.bool false)∧w'=W):=fun W hW=>(lwH_any ob oo i pc (getL o) (getL o i) W (by unfold maxLen;omega) (fun j hj=>(hW.cell (by exact hob)).trans (hoc j (by omega)))).mono fun _ _ ⟨h1,h2⟩=>⟨by rw [h1,HOn.out i hio],h2⟩
    have hsl:=hs4.out.below hbr;have HA0:Hid (∀ W t,Below wr.heap.size wr W->Calls Tryz.prog 16 #[.slice la M lc,.string t] W fun e w'=>e=.returned (.bool (hasB X M t))∧w'=W):=fun W t hW=>lwH_sl t W (hsl.below hW)
    have HC0:Hid (∀ W t,Below wr.heap.size wr W->Calls Tryz.prog 24 #[.slice la M lc,.string t] W fun e w'=>e=.returned (.int .i64 ((plB X t M:Nat):Int))∧w'=W):=fun W t hW=>lwP_sl t W (hsl.below hW)
    have HN0:Hid (∀ l,i=l+1->hasB X M (getL o l)=true->hasB X M (getL o i)=true->plB X (getL o i) M<=plB X (getL o l) M):=fun l e h0 h1=>by subst e;exact HNr.out l hio h0 h1
    have HY:Hid (∀ l,l<L->wr.cell? ⟨ob,oo+l,none⟩=some (.string (getL o l))):=fun l hl=>hoc l hl
    generalize hX:getL o i=x at *;clear hX hsl hoc;have hrf:Below wr.heap.size wr wr:=kB;have i0:(0:Int)<=(i:Int):=by omega
    have i1:(i:Int)<(L:Int):=by omega
    have i2:(i:Int)<=(pc:Int):=by omega
    obtain ⟨wq,hwq⟩:∃ wq:World,wq=wr:=⟨_,rfl⟩;subst hwq
    go_wp2_with fail
    go_cut [88] from 66 to 123 (fun v wx=>v=.bool false∧Below wq.heap.size wq wx)
    case first =>
     refine wp_region_held_drew (S:=fun X=>X.cell? ⟨ob,oo+i,none⟩=some (.string x)) (by kernel_rfl) ?_ (fun hHeld=>?_)
     ·(try dsimp only);exact y1
     refine tq 0 rfl ?_;simp only [si];refine tq 1 rfl ?_;simp only [si];refine wpAnyH_take (i:=2) (v:=.slice (some ⟨ob,oo,none⟩) i pc) rfl (by kernel_rfl) (by kernel_rfl) (by kernel_rfl) (fun _ _ _ h=>h) (Or.inl ⟨by rfl,?hm3⟩) (by assumption) ?_
     case hm3=>(intro w h;(try dsimp only at h);go_simp)
     simp only [si];refine tq 3 rfl ?_;simp only [si];refine tq 4 rfl ?_;simp only [si];refine tq 5 rfl ?_;simp only [si];refine tq 6 rfl ?_;simp only [si];refine rd 7 rfl fun K hK=>?_
     go_simp
     go_at_call 16
     refine (HH1.out _ (by with_reducible (repeat refine .drew ?_);exact hrf)).mono ?_;rintro e w5 ⟨rfl,rfl⟩;dsimp only;refine hK.out _ _ ?_ (fun hHeld=>?_)
     ·(try dsimp only);exact y1
     clear hK K;try simp only [si]
     refine tq 8 rfl ?_;simp only [si];refine tq 9 rfl ?_;simp only [si];refine tq 10 rfl ?_;simp only [si];refine tq 11 rfl ?_;simp only [si];refine tq 12 rfl ?_;simp only [si];refine tq 13 rfl ?_;simp only [si];refine rd 14 rfl fun K hK=>?_
     go_simp
     go_at_call 16
     refine (HH2.out _ (by with_reducible (repeat refine .drew ?_);exact hrf)).mono ?_;rintro e w6 ⟨rfl,rfl⟩;dsimp only;refine hK.out _ _ ?_ (fun hHeld=>?_)
     ·(try dsimp only);exact y1
     clear hK K;try simp only [si]
     refine tq 15 rfl ?_;simp only [si];refine tq 16 rfl ?_;simp only [si];refine wpAnyH_done (by kernel_rfl) ?_ _
     (try go_wp2_with fail)
     go_meet;exact ⟨rfl,by with_reducible first|exact hrf|exact hrf.drew|exact hrf.drew.drew|exact hrf.drew.drew.drew⟩
    case rest =>
     obtain ⟨rfl,hbc⟩:=hcut;obtain ⟨wd,hwd⟩:∃ wd:World,wd=wc:=⟨_,rfl⟩;subst hwd;have y1':=(hbc.cell (p:=⟨ob,oo+i,none⟩) (by exact hob)).trans y1;clear y1 HH1 HH2 hrf;have y1:=y1';clear y1';have hrf:Below wd.heap.size wd wd:=kB;have hob':=nT hob hbc.size
     go_wp2_with fail
     go_cut [123] from 66 to 123 (fun v wx=>v=.bool false∧Below wd.heap.size wd wx)
     case first =>
      by_cases hi0:i=0
      ·have hg0:¬ 0<i:=by omega
       clear hi0;refine wp_region_held_drew (S:=fun X=>X.cell? ⟨ob,oo+i,none⟩=some (.string x)) (by kernel_rfl) ?_ (fun hHeld=>?_)
       ·(try dsimp only);exact y1
       refine tq 0 rfl ?_;simp only [si];refine tk 1 (.bool false) rfl (Or.inl ⟨by rfl,?hm25⟩) ?_
       case hm25=>(intro w h;(try dsimp only at h);go_simp;try omega)
       simp only [si];refine tq 2 rfl ?_;simp only [si];refine tk 3 undef rfl (Or.inr ⟨by rfl,rfl⟩) ?_;simp only [si];refine tk 4 undef rfl (Or.inr ⟨by rfl,rfl⟩) ?_;simp only [si];refine tk 5 undef rfl (Or.inr ⟨by rfl,rfl⟩) ?_;simp only [si];refine tk 6 undef rfl (Or.inr ⟨by rfl,rfl⟩) ?_;simp only [si];refine tk 7 undef rfl (Or.inr ⟨by rfl,rfl⟩) ?_;simp only [si];refine tk 8 undef rfl (Or.inr ⟨by rfl,rfl⟩) ?_;simp only [si];refine tq 9 rfl ?_;simp only [si];refine tq 10 rfl ?_;simp only [si];refine tk 11 undef rfl (Or.inr ⟨by rfl,rfl⟩) ?_;simp only [si];refine tk 12 undef rfl (Or.inr ⟨by rfl,rfl⟩) ?_;simp only [si];refine tk 13 undef rfl (Or.inr ⟨by rfl,rfl⟩) ?_;simp only [si];refine tk 14 undef rfl (Or.inr ⟨by rfl,rfl⟩) ?_;simp only [si];refine tk 15 undef rfl (Or.inr ⟨by rfl,rfl⟩) ?_;simp only [si];refine tk 16 undef rfl (Or.inr ⟨by rfl,rfl⟩) ?_;simp only [si];refine tk 17 undef rfl (Or.inr ⟨by rfl,rfl⟩) ?_;simp only [si];refine tq 18 rfl ?_;simp only [si];refine tq 19 rfl ?_;simp only [si];refine tk 20 undef rfl (Or.inr ⟨by rfl,rfl⟩) ?_;simp only [si];refine tk 21 undef rfl (Or.inr ⟨by rfl,rfl⟩) ?_;simp only [si];refine tk 22 undef rfl (Or.inr ⟨by rfl,rfl⟩) ?_;simp only [si];refine tk 23 undef rfl (Or.inr ⟨by rfl,rfl⟩) ?_;simp only [si];refine tk 24 undef rfl (Or.inr ⟨by rfl,rfl⟩) ?_;simp only [si];refine tk 25 undef rfl (Or.inr ⟨by rfl,rfl⟩) ?_;simp only [si];refine tk 26 undef rfl (Or.inr ⟨by rfl,rfl⟩) ?_;simp only [si];refine tk 27 undef rfl (Or.inr ⟨by rfl,rfl⟩) ?_;simp only [si];refine tk 28 undef rfl (Or.inr ⟨by rfl,rfl⟩) ?_;simp only [si];refine tk 29 undef rfl (Or.inr ⟨by rfl,rfl⟩) ?_;simp only [si];refine tk 30 undef rfl (Or.inr ⟨by rfl,rfl⟩) ?_;simp only [si];refine tk 31 undef rfl (Or.inr ⟨by rfl,rfl⟩) ?_;simp only [si];refine tk 32 undef rfl (Or.inr ⟨by rfl,rfl⟩) ?_;simp only [si];refine tk 33 undef rfl (Or.inr ⟨by rfl,rfl⟩) ?_;simp only [si];refine tq 34 rfl ?_;simp only [si];refine wpAnyH_done (by kernel_rfl) ?_ _
       (try go_wp2_with fail)
       go_meet;exact ⟨rfl,by with_reducible first|exact hrf|exact hrf.drew|exact hrf.drew.drew|exact hrf.drew.drew.drew⟩
      obtain ⟨l,hl⟩:∃ l,i=l+1:=⟨i - 1,by omega⟩;have y2:=(hbc.cell (p:=⟨ob,oo+l,none⟩) (by exact hob)).trans (HY.out l (by omega));have hN:=HN0.out l hl;have hl1:(i:Int) - 1=(l:Int):=by omega
      have hwl:IntKind.i64.wrap (l:Int)=(l:Int):=by rw [IntKind.wrap_i64];omega
      have hg1:0<i:=by omega
      have l0:(0:Int)<=(l:Int):=by omega
      have l1:(l:Int)<(L:Int):=by omega
      have HA1:Hid (∀ W t,Below wd.heap.size wd W->Calls Tryz.prog 16 #[.slice la M lc,.string t] W fun e w'=>e=.returned (.bool (hasB X M t))∧w'=W):=fun W t hW=>HA0.out W t (hbc.trans (hW.mono hbc.size))
      have HC1:Hid (∀ W t,Below wd.heap.size wd W->Calls Tryz.prog 24 #[.slice la M lc,.string t] W fun e w'=>e=.returned (.int .i64 ((plB X t M:Nat):Int))∧w'=W):=fun W t hW=>HC0.out W t (hbc.trans (hW.mono hbc.size))
      clear HA0 HC0 HN0 HY hl;generalize getL o l=y at *;have HA:Hid (_):=fun W=>HA1.out W x
      cases hb1:hasB X M x
      ·rw [hb1] at HA
       refine wp_region_held_drew (S:=fun X=>X.cell? ⟨ob,oo+i,none⟩=some (.string x)∧X.cell? ⟨ob,oo+l,none⟩=some (.string y)) (by kernel_rfl) ?_ (fun hHeld=>?_)
       ·(try dsimp only);exact ⟨y1,y2⟩
       refine tq 0 rfl ?_;simp only [si];refine tk 1 (.bool true) rfl (Or.inl ⟨by rfl,?hm33⟩) ?_
       case hm33=>(intro w h;(try dsimp only at h);go_simp;try omega)
       simp only [si];refine tq 2 rfl ?_;simp only [si];refine tq 3 rfl ?_;simp only [si];refine tq 4 rfl ?_;simp only [si];refine tq 5 rfl ?_;simp only [si];refine tq 6 rfl ?_;simp only [si];refine tq 7 rfl ?_;simp only [si];refine rd 8 rfl fun K hK=>?_
       go_simp
       go_at_call 16
       refine (HA.out _ (by with_reducible (repeat refine .drew ?_);exact hrf)).mono ?_;rintro e w5 ⟨rfl,rfl⟩;dsimp only;refine hK.out _ _ ?_ (fun hHeld=>?_)
       ·(try dsimp only);exact ⟨y1,y2⟩
       clear hK K;try simp only [si]
       refine tq 9 rfl ?_;simp only [si];refine tq 10 rfl ?_;simp only [si];refine tk 11 undef rfl (Or.inr ⟨by rfl,rfl⟩) ?_;simp only [si];refine tk 12 undef rfl (Or.inr ⟨by rfl,rfl⟩) ?_;simp only [si];refine tk 13 undef rfl (Or.inr ⟨by rfl,rfl⟩) ?_;simp only [si];refine tk 14 undef rfl (Or.inr ⟨by rfl,rfl⟩) ?_;simp only [si];refine tk 15 undef rfl (Or.inr ⟨by rfl,rfl⟩) ?_;simp only [si];refine tk 16 undef rfl (Or.inr ⟨by rfl,rfl⟩) ?_;simp only [si];refine tk 17 undef rfl (Or.inr ⟨by rfl,rfl⟩) ?_;simp only [si];refine tq 18 rfl ?_;simp only [si];refine tq 19 rfl ?_;simp only [si];refine tk 20 undef rfl (Or.inr ⟨by rfl,rfl⟩) ?_;simp only [si];refine tk 21 undef rfl (Or.inr ⟨by rfl,rfl⟩) ?_;simp only [si];refine tk 22 undef rfl (Or.inr ⟨by rfl,rfl⟩) ?_;simp only [si];refine tk 23 undef rfl (Or.inr ⟨by rfl,rfl⟩) ?_;simp only [si];refine tk 24 undef rfl (Or.inr ⟨by rfl,rfl⟩) ?_;simp only [si];refine tk 25 undef rfl (Or.inr ⟨by rfl,rfl⟩) ?_;simp only [si];refine tk 26 undef rfl (Or.inr ⟨by rfl,rfl⟩) ?_;simp only [si];refine tk 27 undef rfl (Or.inr ⟨by rfl,rfl⟩) ?_;simp only [si];refine tk 28 undef rfl (Or.inr ⟨by rfl,rfl⟩) ?_;simp only [si];refine tk 29 undef rfl (Or.inr ⟨by rfl,rfl⟩) ?_;simp only [si];refine tk 30 undef rfl (Or.inr ⟨by rfl,rfl⟩) ?_;simp only [si];refine tk 31 undef rfl (Or.inr ⟨by rfl,rfl⟩) ?_;simp only [si];refine tk 32 undef rfl (Or.inr ⟨by rfl,rfl⟩) ?_;simp only [si];refine tk 33 undef rfl (Or.inr ⟨by rfl,rfl⟩) ?_;simp only [si];refine tq 34 rfl ?_;simp only [si];refine wpAnyH_done (by kernel_rfl) ?_ _
       (try go_wp2_with fail)
       go_meet;exact ⟨rfl,by with_reducible first|exact hrf|exact hrf.drew|exact hrf.drew.drew|exact hrf.drew.drew.drew⟩
      rw [hb1] at HA;have HB:Hid (_):=fun W=>HA1.out W y
      cases hb2:hasB X M y
      ·rw [hb2] at HB
       refine wp_region_held_drew (S:=fun X=>X.cell? ⟨ob,oo+i,none⟩=some (.string x)∧X.cell? ⟨ob,oo+l,none⟩=some (.string y)) (by kernel_rfl) ?_ (fun hHeld=>?_)
       ·(try dsimp only);exact ⟨y1,y2⟩
       refine tq 0 rfl ?_;simp only [si];refine tk 1 (.bool true) rfl (Or.inl ⟨by rfl,?hm46⟩) ?_
       case hm46=>(intro w h;(try dsimp only at h);go_simp;try omega)
       simp only [si];refine tq 2 rfl ?_;simp only [si];refine tq 3 rfl ?_;simp only [si];refine tq 4 rfl ?_;simp only [si];refine tq 5 rfl ?_;simp only [si];refine tq 6 rfl ?_;simp only [si];refine tq 7 rfl ?_;simp only [si];refine rd 8 rfl fun K hK=>?_
       go_simp
       go_at_call 16
       refine (HA.out _ (by with_reducible (repeat refine .drew ?_);exact hrf)).mono ?_;rintro e w5 ⟨rfl,rfl⟩;dsimp only;refine hK.out _ _ ?_ (fun hHeld=>?_)
       ·(try dsimp only);exact ⟨y1,y2⟩
       clear hK K;try simp only [si]
       refine tq 9 rfl ?_;simp only [si];refine tq 10 rfl ?_;simp only [si];refine tq 11 rfl ?_;simp only [si];refine tq 12 rfl ?_;simp only [si];refine tq 13 rfl ?_;simp only [si];refine wpAnyH_take (i:=14) (v:=.int .i64 (l:Int)) rfl (by kernel_rfl) (by kernel_rfl) (by kernel_rfl) (fun _ _ _ h=>h) (Or.inl ⟨by rfl,?hm58⟩) (by assumption) ?_
       case hm58=>(intro w h;(try dsimp only at h);go_simp;try exact hwl)
       simp only [si];refine tq 15 rfl ?_;simp only [si];refine tq 16 rfl ?_;simp only [si];refine rd 17 rfl fun K hK=>?_
       go_simp
       go_at_call 16
       refine (HB.out _ (by with_reducible (repeat refine .drew ?_);exact hrf)).mono ?_;rintro e w6 ⟨rfl,rfl⟩;dsimp only;refine hK.out _ _ ?_ (fun hHeld=>?_)
       ·(try dsimp only);exact ⟨y1,y2⟩
       clear hK K;try simp only [si]
       refine tq 18 rfl ?_;simp only [si];refine tq 19 rfl ?_;simp only [si];refine tk 20 undef rfl (Or.inr ⟨by rfl,rfl⟩) ?_;simp only [si];refine tk 21 undef rfl (Or.inr ⟨by rfl,rfl⟩) ?_;simp only [si];refine tk 22 undef rfl (Or.inr ⟨by rfl,rfl⟩) ?_;simp only [si];refine tk 23 undef rfl (Or.inr ⟨by rfl,rfl⟩) ?_;simp only [si];refine tk 24 undef rfl (Or.inr ⟨by rfl,rfl⟩) ?_;simp only [si];refine tk 25 undef rfl (Or.inr ⟨by rfl,rfl⟩) ?_;simp only [si];refine tk 26 undef rfl (Or.inr ⟨by rfl,rfl⟩) ?_;simp only [si];refine tk 27 undef rfl (Or.inr ⟨by rfl,rfl⟩) ?_;simp only [si];refine tk 28 undef rfl (Or.inr ⟨by rfl,rfl⟩) ?_;simp only [si];refine tk 29 undef rfl (Or.inr ⟨by rfl,rfl⟩) ?_;simp only [si];refine tk 30 undef rfl (Or.inr ⟨by rfl,rfl⟩) ?_;simp only [si];refine tk 31 undef rfl (Or.inr ⟨by rfl,rfl⟩) ?_;simp only [si];refine tk 32 undef rfl (Or.inr ⟨by rfl,rfl⟩) ?_;simp only [si];refine tk 33 undef rfl (Or.inr ⟨by rfl,rfl⟩) ?_;simp only [si];refine tq 34 rfl ?_;simp only [si];refine wpAnyH_done (by kernel_rfl) ?_ _
       (try go_wp2_with fail)
       go_meet;exact ⟨rfl,by with_reducible first|exact hrf|exact hrf.drew|exact hrf.drew.drew|exact hrf.drew.drew.drew⟩
      rw [hb2] at HB;have hle:=hN hb2 hb1;have HC:Hid (_):=fun W=>HC1.out W y
      have HE:Hid (_):=fun W=>HC1.out W x
      generalize plB X x M=px at *;generalize plB X y M=py at *;have hpl:¬ (py:Int)<(px:Int):=by omega
      clear HC1 HA1 hN;refine wp_region_held_drew (S:=fun X=>X.cell? ⟨ob,oo+i,none⟩=some (.string x)∧X.cell? ⟨ob,oo+l,none⟩=some (.string y)) (by kernel_rfl) ?_ (fun hHeld=>?_)
      ·(try dsimp only);exact ⟨y1,y2⟩
      refine tq 0 rfl ?_;simp only [si];refine tk 1 (.bool true) rfl (Or.inl ⟨by rfl,?hm65⟩) ?_
      case hm65=>(intro w h;(try dsimp only at h);go_simp;try omega)
      simp only [si];refine tq 2 rfl ?_;simp only [si];refine tq 3 rfl ?_;simp only [si];refine tq 4 rfl ?_;simp only [si];refine tq 5 rfl ?_;simp only [si];refine tq 6 rfl ?_;simp only [si];refine tq 7 rfl ?_;simp only [si];refine rd 8 rfl fun K hK=>?_
      go_simp
      go_at_call 16
      refine (HA.out _ (by with_reducible (repeat refine .drew ?_);exact hrf)).mono ?_;rintro e w5 ⟨rfl,rfl⟩;dsimp only;refine hK.out _ _ ?_ (fun hHeld=>?_)
      ·(try dsimp only);exact ⟨y1,y2⟩
      clear hK K;try simp only [si]
      refine tq 9 rfl ?_;simp only [si];refine tq 10 rfl ?_;simp only [si];refine tq 11 rfl ?_;simp only [si];refine tq 12 rfl ?_;simp only [si];refine tq 13 rfl ?_;simp only [si];refine wpAnyH_take (i:=14) (v:=.int .i64 (l:Int)) rfl (by kernel_rfl) (by kernel_rfl) (by kernel_rfl) (fun _ _ _ h=>h) (Or.inl ⟨by rfl,?hm77⟩) (by assumption) ?_
      case hm77=>(intro w h;(try dsimp only at h);go_simp;try exact hwl)
      simp only [si];refine tq 15 rfl ?_;simp only [si];refine tq 16 rfl ?_;simp only [si];refine rd 17 rfl fun K hK=>?_
      go_simp
      go_at_call 16
      refine (HB.out _ (by with_reducible (repeat refine .drew ?_);exact hrf)).mono ?_;rintro e w6 ⟨rfl,rfl⟩;dsimp only;refine hK.out _ _ ?_ (fun hHeld=>?_)
      ·(try dsimp only);exact ⟨y1,y2⟩
      clear hK K;try simp only [si]
      refine tq 18 rfl ?_;simp only [si];refine tq 19 rfl ?_;simp only [si];refine tq 20 rfl ?_;simp only [si];refine tq 21 rfl ?_;simp only [si];refine tq 22 rfl ?_;simp only [si];refine wpAnyH_take (i:=23) (v:=.int .i64 (l:Int)) rfl (by kernel_rfl) (by kernel_rfl) (by kernel_rfl) (fun _ _ _ h=>h) (Or.inl ⟨by rfl,?hm85⟩) (by assumption) ?_
      case hm85=>(intro w h;(try dsimp only at h);go_simp;try exact hwl)
      simp only [si];refine tq 24 rfl ?_;simp only [si];refine tq 25 rfl ?_;simp only [si];refine tq 27 rfl ?_;simp only [si];refine tq 28 rfl ?_;simp only [si];refine tq 29 rfl ?_;simp only [si];refine tq 30 rfl ?_;simp only [si];refine tq 31 rfl ?_;simp only [si];refine rd 26 rfl fun K hK=>?_
      go_simp
      go_at_call 24
      refine (HC.out _ (by with_reducible (repeat refine .drew ?_);exact hrf)).mono ?_;rintro e w7 ⟨rfl,rfl⟩;dsimp only;refine hK.out _ _ ?_ (fun hHeld=>?_)
      ·(try dsimp only);exact ⟨y1,y2⟩
      clear hK K;try simp only [si]
      refine rd 32 rfl fun K hK=>?_
      go_simp
      go_at_call 24
      refine (HE.out _ (by with_reducible (repeat refine .drew ?_);exact hrf)).mono ?_;rintro e w8 ⟨rfl,rfl⟩;dsimp only;refine hK.out _ _ ?_ (fun hHeld=>?_)
      ·(try dsimp only);exact ⟨y1,y2⟩
      clear hK K;try simp only [si]
      refine tk 33 (.bool false) rfl (Or.inl ⟨by rfl,?hm93⟩) ?_
      case hm93=>(intro w h;(try dsimp only at h);go_simp;try exact hpl)
      simp only [si];refine tq 34 rfl ?_;simp only [si];refine wpAnyH_done (by kernel_rfl) ?_ _
      (try go_wp2_with fail)
      go_meet;exact ⟨rfl,by with_reducible first|exact hrf|exact hrf.drew|exact hrf.drew.drew|exact hrf.drew.drew.drew⟩
     case rest =>
      obtain ⟨rfl,hbe⟩:=hcut;have hfin:=hbr.trans ((hbc.trans (hbe.mono hbc.size)).mono hbr.size)
      go_wp2_with fail
      go_roundw
      case rel=>first|exact ⟨i+1,by omega,by go_num,hfin⟩|((repeat apply Exists.intro);exact ⟨⟨i+1,by omega,by go_num,hfin⟩,rfl⟩)
      simp [intOf];omega
   have HS:Hid (∀ W,Below wr.heap.size wr W->W.cell? ⟨B,0,none⟩=some (.slice ra n rc)):=fun W hW=>((hbw.trans (hW.mono hbw.size)).cell (by exact hsa)).trans r0
   have HTu:Hid (∀ W,Below wr.heap.size wr W->Calls Tryz.prog 18 #[.slice ia mm ic] W fun x w'=>∃ g c,x=.returned (.slice (some ⟨g,0,none⟩) mm c)∧SlS w' (some ⟨g,0,none⟩) mm c (trn S mm)∧Below wr.heap.size wr w'):=fun W hW=>(HT.out W (hbw.trans (hW.mono hbw.size))).mono fun _ _ ⟨g,c,h1,h2,h3⟩=>⟨g,c,h1,h2,hW.trans (h3.mono hW.size)⟩
   have hrf:Below wr.heap.size wr wr:=kB;have hwwr:=hww.trans (hbw.mono hww.size);clear HT HH HNr HOn HXs HXw hS hV HL hs4
   go_wp2_with fail
   go_cut [13,14] (fun u v wx=>∃ a6 c6,u=.slice a6 L c6∧v=.bool true∧Hid (SlS wx a6 L c6 (getL o))∧Below wr.heap.size wr wx)
   case first =>
    refine wp_region_held_drew (S:=fun X=>X.cell? ⟨B,0,none⟩=some (.slice ra n rc)) (by kernel_rfl) ?_ (fun hHeld=>?_)
    ·(try dsimp only);exact HS.out _ (by with_reducible (repeat refine .drew ?_);exact hrf)
    refine tq 0 rfl ?_;simp only [si];refine tq 1 rfl ?_;simp only [si];refine tq 3 rfl ?_;simp only [si];refine rd 2 rfl fun K hK=>?_
    go_simp
    go_at_call 18
    refine (HTu.out _ (by with_reducible (repeat refine .drew ?_);exact hrf)).mono ?_;rintro e w5 ⟨g5,c5,rfl,hs5,hb5⟩;dsimp only;refine hK.out _ _ ?_ (fun hHeld=>?_)
    ·(try dsimp only);exact HS.out _ hb5
    clear hK K;try simp only [si]
    refine rd 4 rfl fun K hK=>?_
    go_simp
    go_at_call 22
    refine (HPt.out wr w5 _ _ _ hbw hb5 hs5 (by with_reducible first|exact (Below.refl w5.heap.size w5)|exact (Below.refl w5.heap.size w5).drew|exact (Below.refl w5.heap.size w5).drew.drew|exact (Below.refl w5.heap.size w5).drew.drew.drew)).mono ?_;rintro e w6 ⟨a6,c6,rfl,hs6,hb6⟩;dsimp only;refine hK.out _ _ ?_ (fun hHeld=>?_)
    ·(try dsimp only);exact HS.out _ hb6
    clear hK K;try simp only [si]
    refine tq 5 rfl ?_;simp only [si];refine tq 6 rfl ?_;simp only [si];refine tq 7 rfl ?_;simp only [si];refine tq 8 rfl ?_;simp only [si];refine tq 9 rfl ?_;simp only [si];refine wpAnyH_done (by kernel_rfl) ?_ _
    (try go_wp2_with fail)
    go_meet
    first
     | exact ⟨a6,c6,rfl,rfl,hs6,hb6⟩
     | exact ⟨a6,c6,rfl,rfl,hs6.out.below kB.drew,hb6.drew⟩
     | exact ⟨a6,c6,rfl,rfl,hs6.out.below kB.drew.drew,hb6.drew.drew⟩
   case rest =>
    obtain ⟨a6,c6,rfl,rfl,hs6,hb6⟩:=hcut;obtain ⟨w7,hw7⟩:∃ w7:World,w7=wc:=⟨_,rfl⟩;subst hw7;have HE:Hid (Calls Tryz.prog 19 #[.slice a6 L c6,.slice pa L pc] w7 fun e w'=>e=.returned (.bool true)∧Dr w7 w'):=lwE_sl w7 hs6.out (HXr.out.below hb6);have hfin:=hwwr.trans (hb6.mono hwwr.size);clear hs6 HXr HS HTu HPt hb6
    go_wp2_with fail
    refine HE.out.mono ?_;rintro e w9 ⟨rfl,hd8⟩
    go_wp2_with fail
    go_ret;exact ⟨rfl,hfin.trans (hd8.below _)⟩
def BytesIn (w:World)(a:Option Addr)(n:Nat):Prop :=
 n=0∨∃ b off,a=some ⟨b,off,none⟩∧b<w.heap.size∧∀ i,i<n->∃ x:Nat,x<256∧w.cell? ⟨b,off+i,none⟩=some (.int .u8 (x:Int))
end Go.Proofs.YtkdalopokdhndaaGreat
namespace Go.Proofs.YtkdalopokdhndaaGreat
open Go.ChangeShapes Go.WideShapes Go.ChangeAt Go.RowKit Go.Deep
variable {W:World}
theorem Tryz.cellsU8:Tryz.prog.cellsOf 5=1:=by kernel_rfl
theorem in_bytes {H:Type}{enc:TypeId × Value->H}{fuel:Nat}{cs:List Value}{x:DataW H × List MemPlace}(h:DataW.trod enc Tryz.prog W 0 (fun _=>true) true fuel 22 cs=some x)
  (hlt:∀ q ∈ x.2,q.block<W.heap.size):∃ a n cap,cs=[.slice a n cap]∧n<=cap∧cap<=maxLen∧BytesIn W a n:=by
 rcases open_slice1 Tryz.underlying22 Tryz.cellsU8 h with ⟨rfl,rfl⟩|⟨a,len,cap,m,n,V,D,Pl,rfl,_,hl,hm,hmm,rfl,hx⟩
 ·exact ⟨none,0,0,rfl,nL,by decide,Or.inl rfl⟩
 simp only [if_true] at hmm;subst hmm;refine ⟨some a,len,m,rfl,hl,hm,?_⟩
 by_cases h0:len=0
 ·exact Or.inl h0
 right
 obtain ⟨b,off,spot⟩:=a;have hspot:spot=none:=by simpa [Addr.add] using World.cell?_spot (hx 0 (by omega)).1
 subst hspot;refine ⟨b,off,rfl,hlt (.cell b off) (List.mem_append_left _ (MemPlace.mem_row.2 ⟨0,by omega,by simp⟩)),fun i hi=>?_⟩;obtain ⟨q1,q2⟩:=hx i (by omega);obtain ⟨z,e1,_,hwf⟩:=DataW.trod_int Tryz.underlying5 q2;simp only [List.cons.injEq,and_true] at e1;rw [e1] at q1;simp only [Lit.wf,Bool.and_eq_true,decide_eq_true_eq] at hwf;have hz0:(0:Int)<=z:=hwf.1;have hz1:z<=255:=hwf.2;refine ⟨z.toNat,by omega,?_⟩;rw [Int.toNat_of_nonneg hz0,<- add_plain];exact q1
end Go.Proofs.YtkdalopokdhndaaGreat
namespace Go.Proofs.YtkdalopokdhndaaGreat
open Go.RowKit
variable {W:World}{a:Option Addr}{n:Nat}
theorem bytes_choose (h:BytesIn W a n):∃ bs:Nat->Nat,BytesV W a n bs∧∀ i,i<n->bs i<256:=by
 rcases h with h0|⟨b,off,e,hb,hx⟩
 ·exact ⟨fun _=>0,Or.inl h0,fun _ _=>by show (0:Nat)<256;decide⟩
 refine ⟨fun i=>if hi:i<n then Classical.choose (hx i hi) else 0,Or.inr ⟨b,off,e,hb,fun i hi=>?_⟩,fun i hi=>?_⟩
 ·dsimp only
  rw [dif_pos hi];exact (Classical.choose_spec (hx i hi)).2
 dsimp only;rw [dif_pos hi];exact (Classical.choose_spec (hx i hi)).1
end Go.Proofs.YtkdalopokdhndaaGreat
