import Derived.Test.YtkdalopokdhndaaGreatRvPZ
import Derived.Deep.RegionLaw
import Derived.Test.YtkdalopokdhndaaGreatNdSZ
set_option maxHeartbeats 16000000
set_option maxRecDepth 100000
namespace Go.Proofs.YtkdalopokdhndaaGreat
open Go.RowKit
variable {k n cap:Nat}{a:Option Addr}
def RwT (w:World)(b o:Nat)(l:List ByteArray):Prop:=∃ sa sc,w.cell? ⟨b,o,none⟩=some (.slice sa l.length sc)∧SlS w sa l.length sc (getL l)
structure SlTT (w:World)(a:Option Addr)(n cap:Nat)(L:Nat->List ByteArray):Prop where
 le:n<=cap
 max:cap<=maxLen
 cells:n=0∨∃ b off,a=some ⟨b,off,none⟩∧b<w.heap.size∧∀ i,i<n->RwT w b (off+i) (L i)
def evB (L:Nat->List ByteArray)(s:ByteArray):Nat->Bool
 | 0=>true
 | j+1=>evB L s j && hasB (getL (L j)) (L j).length s
theorem hasB_in (l:List ByteArray)(s:ByteArray):hasB (getL l) l.length s=true↔s ∈ l:=by
 have:=hasB_mem l s l.length nL;rw [List.take_length] at this;exact this
theorem evB_no (L:Nat->List ByteArray)(s:ByteArray):∀ n,evB L s n=false↔∃ j,j<n∧s ∉ L j
 | 0=>⟨fun h=>(by cases h),fun ⟨j,hj,_⟩=>absurd hj (Nat.not_lt_zero _)⟩
 | n+1=>by
  rw [evB,Bool.and_eq_false_iff,evB_no L s n]
  have:hasB (getL (L n)) (L n).length s=false↔s ∉ L n:=by rw [<- hasB_in,Bool.not_eq_true]
  rw [this];constructor
  ·rintro (⟨j,hj,h⟩|h)
   ·exact ⟨j,by omega,h⟩
   exact ⟨n,by omega,h⟩
  rintro ⟨j,hj,h⟩
  by_cases e:j=n
  ·subst e;exact Or.inr h
  exact Or.inl ⟨j,by omega,h⟩
def DfT (L:Nat->List ByteArray)(n k t:Nat)(s:ByteArray):Prop:=((∃ i,i<k∧s ∈ L i)∨∃ x,x<t∧getL (L k) x=s)∧evB L s n=false
theorem dfT_zero (L:Nat->List ByteArray)(n:Nat)(s:ByteArray):s ∈ ([]:List ByteArray)↔DfT L n 0 0 s:=by
 constructor
 ·intro h;cases h
 rintro ⟨⟨i,hi,_⟩|⟨i,hi,_⟩,_⟩ <;> omega
theorem dfT_next (L:Nat->List ByteArray)(n k:Nat)(s:ByteArray):DfT L n k (L k).length s↔DfT L n (k+1) 0 s:=by
 unfold DfT;refine and_congr_left fun _=>?_
 constructor
 ·rintro (⟨i,hi,h⟩|⟨x,hx,rfl⟩)
  ·exact Or.inl ⟨i,by omega,h⟩
  exact Or.inl ⟨k,by omega,getL_mem hx⟩
 rintro (⟨i,hi,h⟩|⟨x,hx,_⟩)
 ·by_cases e:i=k
  ·subst e
   exact Or.inr (mem_getL h)
  exact Or.inl ⟨i,by omega,h⟩
 omega
theorem dfT_yes {L:Nat->List ByteArray}{t:Nat}{l:List ByteArray}(h:∀ s,s ∈ l↔DfT L n k t s)(hf:evB L (getL (L k) t) n=false)(s:ByteArray):s ∈ l ++ [getL (L k) t]↔DfT L n k (t+1) s:=by
 rw [List.mem_append,List.mem_singleton,h];constructor
 ·rintro (⟨h1|⟨x,hx,e⟩,h2⟩|rfl)
  ·exact ⟨Or.inl h1,h2⟩
  ·exact ⟨Or.inr ⟨x,by omega,e⟩,h2⟩
  exact ⟨Or.inr ⟨t,by omega,rfl⟩,hf⟩
 rintro ⟨h1|⟨x,hx,e⟩,h2⟩
 ·exact Or.inl ⟨Or.inl h1,h2⟩
 by_cases ex:x=t
 ·subst ex;exact Or.inr e.symm
 exact Or.inl ⟨Or.inr ⟨x,by omega,e⟩,h2⟩
theorem dfT_no {L:Nat->List ByteArray}{t:Nat}{l:List ByteArray}(h:∀ s,s ∈ l↔DfT L n k t s)(hf:evB L (getL (L k) t) n=true)(s:ByteArray):s ∈ l↔DfT L n k (t+1) s:=by
 rw [h];constructor
 ·rintro ⟨h1|⟨x,hx,e⟩,h2⟩
  ·exact ⟨Or.inl h1,h2⟩
  exact ⟨Or.inr ⟨x,by omega,e⟩,h2⟩
 rintro ⟨h1|⟨x,hx,e⟩,h2⟩
 ·exact ⟨Or.inl h1,h2⟩
 by_cases ex:x=t
 ·subst ex;rw [e,h2] at hf;cases hf
 exact ⟨Or.inr ⟨x,by omega,e⟩,h2⟩
theorem dfT_end (L:Nat->List ByteArray)(n:Nat)(s:ByteArray):DfT L n n 0 s↔DfP (fun i s=>s ∈ L i) n s:=by
 unfold DfT DfP;rw [evB_no];refine and_congr_left fun _=>?_
 constructor
 ·rintro (h|⟨x,hx,_⟩)
  ·exact h
  omega
 exact Or.inl
def DfRel (w:World)(L:Nat->List ByteArray)(n k t:Nat)(v:Value)(wr:World):Prop :=
 ∃ (l:List ByteArray) (a:Option Addr) (m cp:Nat),v=.slice a m cp∧Hid (m=l.length)∧m<=k * 300+t∧OwnL wr w.heap.size (.slice a m cp) l∧Hid (∀ s,s ∈ l↔DfT L n k t s)∧Hid (∀ s ∈ l,s.size<=maxLen)∧Below w.heap.size w wr
theorem l2Df_any (b off n cap:Nat)(L:Nat->List ByteArray)(w:World)(hn:n<=20)(hl:∀ i,i<n->(L i).length<=300)(hb:0<n->b<w.heap.size)(hc:∀ i,i<n->RwT w b (off+i) (L i)) :
  Calls Tryz.prog 244 #[.slice (some ⟨b,off,none⟩) n cap] w (FuPost w (DfP (fun i s=>s ∈ L i) n)):=by
 obtain ⟨i0,hi,hz0,hz1,hz2⟩:=info_parts Tryz.infoString;have hbO:Below w.heap.size w (w.alloc (.cells #[] 9)):=bA;have hoO:OwnL (w.alloc (.cells #[] 9)) w.heap.size (.slice (some ⟨w.heap.size,0,none⟩) 0 0) []:=OwnL.new w _ nL;have Hc:Hid (∀ i,i<n->RwT w b (off+i) (L i)):=hc;have Hb:Hid (0<n->b<w.heap.size):=hb;have Hl:Hid (_):=hl;clear hc hb hl
 go_enter Tryz.func244,Tryz.ntmps244
 go_wp2_with fail
 go_loopw [3,4] (fun v i wr=>∃ k:Nat,k<=n∧i=.int .i64 (k:Int)∧DfRel w L n k 0 v wr) (fun _ i _=>n - (intOf i).toNat)
 case atStart=>exact ⟨0,nz,rfl,[],_,_,_,rfl,rfl,nL,hoO,dfT_zero L n,fun s hs=>(by cases hs),hbO⟩
 case round =>
  clear hbO hoO;obtain ⟨k,hk,rfl,l,a,m,cp,rfl,hm,hmk,hown,hmem,hsz,hB⟩:=hrel;obtain ⟨wo,rfl⟩:∃ wo:World,wo=wr:=⟨_,rfl⟩
  by_cases hlt:k<n
  ·have hbw:=Hb.out (by omega)
   have hlk:=Hl.out k hlt;obtain ⟨sa,sc,hck,hsk⟩:=Hc.out k hlt;have HS:Hid (SlS w sa (L k).length sc (getL (L k))):=hsk;have Hck:Hid (w.cell? ⟨b,off+k,none⟩=some (.slice sa (L k).length sc)):=hck;clear hck hsk
   go_wp2_with fail
   go_loopw [3,5] (fun v i wi=>∃ t:Nat,t<=(L k).length∧i=.int .i64 (t:Int)∧DfRel w L n k t v wi) (fun _ i _=>(L k).length - (intOf i).toNat)
   case atStart=>exact ⟨0,nz,rfl,l,a,m,cp,rfl,hm.out,hmk,hown,hmem.out,hsz.out,hB⟩
   case round =>
    clear hown hmem hsz hB hmk hm;obtain ⟨t,ht,rfl,l,a,m,cp,rfl,hm,hmk,hown,hmem,hsz,hB⟩:=hrel;obtain ⟨wp,rfl⟩:∃ wp:World,wp=wr:=⟨_,rfl⟩;have ck:=(hB.cell (p:=⟨b,off+k,none⟩) (by exact hbw)).trans Hck.out
    by_cases hltt:t<(L k).length
    ·rcases HS.out.cells with h0|⟨sb,so,rfl,hsb,hsc⟩
     ·omega
     have ct0:=hsc t hltt;have Hszt:Hid ((getL (L k) t).size<=maxLen):=HS.out.size t hltt;have HY:Hid (evB L (getL (L k) t) n=false->∀ s,s ∈ l ++ [getL (L k) t]↔DfT L n k (t+1) s):=fun hf=>dfT_yes hmem.out hf
     have HN:Hid (evB L (getL (L k) t) n=true->∀ s,s ∈ l↔DfT L n k (t+1) s):=fun hf=>dfT_no hmem.out hf
     clear hsc hmem;obtain ⟨x,hx⟩:∃ x,x=getL (L k) t:=⟨_,rfl⟩;rw [<- hx] at ct0 HY HN Hszt;clear hx;obtain ⟨ll,hll⟩:∃ ll,ll=(L k).length:=⟨_,rfl⟩;rw [<- hll] at ck hltt ht hlk;have Hll:Hid (ll=(L k).length):=hll;rw [<- hll];clear hll;have Hown:Hid (OwnL wp w.heap.size (.slice a m cp) l):=hown;clear hown
     go_wp2_with fail
     go_loopw [6,7] (fun ev jv wi=>∃ j:Nat,j<=n∧jv=.int .i64 (j:Int)∧ev=.bool (evB L x j)∧Below wp.heap.size wp wi) (fun _ jv _=>n - (intOf jv).toNat)
     case atStart=>exact ⟨0,nz,rfl,rfl,kB⟩
     case round =>
      obtain ⟨j,hj,rfl,rfl,hbi⟩:=hrel;have hBi:=hB.trans (hbi.mono hB.size);have ct:=(hBi.cell (p:=⟨sb,so+t,none⟩) (by exact hsb)).trans ct0;have ckw:=(hbi.cell (p:=⟨b,off+k,none⟩) (by exact nT hbw hB.size)).trans ck
      by_cases hlj:j<n
      ·have hst:Hid ((evB L x j && hasB (getL (L j)) (L j).length x)=evB L x (j+1)):=rfl
       obtain ⟨ja,jc,cj0,hsj0⟩:=Hc.out j hlj;have cj:=(hBi.cell (p:=⟨b,off+j,none⟩) (by exact hbw)).trans cj0;have hsj:Hid (SlS wr ja (L j).length jc (getL (L j))):=hsj0.below hBi;clear cj0 hsj0;obtain ⟨lj,hlj2⟩:∃ lj,lj=(L j).length:=⟨_,rfl⟩;have HH:Hid (∀ b1,hasB (getL (L j)) (L j).length x=b1->∀ W,Below wr.heap.size wr W->Calls Tryz.prog 105 #[.slice ja (L j).length jc,.string x] W fun e w'=>e=.returned (.bool b1)∧w'=W):=fun b1 e1 W hW=>by rw [<- e1];exact has_sl x W (hsj.out.below hW)
       rw [<- hlj2] at cj HH hst;clear hlj2 hsj;cases hf:evB L x j
       case false =>
        rw [hf,Bool.false_and] at hst;clear HH
        go_wp2_with fail
        go_region
        all_goals
         go_wp2
         first
          | exact ⟨⟨j+1,by omega,by go_num,congrArg _ hst.out,hbi⟩,by simp [intOf];omega⟩
          | exact ⟨⟨j+1,by omega,by go_num,congrArg _ hst.out,hbi.drew⟩,by simp [intOf];omega⟩
          | exact ⟨⟨j+1,by omega,by go_num,congrArg _ hst.out,hbi.drew.drew⟩,by simp [intOf];omega⟩
       case true =>
        rw [hf,Bool.true_and] at hst;obtain ⟨hb1,eb1⟩:∃ b1,b1=hasB (getL (L j)) lj x:=⟨_,rfl⟩;have HH1:Hid (∀ W,Below wr.heap.size wr W->Calls Tryz.prog 105 #[.slice ja lj jc,.string x] W fun e w'=>e=.returned (.bool hb1)∧w'=W):=HH.out _ eb1.symm;rw [<- eb1] at hst;clear HH eb1;have hrf:Below wr.heap.size wr wr:=kB;have HS:Hid (∀ W,Below wr.heap.size wr W->W.cell? ⟨b,off+j,none⟩=some (.slice ja lj jc)∧W.cell? ⟨b,off+k,none⟩=some (.slice (some ⟨sb,so,none⟩) ll sc)∧W.cell? ⟨sb,so+t,none⟩=some (.string x)):=fun W hW=>⟨(hW.cell (p:=⟨b,off+j,none⟩) (by exact nT hbw hBi.size)).trans cj,(hW.cell (p:=⟨b,off+k,none⟩) (by exact nT hbw hBi.size)).trans ckw,(hW.cell (p:=⟨sb,so+t,none⟩) (by exact nT hsb hBi.size)).trans ct⟩
        go_wp2_with fail
        refine wp_region_held_drew (S:=fun W=>W.cell? ⟨b,off+j,none⟩=some (.slice ja lj jc)∧W.cell? ⟨b,off+k,none⟩=some (.slice (some ⟨sb,so,none⟩) ll sc)∧W.cell? ⟨sb,so+t,none⟩=some (.string x)) (by kernel_rfl) ?_ (fun hHeld=>?_)
        ·(try dsimp only);exact HS.out _ (by with_reducible (repeat refine .drew ?_);exact hrf)
        refine tq 0 rfl ?_;simp only [si];refine tq 1 rfl ?_;simp only [si];refine tq 2 rfl ?_;simp only [si];refine tq 3 rfl ?_;simp only [si];refine tq 4 rfl ?_;simp only [si];refine tq 5 rfl ?_;simp only [si];refine tq 6 rfl ?_;simp only [si];refine tq 7 rfl ?_;simp only [si];refine tq 8 rfl ?_;simp only [si];refine tq 9 rfl ?_;simp only [si];refine tq 10 rfl ?_;simp only [si];refine tq 11 rfl ?_;simp only [si];refine tq 12 rfl ?_;simp only [si];refine rd 13 rfl fun K hK=>?_
        go_simp
        go_at_call 105
        refine (HH1.out _ (by with_reducible (repeat refine .drew ?_);exact hrf)).mono ?_;rintro e w3 ⟨rfl,rfl⟩;try dsimp only
        refine hK.out _ _ ?_ (fun hHeld=>?_)
        ·(try dsimp only);exact HS.out _ (by with_reducible (repeat refine .drew ?_);exact hrf)
        clear hK K;try simp only [si]
        refine tq 14 rfl ?_;simp only [si];refine tq 15 rfl ?_;simp only [si];refine wpAnyH_done (by kernel_rfl) ?_ _
        (try go_wp2)
        first
         | exact ⟨⟨j+1,by omega,by go_num,congrArg _ hst.out,hbi⟩,by simp [intOf];omega⟩
         | exact ⟨⟨j+1,by omega,by go_num,congrArg _ hst.out,hbi.drew⟩,by simp [intOf];omega⟩
         | exact ⟨⟨j+1,by omega,by go_num,congrArg _ hst.out,hbi.drew.drew⟩,by simp [intOf];omega⟩
      have hjn:n=j:=by omega
      subst hjn;have hown1:=OwnL.below Hown.out hbi;cases hf:evB L x n
      case true =>
       have Hn:Hid (∀ s,s ∈ l↔DfT L n k (t+1) s):=HN.out hf;clear HY HN hf;go_wp2
       refine ⟨⟨t+1,by omega,by go_num,l,a,m,cp,rfl,hm.out,by omega,hown1,Hn.out,hsz.out,hBi⟩,by simp [intOf];omega⟩
      case false =>
       have Hn:Hid (∀ s,s ∈ l ++ [x]↔DfT L n k (t+1) s):=HY.out hf;clear HY HN hf;have hm1:m+1<=maxLen:=by unfold maxLen;omega
       have hm2:(m+1) * 16<=140737488355328:=by omega
       have hm3:∀ o,w.heap.size<=(wr.alloc o).heap.size:=fun o=>by have:=hBi.size;simp;omega
       have hag:Hid (∀ q,(Value.slice a m cp).ownBlock=some q->w.heap.size<=q):=fun q hq=>(World.ownsRow.lt hown1 q hq).1
       have hown':wr.ownsRow w.heap.size 9 1 (.slice a m cp) m (l.map Value.string):=by have:=hown1;unfold OwnL at this;rw [<- hm.out] at this;exact this
       go_wp2_with (at_builtin;refine wpList_append_lies _ rfl _ _ 27 rfl w.heap.size 9 i0 (.string ByteArray.empty) 1 16 Tryz.underlying27 hi hz0 hz1 hz2 rfl (by decide) _ _ _ rfl (World.ownsRow.alloc hown' _) ⟨wr.heap.size,0,none⟩ 1 1 [.string x] rfl rfl (one_cells _ _ _) (one_one _) (by decide) hm1 hm2 (hm3 _) (wr.heap.size+1) (by simp) ?_;intro gg cq w2 hown2 hgrow2 hat2 hlt2)
       have hown3:OwnL w2 w.heap.size (.slice (some ⟨gg,0,none⟩) (m+1) cq) (l ++ [x]):=by
        rw [hm.out] at hown2 ⊢;exact OwnL.snoc hown2
       have hbel2:Below w.heap.size w w2:=(hBi.alloc hBi.size _).grown hgrow2 (hm3 _) hag.out;clear hown2 hgrow2 hat2 hown' hm3 hag;refine ⟨⟨t+1,by omega,by go_num,l ++ [x],some ⟨gg,0,none⟩,m+1,cq,rfl,by unfold Hid;rw [List.length_append,<- hm.out];rfl,by omega,hown3,Hn.out,fun s hs=>?_,hbel2⟩,by simp [intOf];omega⟩;rcases List.mem_append.1 hs with h1|h1
       ·exact hsz.out s h1
       rw [List.mem_singleton] at h1;subst h1;exact Hszt.out
    have htl:(L k).length=t:=by omega
    have Hn:Hid (∀ s,s ∈ l↔DfT L n (k+1) 0 s):=fun s=>(hmem.out s).trans (by rw [<- htl];exact dfT_next L n k s)
    clear hmem;rw [htl] at ck;clear HS Hck;go_wp2
    refine ⟨⟨k+1,by omega,by go_num,l,a,m,cp,rfl,hm.out,by omega,hown,Hn.out,hsz.out,hB⟩,by simp [intOf];omega⟩
  have hkn:n=k:=by omega
  subst hkn;have Hd:Hid (∀ s,s ∈ l↔DfP (fun i s=>s ∈ L i) n s):=fun s=>(hmem.out s).trans (dfT_end L n s)
  have hm':=hm.out;subst hm';obtain ⟨ua,uc,e1,hus,_⟩:=hown.sl hsz.out;injection e1 with e11 _ e13
  subst e11 e13;have HS:Hid (Calls Tryz.prog 169 #[.slice a l.length cp] wo (L2Post wo (getL l) l.length)):=l2s_sl wo (by omega) hus;clear hmem hown hus hsz hm;generalize hL:l.length=ll at *;have HL:Hid (l.length=ll):=hL;clear hL
  go_wp2_with fail
  refine HS.out.mono ?_;rintro e w2 ⟨v2,l2,rfl,ho2,hs2,hm2,hb2⟩
  have Hm2:Hid (∀ s,s ∈ l2↔DfP (fun i s=>s ∈ L i) n s):=fun s=>(hm2 s).trans (by
   rw [<- Hd.out s,<- HL.out];exact ⟨fun ⟨i,hi',e⟩=>e ▸ getL_mem hi',fun h=>mem_getL h⟩)
  clear hm2 HS;go_wp2
  go_ret;exact ⟨v2,l2,rfl,ho2.mono hB.size,hs2,Hm2.out,hB.trans (hb2.mono hB.size)⟩
theorem l2Df_zero (a:Option Addr)(cap:Nat)(L:Nat->List ByteArray)(w:World) :
  Calls Tryz.prog 244 #[.slice a 0 cap] w (FuPost w (DfP (fun i s=>s ∈ L i) 0)):=by
 have hbO:Below w.heap.size w (w.alloc (.cells #[] 9)):=bA
 go_enter Tryz.func244,Tryz.ntmps244
 go_wp2_with fail
 refine wp_loop_rounds 1 ?_;rw [rounds_succ]
 go_wp2_with fail
 refine (l2s_zero _ _ (getL []) _).mono ?_;rintro e w2 ⟨v2,l2,rfl,ho2,hs2,hm2,hb2⟩;have Hm2:Hid (∀ s,s ∈ l2↔DfP (fun i s=>s ∈ L i) 0 s):=fun s=>(hm2 s).trans ⟨fun ⟨i,hi',_⟩=>absurd hi' (Nat.not_lt_zero _),fun ⟨⟨i,hi',_⟩,_⟩=>absurd hi' (Nat.not_lt_zero _)⟩
 clear hm2;go_wp2
 go_ret;exact ⟨v2,l2,rfl,ho2.mono hbO.size,hs2,Hm2.out,hbO.trans (hb2.mono hbO.size)⟩
theorem l2Df_sl {L:Nat->List ByteArray}(w:World)(hn:n<=20)(hl:∀ i,i<n->(L i).length<=300)(h:SlTT w a n cap L) :
  Calls Tryz.prog 244 #[.slice a n cap] w (FuPost w (DfP (fun i s=>s ∈ L i) n)):=by
 rcases h.cells with rfl|⟨b,off,rfl,hb,hc⟩
 ·exact l2Df_zero a cap L w
 exact l2Df_any b off n cap L w hn hl (fun _=>hb) hc
variable {l:List Ent}
theorem idm_snoc (l:List Ent)(k:Nat)(h:k<l.length):(l.take (k+1)).map Ent.id=(l.take k).map Ent.id ++ [(eAt l k).id]:=by
 rw [take_snocE l k h,List.map_append];rfl
def IsPost (w:World)(l:List Ent)(e:Ending)(w':World):Prop:=∃ g cp,e=.returned (.slice (some ⟨g,0,none⟩) l.length cp)∧OwnL w' w.heap.size (.slice (some ⟨g,0,none⟩) l.length cp) (l.map Ent.id)∧Below w.heap.size w w'
theorem l6Ids_any (b off cap:Nat)(l:List Ent)(w:World)(hl:l.length<=100000)(hc:∀ i,i<l.length->w.cell? ⟨b,off+i * 3+2,none⟩=some (.string (eAt l i).id))(hb:b<w.heap.size) :
  Calls Tryz.prog 243 #[.slice (some ⟨b,off,none⟩) l.length cap] w (IsPost w l):=by
 obtain ⟨i0,hi,hz0,hz1,hz2⟩:=info_parts Tryz.infoString;have hbO:Below w.heap.size w (w.alloc (.cells #[] 9)):=bA;have hoO:OwnL (w.alloc (.cells #[] 9)) w.heap.size (.slice (some ⟨w.heap.size,0,none⟩) 0 0) []:=OwnL.new w _ nL;have Hc:Hid (_):=hc;obtain ⟨ll,hll⟩:∃ ll,ll=l.length:=⟨_,rfl⟩;rw [<- hll] at hl ⊢;have Hll:Hid (ll=l.length):=hll;clear hll hc
 go_enter Tryz.func243,Tryz.ntmps243
 go_wp2_with fail
 go_loopw [3,4] (fun v i wr=>∃ (k g m cp:Nat),k<=ll∧i=.int .i64 (k:Int)∧v=.slice (some ⟨g,0,none⟩) m cp∧Hid (m=k)∧OwnL wr w.heap.size (.slice (some ⟨g,0,none⟩) m cp) ((l.take k).map Ent.id)∧Below w.heap.size w wr) (fun _ i _=>ll - (intOf i).toNat)
 case atStart=>exact ⟨0,_,_,_,nz,rfl,rfl,rfl,hoO,hbO⟩
 case round =>
  clear hbO hoO;obtain ⟨k,g,m,cp,hk,rfl,rfl,hm,hown,hB⟩:=hrel
  by_cases hlt:k<ll
  ·have hkl:k<l.length:=by rw [<- Hll.out];exact hlt
   have ck:=(hB.cell (p:=⟨b,off+k * 3+2,none⟩) (by exact hb)).trans (Hc.out k hkl);have Hs:Hid ((l.take (k+1)).map Ent.id=(l.take k).map Ent.id ++ [(eAt l k).id]):=idm_snoc l k hkl;have hlen:Hid (m=((l.take k).map Ent.id).length):=by unfold Hid;rw [List.length_map,List.length_take,hm.out];omega
   have hmb:m<=100000:=by have:=hm.out;omega
   obtain ⟨x,hx⟩:∃ x,x=(eAt l k).id:=⟨_,rfl⟩;rw [<- hx] at ck Hs;clear hx;generalize (l.take k).map Ent.id=lk at *;have hm1:m+1<=maxLen:=by unfold maxLen;omega
   have hm2:(m+1) * 16<=140737488355328:=by omega
   have hm3:∀ o,w.heap.size<=(wr.alloc o).heap.size:=fun o=>by have:=hB.size;simp;omega
   have hag:Hid (∀ q,(Value.slice (some ⟨g,0,none⟩) m cp).ownBlock=some q->w.heap.size<=q):=fun q hq=>(World.ownsRow.lt hown q hq).1
   have hown':wr.ownsRow w.heap.size 9 1 (.slice (some ⟨g,0,none⟩) m cp) m (lk.map Value.string):=by have:=hown;unfold OwnL at this;rw [<- hlen.out] at this;exact this
   go_wp2_with (at_builtin;refine wpList_append_lies _ rfl _ _ 27 rfl w.heap.size 9 i0 (.string ByteArray.empty) 1 16 Tryz.underlying27 hi hz0 hz1 hz2 rfl (by decide) _ _ _ rfl (World.ownsRow.alloc hown' _) ⟨wr.heap.size,0,none⟩ 1 1 [.string x] rfl rfl (one_cells _ _ _) (one_one _) (by decide) hm1 hm2 (hm3 _) (wr.heap.size+1) (by simp) ?_;intro gg cq w2 hown2 hgrow2 hat2 hlt2)
   have hown3:OwnL w2 w.heap.size (.slice (some ⟨gg,0,none⟩) (m+1) cq) ((l.take (k+1)).map Ent.id):=by
    rw [Hs.out];rw [hlen.out] at hown2 ⊢;exact OwnL.snoc hown2
   have hbel2:Below w.heap.size w w2:=(hB.alloc hB.size _).grown hgrow2 (hm3 _) hag.out;clear hown2 hgrow2 hat2 hown' hm3 hag;go_roundw
   case rel=>exact ⟨k+1,gg,m+1,cq,by omega,by go_num,rfl,by unfold Hid;rw [hm.out],hown3,hbel2⟩
   simp [intOf];omega
  have hkl:ll=k:=by omega
  subst hkl
  have HP:Hid (IsPost w l (.returned (.slice (some ⟨g,0,none⟩) m cp)) wr):=by
   have h1:m=l.length:=hm.out.trans Hll.out;rw [Hll.out,List.take_length,h1] at hown;rw [h1];exact ⟨g,cp,rfl,hown,hB⟩
  clear hown;go_wp2
  go_ret;exact HP.out
theorem l6Ids_zero (a:Option Addr)(cap:Nat)(w:World) :
  Calls Tryz.prog 243 #[.slice a 0 cap] w (IsPost w []):=by
 have hbO:Below w.heap.size w (w.alloc (.cells #[] 9)):=bA;have hoO:OwnL (w.alloc (.cells #[] 9)) w.heap.size (.slice (some ⟨w.heap.size,0,none⟩) 0 0) []:=OwnL.new w _ nL
 go_enter Tryz.func243,Tryz.ntmps243
 go_wp2_with fail
 refine wp_loop_rounds 1 ?_;rw [rounds_succ];go_wp2
 go_ret;exact ⟨_,_,rfl,hoO,hbO⟩
theorem l6Ids_sl (w:World)(hl:l.length<=100000)(h:SlE w a cap l) :
  Calls Tryz.prog 243 #[.slice a l.length cap] w (IsPost w l):=by
 rcases h.cells with rfl|⟨b,off,rfl,hb,_,_,hc⟩
 ·exact l6Ids_zero a cap w
 exact l6Ids_any b off cap l w hl hc hb
def NIn (a:Option Addr)(n:Nat)(row:Option Nat):Prop:=n=0∨∀ b off,a=some ⟨b,off,none⟩->row≠some b
structure LC {α:Type}(len:α->Nat)(P:World->Option Addr->Nat->α->Prop):Prop where
 below:∀ {w w':World} {a:Option Addr} {c:Nat} {x:α},P w a c x->Below w.heap.size w w'->P w' a c x
 grown:∀ {w w':World} {a:Option Addr} {c:Nat} {x:α} {row:Option Nat},P w a c x->w.grownBy w' row->NIn a (len x) row->P w' a c x
 lt:∀ {w:World} {a:Option Addr} {c:Nat} {x:α},P w a c x->len x=0∨∃ b off,a=some ⟨b,off,none⟩∧b<w.heap.size
def encA {α:Type}(len:α->Nat)(L:Nat->α)(A:Nat->Option Addr)(C:Nat->Nat)(n:Nat):List Value:=(List.range n).map fun i=>.slice (A i) (len (L i)) (C i)
theorem encA_snoc {α:Type}(len:α->Nat)(L:Nat->α)(A:Nat->Option Addr)(C:Nat->Nat)(n:Nat):encA len L A C n ++ [.slice (A n) (len (L n)) (C n)]=encA len L A C (n+1):=by simp [encA,List.range_succ]
theorem encA_get {α:Type}(len:α->Nat)(L:Nat->α)(A:Nat->Option Addr)(C:Nat->Nat)(n i:Nat)(h:i<n):(encA len L A C n)[i]?=some (.slice (A i) (len (L i)) (C i)):=by simp [encA,h]
def extF {β:Type}(f:Nat->β)(n:Nat)(x:β):Nat->β:=fun i=>if i=n then x else f i
theorem extF_at {β:Type}(f:Nat->β)(n:Nat)(x:β):extF f n x n=x:=if_pos rfl
theorem extF_lt {β:Type}(f:Nat->β){n i:Nat}(x:β)(h:i<n):extF f n x i=f i:=if_neg (by omega)
theorem encA_congr {α:Type}{len:α->Nat}{L L':Nat->α}{A A':Nat->Option Addr}{C C':Nat->Nat}{n:Nat}(h:∀ i,i<n->L i=L' i∧A i=A' i∧C i=C' i):encA len L A C n=encA len L' A' C' n:=by
 unfold encA;refine List.map_congr_left fun i hi=>?_
 obtain ⟨h1,h2,h3⟩:=h i (List.mem_range.1 hi);rw [h1,h2,h3]
structure RowL {α:Type}(len:α->Nat)(P:World->Option Addr->Nat->α->Prop)(t:TypeId)(w:World)(base:Nat)(v:Value)(n:Nat)(L:Nat->α)(A:Nat->Option Addr)(C:Nat->Nat):Prop where
 own:w.ownsRow base t 1 v n (encA len L A C n)
 sl:∀ i,i<n->P w (A i) (C i) (L i)
 apart:∀ i,i<n->NIn (A i) (len (L i)) v.ownBlock
section
variable {α:Type} {len:α->Nat} {P:World->Option Addr->Nat->α->Prop} {t:TypeId}
theorem RowL.below (c:LC len P){w w':World}{base n:Nat}{v:Value}{L:Nat->α}{A:Nat->Option Addr}{C:Nat->Nat}(h:RowL len P t w base v n L A C)(hb:Below w.heap.size w w'):RowL len P t w' base v n L A C :=
 ⟨ownsRow_below h.own hb,fun i hi=>c.below (h.sl i hi) hb,h.apart⟩
theorem RowL.new (w:World)(base:Nat)(hb:base<=w.heap.size)(L:Nat->α)(A:Nat->Option Addr)(C:Nat->Nat):RowL len P t (w.alloc (.cells #[] t)) base (.slice (some ⟨w.heap.size,0,none⟩) 0 0) 0 L A C :=
 ⟨⟨rfl,Or.inr ⟨w.heap.size,0,#[],rfl,hb,by show (w.heap.push _)[w.heap.size]?=_;simp,nL,by decide,rfl,rfl⟩⟩,fun i hi=>absurd hi (Nat.not_lt_zero _),fun i hi=>absurd hi (Nat.not_lt_zero _)⟩
theorem RowL.mono {w:World}{base base' n:Nat}{v:Value}{L:Nat->α}{A:Nat->Option Addr}{C:Nat->Nat}(h:RowL len P t w base v n L A C)(hb:base'<=base):RowL len P t w base' v n L A C:=by
 refine ⟨?_,h.sl,h.apart⟩;obtain ⟨h1,h2⟩:=h.own;refine ⟨h1,?_⟩;rcases h2 with h2|⟨g,cap,cur,hv,hg,r⟩
 ·exact Or.inl h2
 exact Or.inr ⟨g,cap,cur,hv,nZ hb hg,r⟩
theorem RowL.snoc (c:LC len P){w w':World}{base n g cap:Nat}{v:Value}{L:Nat->α}{A:Nat->Option Addr}{C:Nat->Nat}{x:α}{a:Option Addr}{k:Nat}(h:RowL len P t w base v n L A C)(hx:P w a k x)(hn:NIn a (len x) v.ownBlock)
  (hown:w'.ownsRow base t 1 (.slice (some ⟨g,0,none⟩) (n+1) cap) (n+1) (encA len L A C n ++ [.slice a (len x) k])) (hgr:w.grownBy w' v.ownBlock) (hg:v.ownBlock=some g∨w.heap.size<=g):RowL len P t w' base (.slice (some ⟨g,0,none⟩) (n+1) cap) (n+1) (extF L n x) (extF A n a) (extF C n k):=by
 have hN:∀ {a:Option Addr} {k:Nat} {x:α},P w a k x->NIn a (len x) v.ownBlock->NIn a (len x) (Value.slice (some ⟨g,0,none⟩) (n+1) cap).ownBlock:=fun {a k x} hp hn=>by
  rcases c.lt hp with h0|⟨b,off,e,hb⟩
  ·exact Or.inl h0
  rcases hn with h0|hn
  ·exact Or.inl h0
  refine Or.inr fun b' off' e' q=>?_
  have q':some g=some b':=q;injection q' with q'
  rw [e] at e';injection e' with e'
  injection e' with e1 _ _
  rcases hg with hg|hg
  ·exact hn b off e (by rw [hg];congr 1;omega)
  omega
 have hc:∀ i,i<n->L i=extF L n x i∧A i=extF A n a i∧C i=extF C n k i:=fun i hi=>⟨(extF_lt L x hi).symm,(extF_lt A a hi).symm,(extF_lt C k hi).symm⟩
 refine ⟨?_,fun i hi=>?_,fun i hi=>?_⟩
 ·rw [<- encA_snoc,<- encA_congr hc,extF_at,extF_at,extF_at]
  exact hown
 ·by_cases e:i=n
  ·subst e
   rw [extF_at,extF_at,extF_at];exact c.grown hx hgr hn
  rw [extF_lt _ _ (by omega),extF_lt _ _ (by omega),extF_lt _ _ (by omega)];exact c.grown (h.sl i (by omega)) hgr (h.apart i (by omega))
 by_cases e:i=n
 ·subst e
  rw [extF_at,extF_at];exact hN hx hn
 rw [extF_lt _ _ (by omega),extF_lt _ _ (by omega)];exact hN (h.sl i (by omega)) (h.apart i (by omega))
theorem RowL.cells {w:World}{base n:Nat}{v:Value}{L:Nat->α}{A:Nat->Option Addr}{C:Nat->Nat}(h:RowL len P t w base v n L A C) :
  (v=.slice none 0 0∧n=0)∨∃ g cap,v=.slice (some ⟨g,0,none⟩) n cap∧base<=g∧g<w.heap.size∧n<=cap∧cap<=maxLen∧∀ i,i<n->w.cell? ⟨g,0+i,none⟩=some (.slice (A i) (len (L i)) (C i)):=by
 obtain ⟨h1,h2⟩:=h.own;rcases h2 with ⟨rfl,h0⟩|⟨g,cap,cur,rfl,hg,hh,hn,hc,hcs,hx⟩
 ·exact Or.inl ⟨rfl,h0⟩
 have hlt:g<w.heap.size:=(Array.getElem?_eq_some_iff.1 hh).1;refine Or.inr ⟨g,cap,rfl,hg,hlt,hn,hc,fun i hi=>?_⟩;rw [<- encA_get len L A C n i hi,<- hx,List.getElem?_take,if_pos (by omega),Nat.zero_add];simp [World.cell?,hh]
end
def PT (w:World)(a:Option Addr)(c:Nat)(l:List ByteArray):Prop:=SlS w a l.length c (getL l)
theorem lcT:LC List.length PT:=by
 refine ⟨fun h hb=>SlS.below h hb,fun {w w' a c x row} h hg hn=>?_,fun {w a c x} h=>?_⟩
 ·refine ⟨h.le,h.max,h.size,?_⟩
  rcases h.cells with h0|⟨b,off,e,hb,hc⟩
  ·exact Or.inl h0
  rcases hn with h0|hn
  ·exact Or.inl h0
  exact Or.inr ⟨b,off,e,nT hb hg.size,fun i hi=>(World.cell?_of_block (a:=⟨b,off+i,none⟩) (hg.block b hb (fun q=>hn b off e q.symm))).trans (hc i hi)⟩
 rcases h.cells with h0|⟨b,off,e,hb,_⟩
 ·exact Or.inl h0
 exact Or.inr ⟨b,off,e,hb⟩
def PE (w:World)(a:Option Addr)(c:Nat)(l:List Ent):Prop:=SlE w a c l
theorem lcE:LC List.length PE:=by
 refine ⟨fun h hb=>SlE.below h hb,fun {w w' a c x row} h hg hn=>?_,fun {w a c x} h=>?_⟩
 ·refine ⟨h.le,h.max,h.size,?_⟩
  rcases h.cells with h0|⟨b,off,e,hb,c1,c2,c3⟩
  ·exact Or.inl h0
  rcases hn with h0|hn
  ·exact Or.inl (List.length_eq_zero_iff.1 h0)
  have hk:∀ o,w'.cell? ⟨b,o,none⟩=w.cell? ⟨b,o,none⟩:=fun o=>World.cell?_of_block (a:=⟨b,o,none⟩) (hg.block b hb (fun q=>hn b off e q.symm))
  exact Or.inr ⟨b,off,e,nT hb hg.size,fun i hi=>(hk _).trans (c1 i hi),fun i hi=>(hk _).trans (c2 i hi),fun i hi=>(hk _).trans (c3 i hi)⟩
 rcases h.cells with h0|⟨b,off,e,hb,_⟩
 ·exact Or.inl (by rw [h0];rfl)
 exact Or.inr ⟨b,off,e,hb⟩
theorem RowL.tt {t:TypeId}{w:World}{base n:Nat}{v:Value}{L:Nat->List ByteArray}{A:Nat->Option Addr}{C:Nat->Nat}(h:RowL List.length PT t w base v n L A C):∃ a cap,v=.slice a n cap∧SlTT w a n cap L:=by
 rcases h.cells with ⟨rfl,rfl⟩|⟨g,cap,rfl,_,hlt,hn,hc,hx⟩
 ·exact ⟨none,0,rfl,nL,by decide,Or.inl rfl⟩
 exact ⟨_,cap,rfl,hn,hc,Or.inr ⟨g,0,rfl,hlt,fun i hi=>⟨A i,C i,hx i hi,h.sl i hi⟩⟩⟩
theorem RowL.ee {t:TypeId}{w:World}{base n:Nat}{v:Value}{L:Nat->List Ent}{A:Nat->Option Addr}{C:Nat->Nat}(h:RowL List.length PE t w base v n L A C):∃ a cap,v=.slice a n cap∧SlEE w a n cap L:=by
 rcases h.cells with ⟨rfl,rfl⟩|⟨g,cap,rfl,_,hlt,hn,hc,hx⟩
 ·exact ⟨none,0,rfl,nL,by decide,Or.inl rfl⟩
 exact ⟨_,cap,rfl,hn,hc,Or.inr ⟨g,0,rfl,hlt,fun i hi=>⟨A i,C i,hx i hi,h.sl i hi⟩⟩⟩
theorem one_cellS (W:World)(v:Value)(ty:TypeId)(j:Nat)(u:Value)(h:[v][j]?=some u):(W.alloc (.cells #[v] ty)).cell? ((⟨W.heap.size,0,none⟩:Addr).add j)=some u:=by
 rw [Addr.add_lit,Nat.zero_add,kA rfl,<- h];rw [List.getElem?_toArray]
theorem app_any (W:World)(base base2:Nat)(v sv:Value)(l news:List ByteArray)(ty:TypeId)(hown:OwnL W base v l)(hs:OwnL W base2 sv news)(hb:base<=W.heap.size)(hsz:l.length+news.length<=1000000) :
  ∃ v' w',(Builtin.append_ #[27,27] ty #[v,sv]).run Tryz.prog W=.ok v' w'∧OwnL w' base v' (l ++ news)∧W.grownBy w' v.ownBlock:=by
 obtain ⟨i0,hi,hz0,hz1,hz2⟩:=info_parts Tryz.infoString;rcases hs.shape with ⟨rfl,rfl⟩|⟨g,cap,rfl,_,_,_,_⟩
 ·refine ⟨v,W,run_append_owned_none W base 27 ty 9 i0 1 Tryz.underlying27 hi v l.length _ hown,by rw [List.append_nil];exact hown,⟨rfl,rfl,rfl,nL,fun _ _ _=>rfl⟩⟩
 obtain ⟨v',w',hr,h2,h3,_⟩:=run_append_own (P:=Tryz.prog) W base 27 ty 9 i0 (.string ByteArray.empty) 1 16 Tryz.underlying27 hi hz0 hz1 hz2 rfl (by decide) _ _ _ hown ⟨g,0,none⟩ news.length cap (news.map Value.string) (by simp) (fun j u hj=>hs.src rfl j u hj) (strL_one news) (by unfold maxLen;omega) (by omega) hb;refine ⟨v',w',hr,?_,h3⟩;unfold OwnL;rw [List.length_append,List.map_append];exact h2
end Go.Proofs.YtkdalopokdhndaaGreat
