import Derived.Test.YtkdalopokdhndaaGreatDfSZ
import Derived.Test.YtkdalopokdhndaaGreatAgSZ
set_option maxHeartbeats 16000000
set_option maxRecDepth 100000
namespace Go.Proofs.YtkdalopokdhndaaGreat
open Go.RowKit
variable {W w' wr:World}{a sa:Option Addr}{m n sc cap:Nat}{E:Nat->Ev}{L:Nat->List Ent}
theorem Tryz.infoRowT:(Tryz.prog.info? 27).map (fun i=>(i.zero,i.size,i.bytes))=some (some (.slice none 0 0),1,24):=by kernel_rfl
def IdP (wr:World)(l:List Ent)(ll:Nat)(e:Ending)(w':World):Prop:=∃ g cp,e=.returned (.slice (some ⟨g,0,none⟩) ll cp)∧OwnL w' wr.heap.size (.slice (some ⟨g,0,none⟩) ll cp) (l.map Ent.id)∧Below wr.heap.size wr w'
def FuP (wr:World)(P:ByteArray->Prop)(e:Ending)(w':World):Prop:=∃ a c nl l,e=.returned (.slice a nl c)∧Hid (nl=l.length)∧Hid (PT w' a c l)∧Hid (∀ q,q<wr.heap.size->NIn a nl (some q))∧Hid (Srt l)∧Hid (∀ s,s ∈ l↔P s)∧Below wr.heap.size wr w'
def CfRel (w1:World)(E:Nat->Ev)(n:Nat)(L:Nat->List Ent)(k:Nat)(v:Value)(wr:World):Prop :=
 ∃ (g cc:Nat) (F:Nat->List ByteArray) (A:Nat->Option Addr) (C:Nat->Nat),v=.slice (some ⟨g,0,none⟩) k cc∧Hid (RowL List.length PT 27 wr w1.heap.size (.slice (some ⟨g,0,none⟩) k cc) k F A C)∧Hid (∀ i,i<k->Srt (F i)∧∀ s,s ∈ F i↔FuS E n (L i) s)∧Below w1.heap.size w1 wr
theorem fuP_of {P:ByteArray->Prop}{e:Ending}(hW:Below wr.heap.size wr W)(h:FuPost W P e w')(hsz:∀ s,P s->s.size<=maxLen):FuP wr P e w':=by
 obtain ⟨v,l,rfl,ho,hs,hm,hb⟩:=h;obtain ⟨a,c,rfl,hsl,_⟩:=ho.sl (fun s h=>hsz s ((hm s).1 h));refine ⟨a,c,l.length,l,rfl,rfl,hsl,fun q hq=>?_,hs,hm,hW.trans (hb.mono hW.size)⟩;refine Or.inr fun b off e1 e2=>?_
 injection e2 with e2
 rcases ho.shape with ⟨h1,_⟩|⟨g,cap,h1,h2,_⟩
 ·injection h1 with h1;rw [h1] at e1;cases e1
 injection h1 with h1 _ _
 rw [h1] at e1;injection e1 with e1
 injection e1 with e1 _ _
 have:=hW.size;omega
theorem l6Cf_sl (w:World)(hroom:roomTo E n=true)(hm:m<=20)(hf:∀ i,i<m->FitL E n (L i))(h:SlV w a n cap E)(hs:SlEE w sa m sc L) :
  Calls Tryz.prog 229 #[.agg #[.slice a n cap],.slice sa m sc] w (FuPost w (CfP E n L m)):=by
 obtain ⟨j0,hj,hj0,hj1,hj2⟩:=info_parts Tryz.infoRowT;have h300:=room_300 hroom;obtain ⟨wb,hwb⟩:∃ wb,wb=w.alloc (.cells #[.slice a n cap] 25):=⟨_,rfl⟩;have hb0:Below w.heap.size w wb:=by rw [hwb];exact bA
 have hs0:w.heap.size<wb.heap.size:=by rw [hwb];simp
 have hbx:Hid (∀ wx,Below wb.heap.size wb wx->wx.cell? ⟨w.heap.size,0,none⟩=some (.slice a n cap)):=fun wx hx=>by subst hwb;exact box_cells (hx.mono (by simp)) 0
 have hok:okTo L m=true:=okTo_fit hroom hf;have hsp:spOk L m=true:=by unfold spOk;rw [hok,decide_eq_true hm];rfl
 have Hidz:Hid (∀ i,i<n->(E i).id.size<=maxLen):=fun i hi'=>by
  rcases h.cells with h0|⟨b,off,_,_,hc⟩
  ·omega
  obtain ⟨_,_,_,_,_,_,_,hok⟩:=hc i hi';exact hok.hid
 have Hszf:Hid (∀ i,i<m->∀ s,FuS E n (L i) s->s.size<=maxLen):=fun i hi s hs=>by
  obtain ⟨j,hj,rfl⟩:=fuS_in hroom (hf i hi) hs;exact Hidz.out j hj
 have Hlen:Hid (∀ i,i<m->∀ l,Srt l->(∀ s,s ∈ l↔FuS E n (L i) s)->l.length<=300):=fun i hi l h1 h2=>nZ (ids_len hroom h1.nodup (fun s hs=>fuS_in hroom (hf i hi) ((h2 s).1 hs))) h300
 have HSp:Hid (Calls Tryz.prog 228 #[.slice sa m sc] wb (SpPost wb L m)):=spS_sl wb (hs.below hb0);have HE:Hid (SlV w a n cap E):=h;have Hs:Hid (SlEE w sa m sc L):=hs;have Hroom:Hid (_):=hroom;have Hf:Hid (∀ i,i<m->FitL E n (L i)):=hf;have Hsp:Hid (spOk L m=true):=hsp;clear hroom h hs hf hok hsp
 go_enter Tryz.func229,Tryz.ntmps229
 go_wp2_with fail
 rw [<- hwb];clear hwb;refine HSp.out.mono ?_;rintro e w1 ⟨hb1,v1,u1,Se,So,rfl,hoE,hoO,hsp⟩
 have Hfin:Hid (SpFin L m Se So):=by
  rcases hsp with ⟨_,h1⟩|⟨h1,_⟩
  ·exact h1
  rw [Hsp.out] at h1;cases h1
 rw [Hsp.out];have HoO:Hid (OwnL w1 wb.heap.size u1 So):=hoO;clear hsp hoE hoO HSp Hsp;have hw1:=hb0.trans (hb1.mono hb0.size);have hs1:wb.heap.size<=w1.heap.size:=hb1.size;have hrN:RowL List.length PT 27 (w1.alloc (.cells #[] 27)) w1.heap.size (.slice (some ⟨w1.heap.size,0,none⟩) 0 0) 0 (fun _=>[]) (fun _=>none) (fun _=>0):=RowL.new w1 _ nL _ _ _;have hbN:Below w1.heap.size w1 (w1.alloc (.cells #[] 27)):=bA;have HrN:Hid (_):=hrN;clear hrN
 go_wp2_with fail
 go_loopw [8,9] (fun v i wr=>∃ k:Nat,k<=m∧i=.int .i64 (k:Int)∧CfRel w1 E n L k v wr) (fun _ i _=>m - (intOf i).toNat)
 case atStart=>exact ⟨0,nz,rfl,_,_,_,_,_,rfl,HrN.out,fun i hi=>absurd hi (Nat.not_lt_zero _),hbN⟩
 case round =>
  clear hbN HrN;obtain ⟨k,hk,rfl,g,cc,F,A,C,rfl,hrow,hF,hB⟩:=hrel;have hBb:Below wb.heap.size wb wr:=hb1.trans (hB.mono hb1.size);have hbw:=hb0.trans (hBb.mono hb0.size);have hsr:w1.heap.size<=wr.heap.size:=hB.size
  have hg1:Hid (w1.heap.size<=g∧g<wr.heap.size):=by
   rcases hrow.out.cells with ⟨q,_⟩|⟨g',cap',q,q1,q2,_⟩
   ·cases q
   injection q with q _ _;injection q with q;injection q with q _ _
   subst q;exact ⟨q1,q2⟩
  by_cases hlt:k<m
  ·rcases Hs.out.cells with h0|⟨sb,so,rfl,hsb,hsc⟩
   ·omega
   obtain ⟨ea,ec,hce,hse⟩:=hsc k hlt;have hfk:=Hf.out k hlt;have hlk:(L k).length<=300:=nZ (hfk.len Hroom.out) h300;have HI0:∀ W,Below wr.heap.size wr W->Calls Tryz.prog 243 #[.slice ea (L k).length ec] W (IdP wr (L k) (L k).length):=fun W hW=>(l6Ids_sl W (by omega) ((hse.below hbw).below hW)).mono fun e w' ⟨g,cp,he,ho,hb⟩=>⟨g,cp,he,ho.mono hW.size,hW.trans (hb.mono hW.size)⟩
   have HF0:∀ W g2 c2,Below wr.heap.size wr W->OwnL W wr.heap.size (.slice (some ⟨g2,0,none⟩) (L k).length c2) ((L k).map Ent.id)->Calls Tryz.prog 104 #[.agg #[.slice a n cap],.slice (some ⟨g2,0,none⟩) (L k).length c2] W (FuP wr (FuS E n (L k))):=fun W g2 c2 hW ho=>by
    obtain ⟨ia,ic,e1,hsl,_⟩:=ho.sl (fun s hs=>by
     obtain ⟨x,hx,rfl⟩:=List.mem_map.1 hs;obtain ⟨p,hp,_,_,_,_,ei⟩:=fit1_parts (hfk.fit x hx);rw [<- ei];exact Hidz.out p hp)
    rw [List.length_map] at e1 hsl;injection e1 with e11 _ e13
    subst e11 e13;refine (fullS_sl W Hroom.out ((HE.out.below hbw).below hW) hsl hlk (fun i hi=>?_)).mono fun e w' hp=>fuP_of hW ?_ (Hszf.out k hlt)
    ·have hmem:getL ((L k).map Ent.id) i ∈ (L k).map Ent.id:=getL_mem (by rw [List.length_map];exact hi)
     obtain ⟨x,hx,ex⟩:=List.mem_map.1 hmem;obtain ⟨p,hp,ep,_⟩:=fit1_parts (hfk.fit x hx);rw [<- ex,ep];omega
    obtain ⟨v,l,h1,h2,h3,h4,h5⟩:=hp;refine ⟨v,l,h1,h2,h3,fun s=>(h4 s).trans (or_congr_left ?_),h5⟩;constructor
    ·rintro ⟨i,hi,rfl⟩
     have hmem:getL ((L k).map Ent.id) i ∈ (L k).map Ent.id:=getL_mem (by rw [List.length_map];exact hi);obtain ⟨x,hx,ex⟩:=List.mem_map.1 hmem;exact ⟨x,hx,ex⟩
    rintro ⟨x,hx,rfl⟩;obtain ⟨i,hi,e⟩:=mem_getL (List.mem_map.2 ⟨x,hx,rfl⟩);exact ⟨i,by rwa [List.length_map] at hi,e⟩
   have hck:=(hbw.cell (p:=⟨sb,so+k,none⟩) (by exact hsb)).trans hce;have x0:=hbx.out _ hBb;obtain ⟨ll,hll⟩:∃ ll,ll=(L k).length:=⟨_,rfl⟩;have HI:Hid (∀ W,Below wr.heap.size wr W->Calls Tryz.prog 243 #[.slice ea ll ec] W (IdP wr (L k) ll)):=by rw [hll];exact HI0
   have HF:Hid (∀ W g2 c2,Below wr.heap.size wr W->OwnL W wr.heap.size (.slice (some ⟨g2,0,none⟩) ll c2) ((L k).map Ent.id)->Calls Tryz.prog 104 #[.agg #[.slice a n cap],.slice (some ⟨g2,0,none⟩) ll c2] W (FuP wr (FuS E n (L k)))):=by rw [hll];exact HF0
   rw [<- hll] at hck;clear HI0 HF0 hll hce hse hsc hfk hlk
   have HS1:Hid (∀ W,Below w1.heap.size w1 W->W.cell? ⟨w.heap.size,0,none⟩=some (.slice a n cap)∧W.cell? ⟨sb,so+k,none⟩=some (.slice ea ll ec)):=fun W hW=>by
    have y0:=hbx.out _ (hb1.trans (hW.mono hb1.size));refine ⟨y0,?_⟩
    have:sb<w1.heap.size:=nT hsb hw1.size;rw [hW.cell (p:=⟨sb,so+k,none⟩) (by exact this),<- hB.cell (p:=⟨sb,so+k,none⟩) (by exact this)];exact hck
   have HS:Hid (∀ W,Below wr.heap.size wr W->W.cell? ⟨w.heap.size,0,none⟩=some (.slice a n cap)∧W.cell? ⟨sb,so+k,none⟩=some (.slice ea ll ec)):=fun W hW=>HS1.out W (hB.trans (hW.mono hsr))
   have HO:Hid (∀ W,Below wr.heap.size wr W->W.ownsRow w1.heap.size 27 1 (.slice (some ⟨g,0,none⟩) k cc) k (encA List.length F A C k)):=fun W hW=>(hrow.out.below lcT hW).own
   have HB4:Hid (∀ X w4:World,Below wr.heap.size wr X->X.grownBy w4 (Value.slice (some ⟨g,0,none⟩) k cc).ownBlock->Below w1.heap.size w1 w4):=fun X w4 hX hg=>(hB.trans (hX.mono hsr)).grown hg (nZ hsr hX.size) (fun q hq=>by
    have:some g=some q:=hq;injection this with this
    have:=hg1.out;omega)
   have hrf:Below wr.heap.size wr wr:=kB;have hm1:k+1<=maxLen:=by unfold maxLen;omega
   have hm2:(k+1) * 24<=140737488355328:=by omega
   go_wp2_with fail
   refine wp_region_held_drew (S:=fun W=>W.cell? ⟨w.heap.size,0,none⟩=some (.slice a n cap)∧W.cell? ⟨sb,so+k,none⟩=some (.slice ea ll ec)) (by kernel_rfl) ?_ (fun hHeld=>?_)
   ·(try dsimp only);exact HS.out _ (by with_reducible (repeat refine .drew ?_);exact hrf)
   refine tq 0 rfl ?_;simp only [si];refine tq 1 rfl ?_;simp only [si];refine tq 2 rfl ?_;simp only [si];refine tq 3 rfl ?_;simp only [si];refine tq 4 rfl ?_;simp only [si];refine tq 5 rfl ?_;simp only [si];refine rd 6 rfl fun K hK=>?_
   go_simp
   go_at_call 243
   refine (HI.out _ (by with_reducible (repeat refine .drew ?_);exact hrf)).mono ?_;rintro e w2 ⟨g2,c2,rfl,ho2,hb2⟩;clear HI;try dsimp only
   refine hK.out _ _ ?_ (fun hHeld=>?_)
   ·(try dsimp only);exact HS.out _ (by with_reducible (repeat refine .drew ?_);exact hb2)
   clear hK K;try simp only [si]
   refine rd 7 rfl fun K hK=>?_
   go_simp
   go_at_call 104
   refine (HF.out _ g2 c2 (by with_reducible (repeat refine .drew ?_);exact hb2) (OwnL.below ho2 (by first|with_reducible exact kB|with_reducible exact kB.drew|with_reducible exact kB.drew.drew))).mono ?_;rintro e w3 ⟨a3,c3,n3,l3,rfl,hl3,hp3,hn3,hs3,hm3,hb3⟩;clear HF ho2;try dsimp only
   refine hK.out _ _ ?_ (fun hHeld=>?_)
   ·(try dsimp only);exact HS.out _ (by with_reducible (repeat refine .drew ?_);exact hb3)
   clear hK K;try simp only [si]
   refine rd 8 rfl fun K hK=>?_
   go_simp;refine hK.out _ _ ?_ (fun hHeld=>?_)
   ·(try dsimp only);exact HS.out _ (by first|exact hb3.alloc hb3.size _|exact (hb3.alloc hb3.size _).drew|exact (hb3.drew.alloc hb3.size _))
   clear hK K;try simp only [si]
   refine rd 9 rfl fun K hK=>?_
   refine step_append_lies _ (by rfl) _ _ _ (by rfl) w1.heap.size 27 j0 _ 1 24 Tryz.underlying259 hj hj0 hj1 hj2 rfl (by decide) (.slice (some ⟨g,0,none⟩) k cc) k (encA List.length F A C k) (by rfl) (HO.out _ (by first|exact hb3.alloc hb3.size _|exact (hb3.alloc hb3.size _).drew|exact (hb3.drew.alloc hb3.size _))) ⟨w3.heap.size,0,none⟩ 1 1 [.slice a3 n3 c3] (by rfl) (by rfl) (one_cellS _ _ _) (one_slice _ ⟨_,_,_,rfl⟩) (by decide) hm1 hm2 (by simp;have:=hb3.size;omega) (w3.heap.size+1) (by simp) ?_;intro gg cq w4 hown4 hgr4 hat4 hlt4;have hB4:=HB4.out _ w4 (by first|exact hb3.alloc hb3.size _|exact (hb3.alloc hb3.size _).drew|exact (hb3.drew.alloc hb3.size _)) hgr4;refine hK.out _ _ ?_ (fun hHeld=>?_)
   ·(try dsimp only);exact HS1.out _ hB4
   clear hK K;try simp only [si]
   refine tq 10 rfl ?_;simp only [si];refine wpAnyH_done (by kernel_rfl) ?_ _
   have Hrow2:Hid (RowL List.length PT 27 w4 w1.heap.size (.slice (some ⟨gg,0,none⟩) (k+1) cq) (k+1) (extF F k l3) (extF A k a3) (extF C k c3)):=by
    have hX:∀ X,Below w3.heap.size w3 X->X.grownBy w4 (Value.slice (some ⟨g,0,none⟩) k cc).ownBlock->((Value.slice (some ⟨g,0,none⟩) k cc).ownBlock=some gg∨X.heap.size<=gg)->RowL List.length PT 27 w4 w1.heap.size (.slice (some ⟨gg,0,none⟩) (k+1) cq) (k+1) (extF F k l3) (extF A k a3) (extF C k c3):=fun X hX hg hgg=>by
     have hwX:=hb3.trans (hX.mono hb3.size);refine (hrow.out.below lcT hwX).snoc lcT (lcT.below hp3.out hX) ?_ (by rw [<- hl3.out];exact hown4) hg hgg;rw [<- hl3.out];exact hn3.out g hg1.out.2
    exact hX _ (by first|exact bA|exact bA.drew) hgr4 (hat4.imp (fun q=>q) (fun q=>by simp;omega))
   have HF2:Hid (∀ i,i<k+1->Srt (extF F k l3 i)∧∀ s,s ∈ extF F k l3 i↔FuS E n (L i) s):=fun i hi=>by
    by_cases e:i=k
    ·subst e;rw [extF_at];exact ⟨hs3.out,hm3.out⟩
    rw [extF_lt _ _ (by omega)];exact hF.out i (by omega)
   clear hown4 hgr4 hat4 hlt4 hrow hF hp3 hn3 hs3 hm3 HO HB4
   (try go_wp2)
   first
    | exact ⟨⟨k+1,by omega,by go_num,gg,cq,_,_,_,rfl,Hrow2.out,HF2.out,hB4⟩,by simp [intOf];omega⟩
    | exact ⟨⟨k+1,by omega,by go_num,gg,cq,_,_,_,rfl,Hrow2.out.below lcT kB.drew,HF2.out,hB4.drew⟩,by simp [intOf];omega⟩
  have hkm:m=k:=by omega
  subst hkm;obtain ⟨ta,tc,e1,htt⟩:=hrow.out.tt;injection e1 with e11 _ e13
  subst e11 e13;have HD:Hid (Calls Tryz.prog 244 #[.slice (some ⟨g,0,none⟩) m cc] wr (FuPost wr (DfP (fun i s=>s ∈ F i) m))):=l2Df_sl wr hm (fun i hi=>Hlen.out i hi _ (hF.out i hi).1 (hF.out i hi).2) htt
  have HDf:Hid (∀ s,DfP (fun i s=>s ∈ F i) m s↔DfP (fun i=>FuS E n (L i)) m s):=fun s=>by
   unfold DfP;exact and_congr ⟨fun ⟨i,hi,q⟩=>⟨i,hi,((hF.out i hi).2 s).1 q⟩,fun ⟨i,hi,q⟩=>⟨i,hi,((hF.out i hi).2 s).2 q⟩⟩ ⟨fun ⟨i,hi,q⟩=>⟨i,hi,fun z=>q (((hF.out i hi).2 s).2 z)⟩,fun ⟨i,hi,q⟩=>⟨i,hi,fun z=>q (((hF.out i hi).2 s).1 z)⟩⟩
  clear htt hrow hF
  go_wp2_with fail
  refine HD.out.mono ?_;rintro e w2 ⟨v2,l2,rfl,ho2,hs2,hm2,hb2⟩;clear HD;have hB2:=hB.trans (hb2.mono hB.size);have hbw2:=hbw.trans (hb2.mono hbw.size);have hOo:OwnL w2 wb.heap.size u1 So:=HoO.out.below hB2
  have Hall:Hid (∀ s,s ∈ So ++ l2↔CfP E n L m s):=fun s=>by
   rw [List.mem_append,Hfin.out.memO,hm2 s,HDf.out s];rfl
  have Hin:Hid (∀ s,s ∈ So ++ l2->∃ j,j<n∧(E j).id=s):=fun s hs=>cfP_in Hroom.out Hf.out ((Hall.out s).1 hs)
  have hlo:So.length<=300:=nZ (ids_len Hroom.out Hfin.out.srtO.nodup (fun s hs=>Hin.out s (List.mem_append_left _ hs))) h300;have hl2:l2.length<=300:=nZ (ids_len Hroom.out hs2.nodup (fun s hs=>Hin.out s (List.mem_append_right _ hs))) h300;obtain ⟨v3,w3,hap,ho3,hg3⟩:=app_any w2 wb.heap.size wr.heap.size u1 v2 So l2 27 hOo ho2 (by have:=hBb.size;have:=hb2.size;omega) (by omega);have hBw3:Below wb.heap.size wb w3:=(hBb.trans (hb2.mono hBb.size)).grown hg3 (by have:=hBb.size;have:=hb2.size;omega) (fun q hq=>(World.ownsRow.lt hOo q hq).1)
  obtain ⟨a3,c3,e3,hsl3,_⟩:=ho3.sl (fun s hs=>by
   obtain ⟨j,hj,rfl⟩:=Hin.out s hs;exact Hidz.out j hj)
  subst e3;have HC:Hid (Calls Tryz.prog 169 #[.slice a3 (So ++ l2).length c3] w3 (L2Post w3 (getL (So ++ l2)) (So ++ l2).length)):=l2s_sl w3 (by rw [List.length_append];omega) hsl3;have hw3:=hb0.trans (hBw3.mono hb0.size)
  have HA:Hid (∀ s,(∃ i,i<(So ++ l2).length∧getL (So ++ l2) i=s)↔CfP E n L m s):=fun s=>by
   rw [<- Hall.out s];exact ⟨fun ⟨i,hi',e⟩=>e ▸ getL_mem hi',fun h=>mem_getL h⟩
  clear hsl3 ho3 hg3 hOo ho2 hs2 hm2 Hall Hin hlo hl2 HDf Hfin HoO;generalize (So ++ l2).length=nn at *;generalize getL (So ++ l2)=GG at *
  go_wp2_with (at_builtin;refine wpList_append_run rfl _ _ 27 rfl _ _ _ _ hap rfl rfl ?_;clear hap)
  refine HC.out.mono ?_;rintro e w4 ⟨v4,l4,rfl,ho4,hs4,hm4,hb4⟩;have HP:Hid (FuPost w (CfP E n L m) (.returned v4) w4):=⟨v4,l4,rfl,ho4.mono hw3.size,hs4,fun s=>(hm4 s).trans (HA.out s),hw3.trans (hb4.mono hw3.size)⟩;clear ho4 hs4 hm4 HC HA;go_wp2
  go_ret;exact HP.out
end Go.Proofs.YtkdalopokdhndaaGreat
