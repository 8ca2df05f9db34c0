import Derived.Test.YtkdalopokdhndaaGreatDaS
set_option maxHeartbeats 16000000
set_option maxRecDepth 100000
namespace Go.Proofs.YtkdalopokdhndaaGreat
open Go.RowKit
variable {m p q base:Nat}{w w':World}{bs:Nat->Nat}{v:Value}
abbrev tNoI:ByteArray:=⟨#[36,110,111,110,101]⟩
def IdPost (p:Nat)(w:World)(bs:Nat->Nat)(m:Nat)(x:Ending)(w':World):Prop :=
 ∃ a n cap E ia mm ic S q,x=.returned (.tuple #[.agg #[.slice a n cap],.slice ia mm ic])∧Hid (∀ W,KL w.heap.size w' W->SlV W a n cap E∧SlS W ia mm ic S)∧n<=300∧mm<=301∧DwF p w w' bs m q
def IdRel (n:Nat)(W0:World)(v i:Value)(wr:World):Prop :=
 ∃ (k g mm cp:Nat) (l:List ByteArray),k<=n∧i=.int .i64 (k:Int)∧v=.slice (some ⟨g,0,none⟩) mm cp∧Hid (mm=l.length∧mm<=k∧(∀ x ∈ l,x.size<=maxLen)∧OwnL wr W0.heap.size (.slice (some ⟨g,0,none⟩) mm cp) l)∧Below W0.heap.size W0 wr
theorem DwF.kb (h:DwF p w w' bs m q):Kb p w w':=Kb.of h.2 (fun b hb=>by injection hb with hb;exact hb.symm)
theorem OwnL.kq {L:Nat}{l:List ByteArray}(h:OwnL w base v l)(hk:KL L w w')(hc:L<=base):OwnL w' base v l:=ownsRow_k h fun g hg hl=>hk.2 g (nZ hc (World.ownsRow.lt h g hg).1) hl
theorem drawIds (p:Nat)(w:World)(h:RdF w p bs m q)(hqm:q<=m):Calls Tryz.prog 48 #[.pointer (some ⟨p,0,none⟩)] w (IdPost p w bs m):=by
 obtain ⟨i0,hi0,hz0,hz1,hz2⟩:=info_parts Tryz.infoString;obtain ⟨wa,hwa⟩:∃ wa,wa=w.alloc (.cells #[.slice none 0 0] 25):=⟨_,rfl⟩;have hba:Below w.heap.size w wa:=by rw [hwa];exact bA
 have hsa:w.heap.size<wa.heap.size:=by rw [hwa];simp
 have za:wa.cell? ⟨w.heap.size,0,none⟩=some (.slice none 0 0):=by rw [hwa];exact kA rfl
 have fa:wa.frozen? ⟨w.heap.size,0,none⟩=false:=by rw [hwa];exact kF rfl
 have hp:=h.lt;have hda:DwF p w wa bs m q:=(DwF.refl h).below hba
 go_enter Tryz.func48,Tryz.ntmps48
 go_wp2_with fail
 rw [<- hwa];clear hwa;refine (nextF p wa hda.1).mono ?_;rintro x w1 ⟨rfl,hd1⟩;have hk:=hda.1.nx;generalize nxB bs m q=k at *;have hq1:nxQ m q<=m:=by unfold nxQ;split <;> omega
 go_wp2_with fail
 refine (nextF p w1 hd1.1).mono ?_;rintro x w2 ⟨rfl,hd2⟩;have hy:=hd1.1.nx;generalize nxB bs m (nxQ m q)=y at *
 have hq2:nxQ m (nxQ m q)<=m:=by
  have:∀ z,z<=m->nxQ m z<=m:=fun z hz=>by unfold nxQ;split <;> omega
  exact this _ hq1
 have hd02:=hda.trans (hd1.trans hd2);have hd12:=hd1.trans hd2
 go_wp2_with fail
 refine (drawAnyR p w2 hd2.1 hq2).mono ?_;rintro x w3 ⟨a,n,cap,E,q3,rfl,HV,hn3,hd3⟩;have hd13:=hd12.trans hd3;have nR:∀ b,some w.heap.size=some p->b=b+1:=fun b e=>absurd (Option.some.inj e) (by omega)
 have z3:w3.cell? ⟨w.heap.size,0,none⟩=some (.slice none 0 0):=(hd13.kb.cell hsa (by omega)).trans za;have f3:w3.frozen? ⟨w.heap.size,0,none⟩=false:=(hd13.kb.frz hsa (by omega)).trans fa;have s2:w.heap.size<w2.heap.size:=nT hsa hd12.size;have s3:w.heap.size<w3.heap.size:=nT hsa hd13.size;have hd03:=hd02.trans hd3;obtain ⟨W0,hW0⟩:∃ W0,W0=w3.alloc (.cells #[.slice a n cap] 25):=⟨_,rfl⟩;have hb0:Below w3.heap.size w3 W0:=by rw [hW0];exact bA
 have c0:W0.cell? ⟨w3.heap.size,0,none⟩=some (.slice a n cap):=by rw [hW0];exact kA rfl
 have sB:w3.heap.size<W0.heap.size:=by rw [hW0];simp
 have HD:Hid (DwF p w W0 bs m q3):=hd03.below hb0;have HV0:Hid (∀ W,KL w2.heap.size W0 W->SlV W a n cap E):=fun W hkW=>HV.out W ((KL.blw hb0).trans hkW)
 have hS0:SlV W0 a n cap E:=HV0.out W0 (KL.refl _ _);have z0:W0.cell? ⟨w.heap.size,0,none⟩=some (.slice none 0 0):=(hb0.cell (by exact s3)).trans z3;have f0:W0.frozen? ⟨w.heap.size,0,none⟩=false:=(hb0.frozen (by exact s3)).trans f3;have sR:w.heap.size<W0.heap.size:=nT s3 hb0.size;have hnc:=hS0.le;have hcm:=hS0.max;unfold maxLen at hcm;obtain ⟨B,hB⟩:∃ B,B=w3.heap.size:=⟨_,rfl⟩;rw [<- hB] at c0 sB
 go_upto_region 4 with fail
 rw [<- hW0,<- hB];clear hW0 hB hb0 z3 f3 s3 hd13 hd03 hd3 HV hd02 hd12 hd1 hd2 hda za fa hsa hba nR hq1 hq2 hqm;have hoO:OwnL (W0.alloc (.cells #[] 9)) W0.heap.size (.slice (some ⟨W0.heap.size,0,none⟩) 0 0) []:=OwnL.new W0 _ nL;have hbO:Below W0.heap.size W0 (W0.alloc (.cells #[] 9)):=bA;have HI:IdRel n W0 (.slice (some ⟨W0.heap.size,0,none⟩) 0 0) (.int .i64 0) (W0.alloc (.cells #[] 9)):=⟨0,_,_,_,[],nz,rfl,rfl,⟨rfl,nL,fun _ hx=>absurd hx List.not_mem_nil,hoO⟩,hbO⟩;clear hoO hbO
 go_wp2_with fail
 go_loopw [8,9] (fun v i wr=>IdRel n W0 v i wr) (fun _ i _=>n - (intOf i).toNat)
 case atStart=>exact HI
 case round =>
  clear HI;obtain ⟨i,g,mm,cp,l,hin,rfl,rfl,HL,hbr⟩:=hrel;have y0:=(hbr.cell (by exact sB)).trans c0;have hmm:mm<=i:=HL.out.2.1
  by_cases hlt:i<n
  ·have i1:(i:Int)<(n:Int):=by omega
   obtain ⟨wq,hwq⟩:∃ wq:World,wq=wr:=⟨_,rfl⟩;subst hwq
   go_upto_region 9 with fail
   go_cut [35] from 20 to 49 (fun v wx=>(∃ c:Bool,v=.bool c)∧wx=wq)
   case first =>
    clear HL
    go_wp2_with fail
    all_goals go_meet
    all_goals exact ⟨⟨_,rfl⟩,rfl⟩
   case rest =>
    obtain ⟨⟨c,rfl⟩,hwc⟩:=hcut;subst hwc;obtain ⟨wr,hwr⟩:∃ wr:World,wr=wc:=⟨_,rfl⟩;subst hwr;cases c
    case false =>
     go_wp2_with fail
     go_roundw
     case rel=>exact ⟨i+1,g,mm,cp,l,by omega,by go_num,rfl,⟨HL.out.1,by omega,HL.out.2.2⟩,hbr⟩
     simp [intOf];omega
    case true =>
     obtain ⟨j,hj⟩:∃ j,j=(i * 5+k) % n:=⟨_,rfl⟩;have hjn:j<n:=by rw [hj];exact Nat.mod_lt _ (by omega)
     have hn0:¬ n=0:=by omega
     have hw5:IntKind.i64.wrap ((i:Int) * 5)=(i:Int) * 5:=by rw [IntKind.wrap_i64];omega
     have hw6:IntKind.i64.wrap ((i:Int) * 5+(k:Int))=(i:Int) * 5+(k:Int):=by rw [IntKind.wrap_i64];omega
     have htm:((i:Int) * 5+(k:Int)).tmod (n:Int)=(j:Int):=by rw [Int.tmod_eq_emod_of_nonneg (by omega),hj,Int.natCast_emod];rfl
     have HJ:Hid (j=(i * 5+k) % n):=hj;clear hj;have j0:(0:Int)<=(j:Int):=by omega
     have j1:(j:Int)<(n:Int):=by omega
     rcases hS0.cells with h0|⟨b,off,rfl,hbl,hce⟩
     ·omega
     obtain ⟨pa,cpp,aa,ca,ga,cg,hcs,hok⟩:=hce j hjn;have y1:=(hbr.cell (p:=⟨b,off+j * 10,none⟩) (by exact hbl)).trans hcs.c0;have hxs:=hok.hid;generalize (E j).id=x at *;clear hce hcs hok;have hm1:mm+1<=maxLen:=by unfold maxLen;omega
     have hm2:(mm+1) * 16<=140737488355328:=by omega
     have HS1:Hid (∀ W,Below wr.heap.size wr W->W.cell? ⟨B,0,none⟩=some (.slice (some ⟨b,off,none⟩) n cap)∧W.cell? ⟨b,off+j * 10,none⟩=some (.string x)):=fun W hW=>⟨(hW.cell (by show B<_;have:=hbr.size;omega)).trans y0,(hW.cell (by show b<_;have:=hbr.size;omega)).trans y1⟩
     have HO:Hid (∀ W,Below wr.heap.size wr W->W.ownsRow W0.heap.size 9 1 (.slice (some ⟨g,0,none⟩) mm cp) mm (l.map Value.string)):=fun W hW=>by
      have:=HL.out.2.2.2.below hW;unfold OwnL at this;rw [<- HL.out.1] at this;exact this
     have HZ:Hid (∀ (X w4:World) (gg cq:Nat),Below wr.heap.size wr X->w4.ownsRow W0.heap.size 9 1 (.slice (some ⟨gg,0,none⟩) (mm+1) cq) (mm+1) (l.map Value.string ++ [.string x])->X.grownBy w4 (Value.slice (some ⟨g,0,none⟩) mm cp).ownBlock->Hid ((w4.cell? ⟨B,0,none⟩=some (.slice (some ⟨b,off,none⟩) n cap)∧w4.cell? ⟨b,off+j * 10,none⟩=some (.string x))∧(w4.drew.cell? ⟨B,0,none⟩=some (.slice (some ⟨b,off,none⟩) n cap)∧w4.drew.cell? ⟨b,off+j * 10,none⟩=some (.string x))∧Below W0.heap.size W0 w4∧OwnL w4 W0.heap.size (.slice (some ⟨gg,0,none⟩) (mm+1) cq) (l ++ [x]))):=fun X w4 gg cq hX hown hgr=>by
      have hg:W0.heap.size<=g:=(World.ownsRow.lt (HO.out wr kB) g rfl).1;have hXs:=hX.size;have hbs:=hbr.size;have far:∀ q o,q<W0.heap.size->w4.cell? ⟨q,o,none⟩=wr.cell? ⟨q,o,none⟩:=fun q o hq=>(hgr.cell_far ⟨q,o,none⟩ (by show q<X.heap.size;omega) (fun e=>absurd (Option.some.inj e) (by show q≠g;omega))).trans (hX.cell (by show q<wr.heap.size;omega))
      have c1:=(far B 0 sB).trans y0;have c2:=(far b (off+j * 10) hbl).trans y1;refine ⟨⟨c1,c2⟩,⟨c1,c2⟩,(hbr.trans (hX.mono hbr.size)).grown hgr (by omega) (fun q hq=>by have:g=q:=Option.some.inj hq;omega),?_⟩;rw [HL.out.1] at hown ⊢;exact OwnL.snoc hown
     have HM:Hid (mm=l.length∧∀ x ∈ l,x.size<=maxLen):=⟨HL.out.1,HL.out.2.2.1⟩;clear HL
     go_wp2_with fail
     refine wp_region_held_drew (S:=fun X=>X.cell? ⟨B,0,none⟩=some (.slice (some ⟨b,off,none⟩) n cap)∧X.cell? ⟨b,off+j * 10,none⟩=some (.string x)) (by kernel_rfl) ?_ (fun hHeld=>?_)
     ·(try dsimp only);exact ⟨y0,y1⟩
     refine tq 0 rfl ?_;simp only [si];refine tq 1 rfl ?_;simp only [si];refine tq 2 rfl ?_;simp only [si];refine tq 3 rfl ?_;simp only [si];refine wpAnyH_take (i:=4) (v:=.int .i64 ((i:Int) * 5)) rfl (by kernel_rfl) (by kernel_rfl) (by kernel_rfl) (fun _ _ _ h=>h) (Or.inl ⟨by rfl,?hm5⟩) (by assumption) ?_
     case hm5=>(intro w h;(try dsimp only at h);go_simp;try exact hw5)
     simp only [si];refine tq 5 rfl ?_;simp only [si];refine wpAnyH_take (i:=6) (v:=.int .i64 ((i:Int) * 5+(k:Int))) rfl (by kernel_rfl) (by kernel_rfl) (by kernel_rfl) (fun _ _ _ h=>h) (Or.inl ⟨by rfl,?hm7⟩) (by assumption) ?_
     case hm7=>(intro w h;(try dsimp only at h);go_simp;try exact hw6)
     simp only [si];refine tq 7 rfl ?_;simp only [si];refine wpAnyH_take (i:=8) (v:=.int .i64 (j:Int)) rfl (by kernel_rfl) (by kernel_rfl) (by kernel_rfl) (fun _ _ _ h=>h) (Or.inl ⟨by rfl,?hm9⟩) (by assumption) ?_
     case hm9=>(intro w h;(try dsimp only at h);go_simp;try rw [if_neg hn0,htm])
     simp only [si];refine tq 9 rfl ?_;simp only [si];refine tq 10 rfl ?_;simp only [si];refine tq 11 rfl ?_;simp only [si];refine rd 12 rfl fun K hK=>?_
     go_simp;refine hK.out _ _ ?_ (fun hHeld=>?_)
     ·(try dsimp only);exact HS1.out _ (by first|exact bA|exact bA.drew|exact kB.drew.alloc nL _|exact (kB.drew.alloc nL _).drew)
     clear hK K;try simp only [si]
     refine rd 13 rfl fun K hK=>?_
     refine step_append_lies _ (by rfl) _ _ _ (by rfl) W0.heap.size 9 i0 _ 1 16 Tryz.underlying27 hi0 hz0 hz1 hz2 rfl (by decide) (.slice (some ⟨g,0,none⟩) mm cp) mm (l.map Value.string) (by rfl) (HO.out _ (by first|exact bA|exact bA.drew|exact kB.drew.alloc nL _|exact (kB.drew.alloc nL _).drew)) ⟨wr.heap.size,0,none⟩ 1 1 [.string x] (by rfl) (by rfl) (one_cells _ _ _) (one_one _) (by decide) hm1 hm2 (by simp;have:=hbr.size;omega) (wr.heap.size+1) (by simp) ?_;intro gg cq w4 hown4 hgr4 hat4 hlt4;have HR4:=HZ.out _ w4 gg cq (by first|exact bA|exact bA.drew|exact kB.drew.alloc nL _|exact (kB.drew.alloc nL _).drew) hown4 hgr4;refine hK.out _ _ ?_ (fun hHeld=>?_)
     ·(try dsimp only);with_reducible first|exact HR4.out.1|exact HR4.out.2.1
     clear hK K;try simp only [si]
     refine tq 14 rfl ?_;simp only [si];refine wpAnyH_done (by kernel_rfl) ?_ _
     (try go_wp2_with fail)
     go_roundw
     case rel=>exact ⟨i+1,gg,mm+1,cq,l ++ [x],by omega,by go_num,rfl,⟨by rw [List.length_append,HM.out.1];rfl,by omega,fun u hu=>by
      rcases List.mem_append.1 hu with h1|h1
      ·exact HM.out.2 u h1
      rw [List.mem_singleton.1 h1];exact hxs,by first|exact HR4.out.2.2.2|exact HR4.out.2.2.2.below kB.drew⟩,by first|exact HR4.out.2.2.1|exact HR4.out.2.2.1.drew⟩
     simp [intOf];omega
  have hiN:i=n:=by omega
  subst hiN
  have HF:Hid (∀ (W:World) (ia:Option Addr) (u ic:Nat) (l:List ByteArray),Below W0.heap.size W0 W->OwnL W W0.heap.size (.slice ia u ic) l->u=l.length->u<=301->(∀ x ∈ l,x.size<=maxLen)->IdPost p w bs m (.returned (.tuple #[.agg #[.slice a i cap],.slice ia u ic])) (W.setCell ⟨w.heap.size,0,none⟩ (.slice a i cap))):=fun W ia u ic l hW ho hu h301 hx=>by
   refine ⟨a,i,cap,E,ia,u,ic,getL l,q3,rfl,fun W' hk=>?_,hn3,h301,(HD.out.below hW).own nL hp _ _⟩
   have hK:KL (w.heap.size+1) W W':=by
    have h1:KL (w.heap.size+1) W (W.setCell ⟨w.heap.size,0,none⟩ (.slice a i cap)):=(KL.refl _ _).set (Nat.lt_succ_self _) 0 _;exact h1.trans (hk.up (Nat.le_succ _))
   refine ⟨HV0.out W' ((KL.blw hW).trans (hK.up s2)),?_⟩;obtain ⟨a',c',e',hs,_⟩:=(ho.kq hK sR).sl hx;injection e' with e1 e2 e3
   subst e1 e3;rw [hu];exact hs
  have hbs:=hbr.size;have z9:=(hbr.cell (by exact sR)).trans z0;have f9:=(hbr.frozen (by exact sR)).trans f0;have hm1:mm+1<=maxLen:=by unfold maxLen;omega
  have hm2:(mm+1) * 16<=140737488355328:=by omega
  by_cases h15:k % 16=15
  ·have t15:(k:Int) % 16=15:=by omega
   have HO:Hid (wr.ownsRow W0.heap.size 9 1 (.slice (some ⟨g,0,none⟩) mm cp) mm (l.map Value.string)):=by
    have:=HL.out.2.2.2;unfold OwnL at this;rw [<- HL.out.1] at this;exact this
   have HZ:Hid (∀ (w4:World) (gg cq:Nat),w4.ownsRow W0.heap.size 9 1 (.slice (some ⟨gg,0,none⟩) (mm+1) cq) (mm+1) (l.map Value.string ++ [.string tNoI])->(wr.alloc (.cells #[.string tNoI] 9)).grownBy w4 (Value.slice (some ⟨g,0,none⟩) mm cp).ownBlock->Hid (IdPost p w bs m (.returned (.tuple #[.agg #[.slice a i cap],.slice (some ⟨gg,0,none⟩) (mm+1) cq])) (w4.setCell ⟨w.heap.size,0,none⟩ (.slice a i cap))∧w4.cell? ⟨B,0,none⟩=some (.slice a i cap)∧w4.cell? ⟨w.heap.size,0,none⟩=some (.slice none 0 0)∧w4.frozen? ⟨w.heap.size,0,none⟩=false)):=fun w4 gg cq hown hgr=>by
    have hg:W0.heap.size<=g:=(World.ownsRow.lt HO.out g rfl).1;have hX:Below wr.heap.size wr (wr.alloc (.cells #[.string tNoI] 9)):=bA;have hXs:=hX.size;have far:∀ q o,q<W0.heap.size->w4.cell? ⟨q,o,none⟩=wr.cell? ⟨q,o,none⟩:=fun q o hq=>(hgr.cell_far ⟨q,o,none⟩ (by show q<(wr.alloc _).heap.size;omega) (fun e=>absurd (Option.some.inj e) (by show q≠g;omega))).trans (hX.cell (by show q<wr.heap.size;omega))
    have hz:w4.frozen? ⟨w.heap.size,0,none⟩=wr.frozen? ⟨w.heap.size,0,none⟩:=(hgr.frozen_far ⟨w.heap.size,0,none⟩ (by show w.heap.size<(wr.alloc _).heap.size;omega) (fun e=>absurd (Option.some.inj e) (by show w.heap.size≠g;omega))).trans (hX.frozen (by show w.heap.size<wr.heap.size;omega));have hB4:Below W0.heap.size W0 w4:=(hbr.trans (hX.mono hbr.size)).grown hgr (by omega) (fun q hq=>by have:g=q:=Option.some.inj hq;omega);refine ⟨HF.out w4 _ _ _ (l ++ [tNoI]) hB4 ?_ ?_ (by have:=HL.out.2.1;omega) ?_,(far B 0 sB).trans y0,(far _ 0 sR).trans z9,hz.trans f9⟩
    ·rw [HL.out.1] at hown ⊢
     exact OwnL.snoc hown
    ·rw [List.length_append,HL.out.1];rfl
    intro u hu;rcases List.mem_append.1 hu with h1|h1
    ·exact HL.out.2.2.1 u h1
    rw [List.mem_singleton.1 h1];decide
   clear HF HL
   go_wp2_with (at_builtin;refine wpList_append_lies _ rfl _ _ 27 rfl W0.heap.size 9 i0 (.string ByteArray.empty) 1 16 Tryz.underlying27 hi0 hz0 hz1 hz2 rfl (by decide) _ _ _ rfl (World.ownsRow.alloc HO.out _) ⟨wr.heap.size,0,none⟩ 1 1 [.string tNoI] rfl rfl (one_cells _ _ _) (one_one _) (by decide) hm1 hm2 (by simp;have:=hbr.size;omega) (wr.heap.size+1) (by simp) ?_;intro gg cq w4 hown4 hgr4 hat4 hlt4;have HR4:Hid (_):=HZ.out w4 gg cq hown4 hgr4;have b4:=HR4.out.2.1;have z4:=HR4.out.2.2.1;have f4:=HR4.out.2.2.2;clear hown4 hgr4 hat4 HZ HO)
   refine bodyPost_ret (v:=.tuple #[.agg #[.slice a i cap],.slice (some ⟨gg,0,none⟩) (mm+1) cq]) (by simp [results,Tryz.results48,go_sem,z4]) rfl ?_;exact HR4.out.1
  have t15:¬ (k:Int) % 16=15:=by omega
  have HG:Hid (_):=HF.out wr _ _ _ l hbr HL.out.2.2.2 HL.out.1 (by omega) HL.out.2.2.1;clear HF HL;go_wp2
  refine bodyPost_ret (v:=.tuple #[.agg #[.slice a i cap],.slice (some ⟨g,0,none⟩) mm cp]) (by simp [results,Tryz.results48,go_sem,z9]) rfl ?_;exact HG.out
def trn (S:Nat->ByteArray)(m:Nat):Nat->ByteArray:=fun i=>S (m - 1 - i)
section
variable {E:Nat->Ev} {n:Nat} {S:Nat->ByteArray} {m:Nat}
theorem thereTo_all:∀ k,thereTo E n S k=true↔∀ i,i<k->0<=posV E n (S i)
 | 0=>⟨fun _ _ h=>absurd h (Nat.not_lt_zero _),fun _=>rfl⟩
 | k+1=>by
  unfold thereTo;rw [Bool.and_eq_true,thereTo_all k,decide_eq_true_iff];refine ⟨fun h i hi=>?_,fun h=>⟨fun i hi=>h i (by omega),h k (Nat.lt_succ_self _)⟩⟩
  by_cases e:i=k
  ·rw [e];exact h.2
  exact h.1 i (by omega)
theorem there_trn:thereB E n (trn S m) m=thereB E n S m:=by
 unfold thereB
 congr 1
 rw [Bool.eq_iff_iff,thereTo_all,thereTo_all];refine ⟨fun h i hi=>?_,fun h i hi=>h _ (by omega)⟩
 have:=h (m - 1 - i) (by omega);unfold trn at this
 rwa [show m - 1 - (m - 1 - i)=i by omega] at this
theorem hasB_ex (S:Nat->ByteArray)(s:ByteArray):∀ n,hasB S n s=true->∃ i,i<n∧S i=s
 | 0,h=>by cases h
 | n+1,h=>by
  unfold hasB at h;rw [Bool.or_eq_true] at h;rcases h with h|h
  ·obtain ⟨i,hi,e⟩:=hasB_ex S s n h
   exact ⟨i,by omega,e⟩
  exact ⟨n,Nat.lt_succ_self _,ba_of_toList h⟩
theorem hasB_is (S:Nat->ByteArray){n i:Nat}(hi:i<n):hasB S n (S i)=true:=hasB_of S _ n i hi (by simp)
end
variable {a:Option Addr}{n cap:Nat}{S:Nat->ByteArray}
theorem lwH_any (b off n cap:Nat)(S:Nat->ByteArray)(s:ByteArray)(w:World)(hn:n<=maxLen)
  (hc:∀ i,i<n->w.cell? ⟨b,off+i,none⟩=some (.string (S i))) :
  Calls Tryz.prog 16 #[.slice (some ⟨b,off,none⟩) n cap,.string s] w fun e w'=>e=.returned (.bool (hasB S n s))∧w'=w:=by
 unfold maxLen at hn
 go_enter Tryz.func16,Tryz.ntmps16
 go_wp2
 go_loop [5] (fun i=>∃ k:Nat,k<=n∧i=.int .i64 k∧Hid (hasB S k s=false)) (fun i=>n - (intOf i).toNat)
 case atStart=>exact ⟨0,nz,rfl,rfl⟩
 case round =>
  obtain ⟨k,hk,rfl,hall⟩:=hrel
  by_cases hlt:k<n
  ·have hck:=hc k hlt
   go_wp2
   ·go_ret
    exact ⟨ret_bool (hasB_of S s n k hlt (by assumption)).symm,rfl⟩
   go_round
   case rel=>exact ⟨k+1,by omega,by go_num,by unfold Hid hasB;rw [hall.out];simpa using (by assumption:((S k).toList == s.toList)=false)⟩
   simp [intOf];omega
  go_wp2
  go_ret;refine ⟨ret_bool ?_,rfl⟩;rw [show n=k by omega,hall.out]
theorem lwH_zero (a:Option Addr)(cap:Nat)(S:Nat->ByteArray)(s:ByteArray)(w:World) :
  Calls Tryz.prog 16 #[.slice a 0 cap,.string s] w fun e w'=>e=.returned (.bool (hasB S 0 s))∧w'=w:=by
 go_enter Tryz.func16,Tryz.ntmps16
 go_wp2
 refine wp_loop_rounds 1 ?_;rw [rounds_succ];go_wp2
 go_ret;exact ⟨rfl,rfl⟩
theorem lwH_sl (s:ByteArray)(w:World)(h:SlS w a n cap S) :
  Calls Tryz.prog 16 #[.slice a n cap,.string s] w fun e w'=>e=.returned (.bool (hasB S n s))∧w'=w:=by
 rcases h.cells with rfl|⟨b,off,rfl,hb,hc⟩
 ·exact lwH_zero a cap S s w
 exact lwH_any b off n cap S s w (nZ h.le h.max) hc
theorem lwE_zero (a a':Option Addr)(cap cap':Nat)(w:World) :
  Calls Tryz.prog 19 #[.slice a 0 cap,.slice a' 0 cap'] w fun e w'=>e=.returned (.bool true)∧w'=w:=by
 go_enter Tryz.func19,Tryz.ntmps19
 go_wp2
 refine wp_loop_rounds 1 ?_;rw [rounds_succ];go_wp2
 go_ret;exact ⟨rfl,rfl⟩
theorem lwE_any (b off cap b' off' cap' n:Nat)(S:Nat->ByteArray)(w:World)(hn:n<=maxLen)
  (hc:∀ i,i<n->w.cell? ⟨b,off+i,none⟩=some (.string (S i))) (hc':∀ i,i<n->w.cell? ⟨b',off'+i,none⟩=some (.string (S i))) :
  Calls Tryz.prog 19 #[.slice (some ⟨b,off,none⟩) n cap,.slice (some ⟨b',off',none⟩) n cap'] w fun e w'=>e=.returned (.bool true)∧Dr w w':=by
 unfold maxLen at hn
 go_enter Tryz.func19,Tryz.ntmps19
 go_wp2
 go_loopw [5] (fun i wr=>∃ k:Nat,k<=n∧i=.int .i64 k∧Dr w wr) (fun i _=>n - (intOf i).toNat)
 case atStart=>exact ⟨0,nz,rfl,Dr.refl _⟩
 case round =>
  obtain ⟨k,hk,rfl,hdr⟩:=hrel
  by_cases hlt:k<n
  ·have hck:wr.cell? ⟨b,off+k,none⟩=some (.string (S k)):=(hdr.cell _).trans (hc k hlt)
   have hck':wr.cell? ⟨b',off'+k,none⟩=some (.string (S k)):=(hdr.cell _).trans (hc' k hlt)
   go_wp2_with fail
   go_quiet (fail)
   go_wp2
   go_roundw
   case rel=>exact ⟨k+1,by omega,by go_num,hdr.drewN _⟩
   simp [intOf];omega
  go_wp2
  go_ret;exact ⟨rfl,hdr⟩
theorem lwE_sl {a':Option Addr}{cap':Nat}(w:World)(h:SlS w a n cap S)(h':SlS w a' n cap' S) :
  Calls Tryz.prog 19 #[.slice a n cap,.slice a' n cap'] w fun e w'=>e=.returned (.bool true)∧Dr w w':=by
 rcases h.cells with rfl|⟨b,off,rfl,hb,hc⟩
 ·refine (lwE_zero a a' cap cap' w).mono ?_
  rintro e w' ⟨rfl,rfl⟩;exact ⟨rfl,Dr.refl _⟩
 rcases h'.cells with rfl|⟨b',off',rfl,hb',hc'⟩
 ·refine (lwE_zero _ a' cap cap' w).mono ?_
  rintro e w' ⟨rfl,rfl⟩;exact ⟨rfl,Dr.refl _⟩
 exact lwE_any b off cap b' off' cap' n S w (nZ h.le h.max) hc hc'
def TrPost (w:World)(S:Nat->ByteArray)(m:Nat)(e:Ending)(w':World):Prop:=∃ g cp,e=.returned (.slice (some ⟨g,0,none⟩) m cp)∧SlS w' (some ⟨g,0,none⟩) m cp (trn S m)∧Below w.heap.size w w'
def TrRel (m:Nat)(S:Nat->ByteArray)(w:World)(v i:Value)(wr:World):Prop :=
 ∃ (k g mm cp:Nat) (l:List ByteArray),k<=m∧i=.int .i64 ((m:Int) - 1 - (k:Int))∧v=.slice (some ⟨g,0,none⟩) mm cp∧Hid (mm=k∧k=l.length∧(∀ j,j<k->getL l j=S (m - 1 - j))∧OwnL wr w.heap.size (.slice (some ⟨g,0,none⟩) mm cp) l)∧Below w.heap.size w wr
theorem lwT_sl (w:World)(h:SlS w a m cap S)(hm:m<=1000) :
  Calls Tryz.prog 18 #[.slice a m cap] w (TrPost w S m):=by
 obtain ⟨i0,hi0,hz0,hz1,hz2⟩:=info_parts Tryz.infoString;have hbO:Below w.heap.size w (w.alloc (.cells #[] 9)):=bA;have hoO:OwnL (w.alloc (.cells #[] 9)) w.heap.size (.slice (some ⟨w.heap.size,0,none⟩) 0 0) []:=OwnL.new w _ nL;have HI:TrRel m S w (.slice (some ⟨w.heap.size,0,none⟩) 0 0) (.int .i64 ((m:Int) - 1)) (w.alloc (.cells #[] 9)):=⟨0,_,_,_,[],nz,by simp,rfl,⟨rfl,rfl,fun _ hj=>absurd hj (Nat.not_lt_zero _),hoO⟩,hbO⟩;have hsz:=h.size;have HS:Hid (SlS w a m cap S):=h;clear hbO hoO h
 go_enter Tryz.func18,Tryz.ntmps18
 go_wp2_with fail
 go_loopw [3,4] (fun v i wr=>TrRel m S w v i wr) (fun _ i _=>(intOf i+1).toNat)
 case atStart=>exact HI
 case round =>
  clear HI;obtain ⟨k,g,mm,cp,l,hkm,rfl,rfl,HL,hbr⟩:=hrel
  by_cases hlt:k<m
  ·obtain ⟨j,hj⟩:∃ j:Nat,(m:Int) - 1 - (k:Int)=(j:Int):=⟨m - 1 - k,by omega⟩
   have hjn:j<m:=by omega
   rcases HS.out.cells with h0|⟨b,off,rfl,hbl,hce⟩
   ·omega
   have y1:=(hbr.cell (p:=⟨b,off+j,none⟩) (by exact hbl)).trans (hce j hjn);have HX:Hid (S j=S (m - 1 - k)):=by unfold Hid;rw [show j=m - 1 - k by omega]
   have hxs:=hsz j hjn;generalize S j=x at y1 HX hxs;have hmk:mm=k:=HL.out.1;have hm1:mm+1<=maxLen:=by unfold maxLen;omega
   have hm2:(mm+1) * 16<=140737488355328:=by omega
   have j0:(0:Int)<=(j:Int):=by omega
   have j1:(j:Int)<(m:Int):=by omega
   have HO:Hid (wr.ownsRow w.heap.size 9 1 (.slice (some ⟨g,0,none⟩) mm cp) mm (l.map Value.string)):=by
    have:=HL.out.2.2.2;unfold OwnL at this;rw [<- HL.out.2.1,<- HL.out.1] at this;exact this
   have HZ:Hid (∀ (w4:World) (gg cq:Nat),w4.ownsRow w.heap.size 9 1 (.slice (some ⟨gg,0,none⟩) (mm+1) cq) (mm+1) (l.map Value.string ++ [.string x])->(wr.alloc (.cells #[.string x] 9)).grownBy w4 (Value.slice (some ⟨g,0,none⟩) mm cp).ownBlock->TrRel m S w (.slice (some ⟨gg,0,none⟩) (mm+1) cq) (.int .i64 ((m:Int) - 1 - ((k+1:Nat):Int))) w4):=fun w4 gg cq hown hgr=>by
    have hg:w.heap.size<=g:=(World.ownsRow.lt HO.out g rfl).1;have hX:Below wr.heap.size wr (wr.alloc (.cells #[.string x] 9)):=bA;have hXs:=hX.size;have hbs:=hbr.size;refine ⟨k+1,gg,mm+1,cq,l ++ [x],by omega,rfl,rfl,⟨by omega,by rw [List.length_append,<- HL.out.2.1];rfl,fun i hi=>?_,?_⟩,(hbr.trans (hX.mono hbr.size)).grown hgr (by omega) (fun q hq=>by have:g=q:=Option.some.inj hq;omega)⟩
    ·unfold getL
     by_cases e:i=k
     ·rw [List.getD_eq_getElem?_getD,List.getElem?_append_right (by rw [<- HL.out.2.1];omega),<- HL.out.2.1,e,Nat.sub_self,<- HX.out]
      rfl
     rw [List.getD_eq_getElem?_getD,List.getElem?_append_left (by rw [<- HL.out.2.1];omega),<- List.getD_eq_getElem?_getD];exact HL.out.2.2.1 i (by omega)
    have e1:mm=l.length:=HL.out.1.trans HL.out.2.1;rw [e1] at hown ⊢;exact OwnL.snoc hown
   clear HL hce hmk;rw [hj]
   go_wp2_with (at_builtin;refine wpList_append_lies _ rfl _ _ 27 rfl w.heap.size 9 i0 (.string ByteArray.empty) 1 16 Tryz.underlying27 hi0 hz0 hz1 hz2 rfl (by decide) _ _ _ rfl (World.ownsRow.alloc HO.out _) ⟨wr.heap.size,0,none⟩ 1 1 [.string x] rfl rfl (one_cells _ _ _) (one_one _) (by decide) hm1 hm2 (by simp;have:=hbr.size;omega) (wr.heap.size+1) (by simp) ?_;intro gg cq w4 hown4 hgr4 hat4 hlt4;have HR4:=HZ.out w4 gg cq hown4 hgr4;clear hown4 hgr4 hat4 HZ HO)
   go_roundw
   case rel =>
    have e9:(m:Int) - 1 - ((k+1:Nat):Int)=(j:Int) - 1:=by omega
    rw [e9] at HR4;exact HR4
   first|(simp [intOf];done)|(simp [intOf];omega)
  have hk:k=m:=by omega
  subst hk
  have HP:Hid (TrPost w S k (.returned (.slice (some ⟨g,0,none⟩) mm cp)) wr):=by
   have hmk:mm=k:=HL.out.1
   obtain ⟨a',c',e',hs,_⟩:=HL.out.2.2.2.sl (fun u hu=>by
    obtain ⟨i,hi,e⟩:=List.getElem_of_mem hu;rw [<- HL.out.2.1] at hi
    have:=HL.out.2.2.1 i hi;unfold getL at this;rw [List.getD_eq_getElem?_getD,List.getElem?_eq_getElem (by rw [<- HL.out.2.1];exact hi),Option.getD_some,e] at this;rw [this];exact hsz _ (by omega))
   injection e' with e1 e2 e3
   subst e1 e3;rw [hmk];rw [<- HL.out.2.1] at hs;exact ⟨g,cp,rfl,⟨hs.le,hs.max,fun i hi=>by rw [show trn S k i=S (k - 1 - i) from rfl];exact hsz _ (by omega),hs.cells.imp id fun ⟨b,off,e,hlt,hc⟩=>⟨b,off,e,hlt,fun i hi=>by rw [show trn S k i=S (k - 1 - i) from rfl,<- HL.out.2.2.1 i hi];exact hc i hi⟩⟩,hbr⟩
  have z1:¬ (0:Int)<=(k:Int) - 1 - (k:Int):=by omega
  clear HL;go_wp2
  go_ret;exact HP.out
end Go.Proofs.YtkdalopokdhndaaGreat
