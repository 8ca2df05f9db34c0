import Derived.Test.YtnbdlaglnefcbaaGreatDmB
import Derived.Test.YtnbdlaglnefcbaaGreatDiC
namespace Go.Proofs.YtnbdlaglnefcbaaGreat
open Go.RowKit
set_option maxRecDepth 100000 in
set_option maxHeartbeats 1000000 in
theorem dr_start {p:Nat}{w w1:World}{bs:Nat->Nat}{m q:Nat}(hd:DwF p w w1 bs m q)(hs:w.heap.size+1<=w1.heap.size)(c1:w1.cell? ⟨w.heap.size,0,none⟩=some (.slice none 0 0))(d1:w1.frozen? ⟨w.heap.size,0,none⟩=false) :
  DrI p w (((((((((((((w1.alloc (.cells #[] 29)).alloc (.cells #[.slice (some ⟨w1.heap.size,0,none⟩) 0 0] 25)).alloc (.cells #[] 60)).alloc (.cells #[.string ⟨#[36,99,48]⟩] 9)).alloc (.cells #[.string ⟨#[36,99,48]⟩] 9)).alloc (.cells #[.string ⟨#[36,97,49]⟩] 9)).alloc (.cells #[.string ⟨#[36,99,48]⟩,.string ⟨#[36,97,49]⟩] 9)).alloc (.cells #[.string ⟨#[64,97]⟩,.int .i64 100,.string ⟨#[64,98]⟩,.int .i64 50] 54)).alloc (.cells #[.string ⟨#[36,112,50]⟩] 9)).alloc (.cells #[.string ⟨#[36,99,48]⟩,.string ⟨#[36,97,49]⟩,.string ⟨#[36,112,50]⟩] 9)).alloc (.cells #[.string ⟨#[36,106,51]⟩] 9)).alloc (.cells #[.string ⟨#[36,99,48]⟩,.string ⟨#[36,112,50]⟩,.string ⟨#[36,106,51]⟩] 9)).alloc (.cells #[.string ⟨#[36,99,48]⟩,.string ⟨#[64,97]⟩,.string ⟨#[99,114,101,97,116,101]⟩,.bool true,.string ⟨#[]⟩,.int .i64 1,.slice none 0 0,.slice none 0 0,.string ⟨#[]⟩,.slice none 0 0,.string ⟨#[36,97,49]⟩,.string ⟨#[64,97]⟩,.string ⟨#[109,101,109,98,101,114]⟩,.bool true,.string ⟨#[64,97]⟩,.int .i64 2,.slice (some ⟨w1.heap.size+1+1+1,0,none⟩) 1 1,.slice (some ⟨w1.heap.size+1+1+1+1,0,none⟩) 1 1,.string ⟨#[106,111,105,110]⟩,.slice none 0 0,.string ⟨#[36,112,50]⟩,.string ⟨#[64,97]⟩,.string ⟨#[112,111,119,101,114]⟩,.bool true,.string ⟨#[]⟩,.int .i64 3,.slice (some ⟨w1.heap.size+1+1+1+1+1,0,none⟩) 1 1,.slice (some ⟨w1.heap.size+1+1+1+1+1+1,0,none⟩) 2 2,.string ⟨#[]⟩,.slice (some ⟨w1.heap.size+1+1+1+1+1+1+1,0,none⟩) 2 2,.string ⟨#[36,106,51]⟩,.string ⟨#[64,97]⟩,.string ⟨#[106,111,105,110,95,114,117,108,101,115]⟩,.bool true,.string ⟨#[]⟩,.int .i64 4,.slice (some ⟨w1.heap.size+1+1+1+1+1+1+1+1,0,none⟩) 1 1,.slice (some ⟨w1.heap.size+1+1+1+1+1+1+1+1+1,0,none⟩) 3 3,.string ⟨#[112,117,98,108,105,99]⟩,.slice none 0 0,.string ⟨#[36,98,52]⟩,.string ⟨#[64,98]⟩,.string ⟨#[109,101,109,98,101,114]⟩,.bool true,.string ⟨#[64,98]⟩,.int .i64 5,.slice (some ⟨w1.heap.size+1+1+1+1+1+1+1+1+1+1,0,none⟩) 1 1,.slice (some ⟨w1.heap.size+1+1+1+1+1+1+1+1+1+1+1,0,none⟩) 3 3,.string ⟨#[106,111,105,110]⟩,.slice none 0 0] 29)) bs m q 0 (fun _=>fstE 0) 0 (fun _=>[]) (w1.heap.size+1) w1.heap.size w1.heap.size 0 (fun _=>fstT 0 0) (w1.heap.size+1+1) 0 (fun _=>none) (fun _=>0) (w1.heap.size+1+2) (w1.heap.size+1+12) (w1.heap.size+1+1+1+1+1+1+1+1+1+1+1+1) (fstT (w1.heap.size+1+2)):=by
 obtain ⟨W0,hW0⟩:∃ W0:World,W0=(((w1.alloc (.cells #[] 29)).alloc (.cells #[.slice (some ⟨w1.heap.size,0,none⟩) 0 0] 25)).alloc (.cells #[] 60)):=⟨_,rfl⟩
 have hs0:W0.heap.size=w1.heap.size+3:=by rw [hW0];simp
 have hX:(((((((((((((w1.alloc (.cells #[] 29)).alloc (.cells #[.slice (some ⟨w1.heap.size,0,none⟩) 0 0] 25)).alloc (.cells #[] 60)).alloc (.cells #[.string ⟨#[36,99,48]⟩] 9)).alloc (.cells #[.string ⟨#[36,99,48]⟩] 9)).alloc (.cells #[.string ⟨#[36,97,49]⟩] 9)).alloc (.cells #[.string ⟨#[36,99,48]⟩,.string ⟨#[36,97,49]⟩] 9)).alloc (.cells #[.string ⟨#[64,97]⟩,.int .i64 100,.string ⟨#[64,98]⟩,.int .i64 50] 54)).alloc (.cells #[.string ⟨#[36,112,50]⟩] 9)).alloc (.cells #[.string ⟨#[36,99,48]⟩,.string ⟨#[36,97,49]⟩,.string ⟨#[36,112,50]⟩] 9)).alloc (.cells #[.string ⟨#[36,106,51]⟩] 9)).alloc (.cells #[.string ⟨#[36,99,48]⟩,.string ⟨#[36,112,50]⟩,.string ⟨#[36,106,51]⟩] 9)).alloc (.cells #[.string ⟨#[36,99,48]⟩,.string ⟨#[64,97]⟩,.string ⟨#[99,114,101,97,116,101]⟩,.bool true,.string ⟨#[]⟩,.int .i64 1,.slice none 0 0,.slice none 0 0,.string ⟨#[]⟩,.slice none 0 0,.string ⟨#[36,97,49]⟩,.string ⟨#[64,97]⟩,.string ⟨#[109,101,109,98,101,114]⟩,.bool true,.string ⟨#[64,97]⟩,.int .i64 2,.slice (some ⟨w1.heap.size+1+1+1,0,none⟩) 1 1,.slice (some ⟨w1.heap.size+1+1+1+1,0,none⟩) 1 1,.string ⟨#[106,111,105,110]⟩,.slice none 0 0,.string ⟨#[36,112,50]⟩,.string ⟨#[64,97]⟩,.string ⟨#[112,111,119,101,114]⟩,.bool true,.string ⟨#[]⟩,.int .i64 3,.slice (some ⟨w1.heap.size+1+1+1+1+1,0,none⟩) 1 1,.slice (some ⟨w1.heap.size+1+1+1+1+1+1,0,none⟩) 2 2,.string ⟨#[]⟩,.slice (some ⟨w1.heap.size+1+1+1+1+1+1+1,0,none⟩) 2 2,.string ⟨#[36,106,51]⟩,.string ⟨#[64,97]⟩,.string ⟨#[106,111,105,110,95,114,117,108,101,115]⟩,.bool true,.string ⟨#[]⟩,.int .i64 4,.slice (some ⟨w1.heap.size+1+1+1+1+1+1+1+1,0,none⟩) 1 1,.slice (some ⟨w1.heap.size+1+1+1+1+1+1+1+1+1,0,none⟩) 3 3,.string ⟨#[112,117,98,108,105,99]⟩,.slice none 0 0,.string ⟨#[36,98,52]⟩,.string ⟨#[64,98]⟩,.string ⟨#[109,101,109,98,101,114]⟩,.bool true,.string ⟨#[64,98]⟩,.int .i64 5,.slice (some ⟨w1.heap.size+1+1+1+1+1+1+1+1+1+1,0,none⟩) 1 1,.slice (some ⟨w1.heap.size+1+1+1+1+1+1+1+1+1+1+1,0,none⟩) 3 3,.string ⟨#[106,111,105,110]⟩,.slice none 0 0] 29))=fstW W0:=by
  unfold fstW
  rw [hs0,hW0]
 rw [hX]
 have hf:=fst_row W0
 have hsz:=fstW_size W0
 rw [hs0] at hf hsz
 have hbF:Below W0.heap.size W0 (fstW W0):=by
  unfold fstW
  exact ((((((((bA.alloc (by simp <;> omega) _).alloc (by simp <;> omega) _).alloc (by simp <;> omega) _).alloc (by simp <;> omega) _).alloc (by simp <;> omega) _).alloc (by simp <;> omega) _).alloc (by simp <;> omega) _).alloc (by simp <;> omega) _).alloc (by simp <;> omega) _
 have hb1:Below w1.heap.size w1 (w1.alloc (.cells #[] 29)):=bA
 have hb2:Below (w1.heap.size+1) (w1.alloc (.cells #[] 29)) W0:=by
  rw [hW0]
  exact ((Below.refl _ _).alloc (by simp) _).alloc (by simp) _
 have hb3:Below (w1.heap.size+2) ((w1.alloc (.cells #[] 29)).alloc (.cells #[.slice (some ⟨w1.heap.size,0,none⟩) 0 0] 25)) W0:=by
  rw [hW0]
  exact (Below.refl _ _).alloc (by simp) _
 have hall:Below w1.heap.size w1 (fstW W0):=(hb1.trans (hb2.mono (by omega))).trans (hbF.mono (by omega))
 have hroom:RowV QO (fstW W0) w1.heap.size (.slice (some ⟨w1.heap.size,0,none⟩) 0 0) 0 (fun _=>fstE 0) (fun _=>fstT 0 0):=((RowV.new w1 w1.heap.size (Nat.le_refl _) _ _).below qcO (hb2.mono (by simp))).below qcO hbF
 have haft:RowL List.length PE 60 (fstW W0) (w1.heap.size+1+1) (.slice (some ⟨w1.heap.size+1+1,0,none⟩) 0 0) 0 (fun _=>([]:List Ent)) (fun _=>none) (fun _=>0):=by
  have h0:=RowL.new (len:=List.length) (P:=PE) (t:=60) ((w1.alloc (.cells #[] 29)).alloc (.cells #[.slice (some ⟨w1.heap.size,0,none⟩) 0 0] 25)) (w1.heap.size+1+1) (by simp) (fun _=>([]:List Ent)) (fun _=>none) (fun _=>0)
  rw [<- hW0] at h0
  have h1:=h0.below lcE hbF
  simpa using h1
 have hbx:W0.cell? ⟨w1.heap.size+1,0,none⟩=some (.slice (some ⟨w1.heap.size,0,none⟩) 0 0):=by
  rw [hb3.cell (p:=⟨w1.heap.size+1,0,none⟩) (by show w1.heap.size+1<w1.heap.size+2;omega)]
  exact World.cell?_alloc_at _ _ _ _ (by simp)
 have hbz:W0.frozen? ⟨w1.heap.size+1,0,none⟩=false:=by
  rw [hb3.frozen (p:=⟨w1.heap.size+1,0,none⟩) (by show w1.heap.size+1<w1.heap.size+2;omega)]
  exact World.frozen?_alloc_at _ _ _ _ (by simp)
 refine ⟨hd.below hall,⟨_,(hall.cell (p:=⟨w.heap.size,0,none⟩) (by show w.heap.size<_;omega)).trans c1⟩,(hall.frozen (p:=⟨w.heap.size,0,none⟩) (by show w.heap.size<_;omega)).trans d1,(hbF.cell (p:=⟨w1.heap.size+1,0,none⟩) (by show w1.heap.size+1<_;omega)).trans hbx,(hbF.frozen (p:=⟨w1.heap.size+1,0,none⟩) (by show w1.heap.size+1<_;omega)).trans hbz,by omega,by omega,by omega,hroom,haft,fun i hi=>absurd hi (Nat.not_lt_zero _),by omega,hf,⟨by omega,by omega,fst_hi _⟩,by omega⟩
set_option maxRecDepth 100000 in
set_option maxHeartbeats 4000000 in
theorem drawRoom (p:Nat){bs:Nat->Nat}{m q:Nat}(w:World)(h:RdF w p bs m q)(hqm:q<=m) :
  Calls Tryz.prog 12 #[.pointer (some ⟨p,0,none⟩)] w (DmPost p w bs m q):=by
 have hp:=h.lt
 have hk:=h.nx
 obtain ⟨wa,hwa⟩:∃ wa,wa=w.alloc (.cells #[.slice none 0 0] 25):=⟨_,rfl⟩
 have hba:Below w.heap.size w wa:=by rw [hwa];exact bA
 have hsa:wa.heap.size=w.heap.size+1:=by rw [hwa];simp
 have c0:wa.cell? ⟨w.heap.size,0,none⟩=some (.slice none 0 0):=by rw [hwa];exact World.cell?_alloc_at _ _ _ _ rfl
 have d0:wa.frozen? ⟨w.heap.size,0,none⟩=false:=by rw [hwa];exact World.frozen?_alloc_at _ _ _ _ rfl
 go_enter Tryz.func12,Tryz.ntmps12
 go_wp2_with fail
 rw [<- hwa]
 clear hwa
 refine (nextF p wa (h.below hba)).mono ?_
 rintro x w1 ⟨rfl,hd1⟩
 have hdw1:DwF p w w1 bs m (nxQ m q):=DwF.of_below h hba hd1
 have hs1:w.heap.size+1<=w1.heap.size:=by rw [<- hsa];exact hd1.size
 have c1:w1.cell? ⟨w.heap.size,0,none⟩=some (.slice none 0 0):=(World.cell?_of_block (a:=⟨w.heap.size,0,none⟩) (hd1.2.block w.heap.size (by omega) (fun e=>by injection e with e;omega))).trans c0
 have d1:w1.frozen? ⟨w.heap.size,0,none⟩=false:=(World.frozen?_of_block (a:=⟨w.heap.size,0,none⟩) (hd1.2.block w.heap.size (by omega) (fun e=>by injection e with e;omega))).trans d0
 obtain ⟨k,hk0⟩:∃ k,k=nxB bs m q:=⟨_,rfl⟩
 have Hk:Hid (k=nxB bs m q):=hk0
 rw [<- hk0] at hk ⊢
 clear hk0 hd1 hba hsa c0 d0 h
 go_upto_region 5 with fail
 obtain ⟨X,hX⟩:∃ X:World,X=(((((((((((((w1.alloc (.cells #[] 29)).alloc (.cells #[.slice (some ⟨w1.heap.size,0,none⟩) 0 0] 25)).alloc (.cells #[] 60)).alloc (.cells #[.string ⟨#[36,99,48]⟩] 9)).alloc (.cells #[.string ⟨#[36,99,48]⟩] 9)).alloc (.cells #[.string ⟨#[36,97,49]⟩] 9)).alloc (.cells #[.string ⟨#[36,99,48]⟩,.string ⟨#[36,97,49]⟩] 9)).alloc (.cells #[.string ⟨#[64,97]⟩,.int .i64 100,.string ⟨#[64,98]⟩,.int .i64 50] 54)).alloc (.cells #[.string ⟨#[36,112,50]⟩] 9)).alloc (.cells #[.string ⟨#[36,99,48]⟩,.string ⟨#[36,97,49]⟩,.string ⟨#[36,112,50]⟩] 9)).alloc (.cells #[.string ⟨#[36,106,51]⟩] 9)).alloc (.cells #[.string ⟨#[36,99,48]⟩,.string ⟨#[36,112,50]⟩,.string ⟨#[36,106,51]⟩] 9)).alloc (.cells #[.string ⟨#[36,99,48]⟩,.string ⟨#[64,97]⟩,.string ⟨#[99,114,101,97,116,101]⟩,.bool true,.string ⟨#[]⟩,.int .i64 1,.slice none 0 0,.slice none 0 0,.string ⟨#[]⟩,.slice none 0 0,.string ⟨#[36,97,49]⟩,.string ⟨#[64,97]⟩,.string ⟨#[109,101,109,98,101,114]⟩,.bool true,.string ⟨#[64,97]⟩,.int .i64 2,.slice (some ⟨w1.heap.size+1+1+1,0,none⟩) 1 1,.slice (some ⟨w1.heap.size+1+1+1+1,0,none⟩) 1 1,.string ⟨#[106,111,105,110]⟩,.slice none 0 0,.string ⟨#[36,112,50]⟩,.string ⟨#[64,97]⟩,.string ⟨#[112,111,119,101,114]⟩,.bool true,.string ⟨#[]⟩,.int .i64 3,.slice (some ⟨w1.heap.size+1+1+1+1+1,0,none⟩) 1 1,.slice (some ⟨w1.heap.size+1+1+1+1+1+1,0,none⟩) 2 2,.string ⟨#[]⟩,.slice (some ⟨w1.heap.size+1+1+1+1+1+1+1,0,none⟩) 2 2,.string ⟨#[36,106,51]⟩,.string ⟨#[64,97]⟩,.string ⟨#[106,111,105,110,95,114,117,108,101,115]⟩,.bool true,.string ⟨#[]⟩,.int .i64 4,.slice (some ⟨w1.heap.size+1+1+1+1+1+1+1+1,0,none⟩) 1 1,.slice (some ⟨w1.heap.size+1+1+1+1+1+1+1+1+1,0,none⟩) 3 3,.string ⟨#[112,117,98,108,105,99]⟩,.slice none 0 0,.string ⟨#[36,98,52]⟩,.string ⟨#[64,98]⟩,.string ⟨#[109,101,109,98,101,114]⟩,.bool true,.string ⟨#[64,98]⟩,.int .i64 5,.slice (some ⟨w1.heap.size+1+1+1+1+1+1+1+1+1+1,0,none⟩) 1 1,.slice (some ⟨w1.heap.size+1+1+1+1+1+1+1+1+1+1+1,0,none⟩) 3 3,.string ⟨#[106,111,105,110]⟩,.slice none 0 0] 29)):=⟨_,rfl⟩
 rw [<- hX]
 obtain ⟨r5,hr5⟩:∃ r5,r5=w1.heap.size+1:=⟨_,rfl⟩
 rw [<- hr5]
 obtain ⟨fb,hfb⟩:∃ fb,fb=r5+1+1+1+1+1+1+1+1+1+1+1:=⟨_,rfl⟩
 rw [<- hfb]
 have hI0:DrI p w X bs m (nxQ m q) 0 (fun _=>fstE 0) 0 (fun _=>[]) r5 w1.heap.size w1.heap.size 0 (fun _=>fstT 0 0) (r5+1) 0 (fun _=>none) (fun _=>0) (r5+2) (r5+12) fb (fstT (r5+2)):=by
  rw [hX,hr5,hfb,hr5]
  exact dr_start hdw1 hs1 c1 d1
 clear hX hr5 hfb c1 d1 hdw1
 obtain ⟨q1,hq1⟩:∃ q1,q1=nxQ m q:=⟨_,rfl⟩
 have hq1m:q1<=m:=by rw [hq1];unfold nxQ;split <;> omega
 obtain ⟨st,hst⟩:∃ st,st=drS k:=⟨_,rfl⟩
 obtain ⟨mo,hmo⟩:∃ mo,mo=drM k m q1:=⟨_,rfl⟩
 have hst5:=drS_bd k
 have hmo15:=drM_bd k m q1
 rw [<- hst] at hst5
 rw [<- hmo] at hmo15
 have Hfin:Hid (drRun bs m mo st 16 0 ⟨0,fun _=>fstE 0,fun _=>[],q1⟩=drFin bs m q):=by unfold Hid drFin;rw [hmo,hst,Hk.out,hq1]
 rw [<- hq1] at hI0
 have hm1000:m<=1000:=hI0.dw.1.m1
 obtain ⟨b0,hb0⟩:∃ b0,b0=w1.heap.size:=⟨_,rfl⟩
 rw [<- hb0] at hI0
 obtain ⟨rb,hrb⟩:∃ rb,rb=b0:=⟨_,rfl⟩
 have HI0:Hid (DrI p w X bs m q1 0 (fun _=>fstE 0) 0 (fun _=>[]) r5 b0 rb 0 (fun _=>fstT 0 0) (r5+1) 0 (fun _=>none) (fun _=>0) (r5+2) (r5+12) fb (fstT (r5+2))):=by rw [hrb];exact hI0
 have Hst:Hid (st=drS k):=hst
 have Hmo:Hid (mo=drM k m q1):=hmo
 clear hI0 hst hmo hb0 hrb hq1 hs1 hqm
 obtain ⟨cS,hcS⟩:∃ cS,cS=decide (5<1+k % 6∨64<=k):=⟨_,rfl⟩
 have HcS:Hid (cS=decide (5<1+k % 6∨64<=k)):=hcS
 clear hcS
 go_upto_region 6 with fail
 go_cut [44] (fun v wx=>v=.bool cS∧Below X.heap.size X wx)
 case first =>
  have hcS:=HcS.out
  clear HI0 Hfin HcS Hst Hmo
  by_cases h1:5<1+k % 6
  ·have h1i:(5:Int)<1+(k:Int) % 6:=by omega
   have e1:cS=true:=by rw [hcS];exact decide_eq_true (Or.inl h1)
   clear hcS
   go_wp2
   go_meet
   exact ⟨by rw [e1],Below.refl _ _⟩
  ·have h1i:¬ (5:Int)<1+(k:Int) % 6:=by omega
   have h1b:decide ((5:Int)<1+(k:Int) % 6)=false:=decide_eq_false h1i
   by_cases h2:64<=k
   ·have h2i:(64:Int)<=(k:Int):=by omega
    have e1:cS=true:=by rw [hcS];exact decide_eq_true (Or.inr h2)
    clear hcS
    go_wp2
    go_meet
    exact ⟨by rw [e1],Below.refl _ _⟩
   ·have h2i:¬ (64:Int)<=(k:Int):=by omega
    have h2b:decide ((64:Int)<=(k:Int))=false:=decide_eq_false h2i
    have e1:cS=false:=by rw [hcS];exact decide_eq_false (fun h=>h.elim h1 h2)
    clear hcS
    go_wp2
    go_meet
    exact ⟨by rw [e1],Below.refl _ _⟩
 case rest =>
  obtain ⟨rfl,hb2⟩:=hcut
  obtain ⟨w2,hw2⟩:∃ w2:World,w2=wc:=⟨_,rfl⟩
  subst hw2
  have HI2:Hid (DrI p w w2 bs m q1 0 (fun _=>fstE 0) 0 (fun _=>[]) r5 b0 rb 0 (fun _=>fstT 0 0) (r5+1) 0 (fun _=>none) (fun _=>0) (r5+2) (r5+12) fb (fstT (r5+2))):=HI0.out.below hp hb2
  clear HI0 hb2
  go_upto_if 44 with fail
  go_cut [8] (fun v wx=>v=.int .i64 (st:Int)∧Below w2.heap.size w2 wx)
  case first =>
   have hcS:=HcS.out
   have hst:=Hst.out
   unfold drS at hst
   clear HI2 Hfin HcS Hst Hmo
   cases cS
   case true =>
    rw [if_pos (of_decide_eq_true hcS.symm)] at hst
    subst hst
    clear hcS
    go_wp2
    go_meet
    exact ⟨rfl,Below.refl _ _⟩
   case false =>
    rw [if_neg (of_decide_eq_false hcS.symm)] at hst
    have e1:(st:Int)=1+(k:Int) % 6:=by omega
    clear hcS hst
    go_wp2
    go_meet
    exact ⟨by rw [e1],Below.refl _ _⟩
  case rest =>
   obtain ⟨rfl,hb3⟩:=hcut
   obtain ⟨w3,hw3⟩:∃ w3:World,w3=wc:=⟨_,rfl⟩
   subst hw3
   have HI3:Hid (DrI p w w3 bs m q1 0 (fun _=>fstE 0) 0 (fun _=>[]) r5 b0 rb 0 (fun _=>fstT 0 0) (r5+1) 0 (fun _=>none) (fun _=>0) (r5+2) (r5+12) fb (fstT (r5+2))):=HI2.out.below hp hb3
   clear HI2 hb3 HcS
   obtain ⟨mq,hmq⟩:∃ mq,mq=m - q1:=⟨_,rfl⟩
   have hmqi:(m:Int) - (q1:Int)=(mq:Int):=by omega
   have hmq1:mq<=1000:=by omega
   have Hmq:Hid (mq=m - q1):=hmq
   have HL:Hid (Calls Tryz.prog 21 #[.pointer (some ⟨p,0,none⟩)] w3 (fun e w'=>e=.returned (.int .i64 (mq:Int))∧Below w3.heap.size w3 w')):=by
    have:=leftF p w3 HI3.out.dw.1
    rw [hmqi] at this
    exact this
   clear hmq hmqi
   go_wp2_with fail
   refine HL.out.mono ?_
   rintro x w4 ⟨rfl,hb4⟩
   have HI4:Hid (DrI p w w4 bs m q1 0 (fun _=>fstE 0) 0 (fun _=>[]) r5 b0 rb 0 (fun _=>fstT 0 0) (r5+1) 0 (fun _=>none) (fun _=>0) (r5+2) (r5+12) fb (fstT (r5+2))):=HI3.out.below hp hb4
   clear HI3 hb4 HL
   go_upto_if 56 with fail
   go_cut [9] (fun v wx=>v=.int .i64 (mo:Int)∧Below w4.heap.size w4 wx)
   case first =>
    have hmo:=Hmo.out
    unfold drM at hmo
    rw [<- Hst.out,<- Hmq.out] at hmo
    clear HI4 Hfin Hst Hmo
    by_cases h15:15<st+2+k / 6 % 3+mq / 7
    ·rw [if_pos h15] at hmo
     have h15i:(15:Int)<(st:Int)+2+(k:Int) / 6 % 3+(mq:Int) / 7:=by omega
     subst hmo
     go_wp2
     go_meet
     exact ⟨rfl,Below.refl _ _⟩
    ·rw [if_neg h15] at hmo
     have h15i:¬ (15:Int)<(st:Int)+2+(k:Int) / 6 % 3+(mq:Int) / 7:=by omega
     have e1:(mo:Int)=(st:Int)+2+(k:Int) / 6 % 3+(mq:Int) / 7:=by omega
     clear hmo
     go_wp2
     go_meet
     exact ⟨by rw [e1],Below.refl _ _⟩
   case rest =>
    obtain ⟨rfl,hb5⟩:=hcut
    obtain ⟨w5,hw5⟩:∃ w5:World,w5=wc:=⟨_,rfl⟩
    subst hw5
    have HI5:Hid (DrI p w w5 bs m q1 0 (fun _=>fstE 0) 0 (fun _=>[]) r5 b0 rb 0 (fun _=>fstT 0 0) (r5+1) 0 (fun _=>none) (fun _=>0) (r5+2) (r5+12) fb (fstT (r5+2))):=HI4.out.below hp hb5
    clear HI4 hb5 Hst Hmo Hmq
    apply_assumption
    exact drLoop p w w5 hp hst5 hmo15 Hfin HI5
theorem gwK_of {p:Nat}{W:World}{B n rb rc sg sc:Nat}{E:Nat->Ev}{A:Nat->List Ent}{T:Nat->Ls}{Aa:Nat->Option Addr}{Ca:Nat->Nat}{ty:TypeId}(hr0:RowV QO W B (.slice (some ⟨rb,0,none⟩) n rc) n E T)(ha0:RowL List.length PE ty W B (.slice (some ⟨sg,0,none⟩) n sc) n A Aa Ca)(hl:∀ j,j<n->(A j).length=0∨∃ b off,Aa j=some ⟨b,off,none⟩∧B<=b)(hp:p<B):GwK p W rb 0 n rc E sg 0 n A Aa Ca:=fun W' hg=>by
 have hsg:=ha0.at.2.1
 have hk:Kb p W W':=Kb.of hg (fun b hb=>by injection hb with hb;exact hb.symm)
 have hr:=hr0.kb qkO hk hp
 have ha:=ha0.kx hk (fun e=>by have:sg=p:=(by simpa [Value.ownBlock] using e);omega) (fun i hi=>(hl i hi).imp id fun ⟨b,off,e,hb⟩=>⟨b,off,e,by omega⟩)
 exact ⟨(hr.at qkO).2.2.1,fun j hj=>by rw [Nat.zero_add];exact ⟨_,_,_,_,_,_,(hr.at qkO).2.2.2 j hj,(hr.q j hj).j.ok⟩,fun j hj=>⟨ha.at.2.2.2.2 j hj,ha.sl j hj⟩⟩
structure DiZ (w W:World):Prop where
 z0:∃ v,W.cell? ⟨w.heap.size,0,none⟩=some v
 z1:∀ o,o<10->∃ v,W.cell? ⟨w.heap.size+1,o,none⟩=some v
 g0:∀ o,W.frozen? ⟨w.heap.size,o,none⟩=false
 g1:∀ o,W.frozen? ⟨w.heap.size+1,o,none⟩=false
theorem DiZ.kept {w W W':World}(h:DiZ w W)(h0:W'.heap[w.heap.size]?=W.heap[w.heap.size]?)(h1:W'.heap[w.heap.size+1]?=W.heap[w.heap.size+1]?):DiZ w W' :=
 ⟨h.z0.imp fun _ hv=>(World.cell?_of_block (a:=⟨w.heap.size,0,none⟩) h0).trans hv,fun o ho=>(h.z1 o ho).imp fun _ hv=>(World.cell?_of_block (a:=⟨w.heap.size+1,o,none⟩) h1).trans hv,fun o=>(World.frozen?_of_block (a:=⟨w.heap.size,o,none⟩) h0).trans (h.g0 o),fun o=>(World.frozen?_of_block (a:=⟨w.heap.size+1,o,none⟩) h1).trans (h.g1 o)⟩
theorem diG_new {p:Nat}{w w3 w4 w6:World}{bs:Nat->Nat}{m q4 q6 rb rc n:Nat}{E:Nat->Ev}{T:Nat->Ls}{e:Ev}{pa aa ga:Option Addr}{cp ca cg:Nat}{tr te:TypeId}(hz:DiZ w w3)(hb3:Below w.heap.size w w3)(hlp:w.heap.size+1<p)(hp3:p<w3.heap.size)(hd4:DwF p w3 w4 bs m q4)(hR:RowV QO w4 w3.heap.size (.slice (some ⟨rb,0,none⟩) n rc) n E T)
  (hok:EvOk w6 e pa cp aa ca ga cg) (hO:GwO w6 (w4.alloc (.cells #[.slice (some ⟨rb,0,none⟩) n rc] tr)).heap.size e pa cp aa ca ga cg) (hd6:DwF p (w4.alloc (.cells #[.slice (some ⟨rb,0,none⟩) n rc] tr)) w6 bs m q6) :
  DiG p w (w4.alloc (.cells #[.slice (some ⟨rb,0,none⟩) n rc] tr)) (w6.alloc (.cells #[.string e.id,.string e.sd,.string e.ty,.bool e.st,.string e.key,.int .i64 e.tm,.slice pa e.np cp,.slice aa e.na ca,.string e.val,.slice ga e.ng cg] te)) bs m q6 w4.heap.size w6.heap.size rb rc n E e ⟨pa,cp,aa,ca,ga,cg,w4.heap.size+1,w4.heap.size+1,w4.heap.size+1,w6.heap.size⟩:=by
 obtain ⟨wo,hwo⟩:∃ wo,wo=w4.alloc (.cells #[.slice (some ⟨rb,0,none⟩) n rc] tr):=⟨_,rfl⟩
 obtain ⟨W,hW⟩:∃ W,W=w6.alloc (.cells #[.string e.id,.string e.sd,.string e.ty,.bool e.st,.string e.key,.int .i64 e.tm,.slice pa e.np cp,.slice aa e.na ca,.string e.val,.slice ga e.ng cg] te):=⟨_,rfl⟩
 have hbo:Below w4.heap.size w4 wo:=by rw [hwo];exact bA
 have hso:wo.heap.size=w4.heap.size+1:=by rw [hwo];simp
 have hbW:Below w6.heap.size w6 W:=by rw [hW];exact bA
 have hsW:W.heap.size=w6.heap.size+1:=by rw [hW];simp
 have hro:wo.cell? ⟨w4.heap.size,0,none⟩=some (.slice (some ⟨rb,0,none⟩) n rc):=by rw [hwo];exact World.cell?_alloc_at _ _ _ _ rfl
 have hfo:wo.frozen? ⟨w4.heap.size,0,none⟩=false:=by rw [hwo];exact World.frozen?_alloc_at _ _ _ _ rfl
 have hv:∀ o,o<10->W.cell? ⟨w6.heap.size,o,none⟩=some ((#[.string e.id,.string e.sd,.string e.ty,.bool e.st,.string e.key,.int .i64 e.tm,.slice pa e.np cp,.slice aa e.na ca,.string e.val,.slice ga e.ng cg]:Array Value)[o]?.getD undef):=fun o ho=>by
  rw [hW,World.cell?_alloc_at _ _ _ _ rfl]
  match o,ho with
  | 0,_=>rfl
  | 1,_=>rfl
  | 2,_=>rfl
  | 3,_=>rfl
  | 4,_=>rfl
  | 5,_=>rfl
  | 6,_=>rfl
  | 7,_=>rfl
  | 8,_=>rfl
  | 9,_=>rfl
 have hfv:∀ o,W.frozen? ⟨w6.heap.size,o,none⟩=false:=fun o=>by rw [hW];exact World.frozen?_alloc_at _ _ _ _ rfl
 rw [<- hwo] at hO hd6 ⊢
 rw [<- hW]
 clear hwo hW
 have hs4:=hd4.size
 have hs6:=hd6.size
 have k1:∀ b,b<wo.heap.size->b≠p->W.heap[b]?=wo.heap[b]?:=fun b hb hn=>(hbW.block b (by omega)).trans (hd6.2.block b hb (fun e=>by injection e with e;omega))
 have k2:∀ b,b<w4.heap.size->b≠p->W.heap[b]?=w4.heap[b]?:=fun b hb hn=>(k1 b (by omega) hn).trans (hbo.block b hb)
 have k3:∀ b,b<w3.heap.size->b≠p->W.heap[b]?=w3.heap[b]?:=fun b hb hn=>(k2 b (by omega) hn).trans (hd4.2.block b hb (fun e=>by injection e with e;omega))
 have hz2:DiZ w W:=hz.kept (k3 _ (by omega) (by omega)) (k3 _ (by omega) (by omega))
 have hbw4:Below w.heap.size w w4:=⟨hd4.2.os.trans hb3.os,hd4.2.tape.trans hb3.tape,hd4.2.output.trans hb3.output,Nat.le_trans hb3.size hd4.2.size,fun i hi=>(hd4.2.block i (Nat.lt_of_lt_of_le hi hb3.size) (fun e=>by injection e with e;omega)).trans (hb3.block i hi)⟩
 have hbwo:Below w.heap.size w wo:=hbw4.trans (hbo.mono hbw4.size)
 have hbW2:Below w.heap.size w W:=by
  have hbw6:Below w.heap.size w w6:=⟨hd6.2.os.trans hbwo.os,hd6.2.tape.trans hbwo.tape,hd6.2.output.trans hbwo.output,Nat.le_trans hbwo.size hd6.2.size,fun i hi=>(hd6.2.block i (Nat.lt_of_lt_of_le hi hbwo.size) (fun e=>by injection e with e;omega)).trans (hbwo.block i hi)⟩
  exact hbw6.trans (hbW.mono hbw6.size)
 have hrm:RmI (p+1) w4.heap.size W rb rc n E:=(hR.rmI.ki ⟨by omega,fun b _ h2 _=>k2 b h2 (by omega)⟩).wide (by omega) (Nat.le_refl _)
 have hq6:=qo_of (by omega) hO.1 hO.2.1 hO.2.2.1 hO.2.2.2 ⟨hok.hid,hok.hsd,hok.hty,hok.hkey,hok.hval⟩ hok.hp.size hok.ha.size hok.hg.size
 rw [hso] at hq6
 have hq:=qcO.below hq6 hbW
 refine ⟨⟨hz2.z0,hz2.z1,hz2.g0,hz2.g1,(World.cell?_of_block (a:=⟨w4.heap.size,0,none⟩) (k1 w4.heap.size (by omega) (by omega))).trans hro,hv,by omega,by omega,hbW2,hrm.wide (by omega) (by omega),⟨hq.j.ok,hq.j.ip.wide (by show w.heap.size+2<=w4.heap.size+1;omega) (by show w6.heap.size<=_;omega),hq.j.ia.wide (by show w.heap.size+2<=w4.heap.size+1;omega) (by show w6.heap.size<=_;omega),hq.j.ig.wide (by show w.heap.size+2<=w4.heap.size+1;omega) (by show w6.heap.size<=_;omega)⟩⟩,(World.frozen?_of_block (a:=⟨w4.heap.size,0,none⟩) (k1 w4.heap.size (by omega) (by omega))).trans hfo,hfv,hrm,hbwo,hq,by show wo.heap.size<=w4.heap.size+1;omega,Nat.le_refl _,hd6.below hbW,hlp,by omega,by omega,by omega⟩
end Go.Proofs.YtnbdlaglnefcbaaGreat
