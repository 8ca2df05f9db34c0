import Derived.Test.YtkdalopokdhndaaGreatDmBZ
set_option maxHeartbeats 16000000
set_option maxRecDepth 100000
namespace Go.Proofs.YtkdalopokdhndaaGreat
open Go.RowKit
variable {m p q:Nat}{w w1:World}{bs:Nat->Nat}
theorem dr_start (hd:DwF p w w1 bs m q)(hs:w.heap.size+1<=w1.heap.size)(c1:w1.cell? ⟨w.heap.size,0,none⟩=some (.slice none 0 0))(d1:w1.frozen? ⟨w.heap.size,0,none⟩=false) :
  DrI p w (((((((((((((w1.alloc (.cells #[] 30)).alloc (.cells #[.slice (some ⟨w1.heap.size,0,none⟩) 0 0] 25)).alloc (.cells #[] 26)).alloc (.cells #[.string ⟨#[36,99,48]⟩] 9)).alloc (.cells #[.string ⟨#[36,99,48]⟩] 9)).alloc (.cells #[.string ⟨#[36,97,49]⟩] 9)).alloc (.cells #[.string ⟨#[36,99,48]⟩,.string ⟨#[36,97,49]⟩] 9)).alloc (.cells #[.string ⟨#[64,97]⟩,.int .i64 100,.string ⟨#[64,98]⟩,.int .i64 50] 166)).alloc (.cells #[.string ⟨#[36,112,50]⟩] 9)).alloc (.cells #[.string ⟨#[36,99,48]⟩,.string ⟨#[36,97,49]⟩,.string ⟨#[36,112,50]⟩] 9)).alloc (.cells #[.string ⟨#[36,106,51]⟩] 9)).alloc (.cells #[.string ⟨#[36,99,48]⟩,.string ⟨#[36,112,50]⟩,.string ⟨#[36,106,51]⟩] 9)).alloc (.cells #[.string ⟨#[36,99,48]⟩,.string ⟨#[64,97]⟩,.string ⟨#[99,114,101,97,116,101]⟩,.bool true,.string ⟨#[]⟩,.int .i64 1,.slice none 0 0,.slice none 0 0,.string ⟨#[]⟩,.slice none 0 0,.string ⟨#[36,97,49]⟩,.string ⟨#[64,97]⟩,.string ⟨#[109,101,109,98,101,114]⟩,.bool true,.string ⟨#[64,97]⟩,.int .i64 2,.slice (some ⟨w1.heap.size+1+1+1,0,none⟩) 1 1,.slice (some ⟨w1.heap.size+1+1+1+1,0,none⟩) 1 1,.string ⟨#[106,111,105,110]⟩,.slice none 0 0,.string ⟨#[36,112,50]⟩,.string ⟨#[64,97]⟩,.string ⟨#[112,111,119,101,114]⟩,.bool true,.string ⟨#[]⟩,.int .i64 3,.slice (some ⟨w1.heap.size+1+1+1+1+1,0,none⟩) 1 1,.slice (some ⟨w1.heap.size+1+1+1+1+1+1,0,none⟩) 2 2,.string ⟨#[]⟩,.slice (some ⟨w1.heap.size+1+1+1+1+1+1+1,0,none⟩) 2 2,.string ⟨#[36,106,51]⟩,.string ⟨#[64,97]⟩,.string ⟨#[106,111,105,110,95,114,117,108,101,115]⟩,.bool true,.string ⟨#[]⟩,.int .i64 4,.slice (some ⟨w1.heap.size+1+1+1+1+1+1+1+1,0,none⟩) 1 1,.slice (some ⟨w1.heap.size+1+1+1+1+1+1+1+1+1,0,none⟩) 3 3,.string ⟨#[112,117,98,108,105,99]⟩,.slice none 0 0,.string ⟨#[36,98,52]⟩,.string ⟨#[64,98]⟩,.string ⟨#[109,101,109,98,101,114]⟩,.bool true,.string ⟨#[64,98]⟩,.int .i64 5,.slice (some ⟨w1.heap.size+1+1+1+1+1+1+1+1+1+1,0,none⟩) 1 1,.slice (some ⟨w1.heap.size+1+1+1+1+1+1+1+1+1+1+1,0,none⟩) 3 3,.string ⟨#[106,111,105,110]⟩,.slice none 0 0] 30)) bs m q 0 (fun _=>fstE 0) 0 (fun _=>[]) (w1.heap.size+1) w1.heap.size w1.heap.size 0 (fun _=>fstT 0 0) (w1.heap.size+1+1) 0 (fun _=>none) (fun _=>0) (w1.heap.size+1+2) (w1.heap.size+1+12) (w1.heap.size+1+1+1+1+1+1+1+1+1+1+1+1) (fstT (w1.heap.size+1+2)):=by
 obtain ⟨W0,hW0⟩:∃ W0:World,W0=(((w1.alloc (.cells #[] 30)).alloc (.cells #[.slice (some ⟨w1.heap.size,0,none⟩) 0 0] 25)).alloc (.cells #[] 26)):=⟨_,rfl⟩;have hs0:W0.heap.size=w1.heap.size+3:=by rw [hW0];simp
 have hX:(((((((((((((w1.alloc (.cells #[] 30)).alloc (.cells #[.slice (some ⟨w1.heap.size,0,none⟩) 0 0] 25)).alloc (.cells #[] 26)).alloc (.cells #[.string ⟨#[36,99,48]⟩] 9)).alloc (.cells #[.string ⟨#[36,99,48]⟩] 9)).alloc (.cells #[.string ⟨#[36,97,49]⟩] 9)).alloc (.cells #[.string ⟨#[36,99,48]⟩,.string ⟨#[36,97,49]⟩] 9)).alloc (.cells #[.string ⟨#[64,97]⟩,.int .i64 100,.string ⟨#[64,98]⟩,.int .i64 50] 166)).alloc (.cells #[.string ⟨#[36,112,50]⟩] 9)).alloc (.cells #[.string ⟨#[36,99,48]⟩,.string ⟨#[36,97,49]⟩,.string ⟨#[36,112,50]⟩] 9)).alloc (.cells #[.string ⟨#[36,106,51]⟩] 9)).alloc (.cells #[.string ⟨#[36,99,48]⟩,.string ⟨#[36,112,50]⟩,.string ⟨#[36,106,51]⟩] 9)).alloc (.cells #[.string ⟨#[36,99,48]⟩,.string ⟨#[64,97]⟩,.string ⟨#[99,114,101,97,116,101]⟩,.bool true,.string ⟨#[]⟩,.int .i64 1,.slice none 0 0,.slice none 0 0,.string ⟨#[]⟩,.slice none 0 0,.string ⟨#[36,97,49]⟩,.string ⟨#[64,97]⟩,.string ⟨#[109,101,109,98,101,114]⟩,.bool true,.string ⟨#[64,97]⟩,.int .i64 2,.slice (some ⟨w1.heap.size+1+1+1,0,none⟩) 1 1,.slice (some ⟨w1.heap.size+1+1+1+1,0,none⟩) 1 1,.string ⟨#[106,111,105,110]⟩,.slice none 0 0,.string ⟨#[36,112,50]⟩,.string ⟨#[64,97]⟩,.string ⟨#[112,111,119,101,114]⟩,.bool true,.string ⟨#[]⟩,.int .i64 3,.slice (some ⟨w1.heap.size+1+1+1+1+1,0,none⟩) 1 1,.slice (some ⟨w1.heap.size+1+1+1+1+1+1,0,none⟩) 2 2,.string ⟨#[]⟩,.slice (some ⟨w1.heap.size+1+1+1+1+1+1+1,0,none⟩) 2 2,.string ⟨#[36,106,51]⟩,.string ⟨#[64,97]⟩,.string ⟨#[106,111,105,110,95,114,117,108,101,115]⟩,.bool true,.string ⟨#[]⟩,.int .i64 4,.slice (some ⟨w1.heap.size+1+1+1+1+1+1+1+1,0,none⟩) 1 1,.slice (some ⟨w1.heap.size+1+1+1+1+1+1+1+1+1,0,none⟩) 3 3,.string ⟨#[112,117,98,108,105,99]⟩,.slice none 0 0,.string ⟨#[36,98,52]⟩,.string ⟨#[64,98]⟩,.string ⟨#[109,101,109,98,101,114]⟩,.bool true,.string ⟨#[64,98]⟩,.int .i64 5,.slice (some ⟨w1.heap.size+1+1+1+1+1+1+1+1+1+1,0,none⟩) 1 1,.slice (some ⟨w1.heap.size+1+1+1+1+1+1+1+1+1+1+1,0,none⟩) 3 3,.string ⟨#[106,111,105,110]⟩,.slice none 0 0] 30))=fstW W0:=by
  unfold fstW;rw [hs0,hW0]
 rw [hX];have hf:=fst_row W0;have hsz:=fstW_size W0;rw [hs0] at hf hsz
 have hbF:Below W0.heap.size W0 (fstW W0):=by
  unfold fstW;exact ((((((((bA.alloc (by simp <;> omega) _).alloc (by simp <;> omega) _).alloc (by simp <;> omega) _).alloc (by simp <;> omega) _).alloc (by simp <;> omega) _).alloc (by simp <;> omega) _).alloc (by simp <;> omega) _).alloc (by simp <;> omega) _).alloc (by simp <;> omega) _
 have hb1:Below w1.heap.size w1 (w1.alloc (.cells #[] 30)):=bA
 have hb2:Below (w1.heap.size+1) (w1.alloc (.cells #[] 30)) W0:=by
  rw [hW0];exact (kB.alloc (by simp) _).alloc (by simp) _
 have hb3:Below (w1.heap.size+2) ((w1.alloc (.cells #[] 30)).alloc (.cells #[.slice (some ⟨w1.heap.size,0,none⟩) 0 0] 25)) W0:=by
  rw [hW0];exact kB.alloc (by simp) _
 have hall:Below w1.heap.size w1 (fstW W0):=(hb1.trans (hb2.mono (by omega))).trans (hbF.mono (by omega));have hroom:RowV QO (fstW W0) w1.heap.size (.slice (some ⟨w1.heap.size,0,none⟩) 0 0) 0 (fun _=>fstE 0) (fun _=>fstT 0 0):=((RowV.new w1 w1.heap.size nL _ _).below qcO (hb2.mono (by simp))).below qcO hbF
 have haft:RowL List.length PE 26 (fstW W0) (w1.heap.size+1+1) (.slice (some ⟨w1.heap.size+1+1,0,none⟩) 0 0) 0 (fun _=>([]:List Ent)) (fun _=>none) (fun _=>0):=by
  have h0:=RowL.new (len:=List.length) (P:=PE) (t:=26) ((w1.alloc (.cells #[] 30)).alloc (.cells #[.slice (some ⟨w1.heap.size,0,none⟩) 0 0] 25)) (w1.heap.size+1+1) (by simp) (fun _=>([]:List Ent)) (fun _=>none) (fun _=>0);rw [<- hW0] at h0;have h1:=h0.below lcE hbF;simpa using h1
 have hbx:W0.cell? ⟨w1.heap.size+1,0,none⟩=some (.slice (some ⟨w1.heap.size,0,none⟩) 0 0):=by
  rw [hb3.cell (p:=⟨w1.heap.size+1,0,none⟩) (by show w1.heap.size+1<w1.heap.size+2;omega)];exact kA (by simp)
 have hbz:W0.frozen? ⟨w1.heap.size+1,0,none⟩=false:=by
  rw [hb3.frozen (p:=⟨w1.heap.size+1,0,none⟩) (by show w1.heap.size+1<w1.heap.size+2;omega)];exact kF (by simp)
 refine ⟨hd.below hall,⟨_,(hall.cell (p:=⟨w.heap.size,0,none⟩) (by show w.heap.size<_;omega)).trans c1⟩,(hall.frozen (p:=⟨w.heap.size,0,none⟩) (by show w.heap.size<_;omega)).trans d1,(hbF.cell (p:=⟨w1.heap.size+1,0,none⟩) (by show w1.heap.size+1<_;omega)).trans hbx,(hbF.frozen (p:=⟨w1.heap.size+1,0,none⟩) (by show w1.heap.size+1<_;omega)).trans hbz,by omega,by omega,by omega,hroom,haft,fun i hi=>absurd hi (Nat.not_lt_zero _),by omega,hf,⟨by omega,by omega,fst_hi _⟩,by omega⟩
theorem drawRoom (p:Nat)(w:World)(h:RdF w p bs m q)(hqm:q<=m) :
  Calls Tryz.prog 62 #[.pointer (some ⟨p,0,none⟩)] w (DmPost p w bs m q):=by
 have hp:=h.lt;have hk:=h.nx;obtain ⟨wa,hwa⟩:∃ wa,wa=w.alloc (.cells #[.slice none 0 0] 25):=⟨_,rfl⟩;have hba:Below w.heap.size w wa:=by rw [hwa];exact bA
 have hsa:wa.heap.size=w.heap.size+1:=by rw [hwa];simp
 have c0:wa.cell? ⟨w.heap.size,0,none⟩=some (.slice none 0 0):=by rw [hwa];exact kA rfl
 have d0:wa.frozen? ⟨w.heap.size,0,none⟩=false:=by rw [hwa];exact kF rfl
 go_enter Tryz.func62,Tryz.ntmps62
 go_wp2_with fail
 rw [<- hwa];clear hwa;refine (nextF p wa (h.below hba)).mono ?_;rintro x w1 ⟨rfl,hd1⟩;have hdw1:DwF p w w1 bs m (nxQ m q):=DwF.of_below h hba hd1;have hs1:w.heap.size+1<=w1.heap.size:=by rw [<- hsa];exact hd1.size
 have c1:w1.cell? ⟨w.heap.size,0,none⟩=some (.slice none 0 0):=(World.cell?_of_block (a:=⟨w.heap.size,0,none⟩) (hd1.2.block w.heap.size (by omega) (fun e=>by injection e with e;omega))).trans c0;have d1:w1.frozen? ⟨w.heap.size,0,none⟩=false:=(World.frozen?_of_block (a:=⟨w.heap.size,0,none⟩) (hd1.2.block w.heap.size (by omega) (fun e=>by injection e with e;omega))).trans d0;obtain ⟨k,hk0⟩:∃ k,k=nxB bs m q:=⟨_,rfl⟩;have Hk:Hid (k=nxB bs m q):=hk0;rw [<- hk0] at hk ⊢;clear hk0 hd1 hba hsa c0 d0 h
 go_upto_region 5 with fail
 obtain ⟨X,hX⟩:∃ X:World,X=(((((((((((((w1.alloc (.cells #[] 30)).alloc (.cells #[.slice (some ⟨w1.heap.size,0,none⟩) 0 0] 25)).alloc (.cells #[] 26)).alloc (.cells #[.string ⟨#[36,99,48]⟩] 9)).alloc (.cells #[.string ⟨#[36,99,48]⟩] 9)).alloc (.cells #[.string ⟨#[36,97,49]⟩] 9)).alloc (.cells #[.string ⟨#[36,99,48]⟩,.string ⟨#[36,97,49]⟩] 9)).alloc (.cells #[.string ⟨#[64,97]⟩,.int .i64 100,.string ⟨#[64,98]⟩,.int .i64 50] 166)).alloc (.cells #[.string ⟨#[36,112,50]⟩] 9)).alloc (.cells #[.string ⟨#[36,99,48]⟩,.string ⟨#[36,97,49]⟩,.string ⟨#[36,112,50]⟩] 9)).alloc (.cells #[.string ⟨#[36,106,51]⟩] 9)).alloc (.cells #[.string ⟨#[36,99,48]⟩,.string ⟨#[36,112,50]⟩,.string ⟨#[36,106,51]⟩] 9)).alloc (.cells #[.string ⟨#[36,99,48]⟩,.string ⟨#[64,97]⟩,.string ⟨#[99,114,101,97,116,101]⟩,.bool true,.string ⟨#[]⟩,.int .i64 1,.slice none 0 0,.slice none 0 0,.string ⟨#[]⟩,.slice none 0 0,.string ⟨#[36,97,49]⟩,.string ⟨#[64,97]⟩,.string ⟨#[109,101,109,98,101,114]⟩,.bool true,.string ⟨#[64,97]⟩,.int .i64 2,.slice (some ⟨w1.heap.size+1+1+1,0,none⟩) 1 1,.slice (some ⟨w1.heap.size+1+1+1+1,0,none⟩) 1 1,.string ⟨#[106,111,105,110]⟩,.slice none 0 0,.string ⟨#[36,112,50]⟩,.string ⟨#[64,97]⟩,.string ⟨#[112,111,119,101,114]⟩,.bool true,.string ⟨#[]⟩,.int .i64 3,.slice (some ⟨w1.heap.size+1+1+1+1+1,0,none⟩) 1 1,.slice (some ⟨w1.heap.size+1+1+1+1+1+1,0,none⟩) 2 2,.string ⟨#[]⟩,.slice (some ⟨w1.heap.size+1+1+1+1+1+1+1,0,none⟩) 2 2,.string ⟨#[36,106,51]⟩,.string ⟨#[64,97]⟩,.string ⟨#[106,111,105,110,95,114,117,108,101,115]⟩,.bool true,.string ⟨#[]⟩,.int .i64 4,.slice (some ⟨w1.heap.size+1+1+1+1+1+1+1+1,0,none⟩) 1 1,.slice (some ⟨w1.heap.size+1+1+1+1+1+1+1+1+1,0,none⟩) 3 3,.string ⟨#[112,117,98,108,105,99]⟩,.slice none 0 0,.string ⟨#[36,98,52]⟩,.string ⟨#[64,98]⟩,.string ⟨#[109,101,109,98,101,114]⟩,.bool true,.string ⟨#[64,98]⟩,.int .i64 5,.slice (some ⟨w1.heap.size+1+1+1+1+1+1+1+1+1+1,0,none⟩) 1 1,.slice (some ⟨w1.heap.size+1+1+1+1+1+1+1+1+1+1+1,0,none⟩) 3 3,.string ⟨#[106,111,105,110]⟩,.slice none 0 0] 30)):=⟨_,rfl⟩;rw [<- hX];obtain ⟨r5,hr5⟩:∃ r5,r5=w1.heap.size+1:=⟨_,rfl⟩;rw [<- hr5];obtain ⟨fb,hfb⟩:∃ fb,fb=r5+1+1+1+1+1+1+1+1+1+1+1:=⟨_,rfl⟩;rw [<- hfb]
 have hI0:DrI p w X bs m (nxQ m q) 0 (fun _=>fstE 0) 0 (fun _=>[]) r5 w1.heap.size w1.heap.size 0 (fun _=>fstT 0 0) (r5+1) 0 (fun _=>none) (fun _=>0) (r5+2) (r5+12) fb (fstT (r5+2)):=by
  rw [hX,hr5,hfb,hr5];exact dr_start hdw1 hs1 c1 d1
 clear hX hr5 hfb c1 d1 hdw1;obtain ⟨q1,hq1⟩:∃ q1,q1=nxQ m q:=⟨_,rfl⟩;have hq1m:q1<=m:=by rw [hq1];unfold nxQ;split <;> omega
 obtain ⟨st,hst⟩:∃ st,st=drS k:=⟨_,rfl⟩;obtain ⟨mo,hmo⟩:∃ mo,mo=drM k m q1:=⟨_,rfl⟩;have hst5:=drS_bd k;have hmo15:=drM_bd k m q1;rw [<- hst] at hst5;rw [<- hmo] at hmo15;have Hfin:Hid (drRun bs m mo st 16 0 ⟨0,fun _=>fstE 0,fun _=>[],q1⟩=drFin bs m q):=by unfold Hid drFin;rw [hmo,hst,Hk.out,hq1]
 rw [<- hq1] at hI0;have hm1000:m<=1000:=hI0.dw.1.m1;obtain ⟨b0,hb0⟩:∃ b0,b0=w1.heap.size:=⟨_,rfl⟩;rw [<- hb0] at hI0;obtain ⟨rb,hrb⟩:∃ rb,rb=b0:=⟨_,rfl⟩;have HI0:Hid (DrI p w X bs m q1 0 (fun _=>fstE 0) 0 (fun _=>[]) r5 b0 rb 0 (fun _=>fstT 0 0) (r5+1) 0 (fun _=>none) (fun _=>0) (r5+2) (r5+12) fb (fstT (r5+2))):=by rw [hrb];exact hI0
 have Hst:Hid (st=drS k):=hst;have Hmo:Hid (mo=drM k m q1):=hmo;clear hI0 hst hmo hb0 hrb hq1 hs1 hqm;obtain ⟨cS,hcS⟩:∃ cS,cS=decide (5<1+k % 6∨64<=k):=⟨_,rfl⟩;have HcS:Hid (cS=decide (5<1+k % 6∨64<=k)):=hcS;clear hcS
 go_upto_region 6 with fail
 go_cut [44] (fun v wx=>v=.bool cS∧Below X.heap.size X wx)
 case first =>
  have hcS:=HcS.out;clear HI0 Hfin HcS Hst Hmo
  by_cases h1:5<1+k % 6
  ·have h1i:(5:Int)<1+(k:Int) % 6:=by omega
   have e1:cS=true:=by rw [hcS];exact decide_eq_true (Or.inl h1)
   clear hcS;go_wp2
   go_meet;exact ⟨by rw [e1],kB⟩
  have h1i:¬ (5:Int)<1+(k:Int) % 6:=by omega
  have h1b:decide ((5:Int)<1+(k:Int) % 6)=false:=decide_eq_false h1i
  by_cases h2:64<=k
  ·have h2i:(64:Int)<=(k:Int):=by omega
   have e1:cS=true:=by rw [hcS];exact decide_eq_true (Or.inr h2)
   clear hcS;go_wp2
   go_meet;exact ⟨by rw [e1],kB⟩
  have h2i:¬ (64:Int)<=(k:Int):=by omega
  have h2b:decide ((64:Int)<=(k:Int))=false:=decide_eq_false h2i;have e1:cS=false:=by rw [hcS];exact decide_eq_false (fun h=>h.elim h1 h2)
  clear hcS;go_wp2
  go_meet;exact ⟨by rw [e1],kB⟩
 case rest =>
  obtain ⟨rfl,hb2⟩:=hcut;obtain ⟨w2,hw2⟩:∃ w2:World,w2=wc:=⟨_,rfl⟩;subst hw2;have HI2:Hid (DrI p w w2 bs m q1 0 (fun _=>fstE 0) 0 (fun _=>[]) r5 b0 rb 0 (fun _=>fstT 0 0) (r5+1) 0 (fun _=>none) (fun _=>0) (r5+2) (r5+12) fb (fstT (r5+2))):=HI0.out.below hp hb2;clear HI0 hb2
  go_upto_if 44 with fail
  go_cut [8] (fun v wx=>v=.int .i64 (st:Int)∧Below w2.heap.size w2 wx)
  case first =>
   have hcS:=HcS.out;have hst:=Hst.out;unfold drS at hst;clear HI2 Hfin HcS Hst Hmo;cases cS
   case true =>
    rw [if_pos (of_decide_eq_true hcS.symm)] at hst;subst hst;clear hcS;go_wp2
    go_meet;exact ⟨rfl,kB⟩
   case false =>
    rw [if_neg (of_decide_eq_false hcS.symm)] at hst;have e1:(st:Int)=1+(k:Int) % 6:=by omega
    clear hcS hst;go_wp2
    go_meet;exact ⟨by rw [e1],kB⟩
  case rest =>
   obtain ⟨rfl,hb3⟩:=hcut;obtain ⟨w3,hw3⟩:∃ w3:World,w3=wc:=⟨_,rfl⟩;subst hw3;have HI3:Hid (DrI p w w3 bs m q1 0 (fun _=>fstE 0) 0 (fun _=>[]) r5 b0 rb 0 (fun _=>fstT 0 0) (r5+1) 0 (fun _=>none) (fun _=>0) (r5+2) (r5+12) fb (fstT (r5+2))):=HI2.out.below hp hb3;clear HI2 hb3 HcS;obtain ⟨mq,hmq⟩:∃ mq,mq=m - q1:=⟨_,rfl⟩;have hmqi:(m:Int) - (q1:Int)=(mq:Int):=by omega
   have hmq1:mq<=1000:=by omega
   have Hmq:Hid (mq=m - q1):=hmq
   have HL:Hid (Calls Tryz.prog 120 #[.pointer (some ⟨p,0,none⟩)] w3 (fun e w'=>e=.returned (.int .i64 (mq:Int))∧Below w3.heap.size w3 w')):=by
    have:=leftF p w3 HI3.out.dw.1;rw [hmqi] at this;exact this
   clear hmq hmqi
   go_wp2_with fail
   refine HL.out.mono ?_;rintro x w4 ⟨rfl,hb4⟩;have HI4:Hid (DrI p w w4 bs m q1 0 (fun _=>fstE 0) 0 (fun _=>[]) r5 b0 rb 0 (fun _=>fstT 0 0) (r5+1) 0 (fun _=>none) (fun _=>0) (r5+2) (r5+12) fb (fstT (r5+2))):=HI3.out.below hp hb4;clear HI3 hb4 HL
   go_upto_if 56 with fail
   go_cut [9] (fun v wx=>v=.int .i64 (mo:Int)∧Below w4.heap.size w4 wx)
   case first =>
    have hmo:=Hmo.out;unfold drM at hmo;rw [<- Hst.out,<- Hmq.out] at hmo;clear HI4 Hfin Hst Hmo
    by_cases h15:15<st+2+k / 6 % 3+mq / 7
    ·rw [if_pos h15] at hmo
     have h15i:(15:Int)<(st:Int)+2+(k:Int) / 6 % 3+(mq:Int) / 7:=by omega
     subst hmo;go_wp2
     go_meet;exact ⟨rfl,kB⟩
    rw [if_neg h15] at hmo;have h15i:¬ (15:Int)<(st:Int)+2+(k:Int) / 6 % 3+(mq:Int) / 7:=by omega
    have e1:(mo:Int)=(st:Int)+2+(k:Int) / 6 % 3+(mq:Int) / 7:=by omega
    clear hmo;go_wp2
    go_meet;exact ⟨by rw [e1],kB⟩
   case rest =>
    obtain ⟨rfl,hb5⟩:=hcut;obtain ⟨w5,hw5⟩:∃ w5:World,w5=wc:=⟨_,rfl⟩;subst hw5;have HI5:Hid (DrI p w w5 bs m q1 0 (fun _=>fstE 0) 0 (fun _=>[]) r5 b0 rb 0 (fun _=>fstT 0 0) (r5+1) 0 (fun _=>none) (fun _=>0) (r5+2) (r5+12) fb (fstT (r5+2))):=HI4.out.below hp hb5;clear HI4 hb5 Hst Hmo Hmq
    apply_assumption
    exact drLoop p w w5 hp hst5 hmo15 Hfin HI5
end Go.Proofs.YtkdalopokdhndaaGreat
