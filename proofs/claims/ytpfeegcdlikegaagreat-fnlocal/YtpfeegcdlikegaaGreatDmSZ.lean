import Derived.Test.YtpfeegcdlikegaaGreatDmFZ
set_option maxHeartbeats 16000000
set_option maxRecDepth 100000
namespace Go.Proofs.YtpfeegcdlikegaaGreat
open Go.RowKit Go.Proofs.Tryz
variable {m p q:Nat}{w w1:World}{bs:Nat->Nat}
theorem PW (hd:bR p w w1 bs m q)(hs:w.heap.size+1<=w1.heap.size)(c1:w1.cell? ⟨w.heap.size,0,none⟩=some (.slice none 0 0))(d1:w1.frozen? ⟨w.heap.size,0,none⟩=false) :
  lF p w (((((((((((((w1.alloc (.cells #[] 30)).alloc (.cells #[.slice (some ⟨w1.heap.size,0,none⟩) 0 0] 25)).alloc (.cells #[] 26)).alloc (.cells #[.string ⟨#[36,99,48]⟩] 9)).alloc (.cells #[.string ⟨#[36,99,48]⟩] 9)).alloc (.cells #[.string ⟨#[36,97,49]⟩] 9)).alloc (.cells #[.string ⟨#[36,99,48]⟩,.string ⟨#[36,97,49]⟩] 9)).alloc (.cells #[.string ⟨#[64,97]⟩,.int .i64 100,.string ⟨#[64,98]⟩,.int .i64 50] 127)).alloc (.cells #[.string ⟨#[36,112,50]⟩] 9)).alloc (.cells #[.string ⟨#[36,99,48]⟩,.string ⟨#[36,97,49]⟩,.string ⟨#[36,112,50]⟩] 9)).alloc (.cells #[.string ⟨#[36,106,51]⟩] 9)).alloc (.cells #[.string ⟨#[36,99,48]⟩,.string ⟨#[36,112,50]⟩,.string ⟨#[36,106,51]⟩] 9)).alloc (.cells #[.string ⟨#[36,99,48]⟩,.string ⟨#[64,97]⟩,.string ⟨#[99,114,101,97,116,101]⟩,.bool true,.string ⟨#[]⟩,.int .i64 1,.slice none 0 0,.slice none 0 0,.string ⟨#[]⟩,.slice none 0 0,.string ⟨#[36,97,49]⟩,.string ⟨#[64,97]⟩,.string ⟨#[109,101,109,98,101,114]⟩,.bool true,.string ⟨#[64,97]⟩,.int .i64 2,.slice (some ⟨w1.heap.size+1+1+1,0,none⟩) 1 1,.slice (some ⟨w1.heap.size+1+1+1+1,0,none⟩) 1 1,.string ⟨#[106,111,105,110]⟩,.slice none 0 0,.string ⟨#[36,112,50]⟩,.string ⟨#[64,97]⟩,.string ⟨#[112,111,119,101,114]⟩,.bool true,.string ⟨#[]⟩,.int .i64 3,.slice (some ⟨w1.heap.size+1+1+1+1+1,0,none⟩) 1 1,.slice (some ⟨w1.heap.size+1+1+1+1+1+1,0,none⟩) 2 2,.string ⟨#[]⟩,.slice (some ⟨w1.heap.size+1+1+1+1+1+1+1,0,none⟩) 2 2,.string ⟨#[36,106,51]⟩,.string ⟨#[64,97]⟩,.string ⟨#[106,111,105,110,95,114,117,108,101,115]⟩,.bool true,.string ⟨#[]⟩,.int .i64 4,.slice (some ⟨w1.heap.size+1+1+1+1+1+1+1+1,0,none⟩) 1 1,.slice (some ⟨w1.heap.size+1+1+1+1+1+1+1+1+1,0,none⟩) 3 3,.string ⟨#[112,117,98,108,105,99]⟩,.slice none 0 0,.string ⟨#[36,98,52]⟩,.string ⟨#[64,98]⟩,.string ⟨#[109,101,109,98,101,114]⟩,.bool true,.string ⟨#[64,98]⟩,.int .i64 5,.slice (some ⟨w1.heap.size+1+1+1+1+1+1+1+1+1+1,0,none⟩) 1 1,.slice (some ⟨w1.heap.size+1+1+1+1+1+1+1+1+1+1+1,0,none⟩) 3 3,.string ⟨#[106,111,105,110]⟩,.slice none 0 0] 30)) bs m q 0 (fun _=>gJ 0) 0 (fun _=>[]) (w1.heap.size+1) w1.heap.size w1.heap.size 0 (fun _=>fC 0 0) (w1.heap.size+1+1) 0 (fun _=>none) (fun _=>0) (w1.heap.size+1+2) (w1.heap.size+1+12) (w1.heap.size+1+1+1+1+1+1+1+1+1+1+1+1) (fC (w1.heap.size+1+2)):=by
 obtain ⟨u,G⟩:∃ u:World,u=(((w1.alloc (.cells #[] 30)).alloc (.cells #[.slice (some ⟨w1.heap.size,0,none⟩) 0 0] 25)).alloc (.cells #[] 26)):=⟨_,rfl⟩;have Y:u.heap.size=w1.heap.size+3:=by rw [G];simp
 have hX:(((((((((((((w1.alloc (.cells #[] 30)).alloc (.cells #[.slice (some ⟨w1.heap.size,0,none⟩) 0 0] 25)).alloc (.cells #[] 26)).alloc (.cells #[.string ⟨#[36,99,48]⟩] 9)).alloc (.cells #[.string ⟨#[36,99,48]⟩] 9)).alloc (.cells #[.string ⟨#[36,97,49]⟩] 9)).alloc (.cells #[.string ⟨#[36,99,48]⟩,.string ⟨#[36,97,49]⟩] 9)).alloc (.cells #[.string ⟨#[64,97]⟩,.int .i64 100,.string ⟨#[64,98]⟩,.int .i64 50] 127)).alloc (.cells #[.string ⟨#[36,112,50]⟩] 9)).alloc (.cells #[.string ⟨#[36,99,48]⟩,.string ⟨#[36,97,49]⟩,.string ⟨#[36,112,50]⟩] 9)).alloc (.cells #[.string ⟨#[36,106,51]⟩] 9)).alloc (.cells #[.string ⟨#[36,99,48]⟩,.string ⟨#[36,112,50]⟩,.string ⟨#[36,106,51]⟩] 9)).alloc (.cells #[.string ⟨#[36,99,48]⟩,.string ⟨#[64,97]⟩,.string ⟨#[99,114,101,97,116,101]⟩,.bool true,.string ⟨#[]⟩,.int .i64 1,.slice none 0 0,.slice none 0 0,.string ⟨#[]⟩,.slice none 0 0,.string ⟨#[36,97,49]⟩,.string ⟨#[64,97]⟩,.string ⟨#[109,101,109,98,101,114]⟩,.bool true,.string ⟨#[64,97]⟩,.int .i64 2,.slice (some ⟨w1.heap.size+1+1+1,0,none⟩) 1 1,.slice (some ⟨w1.heap.size+1+1+1+1,0,none⟩) 1 1,.string ⟨#[106,111,105,110]⟩,.slice none 0 0,.string ⟨#[36,112,50]⟩,.string ⟨#[64,97]⟩,.string ⟨#[112,111,119,101,114]⟩,.bool true,.string ⟨#[]⟩,.int .i64 3,.slice (some ⟨w1.heap.size+1+1+1+1+1,0,none⟩) 1 1,.slice (some ⟨w1.heap.size+1+1+1+1+1+1,0,none⟩) 2 2,.string ⟨#[]⟩,.slice (some ⟨w1.heap.size+1+1+1+1+1+1+1,0,none⟩) 2 2,.string ⟨#[36,106,51]⟩,.string ⟨#[64,97]⟩,.string ⟨#[106,111,105,110,95,114,117,108,101,115]⟩,.bool true,.string ⟨#[]⟩,.int .i64 4,.slice (some ⟨w1.heap.size+1+1+1+1+1+1+1+1,0,none⟩) 1 1,.slice (some ⟨w1.heap.size+1+1+1+1+1+1+1+1+1,0,none⟩) 3 3,.string ⟨#[112,117,98,108,105,99]⟩,.slice none 0 0,.string ⟨#[36,98,52]⟩,.string ⟨#[64,98]⟩,.string ⟨#[109,101,109,98,101,114]⟩,.bool true,.string ⟨#[64,98]⟩,.int .i64 5,.slice (some ⟨w1.heap.size+1+1+1+1+1+1+1+1+1+1,0,none⟩) 1 1,.slice (some ⟨w1.heap.size+1+1+1+1+1+1+1+1+1+1+1,0,none⟩) 3 3,.string ⟨#[106,111,105,110]⟩,.slice none 0 0] 30))=fD u:=by
  unfold fD;rw [Y,G]
 rw [hX];have hf:=RK u;have Z:=wD u;rw [Y] at hf Z
 have I:Below u.heap.size u (fD u):=by
  unfold fD;exact ((((((((bA.alloc (by simp <;> omega) _).alloc (by simp <;> omega) _).alloc (by simp <;> omega) _).alloc (by simp <;> omega) _).alloc (by simp <;> omega) _).alloc (by simp <;> omega) _).alloc (by simp <;> omega) _).alloc (by simp <;> omega) _).alloc (by simp <;> omega) _
 have ae:Below w1.heap.size w1 (w1.alloc (.cells #[] 30)):=bA
 have U:Below (w1.heap.size+1) (w1.alloc (.cells #[] 30)) u:=by
  rw [G];exact (kB.alloc (by simp) _).alloc (by simp) _
 have O:Below (w1.heap.size+2) ((w1.alloc (.cells #[] 30)).alloc (.cells #[.slice (some ⟨w1.heap.size,0,none⟩) 0 0] 25)) u:=by
  rw [G];exact kB.alloc (by simp) _
 have H:Below w1.heap.size w1 (fD u):=(ae.trans (U.mono (by omega))).trans (I.mono (by omega));have J:bY QO (fD u) w1.heap.size (.slice (some ⟨w1.heap.size,0,none⟩) 0 0) 0 (fun _=>gJ 0) (fun _=>fC 0 0):=((bY.new w1 w1.heap.size nL _ _).below LK (U.mono (by simp))).below LK I
 have N:dQ List.length PE 26 (fD u) (w1.heap.size+1+1) (.slice (some ⟨w1.heap.size+1+1,0,none⟩) 0 0) 0 (fun _=>([]:List aE)) (fun _=>none) (fun _=>0):=by
  have h0:=dQ.new (len:=List.length) (P:=PE) (t:=26) ((w1.alloc (.cells #[] 30)).alloc (.cells #[.slice (some ⟨w1.heap.size,0,none⟩) 0 0] 25)) (w1.heap.size+1+1) (by simp) (fun _=>([]:List aE)) (fun _=>none) (fun _=>0);rw [<- G] at h0;have h1:=h0.below VG I;simpa using h1
 have ab:u.cell? ⟨w1.heap.size+1,0,none⟩=some (.slice (some ⟨w1.heap.size,0,none⟩) 0 0):=by
  rw [O.cell (p:=⟨w1.heap.size+1,0,none⟩) (by show w1.heap.size+1<w1.heap.size+2;omega)];exact kA (by simp)
 have ad:u.frozen? ⟨w1.heap.size+1,0,none⟩=false:=by
  rw [O.frozen (p:=⟨w1.heap.size+1,0,none⟩) (by show w1.heap.size+1<w1.heap.size+2;omega)];exact kF (by simp)
 refine ⟨hd.below H,⟨_,(H.cell (p:=⟨w.heap.size,0,none⟩) (by show w.heap.size<_;omega)).trans c1⟩,(H.frozen (p:=⟨w.heap.size,0,none⟩) (by show w.heap.size<_;omega)).trans d1,(I.cell (p:=⟨w1.heap.size+1,0,none⟩) (by show w1.heap.size+1<_;omega)).trans ab,(I.frozen (p:=⟨w1.heap.size+1,0,none⟩) (by show w1.heap.size+1<_;omega)).trans ad,by omega,by omega,by omega,J,N,fun i hi=>absurd hi (Nat.not_lt_zero _),by omega,hf,⟨by omega,by omega,VP _⟩,by omega⟩
theorem QD (p:Nat)(w:World)(h:nI w p bs m q)(br:q<=m) :
  Calls prog 35 #[.pointer (some ⟨p,0,none⟩)] w (tR p w bs m q):=by
 have hp:=h.lt;have hk:=h.nx;obtain ⟨wa,N⟩:∃ wa,wa=w.alloc (.cells #[.slice none 0 0] 25):=⟨_,rfl⟩;have an:Below w.heap.size w wa:=by rw [N];exact bA
 have a3:wa.heap.size=w.heap.size+1:=by rw [N];simp
 have c0:wa.cell? ⟨w.heap.size,0,none⟩=some (.slice none 0 0):=by rw [N];exact kA rfl
 have d0:wa.frozen? ⟨w.heap.size,0,none⟩=false:=by rw [N];exact kF rfl
 go_enter func35,ntmps35
 go_wp2_with fail
 rw [<- N];clear N;refine (iC p wa (h.below an)).mono ?_;rintro x w1 ⟨rfl,U⟩;have ai:bR p w w1 bs m (aN m q):=bR.of_below h an U;have bg:w.heap.size+1<=w1.heap.size:=by rw [<- a3];exact U.size
 have c1:w1.cell? ⟨w.heap.size,0,none⟩=some (.slice none 0 0):=(World.cell?_of_block (a:=⟨w.heap.size,0,none⟩) (U.2.block w.heap.size (by omega) (fun e=>by injection e with e;omega))).trans c0;have d1:w1.frozen? ⟨w.heap.size,0,none⟩=false:=(World.frozen?_of_block (a:=⟨w.heap.size,0,none⟩) (U.2.block w.heap.size (by omega) (fun e=>by injection e with e;omega))).trans d0;obtain ⟨k,ao⟩:∃ k,k=eD bs m q:=⟨_,rfl⟩;have Hk:He (k=eD bs m q):=ao;rw [<- ao] at hk ⊢;clear ao U an a3 c0 d0 h
 go_upto_region 5 with fail
 obtain ⟨X,hX⟩:∃ X:World,X=(((((((((((((w1.alloc (.cells #[] 30)).alloc (.cells #[.slice (some ⟨w1.heap.size,0,none⟩) 0 0] 25)).alloc (.cells #[] 26)).alloc (.cells #[.string ⟨#[36,99,48]⟩] 9)).alloc (.cells #[.string ⟨#[36,99,48]⟩] 9)).alloc (.cells #[.string ⟨#[36,97,49]⟩] 9)).alloc (.cells #[.string ⟨#[36,99,48]⟩,.string ⟨#[36,97,49]⟩] 9)).alloc (.cells #[.string ⟨#[64,97]⟩,.int .i64 100,.string ⟨#[64,98]⟩,.int .i64 50] 127)).alloc (.cells #[.string ⟨#[36,112,50]⟩] 9)).alloc (.cells #[.string ⟨#[36,99,48]⟩,.string ⟨#[36,97,49]⟩,.string ⟨#[36,112,50]⟩] 9)).alloc (.cells #[.string ⟨#[36,106,51]⟩] 9)).alloc (.cells #[.string ⟨#[36,99,48]⟩,.string ⟨#[36,112,50]⟩,.string ⟨#[36,106,51]⟩] 9)).alloc (.cells #[.string ⟨#[36,99,48]⟩,.string ⟨#[64,97]⟩,.string ⟨#[99,114,101,97,116,101]⟩,.bool true,.string ⟨#[]⟩,.int .i64 1,.slice none 0 0,.slice none 0 0,.string ⟨#[]⟩,.slice none 0 0,.string ⟨#[36,97,49]⟩,.string ⟨#[64,97]⟩,.string ⟨#[109,101,109,98,101,114]⟩,.bool true,.string ⟨#[64,97]⟩,.int .i64 2,.slice (some ⟨w1.heap.size+1+1+1,0,none⟩) 1 1,.slice (some ⟨w1.heap.size+1+1+1+1,0,none⟩) 1 1,.string ⟨#[106,111,105,110]⟩,.slice none 0 0,.string ⟨#[36,112,50]⟩,.string ⟨#[64,97]⟩,.string ⟨#[112,111,119,101,114]⟩,.bool true,.string ⟨#[]⟩,.int .i64 3,.slice (some ⟨w1.heap.size+1+1+1+1+1,0,none⟩) 1 1,.slice (some ⟨w1.heap.size+1+1+1+1+1+1,0,none⟩) 2 2,.string ⟨#[]⟩,.slice (some ⟨w1.heap.size+1+1+1+1+1+1+1,0,none⟩) 2 2,.string ⟨#[36,106,51]⟩,.string ⟨#[64,97]⟩,.string ⟨#[106,111,105,110,95,114,117,108,101,115]⟩,.bool true,.string ⟨#[]⟩,.int .i64 4,.slice (some ⟨w1.heap.size+1+1+1+1+1+1+1+1,0,none⟩) 1 1,.slice (some ⟨w1.heap.size+1+1+1+1+1+1+1+1+1,0,none⟩) 3 3,.string ⟨#[112,117,98,108,105,99]⟩,.slice none 0 0,.string ⟨#[36,98,52]⟩,.string ⟨#[64,98]⟩,.string ⟨#[109,101,109,98,101,114]⟩,.bool true,.string ⟨#[64,98]⟩,.int .i64 5,.slice (some ⟨w1.heap.size+1+1+1+1+1+1+1+1+1+1,0,none⟩) 1 1,.slice (some ⟨w1.heap.size+1+1+1+1+1+1+1+1+1+1+1,0,none⟩) 3 3,.string ⟨#[106,111,105,110]⟩,.slice none 0 0] 30)):=⟨_,rfl⟩;rw [<- hX];obtain ⟨r5,ag⟩:∃ r5,r5=w1.heap.size+1:=⟨_,rfl⟩;rw [<- ag];obtain ⟨fb,au⟩:∃ fb,fb=r5+1+1+1+1+1+1+1+1+1+1+1:=⟨_,rfl⟩;rw [<- au]
 have ab:lF p w X bs m (aN m q) 0 (fun _=>gJ 0) 0 (fun _=>[]) r5 w1.heap.size w1.heap.size 0 (fun _=>fC 0 0) (r5+1) 0 (fun _=>none) (fun _=>0) (r5+2) (r5+12) fb (fC (r5+2)):=by
  rw [hX,ag,au,ag];exact PW ai bg c1 d1
 clear hX ag au c1 d1 ai;obtain ⟨q1,ae⟩:∃ q1,q1=aN m q:=⟨_,rfl⟩;have bz:q1<=m:=by rw [ae];unfold aN;split <;> omega
 obtain ⟨st,H⟩:∃ st,st=TJ k:=⟨_,rfl⟩;obtain ⟨mo,G⟩:∃ mo,mo=WT k m q1:=⟨_,rfl⟩;have aj:=PS k;have O:=XN k m q1;rw [<- H] at aj;rw [<- G] at O;have I:He (lQ bs m mo st 16 0 ⟨0,fun _=>gJ 0,fun _=>[],q1⟩=fU bs m q):=by unfold He fU;rw [G,H,Hk.o,ae]
 rw [<- ae] at ab;have bn:m<=1000:=ab.dw.1.m1;obtain ⟨b0,bk⟩:∃ b0,b0=w1.heap.size:=⟨_,rfl⟩;rw [<- bk] at ab;obtain ⟨rb,ba⟩:∃ rb,rb=b0:=⟨_,rfl⟩;have ax:He (lF p w X bs m q1 0 (fun _=>gJ 0) 0 (fun _=>[]) r5 b0 rb 0 (fun _=>fC 0 0) (r5+1) 0 (fun _=>none) (fun _=>0) (r5+2) (r5+12) fb (fC (r5+2))):=by rw [ba];exact ab
 have J:He (st=TJ k):=H;have Y:He (mo=WT k m q1):=G;clear ab H G bk ba ae bg br;obtain ⟨cS,u⟩:∃ cS,cS=decide (5<1+k % 6\/64<=k):=⟨_,rfl⟩;have Z:He (cS=decide (5<1+k % 6\/64<=k)):=u;clear u
 go_upto_region 6 with fail
 go_cut [44] (fun v wx=>v=.bool cS/\Below X.heap.size X wx)
 case first =>
  have u:=Z.o;clear ax I Z J Y
  by_cases h1:5<1+k % 6
  ·have a4:(5:Int)<1+(k:Int) % 6:=by omega
   have e1:cS=true:=by rw [u];exact decide_eq_true (Or.inl h1)
   clear u;go_wp2
   go_meet;exact ⟨by rw [e1],kB⟩
  have a4:¬ (5:Int)<1+(k:Int) % 6:=by omega
  have b8:decide ((5:Int)<1+(k:Int) % 6)=false:=decide_eq_false a4
  by_cases h2:64<=k
  ·have bi:(64:Int)<=(k:Int):=by omega
   have e1:cS=true:=by rw [u];exact decide_eq_true (Or.inr h2)
   clear u;go_wp2
   go_meet;exact ⟨by rw [e1],kB⟩
  have bi:¬ (64:Int)<=(k:Int):=by omega
  have b7:decide ((64:Int)<=(k:Int))=false:=decide_eq_false bi;have e1:cS=false:=by rw [u];exact decide_eq_false (fun h=>h.elim h1 h2)
  clear u;go_wp2
  go_meet;exact ⟨by rw [e1],kB⟩
 case rest =>
  obtain ⟨rfl,a6⟩:=hcut;obtain ⟨w2,bv⟩:∃ w2:World,w2=wc:=⟨_,rfl⟩;subst bv;have ap:He (lF p w w2 bs m q1 0 (fun _=>gJ 0) 0 (fun _=>[]) r5 b0 rb 0 (fun _=>fC 0 0) (r5+1) 0 (fun _=>none) (fun _=>0) (r5+2) (r5+12) fb (fC (r5+2))):=ax.o.below hp a6;clear ax a6
  go_upto_if 44 with fail
  go_cut [8] (fun v wx=>v=.int .i64 (st:Int)/\Below w2.heap.size w2 wx)
  case first =>
   have u:=Z.o;have H:=J.o;unfold TJ at H;clear ap I Z J Y;cases cS
   case true =>
    rw [if_pos (of_decide_eq_true u.symm)] at H;subst H;clear u;go_wp2
    go_meet;exact ⟨rfl,kB⟩
   case false =>
    rw [if_neg (of_decide_eq_false u.symm)] at H;have e1:(st:Int)=1+(k:Int) % 6:=by omega
    clear u H;go_wp2
    go_meet;exact ⟨by rw [e1],kB⟩
  case rest =>
   obtain ⟨rfl,a5⟩:=hcut;obtain ⟨w3,bu⟩:∃ w3:World,w3=wc:=⟨_,rfl⟩;subst bu;have aw:He (lF p w w3 bs m q1 0 (fun _=>gJ 0) 0 (fun _=>[]) r5 b0 rb 0 (fun _=>fC 0 0) (r5+1) 0 (fun _=>none) (fun _=>0) (r5+2) (r5+12) fb (fC (r5+2))):=ap.o.below hp a5;clear ap a5 Z;obtain ⟨mq,a8⟩:∃ mq,mq=m - q1:=⟨_,rfl⟩;have am:(m:Int) - (q1:Int)=(mq:Int):=by omega
   have bw:mq<=1000:=by omega
   have bh:He (mq=m - q1):=a8
   have HL:He (Calls prog 75 #[.pointer (some ⟨p,0,none⟩)] w3 (fun e w'=>e=.returned (.int .i64 (mq:Int))/\Below w3.heap.size w3 w')):=by
    have:=UI p w3 aw.o.dw.1;rw [am] at this;exact this
   clear a8 am
   go_wp2_with fail
   refine HL.o.mono ?_;rintro x w4 ⟨rfl,bj⟩;have aq:He (lF p w w4 bs m q1 0 (fun _=>gJ 0) 0 (fun _=>[]) r5 b0 rb 0 (fun _=>fC 0 0) (r5+1) 0 (fun _=>none) (fun _=>0) (r5+2) (r5+12) fb (fC (r5+2))):=aw.o.below hp bj;clear aw bj HL
   go_upto_if 56 with fail
   go_cut [9] (fun v wx=>v=.int .i64 (mo:Int)/\Below w4.heap.size w4 wx)
   case first =>
    have G:=Y.o;unfold WT at G;rw [<- J.o,<- bh.o] at G;clear aq I J Y
    by_cases bb:15<st+2+k / 6 % 3+mq / 7
    ·rw [if_pos bb] at G
     have bc:(15:Int)<(st:Int)+2+(k:Int) / 6 % 3+(mq:Int) / 7:=by omega
     subst G;go_wp2
     go_meet;exact ⟨rfl,kB⟩
    rw [if_neg bb] at G;have bc:¬ (15:Int)<(st:Int)+2+(k:Int) / 6 % 3+(mq:Int) / 7:=by omega
    have e1:(mo:Int)=(st:Int)+2+(k:Int) / 6 % 3+(mq:Int) / 7:=by omega
    clear G;go_wp2
    go_meet;exact ⟨by rw [e1],kB⟩
   case rest =>
    obtain ⟨rfl,bf⟩:=hcut;obtain ⟨w5,bt⟩:∃ w5:World,w5=wc:=⟨_,rfl⟩;subst bt;have bp:He (lF p w w5 bs m q1 0 (fun _=>gJ 0) 0 (fun _=>[]) r5 b0 rb 0 (fun _=>fC 0 0) (r5+1) 0 (fun _=>none) (fun _=>0) (r5+2) (r5+12) fb (fC (r5+2))):=aq.o.below hp bf;clear aq bf J Y bh
    apply_assumption
    exact XD p w w5 hp aj O I bp
variable {e:Ev}{t:Ls}
def iT (v:Nat):ByteArray :=
 match v % 10 with
 | 0=>⟨#[]⟩
 | 1=>⟨#[97,32,98]⟩
 | 2=>⟨#[120,44,121]⟩
 | 3=>⟨#[45]⟩
 | 4=>⟨#[97,58,98]⟩
 | 5=>⟨#[48,49,50,51,52,53,54,55,56,57,48,49,50,51,52,53,54,55,56,57,48,49,50,51,52,53,54,55,56,57,48,49,50,51,52,53,54,55,56,57]⟩
 | 6=>⟨#[48,49,50,51,52,53,54,55,56,57,48,49,50,51,52,53,54,55,56,57,48,49,50,51,52,53,54,55,56,57,48,49,50,51,52,53,54,55,56,57,48]⟩
 | 7=>⟨#[61]⟩
 | 8=>⟨#[42,115,116,97,116,101]⟩
 | _=>⟨#[111,107]⟩
theorem eB (v:Nat):(iT v).size<=41:=by
 unfold iT;split <;> decide
def MY (v:Nat):ByteArray :=
 match v % 4 with
 | 0=>⟨#[99,114,101,97,116,101]⟩
 | 1=>⟨#[109,101,109,98,101,114]⟩
 | 2=>⟨#[112,111,119,101,114]⟩
 | _=>⟨#[106,111,105,110,95,114,117,108,101,115]⟩
theorem JY (v:Nat):(MY v).size<=10:=by
 unfold MY;split <;> decide
def mx (a b:Nat):Nat:=if a<b then b else a
def gD (k v:Nat)(e:Ev):Ev :=
 if k % 16=0 then { e with id:=iT v }
 else if k % 16=1 then { e with sd:=iT v }
 else if k % 16=2 then { e with ty:=iT v }
 else if k % 16=3 then { e with key:=iT v }
 else if k % 16=4 then { e with st:=!e.st }
 else if k % 16=5 then { e with tm:=999999999999+((v % 3:Nat):Int) }
 else if k % 16=6 then { e with tm:=- (v:Int) }
 else if k % 16=7 then { e with np:=e.np+1,Pv:=bM e.Pv e.np (iT v) }
 else if k % 16=8 then { e with na:=e.na+e.na,Av:=fun i=>if i<e.na then e.Av i else e.Av (i - e.na) }
 else if k % 16=9 then { e with np:=e.np+1,Pv:=bM e.Pv e.np e.id }
 else if k % 16=10 then { e with na:=mx e.na (9+v % 3),Av:=fun i=>if i<e.na then e.Av i else ⟨#[36,102]⟩ ++ gY i }
 else if k % 16=11 then { e with val:=iT v }
 else if k % 16=12 then { e with ng:=e.ng+1,M:=bM e.M e.ng (iT v),L:=bM e.L e.ng ((((v % 3:Nat):Int) - 1) * (1000000+((v / 128:Nat):Int))) }
 else if k % 16=13 then { e with ty:=MY v }
 else if k % 16=14 then { e with ng:=mx e.ng (49+v % 3),M:=fun i=>if i<e.ng then e.M i else ⟨#[122]⟩ ++ gY (1000+i),L:=fun i=>if i<e.ng then e.L i else 0 }
 else { e with na:=0 }
def GV (a:Option Addr)(n lo hi u:Nat):Prop:=n=0\/∃ b off,a=some ⟨b,off,none⟩/\((lo<=b/\b<hi)\/u<=b)
def YG (p:Nat)(wo w:World)(bs:Nat->Nat)(m q:Nat)(e:Ev)(lo hi:Nat)(x:Ending)(w':World):Prop :=
 ∃ pa cp aa ca ga cg,x=.returned ((gD (eD bs m q) (eD bs m (aN m q)) e).val' pa cp aa ca ga cg)/\cI w' (gD (eD bs m q) (eD bs m (aN m q)) e) pa cp aa ca ga cg
  /\ GV pa (gD (eD bs m q) (eD bs m (aN m q)) e).np lo hi w.heap.size/\GV aa (gD (eD bs m q) (eD bs m (aN m q)) e).na lo hi w.heap.size/\GV ga (gD (eD bs m q) (eD bs m (aN m q)) e).ng lo hi w.heap.size
  /\ w.heap.size<=w'.heap.size/\(∀ b,b<w.heap.size->b≠p->(b<lo\/hi<=b)->w'.heap[b]?=w.heap[b]?)/\bR p wo w' bs m (aN m (aN m q))
theorem QO.xe (h:QO w e t)(H:Nat):GV t.pa e.np t.lo t.hi H/\GV t.aa e.na t.lo t.hi H/\GV t.ga e.ng t.lo t.hi H :=
 ⟨h.j.ip.imp id fun ⟨b,off,e,u,G⟩=>⟨b,off,e,Or.inl ⟨u,G⟩⟩,h.j.ia.imp id fun ⟨b,off,e,u,G⟩=>⟨b,off,e,Or.inl ⟨u,G⟩⟩,h.j.ig.imp id fun ⟨b,off,e,u,G⟩=>⟨b,off,e,Or.inl ⟨u,G⟩⟩⟩
structure fL (Kc:Nat->Nat->Prop)(p:Nat)(wo w W:World)(bs:Nat->Nat)(m q lo hi:Nat)(c:Nat->Value):Prop where
 b:∀ o,o<10->W.cell? ⟨w.heap.size,o,none⟩=some (c o)
 z:∀ o,o<10->∃ v,W.cell? ⟨w.heap.size+1,o,none⟩=some v
 f0:∀ o,W.frozen? ⟨w.heap.size,o,none⟩=false
 f1:∀ o,W.frozen? ⟨w.heap.size+1,o,none⟩=false
 sz:w.heap.size+2<=W.heap.size
 k:∀ b,b<w.heap.size->b≠p->(b<lo\/hi<=b)->W.heap[b]?=w.heap[b]?
 dw:bR p wo W bs m q
 kc:∀ b o,Kc b o->b<w.heap.size/\b≠p/\W.cell? ⟨b,o,none⟩=w.cell? ⟨b,o,none⟩
section
variable {Kc:Nat->Nat->Prop} {p:Nat} {wo w W:World} {bs:Nat->Nat} {m q lo hi:Nat} {c:Nat->Value}
theorem fL.congr (h:fL Kc p wo w W bs m q lo hi c){G:Nat->Value}(H:∀ o,o<10->c o=G o):fL Kc p wo w W bs m q lo hi G:=⟨fun o u=>by rw [<- H o u];exact h.b o u,h.z,h.f0,h.f1,h.sz,h.k,h.dw,h.kc⟩
theorem fL.kept (h:fL Kc p wo w W bs m q lo hi c){W':World}{q':Nat}(N:∀ b,w.heap.size<=b->b<w.heap.size+2->W'.heap[b]?=W.heap[b]?)(U:W.heap.size<=W'.heap.size)(hl:∀ b,b<w.heap.size->b≠p->(b<lo\/hi<=b)->W'.heap[b]?=W.heap[b]?)(Y:bR p wo W' bs m q')(H:∀ b o,Kc b o->b<w.heap.size->b≠p->W'.cell? ⟨b,o,none⟩=W.cell? ⟨b,o,none⟩):fL Kc p wo w W' bs m q' lo hi c:=by
 have O:∀ b o,w.heap.size<=b->b<w.heap.size+2->W'.cell? ⟨b,o,none⟩=W.cell? ⟨b,o,none⟩:=fun b o u G=>World.cell?_of_block (a:=⟨b,o,none⟩) (N b u G)
 have hz:∀ b o,w.heap.size<=b->b<w.heap.size+2->W'.frozen? ⟨b,o,none⟩=W.frozen? ⟨b,o,none⟩:=fun b o u G=>World.frozen?_of_block (a:=⟨b,o,none⟩) (N b u G)
 exact ⟨fun o I=>(O _ _ (by omega) (by omega)).trans (h.b o I),fun o I=>(h.z o I).imp fun v Z=>(O _ _ (by omega) (by omega)).trans Z,fun o=>(hz _ _ (by omega) (by omega)).trans (h.f0 o),fun o=>(hz _ _ (by omega) (by omega)).trans (h.f1 o),nZ h.sz U,fun b u G J=>(hl b u G J).trans (h.k b u G J),Y,fun b o hK=>⟨(h.kc b o hK).1,(h.kc b o hK).2.1,(H b o hK (h.kc b o hK).1 (h.kc b o hK).2.1).trans (h.kc b o hK).2.2⟩⟩
theorem fL.below (h:fL Kc p wo w W bs m q lo hi c){W':World}(hb:Below W.heap.size W W'):fL Kc p wo w W' bs m q lo hi c :=
 h.kept (fun b _ G=>hb.block b (by have:=h.sz;omega)) hb.size (fun b u _ _=>hb.block b (by have:=h.sz;omega)) (h.dw.below hb) (fun b o _ u _=>hb.cell (p:=⟨b,o,none⟩) (by show b<_;have:=h.sz;omega))
theorem fL.draw (h:fL Kc p wo w W bs m q lo hi c)(hp:p<w.heap.size){W':World}{q':Nat}(u:bR p W W' bs m q'):fL Kc p wo w W' bs m q' lo hi c :=
 h.kept (fun b H G=>u.2.block b (by have:=h.sz;omega) (fun e=>by injection e with e;omega)) u.size (fun b H G _=>u.2.block b (by have:=h.sz;omega) (fun e=>by injection e with e;omega)) (h.dw.trans u) (fun b o _ H G=>u.2.cell_far ⟨b,o,none⟩ (by show b<_;have:=h.sz;omega) (fun e=>by injection e with e;exact G e))
theorem fL.grow (h:fL Kc p wo w W bs m q lo hi c)(hp:p<wo.heap.size)(I:wo.heap.size<=lo)(H:hi<=w.heap.size)(J:wo.heap.size<=w.heap.size){W':World}{row:Option Nat}(hg:W.grownBy W' row)(hr:∀ b,row=some b->(lo<=b/\b<hi)\/w.heap.size+2<=b)(u:∀ b o,Kc b o->row=some b->W'.cell? ⟨b,o,none⟩=W.cell? ⟨b,o,none⟩):fL Kc p wo w W' bs m q lo hi c :=
 h.kept (fun b G N=>hg.block b (by have:=h.sz;omega) (fun e=>by rcases hr b e.symm with r|r <;> omega)) hg.size (fun b G N U=>hg.block b (by have:=h.sz;omega) (fun e=>by rcases hr b e.symm with r|r <;> omega)) (h.dw.grow hg (fun b hb=>by rcases hr b hb with r|r <;> omega) hp) (fun b o hK G _=>by
  by_cases e:row=some b
  ·exact u b o hK e
  exact hg.cell_far ⟨b,o,none⟩ (by show b<_;have:=h.sz;omega) (fun O=>e O.symm))
theorem fL.set (h:fL Kc p wo w W bs m q lo hi c)(hp:p<wo.heap.size)(u:wo.heap.size<=w.heap.size)(o:Nat)(x:Value):fL Kc p wo w (W.setCell ⟨w.heap.size,o,none⟩ x) bs m q lo hi (fun i=>if i=o then x else c i):=by
 have hg:=Lib.grownBy_setCell W w.heap.size o x;refine ⟨fun i hi=>?_,fun i hi=>?_,fun i=>by rw [World.frozen?_setCell];exact h.f0 i,fun i=>by rw [World.frozen?_setCell];exact h.f1 i,nZ h.sz hg.size,fun b H I G=>(hg.block b (by have:=h.sz;omega) (fun e=>by injection e with e;omega)).trans (h.k b H I G),h.dw.own u hp o x,fun b i hK=>⟨(h.kc b i hK).1,(h.kc b i hK).2.1,(World.cell?_of_block (a:=⟨b,i,none⟩) (hg.block b (by have:=h.sz;have:=(h.kc b i hK).1;omega) (fun e=>by injection e with e;have:=(h.kc b i hK).1;omega))).trans (h.kc b i hK).2.2⟩⟩
 ·by_cases e:i=o
  ·subst e;rw [if_pos rfl];exact aZ ⟨_,h.b i hi⟩
  rw [if_neg e,aB (by omega)];exact h.b i hi
 obtain ⟨v,J⟩:=h.z i hi;exact ⟨v,(World.cell?_of_block (a:=⟨w.heap.size+1,i,none⟩) (hg.block (w.heap.size+1) (by have:=h.sz;omega) (fun e=>by injection e with e;omega))).trans J⟩
end
theorem RL {Kc:Nat->Nat->Prop}{p:Nat}{wo w:World}{bs:Nat->Nat}{m q lo hi:Nat}{cs:Array Value}{t:TypeId}(h:bR p wo w bs m q)(I:cs.size=10)(u:∀ b o,Kc b o->b<w.heap.size/\b≠p):fL Kc p wo w ((w.alloc (.cells cs t)).alloc (.cells #[.string ⟨#[]⟩,.string ⟨#[]⟩,.string ⟨#[]⟩,.bool false,.string ⟨#[]⟩,.int .i64 0,.slice none 0 0,.slice none 0 0,.string ⟨#[]⟩,.slice none 0 0] t)) bs m q lo hi (fun o=>cs[o]?.getD undef):=by
 have hb:Below w.heap.size w ((w.alloc (.cells cs t)).alloc (.cells #[.string ⟨#[]⟩,.string ⟨#[]⟩,.string ⟨#[]⟩,.bool false,.string ⟨#[]⟩,.int .i64 0,.slice none 0 0,.slice none 0 0,.string ⟨#[]⟩,.slice none 0 0] t)):=bA.alloc (by simp) _;refine ⟨fun o G=>?_,fun o G=>?_,fun o=>?_,fun o=>kF (by simp),by simp,fun b H _ _=>hb.block b H,h.below hb,fun b o hK=>⟨(u b o hK).1,(u b o hK).2,hb.cell (p:=⟨b,o,none⟩) (u b o hK).1⟩⟩
 ·rw [World.cell?_alloc_past _ _ _ (by simp),kA rfl,Array.getElem?_eq_getElem (by omega)]
  rfl
 ·rw [kA (by simp)]
  match o,G with
  | 0,_=>exact ⟨_,rfl⟩
  | 1,_=>exact ⟨_,rfl⟩
  | 2,_=>exact ⟨_,rfl⟩
  | 3,_=>exact ⟨_,rfl⟩
  | 4,_=>exact ⟨_,rfl⟩
  | 5,_=>exact ⟨_,rfl⟩
  | 6,_=>exact ⟨_,rfl⟩
  | 7,_=>exact ⟨_,rfl⟩
  | 8,_=>exact ⟨_,rfl⟩
  | 9,_=>exact ⟨_,rfl⟩
 rw [World.frozen?_alloc_past _ _ _ (by simp)];exact kF rfl
variable {Kc:Nat->Nat->Prop}{ca cg cp hi lo:Nat}{aa ga pa:Option Addr}{R:Ending->World->Prop}{u1 u6 u8 u9 u10 u11 u12 u13 u14 u15 u16 u17 u18 u19 u20 u21 u22 u23 u24 u25 u26 u27 u28 u29 u30 u31 u32 u33 u34 u35 u36 u37 u38 u39 u40 u41 u42 u43 u44 u45 u46 u47 u48 u49 u50 u51 u52 u53 u54 u55 u56 u57 u58 u59 u60 u61 u62 u63 u64 u65 u66 u67 u68 u69 u70 u71 u72 u73 u74 u75 u76 u77 u78 u79 u80 u81 u82 u83 u84 u85 u86 u87 u88 u89 u90 u91 u92 u93 u94 u95 u96 u97 u98 u99 u100 u101 u102 u103 u104 u105 u106 u107 u108 u109 u110 u111 u112 u113 u114 u115 u116 u117 u118 u119 u120 u121 u122 u123 u124 u125 u126 u127 u128 u129 u130 u131 u132 u133 u134 u135 u136 u137 u138 u139 u140 u141 u142 u143 u144 u145 u146 u147 u148 u149 u150 u151 u152 u153 u154 u155 u156 u157 u158 u159 u160 u161 u162 u163 u164 u165 u166:Value}
theorem iA (p:Nat){H N:Value}(wo w W:World)(hp:p<wo.heap.size)(af:wo.heap.size<=w.heap.size)(u:He (fL Kc p wo w W bs m q lo hi (fun o=>((ec e pa cp aa ca ga cg):Array Value)[o]?.getD undef)))(Y:He (∀ W',Kb (w.heap.size+1) W W'->bR p wo W' bs m q->R (.returned (.agg (ec e pa cp aa ca ga cg))) W')) :
  Code.wp prog (fZ (Tryz.f39.body.getD .skip) 5) (bodyPost prog Tryz.f39 R) { tmps:=#[.pointer (some ⟨p,0,none⟩),u1,undef,.pointer (some ⟨w.heap.size,0,none⟩),.pointer (some ⟨w.heap.size+1,0,none⟩),H,u6,N,u8,u9,u10,u11,u12,u13,u14,u15,u16,u17,u18,u19,u20,u21,u22,u23,u24,u25,u26,u27,u28,u29,u30,u31,u32,u33,u34,u35,u36,u37,u38,u39,u40,u41,u42,u43,u44,u45,u46,u47,u48,u49,u50,u51,u52,u53,u54,u55,u56,u57,u58,u59,u60,u61,u62,u63,u64,u65,u66,u67,u68,u69,u70,u71,u72,u73,u74,u75,u76,u77,u78,u79,u80,u81,u82,u83,u84,u85,u86,u87,u88,u89,u90,u91,u92,u93,u94,u95,u96,u97,u98,u99,u100,u101,u102,u103,u104,u105,u106,u107,u108,u109,u110,u111,u112,u113,u114,u115,u116,u117,u118,u119,u120,u121,u122,u123,u124,u125,u126,u127,u128,u129,u130,u131,u132,u133,u134,u135,u136,u137,u138,u139,u140,u141,u142,u143,u144,u145,u146,u147,u148,u149,u150,u151,u152,u153,u154,u155,u156,u157,u158,u159,u160,u161,u162,u163,u164,u165,u166],defers:=[] } W:=by
 first
  | rw [show fZ (Tryz.f39.body.getD .skip) 5=Code.seq _ _ from rfl]
  | rw [show fZ (Tryz.f39.body.getD .skip) 5=Code.region 41 _ _ from rfl]
 have b0:W.cell? ⟨w.heap.size,0,none⟩=some (.string e.id):=u.o.b 0 (by decide);have b1:W.cell? ⟨w.heap.size,1,none⟩=some (.string e.sd):=u.o.b 1 (by decide);have b2:W.cell? ⟨w.heap.size,2,none⟩=some (.string e.ty):=u.o.b 2 (by decide);have b3:W.cell? ⟨w.heap.size,3,none⟩=some (.bool e.st):=u.o.b 3 (by decide);have b4:W.cell? ⟨w.heap.size,4,none⟩=some (.string e.key):=u.o.b 4 (by decide);have b5:W.cell? ⟨w.heap.size,5,none⟩=some (.int .i64 e.tm):=u.o.b 5 (by decide);have b6:W.cell? ⟨w.heap.size,6,none⟩=some (.slice pa e.np cp):=u.o.b 6 (by decide);have b7:W.cell? ⟨w.heap.size,7,none⟩=some (.slice aa e.na ca):=u.o.b 7 (by decide);have b8:W.cell? ⟨w.heap.size,8,none⟩=some (.string e.val):=u.o.b 8 (by decide);have b9:W.cell? ⟨w.heap.size,9,none⟩=some (.slice ga e.ng cg):=u.o.b 9 (by decide);obtain ⟨v0,z0⟩:=u.o.z 0 (by decide);obtain ⟨v1,z1⟩:=u.o.z 1 (by decide);obtain ⟨v2,G⟩:=u.o.z 2 (by decide);obtain ⟨v3,z3⟩:=u.o.z 3 (by decide);obtain ⟨v4,I⟩:=u.o.z 4 (by decide);obtain ⟨v5,U⟩:=u.o.z 5 (by decide);obtain ⟨v6,z6⟩:=u.o.z 6 (by decide);obtain ⟨v7,J⟩:=u.o.z 7 (by decide);obtain ⟨v8,Z⟩:=u.o.z 8 (by decide);obtain ⟨v9,O⟩:=u.o.z 9 (by decide);have f1:=u.o.f1;have HD:He (bR p wo W bs m q):=u.o.dw;clear u;go_wp2
 refine bodyPost_ret (v:=.agg (ec e pa cp aa ca ga cg)) (by simp [results,results39,go_sem,z0,z1,G,z3,I,U,z6,J,Z,O]) rfl (Y.o _ (Kb.fill10 (w.heap.size+1) W _ _ _ _ _ _ _ _ _ _) ?_)
 (repeat (refine bR.own ?_ (by omega) hp _ _))
 exact HD.o
end Go.Proofs.YtpfeegcdlikegaaGreat
