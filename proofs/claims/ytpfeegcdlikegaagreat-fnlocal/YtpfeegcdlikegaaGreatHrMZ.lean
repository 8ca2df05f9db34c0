import Derived.Test.YtpfeegcdlikegaaGreatHrHZ
set_option maxHeartbeats 16000000
set_option maxRecDepth 100000
namespace Go.Proofs.YtpfeegcdlikegaaGreat
open Go.RowKit Go.Maps Go.ChangeMaps Go.Proofs.Tryz
variable {c h ca cg cp mb:Nat}{F:aE->Value}{aa ga oc op pa:Option Addr}{o:dI}{e:Ev}
theorem b00 (w:World)(H:Hr w h mb c F oc op o e pa cp aa ca ga cg) :
  Calls prog 109 #[.pointer (some ⟨h,0,none⟩)] w fun x w'=>x=.returned (eL (wI o e))/\Below w.heap.size w w':=by
 have af:Below w.heap.size w w:=kB;have k0:w.cell? ⟨h,0,none⟩=some (.string e.id):=H.ev.c0;have k1:w.cell? ⟨h,1,none⟩=some (.string e.sd):=H.ev.c1;have k2:w.cell? ⟨h,2,none⟩=some (.string e.ty):=H.ev.c2;have k3:w.cell? ⟨h,3,none⟩=some (.bool e.st):=H.ev.c3;have k4:w.cell? ⟨h,4,none⟩=some (.string e.key):=H.ev.c4;have k5:w.cell? ⟨h,5,none⟩=some (.int .i64 e.tm):=H.ev.c5;have k6:w.cell? ⟨h,6,none⟩=some (.slice pa e.np cp):=H.ev.c6;have k7:w.cell? ⟨h,7,none⟩=some (.slice aa e.na ca):=H.ev.c7;have k8:w.cell? ⟨h,8,none⟩=some (.string e.val):=H.ev.c8;have k9:w.cell? ⟨h,9,none⟩=some (.slice ga e.ng cg):=H.ev.c9;have ae:w.cell? ⟨h,10,none⟩=some (.map (some mb)):=H.c10;have U:w.cell? ⟨h,11,none⟩=some (.pointer oc):=H.c11;have O:w.cell? ⟨h,12,none⟩=some (.pointer op):=H.c12;have Y:w.cell? ⟨h,13,none⟩=some (.int .i64 (dL o e.sd)):=H.c13;have I:=H.lt;cases hmj:(bE e && bX e.val)
 case false =>
  have Hz:He (wI o e=(0,false)):=by unfold He wI;rw [hmj];rfl
  have HB:=nB pa cp aa ca ga cg (t:=rX) (b:=false) (by rw [rE];exact hmj) w;clear H hmj
  go_enter func109,ntmps109
  go_wp2_with fail
  refine (HB.o _ af).mono ?_;rintro x w1 ⟨rfl,N⟩;go_wp2
  go_ret2
  exact ⟨cT Hz.o,N⟩
 case true =>
  have hm:bE e=true:=by
   cases h1:bE e
   ·rw [h1] at hmj;cases hmj
   rfl
  have HB:=nB pa cp aa ca ga cg (t:=rX) (b:=true) (by rw [rE];exact hmj) w;have HM:=H.memK hm;have HT:=H.thing jZ (by decide);have HU:=H.thing tQ (by decide);have HO:He (∀ W,Below w.heap.size w W->Calls prog 141 #[.pointer (some ⟨h,0,none⟩)] W fun x w'=>x=.returned (.int .i64 (JS o e))/\Below w.heap.size w w'):=fun W hW=>(a80 W (H.below hW)).mono fun _ _ ⟨h1,h2⟩=>⟨h1,hW.trans (h2.mono hW.size)⟩
  have HJ:He (wI o e=(if (bH (memO o e.key) && decide (dL o e.sd<gA o jZ)) || decide (dL o e.sd<gA o tQ) then 8 else JS o e,true)):=by unfold He wI;rw [hmj];rfl
  clear H hmj hm;generalize wI o e=r at *;generalize JS o e=ov at *;generalize memO o e.key=t at *;generalize hlv:dL o e.sd=a at *;generalize gA o jZ=b at *;generalize gA o tQ=b2 at *;clear hlv
  go_enter func109,ntmps109
  go_wp2_with fail
  refine (HB.o _ af).mono ?_;rintro x w1 ⟨rfl,N⟩;have q4:=(N.cell (by exact I)).trans k4;have ai:=(N.cell (by exact I)).trans ae
  clear HB
  go_wp2_with fail
  go_cut [4] (fun v wx=>v=.bool (bH t)/\Below w.heap.size w wx)
  case first =>
   go_region_held3 (fun W=>W.cell? ⟨h,10,none⟩=some (.map (some mb))/\W.cell? ⟨h,4,none⟩=some (.string e.key)) (first|(with_reducible exact ⟨ai,q4⟩)|go_keep)
    (first|(go_at_call 136;refine (HM.o _ (by with_reducible first|exact N|exact N.drew|exact N.drew.drew|exact N.drew.drew.drew|exact N.drew.drew.drew.drew|exact N.drew.drew.drew.drew.drew)).mono ?_;rintro x w2 ⟨rfl,G⟩;have ba:=(G.cell (by exact I)).trans ae;have s4:=(G.cell (by exact I)).trans k4))
   all_goals (try go_wp2_with fail)
   all_goals go_meet
   all_goals exact ⟨rfl,(by with_reducible first|exact G|exact G.drew|exact G.drew.drew|exact G.drew.drew.drew|exact G.drew.drew.drew.drew|exact G.drew.drew.drew.drew.drew)⟩
  case rest =>
   obtain ⟨rfl,G⟩:=hcut;obtain ⟨w2,ap⟩:∃ w2:World,w2=wc:=⟨_,rfl⟩;subst ap;clear HM;have Z:=(G.cell (by exact I)).trans U;have ab:=(G.cell (by exact I)).trans O;have ad:=(G.cell (by exact I)).trans Y
   generalize bH t=bn at *
   go_wp2_with fail
   go_cut [46] (fun v wx=>v=.bool ((bn && decide (a<b)) || decide (a<b2))/\Below w.heap.size w wx)
   case first =>
    cases bn
    case false =>
     refine wp_region_held_drew (S:=fun W=>W.cell? ⟨h,11,none⟩=some (.pointer oc)/\W.cell? ⟨h,12,none⟩=some (.pointer op)/\W.cell? ⟨h,13,none⟩=some (.int .i64 a)) (by kernel_rfl) ?_ (fun hHeld=>?_)
     ·(try dsimp only);first|(with_reducible exact ⟨Z,ab,ad⟩)|go_keep
     refine tq 0 rfl ?_;simp only [si];refine tq 1 rfl ?_;simp only [si];refine tk 2 undef rfl (Or.inr ⟨by rfl,rfl⟩) ?_;simp only [si];refine tk 3 undef rfl (Or.inr ⟨by rfl,rfl⟩) ?_;simp only [si];refine tk 4 undef rfl (Or.inr ⟨by rfl,rfl⟩) ?_;simp only [si];refine tk 5 undef rfl (Or.inr ⟨by rfl,rfl⟩) ?_;simp only [si];refine tk 6 undef rfl (Or.inr ⟨by rfl,rfl⟩) ?_;simp only [si];refine tk 7 undef rfl (Or.inr ⟨by rfl,rfl⟩) ?_;simp only [si];refine tk 8 undef rfl (Or.inr ⟨by rfl,rfl⟩) ?_;simp only [si];refine tk 9 undef rfl (Or.inr ⟨by rfl,rfl⟩) ?_;simp only [si];refine tk 10 undef rfl (Or.inr ⟨by rfl,rfl⟩) ?_;simp only [si];refine tk 11 undef rfl (Or.inr ⟨by rfl,rfl⟩) ?_;simp only [si];refine tq 12 rfl ?_;simp only [si];refine tq 13 rfl ?_;simp only [si];refine tq 14 rfl ?_;simp only [si];refine tq 15 rfl ?_;simp only [si];refine tq 16 rfl ?_;simp only [si];refine tq 17 rfl ?_;simp only [si];refine tq 18 rfl ?_;simp only [si];refine tq 19 rfl ?_;simp only [si];refine tq 20 rfl ?_;simp only [si];refine tq 21 rfl ?_;simp only [si];refine rd 22 rfl fun K hK=>?_
     go_simp
     go_at_call 140;refine (HU.o _ (by with_reducible first|exact G|exact G.drew|exact G.drew.drew|exact G.drew.drew.drew|exact G.drew.drew.drew.drew|exact G.drew.drew.drew.drew.drew)).mono ?_;rintro x w3 ⟨rfl,u⟩;have u11:=(u.cell (by exact I)).trans U;have u12:=(u.cell (by exact I)).trans O;have u13:=(u.cell (by exact I)).trans Y
     try go_wp2_with fail
     refine hK.out _ _ ?_ (fun hHeld=>?_)
     ·(try dsimp only);first|(with_reducible exact ⟨u11,u12,u13⟩)|go_keep
     clear hK K;try simp only [si]
     refine tq 23 rfl ?_;simp only [si];refine tq 24 rfl ?_;simp only [si];refine wpAnyH_done (by kernel_rfl) ?_ _;try go_wp2_with fail
     go_meet;exact ⟨rfl,(by with_reducible first|exact u|exact u.drew|exact u.drew.drew|exact u.drew.drew.drew|exact u.drew.drew.drew.drew|exact u.drew.drew.drew.drew.drew)⟩
    case true =>
     cases hd:decide (a<b)
     case true =>
      refine wp_region_held_drew (S:=fun W=>W.cell? ⟨h,11,none⟩=some (.pointer oc)/\W.cell? ⟨h,12,none⟩=some (.pointer op)/\W.cell? ⟨h,13,none⟩=some (.int .i64 a)) (by kernel_rfl) ?_ (fun hHeld=>?_)
      ·(try dsimp only);first|(with_reducible exact ⟨Z,ab,ad⟩)|go_keep
      refine tq 0 rfl ?_;simp only [si];refine tq 1 rfl ?_;simp only [si];refine tq 2 rfl ?_;simp only [si];refine tq 3 rfl ?_;simp only [si];refine tq 4 rfl ?_;simp only [si];refine tq 5 rfl ?_;simp only [si];refine tq 6 rfl ?_;simp only [si];refine tq 7 rfl ?_;simp only [si];refine tq 8 rfl ?_;simp only [si];refine tq 9 rfl ?_;simp only [si];refine rd 10 rfl fun K hK=>?_
      go_simp
      go_at_call 140;refine (HT.o _ (by with_reducible first|exact G|exact G.drew|exact G.drew.drew|exact G.drew.drew.drew|exact G.drew.drew.drew.drew|exact G.drew.drew.drew.drew.drew)).mono ?_;rintro x w3 ⟨rfl,u⟩;have u11:=(u.cell (by exact I)).trans U;have u12:=(u.cell (by exact I)).trans O;have u13:=(u.cell (by exact I)).trans Y
      try go_wp2_with fail
      refine hK.out _ _ ?_ (fun hHeld=>?_)
      ·(try dsimp only);first|(with_reducible exact ⟨u11,u12,u13⟩)|go_keep
      clear hK K;try simp only [si]
      refine tq 11 rfl ?_;simp only [si];refine tq 12 rfl ?_;simp only [si];refine tq 13 rfl ?_;simp only [si];refine tk 14 undef rfl (Or.inr ⟨by rfl,rfl⟩) ?_;simp only [si];refine tk 15 undef rfl (Or.inr ⟨by rfl,rfl⟩) ?_;simp only [si];refine tk 16 undef rfl (Or.inr ⟨by rfl,rfl⟩) ?_;simp only [si];refine tk 17 undef rfl (Or.inr ⟨by rfl,rfl⟩) ?_;simp only [si];refine tk 18 undef rfl (Or.inr ⟨by rfl,rfl⟩) ?_;simp only [si];refine tk 19 undef rfl (Or.inr ⟨by rfl,rfl⟩) ?_;simp only [si];refine tk 20 undef rfl (Or.inr ⟨by rfl,rfl⟩) ?_;simp only [si];refine tk 21 undef rfl (Or.inr ⟨by rfl,rfl⟩) ?_;simp only [si];refine tk 22 undef rfl (Or.inr ⟨by rfl,rfl⟩) ?_;simp only [si];refine tk 23 undef rfl (Or.inr ⟨by rfl,rfl⟩) ?_;simp only [si];refine tq 24 rfl ?_;simp only [si];refine wpAnyH_done (by kernel_rfl) ?_ _;try go_wp2_with fail
      go_meet;exact ⟨by first|rfl|(rw [hd];rfl)|simp [hd],(by with_reducible first|exact u|exact u.drew|exact u.drew.drew|exact u.drew.drew.drew|exact u.drew.drew.drew.drew|exact u.drew.drew.drew.drew.drew)⟩
     case false =>
      refine wp_region_held_drew (S:=fun W=>W.cell? ⟨h,11,none⟩=some (.pointer oc)/\W.cell? ⟨h,12,none⟩=some (.pointer op)/\W.cell? ⟨h,13,none⟩=some (.int .i64 a)) (by kernel_rfl) ?_ (fun hHeld=>?_)
      ·(try dsimp only);first|(with_reducible exact ⟨Z,ab,ad⟩)|go_keep
      refine tq 0 rfl ?_;simp only [si];refine tq 1 rfl ?_;simp only [si];refine tq 2 rfl ?_;simp only [si];refine tq 3 rfl ?_;simp only [si];refine tq 4 rfl ?_;simp only [si];refine tq 5 rfl ?_;simp only [si];refine tq 6 rfl ?_;simp only [si];refine tq 7 rfl ?_;simp only [si];refine tq 8 rfl ?_;simp only [si];refine tq 9 rfl ?_;simp only [si];refine rd 10 rfl fun K hK=>?_
      go_simp
      go_at_call 140;refine (HT.o _ (by with_reducible first|exact G|exact G.drew|exact G.drew.drew|exact G.drew.drew.drew|exact G.drew.drew.drew.drew|exact G.drew.drew.drew.drew.drew)).mono ?_;rintro x w3 ⟨rfl,u⟩;have u11:=(u.cell (by exact I)).trans U;have u12:=(u.cell (by exact I)).trans O;have u13:=(u.cell (by exact I)).trans Y
      try go_wp2_with fail
      refine hK.out _ _ ?_ (fun hHeld=>?_)
      ·(try dsimp only);first|(with_reducible exact ⟨u11,u12,u13⟩)|go_keep
      clear hK K;try simp only [si]
      refine tq 11 rfl ?_;simp only [si];refine tq 12 rfl ?_;simp only [si];refine tq 13 rfl ?_;simp only [si];refine tq 14 rfl ?_;simp only [si];refine tq 15 rfl ?_;simp only [si];refine tq 16 rfl ?_;simp only [si];refine tq 17 rfl ?_;simp only [si];refine tq 18 rfl ?_;simp only [si];refine tq 19 rfl ?_;simp only [si];refine tq 20 rfl ?_;simp only [si];refine tq 21 rfl ?_;simp only [si];refine rd 22 rfl fun K hK=>?_
      go_simp
      go_at_call 140;refine (HU.o _ (by with_reducible first|exact u|exact u.drew|exact u.drew.drew|exact u.drew.drew.drew|exact u.drew.drew.drew.drew|exact u.drew.drew.drew.drew.drew)).mono ?_;rintro x w4 ⟨rfl,J⟩;have aj:=(J.cell (by exact I)).trans U;have am:=(J.cell (by exact I)).trans O;have ak:=(J.cell (by exact I)).trans Y
      try go_wp2_with fail
      refine hK.out _ _ ?_ (fun hHeld=>?_)
      ·(try dsimp only);first|(with_reducible exact ⟨aj,am,ak⟩)|go_keep
      clear hK K;try simp only [si]
      refine tq 23 rfl ?_;simp only [si];refine tq 24 rfl ?_;simp only [si];refine wpAnyH_done (by kernel_rfl) ?_ _;try go_wp2_with fail
      go_meet;exact ⟨by first|rfl|(rw [hd];rfl)|simp [hd],(by with_reducible first|exact J|exact J.drew|exact J.drew.drew|exact J.drew.drew.drew|exact J.drew.drew.drew.drew|exact J.drew.drew.drew.drew.drew)⟩
   case rest =>
    obtain ⟨rfl,u⟩:=hcut;obtain ⟨w3,an⟩:∃ w3:World,w3=wc:=⟨_,rfl⟩;subst an;generalize ((bn && decide (a<b)) || decide (a<b2))=cc at *;cases cc
    case false =>
     go_wp2_with fail
     refine (HO.o _ u).mono ?_;rintro x w4 ⟨rfl,J⟩;go_wp2
     go_ret2
     exact ⟨cT (by rw [HJ.o];rfl),J⟩
    case true =>
     go_wp2
     go_ret2
     exact ⟨cT (by rw [HJ.o];rfl),u⟩
variable {f:Nat->Int × Bool}{k:Nat}
theorem sV {f:Nat->Int × Bool}(m:Nat):∀ (k i:Nat),(∀ j,j<k->(f (i+j)).2=false)->qQ f i (k+m)=qQ f (i+k) m
 | 0,i,_=>by rw [Nat.zero_add,Nat.add_zero]
 | k+1,i,h=>by
  rw [show k+1+m=(k+m)+1 by omega,VV (i:=i) (by have:=h 0 (by omega);rw [Nat.add_zero] at this;exact this),sV m k (i+1) (fun j u=>by have:=h (j+1) (by omega);rw [show i+(j+1)=i+1+j by omega] at this;exact this),show i+1+k=i+(k+1) by omega]
theorem iU (H:k<11)(h:∀ j,j<k->(f j).2=false){c:Int}(u:f k=(c,true)):qQ f 0 11=c:=by
 have:=sV (f:=f) (11 - k) k 0 (fun j G=>by rw [Nat.zero_add];exact h j G);rw [show k+(11 - k)=11 by omega,Nat.zero_add,show 11 - k=(10 - k)+1 by omega,XA (i:=k) (by rw [u]),u] at this;exact this
theorem VX (h:∀ j,j<11->(f j).2=false):qQ f 0 11=0:=by
 have:=sV (f:=f) 0 11 0 (fun j u=>by rw [Nat.zero_add];exact h j u);rw [Nat.add_zero] at this;exact this
theorem eI (h:∀ j,j<k->(f j).2=false){c:Int}(u:f k=(c,false)):∀ j,j<k+1->(f j).2=false:=fun j G=>by
 by_cases e:j=k
 ·subst e;rw [u]
 exact h j (by omega)
abbrev ZJ (h:Nat):Array Value:=#[.func (.func 102) #[.pointer (some ⟨h,0,none⟩)] #[],.func (.func 103) #[.pointer (some ⟨h,0,none⟩)] #[],.func (.func 104) #[.pointer (some ⟨h,0,none⟩)] #[],.func (.func 105) #[.pointer (some ⟨h,0,none⟩)] #[],.func (.func 106) #[.pointer (some ⟨h,0,none⟩)] #[],.func (.func 107) #[.pointer (some ⟨h,0,none⟩)] #[],.func (.func 108) #[.pointer (some ⟨h,0,none⟩)] #[],.func (.func 109) #[.pointer (some ⟨h,0,none⟩)] #[],.func (.func 110) #[.pointer (some ⟨h,0,none⟩)] #[],.func (.func 111) #[.pointer (some ⟨h,0,none⟩)] #[],.func (.func 112) #[.pointer (some ⟨h,0,none⟩)] #[]]
theorem bl0 (h:Nat)(w:World) :
  Calls prog 65 #[.pointer (some ⟨h,0,none⟩)] w fun x w'=>x=.returned (.slice (some ⟨w.heap.size,0,none⟩) 11 11)/\He (∀ i,w'.cell? ⟨w.heap.size,i,none⟩=(ZJ h)[i]?)/\Below w.heap.size w w'/\w.heap.size<w'.heap.size:=by
 go_enter func65,ntmps65
 go_wp2
 go_ret;exact ⟨rfl,fun i=>aK kB i,bA,by simp⟩
theorem vdI (w:World)(H:Hr w h mb c F oc op o e pa cp aa ca ga cg)(ht:e.ty.size<=1000) :
  Calls prog 23 #[.pointer (some ⟨h,0,none⟩)] w fun x w'=>x=.returned (.int .i64 (qQ (zQ o e) 0 11))/\Below w.heap.size w w':=by
 have R0:He (∀ W,Below w.heap.size w W->Calls prog 102 #[.pointer (some ⟨h,0,none⟩)] W fun x w'=>x=.returned (eL (zQ o e 0))/\Below W.heap.size W w'):=fun W hW=>bh0 W (H.below hW)
 have R1:He (∀ W,Below w.heap.size w W->Calls prog 103 #[.pointer (some ⟨h,0,none⟩)] W fun x w'=>x=.returned (eL (zQ o e 1))/\Below W.heap.size W w'):=fun W hW=>bi0 W (H.below hW)
 have R2:He (∀ W,Below w.heap.size w W->Calls prog 104 #[.pointer (some ⟨h,0,none⟩)] W fun x w'=>x=.returned (eL (zQ o e 2))/\Below W.heap.size W w'):=fun W hW=>b80 W (H.below hW)
 have R3:He (∀ W,Below w.heap.size w W->Calls prog 105 #[.pointer (some ⟨h,0,none⟩)] W fun x w'=>x=.returned (eL (zQ o e 3))/\Below W.heap.size W w'):=fun W hW=>bs0 W (H.below hW)
 have R4:He (dV e=false->∀ W,Below w.heap.size w W->Calls prog 106 #[.pointer (some ⟨h,0,none⟩)] W fun x w'=>x=.returned (eL (zQ o e 4))/\Below W.heap.size W w'):=fun hc W hW=>bt0 W (H.below hW) hc
 have R5:He (∀ W,Below w.heap.size w W->Calls prog 107 #[.pointer (some ⟨h,0,none⟩)] W fun x w'=>x=.returned (eL (zQ o e 5))/\Below W.heap.size W w'):=fun W hW=>bo0 W (H.below hW)
 have R6:He (∀ W,Below w.heap.size w W->Calls prog 108 #[.pointer (some ⟨h,0,none⟩)] W fun x w'=>x=.returned (eL (zQ o e 6))/\Below W.heap.size W w'):=fun W hW=>be0 W (H.below hW)
 have R7:He (∀ W,Below w.heap.size w W->Calls prog 109 #[.pointer (some ⟨h,0,none⟩)] W fun x w'=>x=.returned (eL (zQ o e 7))/\Below W.heap.size W w'):=fun W hW=>b00 W (H.below hW)
 have R8:He (∀ W,Below w.heap.size w W->Calls prog 110 #[.pointer (some ⟨h,0,none⟩)] W fun x w'=>x=.returned (eL (zQ o e 8))/\Below W.heap.size W w'):=fun W hW=>bk0 W (H.below hW) ht
 have R9:He (∀ W,Below w.heap.size w W->Calls prog 111 #[.pointer (some ⟨h,0,none⟩)] W fun x w'=>x=.returned (eL (zQ o e 9))/\Below W.heap.size W w'):=fun W hW=>b30 W (H.below hW)
 have Y:He (∀ W,Below w.heap.size w W->Calls prog 112 #[.pointer (some ⟨h,0,none⟩)] W fun x w'=>x=.returned (eL (zQ o e 10))/\Below W.heap.size W w'):=fun W hW=>ax0 W (H.below hW)
 have H0:He ((zQ o e 0).2=false->dV e=false):=fun h1=>by
  cases hc:dV e
  ·rfl
  have h2:(rS o e).2=false:=h1;unfold rS at h2;rw [hc] at h2;cases h2
 clear H;generalize zQ o e=f at *;have a5:Below w.heap.size w w:=kB
 go_enter func23,ntmps23
 go_wp2_with fail
 refine (bl0 h w).mono ?_;rintro x w1 ⟨rfl,au,aw,aq⟩
 go_wp2_with fail
 go_loopw [10] (fun i wr=>∃ k:Nat,k<=11/\i=.int .i64 k/\He (∀ j,j<k->(f j).2=false)/\Below w1.heap.size w1 wr) (fun i _=>11 - (intOf i).toNat)
 case atStart=>exact ⟨0,nz,rfl,fun j hj=>absurd hj (Nat.not_lt_zero _),kB⟩
 case round =>
  obtain ⟨k,hk,rfl,u,I⟩:=hrel;have J:=aw.trans (I.mono aw.size);have N:He (∀ i,wr.cell? ⟨w.heap.size,i,none⟩=(ZJ h)[i]?):=fun i=>(I.cell (by exact aq)).trans (au.o i)
  clear au;rcases (by omega:k=0\/k=1\/k=2\/k=3\/k=4\/k=5\/k=6\/k=7\/k=8\/k=9\/k=10\/k=11) with rfl|rfl|rfl|rfl|rfl|rfl|rfl|rfl|rfl|rfl|rfl|rfl
  ·have a0:wr.cell? ⟨w.heap.size,0,none⟩=some (.func (.func 102) #[.pointer (some ⟨h,0,none⟩)] #[]):=N.o 0
   have O:He (Calls prog 102 #[.pointer (some ⟨h,0,none⟩)] wr fun x w'=>x=.returned (eL (f 0))/\Below wr.heap.size wr w'):=R0.o wr J;clear R0 R1 R2 R3 R4 R5 R6 R7 R8 R9 Y H0 N;rcases hf:f 0 with ⟨cc,s⟩
   rw [hf] at O;cases s
   ·have U:He (∀ j,j<1->(f j).2=false):=eI u.o hf
    clear u hf
    go_wp2_with (go_at_call 102;refine O.o.mono ?_;rintro x w2 ⟨rfl,G⟩)
    go_roundw
    case rel=>exact ⟨1,by omega,by go_num,U,I.trans (G.mono I.size)⟩
    simp [intOf]
   have Z:He (qQ f 0 11=cc):=iU (by omega) u.o hf;clear u hf
   go_wp2_with (go_at_call 102;refine O.o.mono ?_;rintro x w2 ⟨rfl,G⟩)
   go_ret;exact ⟨aA Z.o.symm,J.trans (G.mono J.size)⟩
  ·have a0:wr.cell? ⟨w.heap.size,1,none⟩=some (.func (.func 103) #[.pointer (some ⟨h,0,none⟩)] #[]):=N.o 1
   have O:He (Calls prog 103 #[.pointer (some ⟨h,0,none⟩)] wr fun x w'=>x=.returned (eL (f 1))/\Below wr.heap.size wr w'):=R1.o wr J;clear R0 R1 R2 R3 R4 R5 R6 R7 R8 R9 Y H0 N;rcases hf:f 1 with ⟨cc,s⟩
   rw [hf] at O;cases s
   ·have U:He (∀ j,j<2->(f j).2=false):=eI u.o hf
    clear u hf
    go_wp2_with (go_at_call 103;refine O.o.mono ?_;rintro x w2 ⟨rfl,G⟩)
    go_roundw
    case rel=>exact ⟨2,by omega,by go_num,U,I.trans (G.mono I.size)⟩
    simp [intOf]
   have Z:He (qQ f 0 11=cc):=iU (by omega) u.o hf;clear u hf
   go_wp2_with (go_at_call 103;refine O.o.mono ?_;rintro x w2 ⟨rfl,G⟩)
   go_ret;exact ⟨aA Z.o.symm,J.trans (G.mono J.size)⟩
  ·have a0:wr.cell? ⟨w.heap.size,2,none⟩=some (.func (.func 104) #[.pointer (some ⟨h,0,none⟩)] #[]):=N.o 2
   have O:He (Calls prog 104 #[.pointer (some ⟨h,0,none⟩)] wr fun x w'=>x=.returned (eL (f 2))/\Below wr.heap.size wr w'):=R2.o wr J;clear R0 R1 R2 R3 R4 R5 R6 R7 R8 R9 Y H0 N;rcases hf:f 2 with ⟨cc,s⟩
   rw [hf] at O;cases s
   ·have U:He (∀ j,j<3->(f j).2=false):=eI u.o hf
    clear u hf
    go_wp2_with (go_at_call 104;refine O.o.mono ?_;rintro x w2 ⟨rfl,G⟩)
    go_roundw
    case rel=>exact ⟨3,by omega,by go_num,U,I.trans (G.mono I.size)⟩
    simp [intOf]
   have Z:He (qQ f 0 11=cc):=iU (by omega) u.o hf;clear u hf
   go_wp2_with (go_at_call 104;refine O.o.mono ?_;rintro x w2 ⟨rfl,G⟩)
   go_ret;exact ⟨aA Z.o.symm,J.trans (G.mono J.size)⟩
  ·have a0:wr.cell? ⟨w.heap.size,3,none⟩=some (.func (.func 105) #[.pointer (some ⟨h,0,none⟩)] #[]):=N.o 3
   have O:He (Calls prog 105 #[.pointer (some ⟨h,0,none⟩)] wr fun x w'=>x=.returned (eL (f 3))/\Below wr.heap.size wr w'):=R3.o wr J;clear R0 R1 R2 R3 R4 R5 R6 R7 R8 R9 Y H0 N;rcases hf:f 3 with ⟨cc,s⟩
   rw [hf] at O;cases s
   ·have U:He (∀ j,j<4->(f j).2=false):=eI u.o hf
    clear u hf
    go_wp2_with (go_at_call 105;refine O.o.mono ?_;rintro x w2 ⟨rfl,G⟩)
    go_roundw
    case rel=>exact ⟨4,by omega,by go_num,U,I.trans (G.mono I.size)⟩
    simp [intOf]
   have Z:He (qQ f 0 11=cc):=iU (by omega) u.o hf;clear u hf
   go_wp2_with (go_at_call 105;refine O.o.mono ?_;rintro x w2 ⟨rfl,G⟩)
   go_ret;exact ⟨aA Z.o.symm,J.trans (G.mono J.size)⟩
  ·have a0:wr.cell? ⟨w.heap.size,4,none⟩=some (.func (.func 106) #[.pointer (some ⟨h,0,none⟩)] #[]):=N.o 4
   have O:He (Calls prog 106 #[.pointer (some ⟨h,0,none⟩)] wr fun x w'=>x=.returned (eL (f 4))/\Below wr.heap.size wr w'):=R4.o (H0.o (u.o 0 (by omega))) wr J;clear R0 R1 R2 R3 R4 R5 R6 R7 R8 R9 Y H0 N;rcases hf:f 4 with ⟨cc,s⟩
   rw [hf] at O;cases s
   ·have U:He (∀ j,j<5->(f j).2=false):=eI u.o hf
    clear u hf
    go_wp2_with (go_at_call 106;refine O.o.mono ?_;rintro x w2 ⟨rfl,G⟩)
    go_roundw
    case rel=>exact ⟨5,by omega,by go_num,U,I.trans (G.mono I.size)⟩
    simp [intOf]
   have Z:He (qQ f 0 11=cc):=iU (by omega) u.o hf;clear u hf
   go_wp2_with (go_at_call 106;refine O.o.mono ?_;rintro x w2 ⟨rfl,G⟩)
   go_ret;exact ⟨aA Z.o.symm,J.trans (G.mono J.size)⟩
  ·have a0:wr.cell? ⟨w.heap.size,5,none⟩=some (.func (.func 107) #[.pointer (some ⟨h,0,none⟩)] #[]):=N.o 5
   have O:He (Calls prog 107 #[.pointer (some ⟨h,0,none⟩)] wr fun x w'=>x=.returned (eL (f 5))/\Below wr.heap.size wr w'):=R5.o wr J;clear R0 R1 R2 R3 R4 R5 R6 R7 R8 R9 Y H0 N;rcases hf:f 5 with ⟨cc,s⟩
   rw [hf] at O;cases s
   ·have U:He (∀ j,j<6->(f j).2=false):=eI u.o hf
    clear u hf
    go_wp2_with (go_at_call 107;refine O.o.mono ?_;rintro x w2 ⟨rfl,G⟩)
    go_roundw
    case rel=>exact ⟨6,by omega,by go_num,U,I.trans (G.mono I.size)⟩
    simp [intOf]
   have Z:He (qQ f 0 11=cc):=iU (by omega) u.o hf;clear u hf
   go_wp2_with (go_at_call 107;refine O.o.mono ?_;rintro x w2 ⟨rfl,G⟩)
   go_ret;exact ⟨aA Z.o.symm,J.trans (G.mono J.size)⟩
  ·have a0:wr.cell? ⟨w.heap.size,6,none⟩=some (.func (.func 108) #[.pointer (some ⟨h,0,none⟩)] #[]):=N.o 6
   have O:He (Calls prog 108 #[.pointer (some ⟨h,0,none⟩)] wr fun x w'=>x=.returned (eL (f 6))/\Below wr.heap.size wr w'):=R6.o wr J;clear R0 R1 R2 R3 R4 R5 R6 R7 R8 R9 Y H0 N;rcases hf:f 6 with ⟨cc,s⟩
   rw [hf] at O;cases s
   ·have U:He (∀ j,j<7->(f j).2=false):=eI u.o hf
    clear u hf
    go_wp2_with (go_at_call 108;refine O.o.mono ?_;rintro x w2 ⟨rfl,G⟩)
    go_roundw
    case rel=>exact ⟨7,by omega,by go_num,U,I.trans (G.mono I.size)⟩
    simp [intOf]
   have Z:He (qQ f 0 11=cc):=iU (by omega) u.o hf;clear u hf
   go_wp2_with (go_at_call 108;refine O.o.mono ?_;rintro x w2 ⟨rfl,G⟩)
   go_ret;exact ⟨aA Z.o.symm,J.trans (G.mono J.size)⟩
  ·have a0:wr.cell? ⟨w.heap.size,7,none⟩=some (.func (.func 109) #[.pointer (some ⟨h,0,none⟩)] #[]):=N.o 7
   have O:He (Calls prog 109 #[.pointer (some ⟨h,0,none⟩)] wr fun x w'=>x=.returned (eL (f 7))/\Below wr.heap.size wr w'):=R7.o wr J;clear R0 R1 R2 R3 R4 R5 R6 R7 R8 R9 Y H0 N;rcases hf:f 7 with ⟨cc,s⟩
   rw [hf] at O;cases s
   ·have U:He (∀ j,j<8->(f j).2=false):=eI u.o hf
    clear u hf
    go_wp2_with (go_at_call 109;refine O.o.mono ?_;rintro x w2 ⟨rfl,G⟩)
    go_roundw
    case rel=>exact ⟨8,by omega,by go_num,U,I.trans (G.mono I.size)⟩
    simp [intOf]
   have Z:He (qQ f 0 11=cc):=iU (by omega) u.o hf;clear u hf
   go_wp2_with (go_at_call 109;refine O.o.mono ?_;rintro x w2 ⟨rfl,G⟩)
   go_ret;exact ⟨aA Z.o.symm,J.trans (G.mono J.size)⟩
  ·have a0:wr.cell? ⟨w.heap.size,8,none⟩=some (.func (.func 110) #[.pointer (some ⟨h,0,none⟩)] #[]):=N.o 8
   have O:He (Calls prog 110 #[.pointer (some ⟨h,0,none⟩)] wr fun x w'=>x=.returned (eL (f 8))/\Below wr.heap.size wr w'):=R8.o wr J;clear R0 R1 R2 R3 R4 R5 R6 R7 R8 R9 Y H0 N;rcases hf:f 8 with ⟨cc,s⟩
   rw [hf] at O;cases s
   ·have U:He (∀ j,j<9->(f j).2=false):=eI u.o hf
    clear u hf
    go_wp2_with (go_at_call 110;refine O.o.mono ?_;rintro x w2 ⟨rfl,G⟩)
    go_roundw
    case rel=>exact ⟨9,by omega,by go_num,U,I.trans (G.mono I.size)⟩
    simp [intOf]
   have Z:He (qQ f 0 11=cc):=iU (by omega) u.o hf;clear u hf
   go_wp2_with (go_at_call 110;refine O.o.mono ?_;rintro x w2 ⟨rfl,G⟩)
   go_ret;exact ⟨aA Z.o.symm,J.trans (G.mono J.size)⟩
  ·have a0:wr.cell? ⟨w.heap.size,9,none⟩=some (.func (.func 111) #[.pointer (some ⟨h,0,none⟩)] #[]):=N.o 9
   have O:He (Calls prog 111 #[.pointer (some ⟨h,0,none⟩)] wr fun x w'=>x=.returned (eL (f 9))/\Below wr.heap.size wr w'):=R9.o wr J;clear R0 R1 R2 R3 R4 R5 R6 R7 R8 R9 Y H0 N;rcases hf:f 9 with ⟨cc,s⟩
   rw [hf] at O;cases s
   ·have U:He (∀ j,j<10->(f j).2=false):=eI u.o hf
    clear u hf
    go_wp2_with (go_at_call 111;refine O.o.mono ?_;rintro x w2 ⟨rfl,G⟩)
    go_roundw
    case rel=>exact ⟨10,by omega,by go_num,U,I.trans (G.mono I.size)⟩
    simp [intOf]
   have Z:He (qQ f 0 11=cc):=iU (by omega) u.o hf;clear u hf
   go_wp2_with (go_at_call 111;refine O.o.mono ?_;rintro x w2 ⟨rfl,G⟩)
   go_ret;exact ⟨aA Z.o.symm,J.trans (G.mono J.size)⟩
  ·have a0:wr.cell? ⟨w.heap.size,10,none⟩=some (.func (.func 112) #[.pointer (some ⟨h,0,none⟩)] #[]):=N.o 10
   have O:He (Calls prog 112 #[.pointer (some ⟨h,0,none⟩)] wr fun x w'=>x=.returned (eL (f 10))/\Below wr.heap.size wr w'):=Y.o wr J;clear R0 R1 R2 R3 R4 R5 R6 R7 R8 R9 Y H0 N;rcases hf:f 10 with ⟨cc,s⟩
   rw [hf] at O;cases s
   ·have U:He (∀ j,j<11->(f j).2=false):=eI u.o hf
    clear u hf
    go_wp2_with (go_at_call 112;refine O.o.mono ?_;rintro x w2 ⟨rfl,G⟩)
    go_roundw
    case rel=>exact ⟨11,by omega,by go_num,U,I.trans (G.mono I.size)⟩
    simp [intOf]
   have Z:He (qQ f 0 11=cc):=iU (by omega) u.o hf;clear u hf
   go_wp2_with (go_at_call 112;refine O.o.mono ?_;rintro x w2 ⟨rfl,G⟩)
   go_ret;exact ⟨aA Z.o.symm,J.trans (G.mono J.size)⟩
  have Z:He (qQ f 0 11=0):=VX u.o;clear R0 R1 R2 R3 R4 R5 R6 R7 R8 R9 Y H0 N u;go_wp2
  go_ret;exact ⟨aA Z.o.symm,J⟩
end Go.Proofs.YtpfeegcdlikegaaGreat
