import Derived.Test.YtpfeegcdlikegaaGreatHrDZ
set_option maxHeartbeats 16000000
set_option maxRecDepth 100000
namespace Go.Proofs.YtpfeegcdlikegaaGreat
open Go.RowKit Go.Maps Go.ChangeMaps Go.Proofs.Tryz
variable {a aa ga oc op pa:Option Addr}{c h n ca cg cp mb cap:Nat}{M:Nat->ByteArray}{L:Nat->Int}{F:aE->Value}{o:dI}{e:Ev}
theorem OP (b off cap n:Nat)(M:Nat->ByteArray)(L:Nat->Int)(f:ByteArray->Bool)(U:Nat)(w:World)(hn:n<=maxLen)(hb:b<w.heap.size)
  (HC:He (∀ W i,i<n->Below w.heap.size w W->Calls prog 144 #[YL (M i) (L i),.pointer (some ⟨U,0,none⟩)] W fun x w'=>x=.returned (.bool (!f (M i)))/\Below W.heap.size W w'))
  (Y:∀ i,i<n->w.cell? ⟨b,off+i * 2,none⟩=some (.string (M i))) (Z:∀ i,i<n->w.cell? ⟨b,off+i * 2+1,none⟩=some (.int .i64 (L i))) :
  Calls prog 164 #[.slice (some ⟨b,off,none⟩) n cap,.func (.func 144) #[] #[.pointer (some ⟨U,0,none⟩)]] w fun x w'=>∃ z:Int,x=.returned (.int .i64 z)/\He (decide (0<=z)=!eJ (fun i=>f (M i)) n)/\Below w.heap.size w w':=by
 unfold maxLen at hn
 go_enter func164,ntmps164
 go_wp2
 go_loopw [8] (fun i wr=>∃ k:Nat,k<=n/\i=.int .i64 k/\He (eJ (fun i=>f (M i)) k=true)/\Below w.heap.size w wr) (fun i _=>n - (intOf i).toNat)
 case atStart=>exact ⟨0,nz,rfl,rfl,kB⟩
 case round =>
  obtain ⟨k,hk,rfl,I,u⟩:=hrel
  by_cases H:k<n
  ·have a1:wr.cell? ⟨b,off+k * 2,none⟩=some (.string (M k)):=(u.cell (by exact hb)).trans (Y k H)
   have a2:wr.cell? ⟨b,off+k * 2+1,none⟩=some (.int .i64 (L k)):=(u.cell (by exact hb)).trans (Z k H);have N:He (Calls prog 144 #[YL (M k) (L k),.pointer (some ⟨U,0,none⟩)] wr fun x w'=>x=.returned (.bool (!f (M k)))/\Below wr.heap.size wr w'):=HC.o wr k H u;clear Y Z;cases he:f (M k)
   case true =>
    have G:He (eJ (fun i=>f (M i)) (k+1)=true):=by unfold He;rw [eJ,I.o,he];rfl
    rw [he] at N
    go_wp2_with (go_at_call 144;refine (N.o).mono ?_;rintro x w1 ⟨rfl,J⟩)
    go_roundw
    case rel=>exact ⟨k+1,by omega,by go_num,G,u.trans (J.mono u.size)⟩
    simp [intOf];omega
   case false =>
    have G:He (eJ (fun i=>f (M i)) n=false):=xU (fun i=>f (M i)) n k H he;rw [he] at N
    go_wp2_with (go_at_call 144;refine (N.o).mono ?_;rintro x w1 ⟨rfl,J⟩)
    go_ret;exact ⟨(k:Int),rfl,by unfold He;rw [G.o];simp,u.trans (J.mono u.size)⟩
  have O:n=k:=by omega
  have G:He (eJ (fun i=>f (M i)) n=true):=by rw [O];exact I
  clear Y Z I;go_wp2
  go_ret;exact ⟨-1,rfl,by unfold He;rw [G.o];rfl,u⟩
theorem JI (a:Option Addr)(cap:Nat)(fv:Value)(w:World) :
  Calls prog 164 #[.slice a 0 cap,fv] w fun x w'=>x=.returned (.int .i64 (-1))/\w'=w:=by
 go_enter func164,ntmps164
 go_wp2
 refine wp_loop_rounds 1 ?_;rw [rounds_succ];go_wp2
 go_ret;exact ⟨rfl,rfl⟩
theorem NQ (f:ByteArray->Bool)(u:Nat)(w:World)(h:gN w a n cap M L)
  (H:He (∀ W i,i<n->Below w.heap.size w W->Calls prog 144 #[YL (M i) (L i),.pointer (some ⟨u,0,none⟩)] W fun x w'=>x=.returned (.bool (!f (M i)))/\Below W.heap.size W w')) :
  Calls prog 146 #[.slice a n cap,.func (.func 144) #[] #[.pointer (some ⟨u,0,none⟩)]] w fun x w'=>x=.returned (.bool (!eJ (fun i=>f (M i)) n))/\Below w.heap.size w w':=by
 have N:Calls prog 164 #[.slice a n cap,.func (.func 144) #[] #[.pointer (some ⟨u,0,none⟩)]] w fun x w'=>∃ z:Int,x=.returned (.int .i64 z)/\He (decide (0<=z)=!eJ (fun i=>f (M i)) n)/\Below w.heap.size w w':=by
  rcases h.cells with rfl|⟨b,off,rfl,hb,I,J⟩
  ·refine (JI a cap _ w).mono ?_
   rintro x w' ⟨rfl,rfl⟩;exact ⟨-1,rfl,rfl,kB⟩
  exact OP b off cap n M L f u w (nZ h.le h.max) hb H I J
 clear H h
 go_enter func146,ntmps146
 go_wp2_with fail
 refine N.mono ?_;rintro x w1 ⟨z,rfl,hz,G⟩;go_wp2
 go_ret;exact ⟨aC hz.o,G⟩
theorem av0 (w:World)(H:Hr w h mb c F oc op o e pa cp aa ca ga cg){p:Ev}{Z po:Nat}{qa:Option Addr}{qc:Nat}(ab:op=some ⟨Z,po,none⟩)(G:Z<w.heap.size)(J:w.cell? ⟨Z,po+9,none⟩=some (.slice qa p.ng qc))(hg:gN w qa p.ng qc p.M p.L)(hp:o aX aJ=some p)(hi:aT e=true){I:Nat}(U:I<w.heap.size)(N:w.cell? ⟨I,0,none⟩=some (.pointer (some ⟨h,0,none⟩)))(s:ByteArray)(lv:Int)(hs:s.size<=maxLen) :
  Calls prog 144 #[YL s lv,.pointer (some ⟨I,0,none⟩)] w fun x w'=>x=.returned (.bool (!pJ p e (dL o e.sd) s))/\Below w.heap.size w w':=by
 have u:∀ o,Below w.heap.size w (w.alloc o):=fun o=>bA
 have k0:(w.alloc (.cells #[.string s,.int .i64 lv] 127)).cell? ⟨I,0,none⟩=some (.pointer (some ⟨h,0,none⟩)):=((u _).cell (by exact U)).trans N;have ai:I≠w.heap.size:=by omega
 have HM:He (∀ W,Below w.heap.size w W->Calls prog 145 #[.pointer (some ⟨h,0,none⟩),.string s] W fun x w'=>x=.returned (.bool (pJ p e (dL o e.sd) s))/\Below W.heap.size W w'):=fun W O=>b40 W (H.below O) ab (nT G O.size) ((O.cell (by exact G)).trans J) (hg.below O) hp hi s hs
 clear H hg hp J N;generalize pJ p e (dL o e.sd) s=r at *
 go_enter func144,ntmps144
 go_wp2_with fail
 refine (HM.o _ (u _)).mono ?_;rintro x w1 ⟨rfl,Y⟩;go_wp2
 go_ret;exact ⟨rfl,(u _).trans (Y.mono (by simp))⟩
theorem ax0 (w:World)(H:Hr w h mb c F oc op o e pa cp aa ca ga cg) :
  Calls prog 112 #[.pointer (some ⟨h,0,none⟩)] w fun x w'=>x=.returned (eL (qZ o e))/\Below w.heap.size w w':=by
 obtain ⟨I,u⟩:∃ I,I=w.alloc (.cells #[.pointer (some ⟨h,0,none⟩)] 53):=⟨_,rfl⟩;have G:Below w.heap.size w I:=by rw [u];exact bA
 have Z:w.heap.size<I.heap.size:=by rw [u];simp
 have ah:Below I.heap.size I I:=kB;have y0:I.cell? ⟨w.heap.size,0,none⟩=some (.pointer (some ⟨h,0,none⟩)):=by rw [u];exact kA rfl
 have U:=H.below G;have k2:I.cell? ⟨h,2,none⟩=some (.string e.ty):=U.ev.c2;have k9:I.cell? ⟨h,9,none⟩=some (.slice ga e.ng cg):=U.ev.c9;have ao:I.cell? ⟨h,12,none⟩=some (.pointer op):=U.c12;have aq:=U.lt;have bh:h≠w.heap.size:=by have:=H.lt;omega
 clear H;have g2:(w.alloc (.cells #[.pointer (some ⟨h,0,none⟩)] 53)).cell? ⟨h,2,none⟩=some (.string e.ty):=by rw [<- u];exact k2
 have g9:(w.alloc (.cells #[.pointer (some ⟨h,0,none⟩)] 53)).cell? ⟨h,9,none⟩=some (.slice ga e.ng cg):=by rw [<- u];exact k9
 have ag:(w.alloc (.cells #[.pointer (some ⟨h,0,none⟩)] 53)).cell? ⟨h,12,none⟩=some (.pointer op):=by rw [<- u];exact ao
 rcases U.lev.p with ⟨O,rfl⟩|⟨p,pb,po,O,rfl,ai,a5,bc,a6,bg,qa,qc,af,N⟩
 ·have Hz:He (qZ o e=(0,false)):=by unfold He qZ;rw [O]
  clear U O;cases hi:aT e
  all_goals
   unfold aT at hi
   go_enter func112,ntmps112
   go_wp2
   try rw [<- u]
   go_ret2
   exact ⟨cT Hz.o,by first|exact G|(rw [u] at G;exact G)⟩
 cases hi:aT e
 case false =>
  have Hz:He (qZ o e=(0,false)):=by unfold He qZ;rw [O,hi];rfl
  clear U O af N;unfold aT at hi
  go_enter func112,ntmps112
  go_wp2
  try rw [<- u]
  go_ret2
  exact ⟨cT Hz.o,by first|exact G|(rw [u] at G;exact G)⟩
 case true =>
  have HQ:He (qZ o e=(12,!(eJ (fun i=>pJ p e (dL o e.sd) (p.M i)) p.ng && eJ (fun i=>pJ p e (dL o e.sd) (e.M i)) e.ng))):=by unfold He qZ;rw [O,hi];rfl
  have c9:=af.c9;have aj:(w.alloc (.cells #[.pointer (some ⟨h,0,none⟩)] 53)).cell? ⟨pb,po+9,none⟩=some (.slice qa p.ng qc):=by rw [<- u];exact c9
  have ad:∀ (W:World) (s:ByteArray) (lv:Int),s.size<=maxLen->Below I.heap.size I W->Calls prog 144 #[YL s lv,.pointer (some ⟨w.heap.size,0,none⟩)] W fun x w'=>x=.returned (.bool (!pJ p e (dL o e.sd) s))/\Below W.heap.size W w':=fun W s lv hs J=>av0 W (U.below J) rfl (nT ai J.size) ((J.cell (by exact ai)).trans c9) (N.hg.below J) O hi (nT Z J.size) ((J.cell (by exact Z)).trans y0) s lv hs
  have H1:He (∀ W,Below I.heap.size I W->Calls prog 146 #[.slice qa p.ng qc,.func (.func 144) #[] #[.pointer (some ⟨w.heap.size,0,none⟩)]] W fun x w'=>x=.returned (.bool (!eJ (fun i=>pJ p e (dL o e.sd) (p.M i)) p.ng))/\Below I.heap.size I w'):=fun W J =>
   (NQ (pJ p e (dL o e.sd)) w.heap.size W (N.hg.below J) (fun W2 i ab ae=>ad W2 _ _ (N.hg.size i ab) (J.trans (ae.mono J.size)))).mono fun _ _ ⟨O,h2⟩=>⟨O,J.trans (h2.mono J.size)⟩
  have H2:He (∀ W,Below I.heap.size I W->Calls prog 146 #[.slice ga e.ng cg,.func (.func 144) #[] #[.pointer (some ⟨w.heap.size,0,none⟩)]] W fun x w'=>x=.returned (.bool (!eJ (fun i=>pJ p e (dL o e.sd) (e.M i)) e.ng))/\Below I.heap.size I w'):=fun W J =>
   (NQ (pJ p e (dL o e.sd)) w.heap.size W (U.ok.hg.below J) (fun W2 i ab ae=>ad W2 _ _ (U.ok.hg.size i ab) (J.trans (ae.mono J.size)))).mono fun _ _ ⟨O,h2⟩=>⟨O,J.trans (h2.mono J.size)⟩
  clear ad U O af N;unfold aT at hi;generalize qZ o e=r at *;generalize eJ (fun i=>pJ p e (dL o e.sd) (p.M i)) p.ng=E1 at *;generalize eJ (fun i=>pJ p e (dL o e.sd) (e.M i)) e.ng=E2 at *;cases E1
  case false =>
   go_enter func112,ntmps112
   go_wp2_with fail
   rw [<- u];clear u g2 g9 ag aj;refine (H1.o _ ah).mono ?_;rintro x w1 ⟨rfl,Y⟩;go_wp2
   go_ret2
   exact ⟨cT (by rw [HQ.o];rfl),G.trans (Y.mono G.size)⟩
  case true =>
   go_enter func112,ntmps112
   go_wp2_with fail
   rw [<- u];clear u g2 g9 ag aj;refine (H1.o _ ah).mono ?_;rintro x w1 ⟨rfl,Y⟩;have q0:=(Y.cell (by exact Z)).trans y0;have q9:=(Y.cell (by exact aq)).trans k9
   go_wp2_with fail
   refine (H2.o _ Y).mono ?_;rintro x w2 ⟨rfl,am⟩;go_wp2
   go_ret2
   exact ⟨cT (by rw [HQ.o];rfl),G.trans (am.mono G.size)⟩
theorem cfI (w:World)(H:Hr w h mb c F oc op o e pa cp aa ca ga cg)(hm:bE e=true) :
  Calls prog 139 #[.pointer (some ⟨h,0,none⟩)] w fun x w'=>x=.returned (.bool (oB o e.sd && (o dK e.key).isNone))/\Below w.heap.size w w':=by
 have Z:w.cell? ⟨h,1,none⟩=some (.string e.sd):=H.ev.c1;have k4:w.cell? ⟨h,4,none⟩=some (.string e.key):=H.ev.c4;have Y:w.cell? ⟨h,10,none⟩=some (.map (some mb)):=H.c10;have U:w.cell? ⟨h,11,none⟩=some (.pointer oc):=H.c11;have O:w.cell? ⟨h,12,none⟩=some (.pointer op):=H.c12;have J:=H.lt;have N:Below w.heap.size w w:=kB;have H1:He (∀ W,Below w.heap.size w W->Calls prog 73 #[.agg #[.pointer oc,.pointer op],.string e.sd] W fun x w'=>x=.returned (.bool (oB o e.sd))/\Below w.heap.size w w'):=fun W hW=>(ZE e.sd W (H.lev.below hW)).mono fun _ _ ⟨h1,h2⟩=>⟨h1,hW.trans (h2.mono hW.size)⟩
 have H2:He (∀ W,Below w.heap.size w W->Calls prog 26 #[.string e.key] W fun x w'=>x=.returned (.agg #[.string dK,.string e.key])/\Below w.heap.size w w'):=fun W hW=>(mA e.key W).mono fun _ _ ⟨h1,h2⟩=>⟨h1,hW.trans (h2.mono hW.size)⟩
 obtain ⟨v,hv,ai⟩:=H.key hm
 have HL:He (∀ W,Below w.heap.size w W->(Instr.lookup 56 (.map (some mb)) (.agg #[.string dK,.string e.key]) false).run prog W=.ok (.pointer v) W):=fun W hW=>by
  have:=lV (H.map.below hW) (k:=⟨dK,e.key,aJ⟩) ⟨by show dK.size<=maxLen;decide,H.ok.hkey⟩;rw [hv] at this;exact this
 have Hv:He ((o dK e.key).isNone=v.isNone):=by
  rcases ai with ⟨h1,rfl⟩|⟨m,b,off,h1,rfl,-⟩
  ·rw [show o dK e.key=none from h1];rfl
  rw [show o dK e.key=some m from h1];rfl
 clear H hv ai;generalize (o dK e.key).isNone=z at *;cases hc:oB o e.sd
 case false =>
  rw [hc] at H1
  go_enter func139,ntmps139
  go_wp2_with fail
  refine wp_region_held_drew (S:=fun W=>W.cell? ⟨h,11,none⟩=some (.pointer oc)/\W.cell? ⟨h,12,none⟩=some (.pointer op)/\W.cell? ⟨h,1,none⟩=some (.string e.sd)) (by kernel_rfl) ?_ (fun hHeld=>?_)
  ·(try dsimp only);first|(with_reducible exact ⟨U,O,Z⟩)|go_keep
  refine tq 0 rfl ?_;simp only [si];refine tq 1 rfl ?_;simp only [si];refine tq 2 rfl ?_;simp only [si];refine tq 3 rfl ?_;simp only [si];refine tq 4 rfl ?_;simp only [si];refine tq 5 rfl ?_;simp only [si];refine tq 6 rfl ?_;simp only [si];refine tq 7 rfl ?_;simp only [si];refine tq 8 rfl ?_;simp only [si];refine rd 9 rfl fun K hK=>?_
  go_simp
  go_at_call 73;refine (H1.o _ (by with_reducible first|exact N|exact N.drew|exact N.drew.drew|exact N.drew.drew.drew|exact N.drew.drew.drew.drew|exact N.drew.drew.drew.drew.drew)).mono ?_;rintro x w2 ⟨rfl,G⟩;have ae:=(G.cell (by exact J)).trans U;have af:=(G.cell (by exact J)).trans O;have q1:=(G.cell (by exact J)).trans Z
  try go_wp2_with fail
  refine hK.out _ _ ?_ (fun hHeld=>?_)
  ·(try dsimp only);first|(with_reducible exact ⟨ae,af,q1⟩)|go_keep
  clear hK K;try simp only [si]
  refine tq 10 rfl ?_;simp only [si];refine tk 11 undef rfl (Or.inr ⟨by rfl,rfl⟩) ?_;simp only [si];refine tk 12 undef rfl (Or.inr ⟨by rfl,rfl⟩) ?_;simp only [si];refine tk 13 undef rfl (Or.inr ⟨by rfl,rfl⟩) ?_;simp only [si];refine tk 14 undef rfl (Or.inr ⟨by rfl,rfl⟩) ?_;simp only [si];refine tk 15 undef rfl (Or.inr ⟨by rfl,rfl⟩) ?_;simp only [si];refine tk 16 undef rfl (Or.inr ⟨by rfl,rfl⟩) ?_;simp only [si];refine tk 17 undef rfl (Or.inr ⟨by rfl,rfl⟩) ?_;simp only [si];refine tk 18 undef rfl (Or.inr ⟨by rfl,rfl⟩) ?_;simp only [si];refine tk 19 undef rfl (Or.inr ⟨by rfl,rfl⟩) ?_;simp only [si];refine tk 20 undef rfl (Or.inr ⟨by rfl,rfl⟩) ?_;simp only [si];refine tk 21 undef rfl (Or.inr ⟨by rfl,rfl⟩) ?_;simp only [si];refine tk 22 undef rfl (Or.inr ⟨by rfl,rfl⟩) ?_;simp only [si];refine tq 23 rfl ?_;simp only [si];refine tq 24 rfl ?_;simp only [si];refine wpAnyH_done (by kernel_rfl) ?_ _
  all_goals
   go_wp2
   go_ret;exact ⟨rfl,(by with_reducible first|exact G|exact G.drew|exact G.drew.drew|exact G.drew.drew.drew|exact G.drew.drew.drew.drew|exact G.drew.drew.drew.drew.drew)⟩
 case true =>
  rw [hc] at H1;have Hz:He (z=v.isNone):=Hv
  cases v with
  | none =>
   go_enter func139,ntmps139
   go_wp2_with fail
   first
    | (go_region_held3 (fun W=>W.cell? ⟨h,11,none⟩=some (.pointer oc)/\W.cell? ⟨h,12,none⟩=some (.pointer op)/\W.cell? ⟨h,1,none⟩=some (.string e.sd)/\W.cell? ⟨h,10,none⟩=some (.map (some mb))/\W.cell? ⟨h,4,none⟩=some (.string e.key)) (first|(with_reducible exact ⟨U,O,Z,Y,k4⟩)|go_keep)
      (first
       | (go_at_call 26;refine (H2.o _ (by with_reducible first|exact G|exact G.drew|exact G.drew.drew|exact G.drew.drew.drew|exact G.drew.drew.drew.drew|exact G.drew.drew.drew.drew.drew)).mono ?_;rintro x w3 ⟨rfl,I⟩;have am:=(I.cell (by exact J)).trans U;have aj:=(I.cell (by exact J)).trans O;have r1:=(I.cell (by exact J)).trans Z;have ao:=(I.cell (by exact J)).trans Y;have r4:=(I.cell (by exact J)).trans k4;have ap:=HL.o _ I)
       | (go_at_call 73;refine (H1.o _ (by with_reducible first|exact N|exact N.drew|exact N.drew.drew|exact N.drew.drew.drew|exact N.drew.drew.drew.drew|exact N.drew.drew.drew.drew.drew)).mono ?_;rintro x w2 ⟨rfl,G⟩;have ae:=(G.cell (by exact J)).trans U;have af:=(G.cell (by exact J)).trans O;have q1:=(G.cell (by exact J)).trans Z;have an:=(G.cell (by exact J)).trans Y;have q4:=(G.cell (by exact J)).trans k4)))
    | fail
   all_goals
    go_wp2
    go_ret
    exact ⟨aC (by rw [Hz.o];rfl),(by with_reducible first|exact I|exact I.drew|exact I.drew.drew|exact I.drew.drew.drew|exact I.drew.drew.drew.drew|exact I.drew.drew.drew.drew.drew)⟩
  | some u =>
   go_enter func139,ntmps139
   go_wp2_with fail
   first
    | (go_region_held3 (fun W=>W.cell? ⟨h,11,none⟩=some (.pointer oc)/\W.cell? ⟨h,12,none⟩=some (.pointer op)/\W.cell? ⟨h,1,none⟩=some (.string e.sd)/\W.cell? ⟨h,10,none⟩=some (.map (some mb))/\W.cell? ⟨h,4,none⟩=some (.string e.key)) (first|(with_reducible exact ⟨U,O,Z,Y,k4⟩)|go_keep)
      (first
       | (go_at_call 26;refine (H2.o _ (by with_reducible first|exact G|exact G.drew|exact G.drew.drew|exact G.drew.drew.drew|exact G.drew.drew.drew.drew|exact G.drew.drew.drew.drew.drew)).mono ?_;rintro x w3 ⟨rfl,I⟩;have am:=(I.cell (by exact J)).trans U;have aj:=(I.cell (by exact J)).trans O;have r1:=(I.cell (by exact J)).trans Z;have ao:=(I.cell (by exact J)).trans Y;have r4:=(I.cell (by exact J)).trans k4;have ap:=HL.o _ I)
       | (go_at_call 73;refine (H1.o _ (by with_reducible first|exact N|exact N.drew|exact N.drew.drew|exact N.drew.drew.drew|exact N.drew.drew.drew.drew|exact N.drew.drew.drew.drew.drew)).mono ?_;rintro x w2 ⟨rfl,G⟩;have ae:=(G.cell (by exact J)).trans U;have af:=(G.cell (by exact J)).trans O;have q1:=(G.cell (by exact J)).trans Z;have an:=(G.cell (by exact J)).trans Y;have q4:=(G.cell (by exact J)).trans k4)))
    | fail
   all_goals
    go_wp2
    go_ret;exact ⟨aC (by rw [Hz.o];rfl),(by with_reducible first|exact I|exact I.drew|exact I.drew.drew|exact I.drew.drew.drew|exact I.drew.drew.drew.drew|exact I.drew.drew.drew.drew.drew)⟩
theorem b80 (w:World)(H:Hr w h mb c F oc op o e pa cp aa ca ga cg) :
  Calls prog 104 #[.pointer (some ⟨h,0,none⟩)] w fun x w'=>x=.returned (eL (pW o e))/\Below w.heap.size w w':=by
 have af:Below w.heap.size w w:=kB;have k0:w.cell? ⟨h,0,none⟩=some (.string e.id):=H.ev.c0;have k1:w.cell? ⟨h,1,none⟩=some (.string e.sd):=H.ev.c1;have k2:w.cell? ⟨h,2,none⟩=some (.string e.ty):=H.ev.c2;have k3:w.cell? ⟨h,3,none⟩=some (.bool e.st):=H.ev.c3;have k4:w.cell? ⟨h,4,none⟩=some (.string e.key):=H.ev.c4;have k5:w.cell? ⟨h,5,none⟩=some (.int .i64 e.tm):=H.ev.c5;have k6:w.cell? ⟨h,6,none⟩=some (.slice pa e.np cp):=H.ev.c6;have k7:w.cell? ⟨h,7,none⟩=some (.slice aa e.na ca):=H.ev.c7;have k8:w.cell? ⟨h,8,none⟩=some (.string e.val):=H.ev.c8;have k9:w.cell? ⟨h,9,none⟩=some (.slice ga e.ng cg):=H.ev.c9;have Y:w.cell? ⟨h,10,none⟩=some (.map (some mb)):=H.c10;cases hmj:(bE e && eZ e)
 case false =>
  have U:He (pW o e=(0,false)):=by unfold He pW;rw [hmj];rfl
  have HB:=nB pa cp aa ca ga cg (t:=⟨#[106,111,105,110]⟩) (b:=false) (by rw [OB];exact hmj) w;clear H hmj
  go_enter func104,ntmps104
  go_wp2_with fail
  refine (HB.o _ af).mono ?_;rintro x w1 ⟨rfl,J⟩;go_wp2
  go_ret2
  exact ⟨cT U.o,J⟩
 case true =>
  obtain ⟨hm,hj⟩:bE e=true/\eZ e=true:=by simpa using hmj
  have HB:=nB pa cp aa ca ga cg (t:=⟨#[106,111,105,110]⟩) (b:=true) (by rw [OB];exact hmj) w;have HX:He (∀ W,Below w.heap.size w W->Calls prog 137 #[.pointer (some ⟨h,0,none⟩)] W fun x w'=>x=.returned (.bool (lD (memO o e.key)))/\Below w.heap.size w w'):=fun W O=>(ZW W (H.below O) hm).mono fun _ _ ⟨h1,h2⟩=>⟨h1,O.trans (h2.mono O.size)⟩
  have HP:He (∀ W,Below w.heap.size w W->Calls prog 138 #[.pointer (some ⟨h,0,none⟩)] W fun x w'=>x=.returned (.bool (rW o))/\Below w.heap.size w w'):=fun W O=>(b20 W (H.below O) hm hj).mono fun _ _ ⟨h1,h2⟩=>⟨h1,O.trans (h2.mono O.size)⟩
  have HC:He (∀ W,Below w.heap.size w W->Calls prog 139 #[.pointer (some ⟨h,0,none⟩)] W fun x w'=>x=.returned (.bool (oB o e.sd && (o dK e.key).isNone))/\Below w.heap.size w w'):=fun W O=>(cfI W (H.below O) hm).mono fun _ _ ⟨h1,h2⟩=>⟨h1,O.trans (h2.mono O.size)⟩
  have HM:=H.memK hm;have I:=H.lt;have HJ:He (pW o e=(if (e.sd.toList == e.key.toList)=false then 3 else if bH (memO o e.key) then 4 else if lD (memO o e.key) || rW o || (oB o e.sd && (o dK e.key).isNone) then 0 else 5,true)):=by unfold He pW LP;rw [hmj];rfl
  clear H hmj hm hj;generalize pW o e=r at *;generalize (oB o e.sd && (o dK e.key).isNone)=x3 at *;generalize rW o=x2 at *;generalize lD (memO o e.key)=x1 at *;generalize memO o e.key=t at *
  go_enter func104,ntmps104
  go_wp2_with fail
  refine (HB.o _ af).mono ?_;rintro x w1 ⟨rfl,J⟩;have q1:=(J.cell (by exact I)).trans k1;have q4:=(J.cell (by exact I)).trans k4;have a2:=(J.cell (by exact I)).trans Y
  clear HB
  go_wp2_with fail
  go_cut [10] (fun v wx=>v=.bool (!(e.sd.toList == e.key.toList))/\Below w.heap.size w wx)
  case first =>
   go_quiet (fail)
   all_goals (try go_wp2_with fail)
   all_goals go_meet
   all_goals exact ⟨rfl,qC J _⟩
  case rest =>
   obtain ⟨rfl,G⟩:=hcut;obtain ⟨w2,ao⟩:∃ w2:World,w2=wc:=⟨_,rfl⟩;subst ao;cases hsk:(e.sd.toList == e.key.toList)
   case false =>
    have U:He (r=(3,true)):=by unfold He;rw [HJ.o,hsk];rfl
    go_wp2
    go_ret2
    exact ⟨cT U.o,G⟩
   case true =>
    rw [hsk] at HJ;have s4:=(G.cell (by exact I)).trans k4;have an:=(G.cell (by exact I)).trans Y
    go_wp2_with fail
    go_cut [22] (fun v wx=>v=.bool (bH t)/\Below w.heap.size w wx)
    case first =>
     go_region_held3 (fun W=>W.cell? ⟨h,10,none⟩=some (.map (some mb))/\W.cell? ⟨h,4,none⟩=some (.string e.key)) (first|(with_reducible exact ⟨an,s4⟩)|go_keep)
      (first|(go_at_call 136;refine (HM.o _ (by with_reducible first|exact G|exact G.drew|exact G.drew.drew|exact G.drew.drew.drew|exact G.drew.drew.drew.drew|exact G.drew.drew.drew.drew.drew)).mono ?_;rintro x w3 ⟨rfl,u⟩;have u10:=(u.cell (by exact I)).trans Y;have u4:=(u.cell (by exact I)).trans k4))
     all_goals (try go_wp2_with fail)
     all_goals go_meet
     all_goals exact ⟨rfl,(by with_reducible first|exact u|exact u.drew|exact u.drew.drew|exact u.drew.drew.drew|exact u.drew.drew.drew.drew|exact u.drew.drew.drew.drew.drew)⟩
    case rest =>
     obtain ⟨rfl,u⟩:=hcut;obtain ⟨w3,am⟩:∃ w3:World,w3=wc:=⟨_,rfl⟩;subst am;cases hbn:bH t
     case true =>
      have U:He (r=(4,true)):=by unfold He;rw [HJ.o,hbn];rfl
      go_wp2
      go_ret2
      exact ⟨cT U.o,u⟩
     case false =>
      rw [hbn] at HJ;cases x1
      case true =>
       have U:He (r=(0,true)):=by unfold He;rw [HJ.o];rfl
       go_wp2_with fail
       refine (HX.o _ u).mono ?_;rintro x w4 ⟨rfl,N⟩;go_wp2
       go_ret2
       exact ⟨cT U.o,N⟩
      case false =>
       cases x2
       case true =>
        have U:He (r=(0,true)):=by unfold He;rw [HJ.o];rfl
        go_wp2_with fail
        refine (HX.o _ u).mono ?_;rintro x w4 ⟨rfl,N⟩
        go_wp2_with fail
        refine (HP.o _ N).mono ?_;rintro x w5 ⟨rfl,Z⟩;go_wp2
        go_ret2
        exact ⟨cT U.o,Z⟩
       case false =>
        cases x3
        all_goals
         go_wp2_with fail
         refine (HX.o _ u).mono ?_;rintro x w4 ⟨rfl,N⟩
         go_wp2_with fail
         refine (HP.o _ N).mono ?_;rintro x w5 ⟨rfl,Z⟩
         go_wp2_with fail
         refine (HC.o _ Z).mono ?_;rintro x w6 ⟨rfl,ak⟩;go_wp2
         go_ret2
         exact ⟨cT (by rw [HJ.o];rfl),ak⟩
theorem bs0 (w:World)(H:Hr w h mb c F oc op o e pa cp aa ca ga cg) :
  Calls prog 105 #[.pointer (some ⟨h,0,none⟩)] w fun x w'=>x=.returned (eL (qW o e))/\Below w.heap.size w w':=by
 have I:Below w.heap.size w w:=kB;have k0:w.cell? ⟨h,0,none⟩=some (.string e.id):=H.ev.c0;have Y:w.cell? ⟨h,1,none⟩=some (.string e.sd):=H.ev.c1;have O:w.cell? ⟨h,2,none⟩=some (.string e.ty):=H.ev.c2;have k3:w.cell? ⟨h,3,none⟩=some (.bool e.st):=H.ev.c3;have N:w.cell? ⟨h,4,none⟩=some (.string e.key):=H.ev.c4;have U:w.cell? ⟨h,5,none⟩=some (.int .i64 e.tm):=H.ev.c5;have k6:w.cell? ⟨h,6,none⟩=some (.slice pa e.np cp):=H.ev.c6;have Z:w.cell? ⟨h,7,none⟩=some (.slice aa e.na ca):=H.ev.c7;have J:w.cell? ⟨h,8,none⟩=some (.string e.val):=H.ev.c8;have k9:w.cell? ⟨h,9,none⟩=some (.slice ga e.ng cg):=H.ev.c9;have G:=H.lt;cases hmj:(bE e && bX e.val)
 case false =>
  have Hz:He (qW o e=(0,false)):=by unfold He qW;rw [hmj];rfl
  have HB:=nB pa cp aa ca ga cg (t:=rX) (b:=false) (by rw [rE];exact hmj) w;clear H hmj
  go_enter func105,ntmps105
  go_wp2_with fail
  refine wp_region_held_drew (S:=fun W=>W.cell? ⟨h,0,none⟩=some (.string e.id)/\W.cell? ⟨h,1,none⟩=some (.string e.sd)/\W.cell? ⟨h,2,none⟩=some (.string e.ty)/\W.cell? ⟨h,3,none⟩=some (.bool e.st)/\W.cell? ⟨h,4,none⟩=some (.string e.key)/\W.cell? ⟨h,5,none⟩=some (.int .i64 e.tm)/\W.cell? ⟨h,6,none⟩=some (.slice pa e.np cp)/\W.cell? ⟨h,7,none⟩=some (.slice aa e.na ca)/\W.cell? ⟨h,8,none⟩=some (.string e.val)/\W.cell? ⟨h,9,none⟩=some (.slice ga e.ng cg)) (by kernel_rfl) ?_ (fun hHeld=>?_)
  ·(try dsimp only);first|(with_reducible exact ⟨k0,Y,O,k3,N,U,k6,Z,J,k9⟩)|go_keep
  refine tq 0 rfl ?_;simp only [si];refine tq 1 rfl ?_;simp only [si];refine tq 2 rfl ?_;simp only [si];refine tq 3 rfl ?_;simp only [si];refine rd 4 rfl fun K hK=>?_
  go_simp
  go_at_call 27;refine (HB.o _ (by with_reducible first|exact I|exact I.drew|exact I.drew.drew|exact I.drew.drew.drew|exact I.drew.drew.drew.drew|exact I.drew.drew.drew.drew.drew)).mono ?_;rintro x w2 ⟨rfl,u⟩;have q0:=(u.cell (by exact G)).trans k0;have q1:=(u.cell (by exact G)).trans Y;have q2:=(u.cell (by exact G)).trans O;have q3:=(u.cell (by exact G)).trans k3;have q4:=(u.cell (by exact G)).trans N;have q5:=(u.cell (by exact G)).trans U;have q6:=(u.cell (by exact G)).trans k6;have q7:=(u.cell (by exact G)).trans Z;have q8:=(u.cell (by exact G)).trans J;have q9:=(u.cell (by exact G)).trans k9
  try go_wp2_with fail
  refine hK.out _ _ ?_ (fun hHeld=>?_)
  ·(try dsimp only);first|(with_reducible exact ⟨q0,q1,q2,q3,q4,q5,q6,q7,q8,q9⟩)|go_keep
  clear hK K;try simp only [si]
  refine tq 5 rfl ?_;simp only [si];refine tq 6 rfl ?_;simp only [si];refine tk 7 undef rfl (Or.inr ⟨by rfl,rfl⟩) ?_;simp only [si];refine tk 8 undef rfl (Or.inr ⟨by rfl,rfl⟩) ?_;simp only [si];refine tk 9 undef rfl (Or.inr ⟨by rfl,rfl⟩) ?_;simp only [si];refine tk 10 undef rfl (Or.inr ⟨by rfl,rfl⟩) ?_;simp only [si];refine tk 11 undef rfl (Or.inr ⟨by rfl,rfl⟩) ?_;simp only [si];refine tk 12 undef rfl (Or.inr ⟨by rfl,rfl⟩) ?_;simp only [si];refine tk 13 undef rfl (Or.inr ⟨by rfl,rfl⟩) ?_;simp only [si];refine tk 14 undef rfl (Or.inr ⟨by rfl,rfl⟩) ?_;simp only [si];refine tk 15 undef rfl (Or.inr ⟨by rfl,rfl⟩) ?_;simp only [si];refine tk 16 undef rfl (Or.inr ⟨by rfl,rfl⟩) ?_;simp only [si];refine tk 17 undef rfl (Or.inr ⟨by rfl,rfl⟩) ?_;simp only [si];refine tq 18 rfl ?_;simp only [si];refine wpAnyH_done (by kernel_rfl) ?_ _
  all_goals
   go_wp2
   go_ret2
   exact ⟨cT Hz.o,(by with_reducible first|exact u|exact u.drew|exact u.drew.drew|exact u.drew.drew.drew|exact u.drew.drew.drew.drew|exact u.drew.drew.drew.drew.drew)⟩
 case true =>
  have hm:bE e=true:=by
   cases h1:bE e
   ·rw [h1] at hmj;cases hmj
   rfl
  have HB:=nB pa cp aa ca ga cg (t:=rX) (b:=true) (by rw [rE];exact hmj) w;have HX:He (∀ W,Below w.heap.size w W->Calls prog 137 #[.pointer (some ⟨h,0,none⟩)] W fun x w'=>x=.returned (.bool (lD (memO o e.key)))/\Below w.heap.size w w'):=fun W hW=>(ZW W (H.below hW) hm).mono fun _ _ ⟨h1,h2⟩=>⟨h1,hW.trans (h2.mono hW.size)⟩
  have HJ:He (qW o e=if (e.sd.toList == e.key.toList) then (if lD (memO o e.key) then 0 else 10,true) else (0,false)):=by unfold He qW;rw [hmj];rfl
  clear H hmj hm;generalize qW o e=r at *;generalize lD (memO o e.key)=x1 at *;cases hsk:(e.sd.toList == e.key.toList)
  case false =>
   have Hz:He (r=(0,false)):=by unfold He;rw [HJ.o,hsk];rfl
   clear HJ HX
   go_enter func105,ntmps105
   go_wp2_with fail
   first
    | (go_region_held3 (fun W=>W.cell? ⟨h,0,none⟩=some (.string e.id)/\W.cell? ⟨h,1,none⟩=some (.string e.sd)/\W.cell? ⟨h,2,none⟩=some (.string e.ty)/\W.cell? ⟨h,3,none⟩=some (.bool e.st)/\W.cell? ⟨h,4,none⟩=some (.string e.key)/\W.cell? ⟨h,5,none⟩=some (.int .i64 e.tm)/\W.cell? ⟨h,6,none⟩=some (.slice pa e.np cp)/\W.cell? ⟨h,7,none⟩=some (.slice aa e.na ca)/\W.cell? ⟨h,8,none⟩=some (.string e.val)/\W.cell? ⟨h,9,none⟩=some (.slice ga e.ng cg)) (first|(with_reducible exact ⟨k0,Y,O,k3,N,U,k6,Z,J,k9⟩)|go_keep)
      (first|(go_at_call 27;refine (HB.o _ (by with_reducible first|exact I|exact I.drew|exact I.drew.drew|exact I.drew.drew.drew|exact I.drew.drew.drew.drew|exact I.drew.drew.drew.drew.drew)).mono ?_;rintro x w2 ⟨rfl,u⟩;have q0:=(u.cell (by exact G)).trans k0;have q1:=(u.cell (by exact G)).trans Y;have q2:=(u.cell (by exact G)).trans O;have q3:=(u.cell (by exact G)).trans k3;have q4:=(u.cell (by exact G)).trans N;have q5:=(u.cell (by exact G)).trans U;have q6:=(u.cell (by exact G)).trans k6;have q7:=(u.cell (by exact G)).trans Z;have q8:=(u.cell (by exact G)).trans J;have q9:=(u.cell (by exact G)).trans k9)))
    | fail
   all_goals
    go_wp2
    go_ret2
    exact ⟨cT Hz.o,(by with_reducible first|exact u|exact u.drew|exact u.drew.drew|exact u.drew.drew.drew|exact u.drew.drew.drew.drew|exact u.drew.drew.drew.drew.drew)⟩
  case true =>
   rw [hsk] at HJ
   go_enter func105,ntmps105
   go_wp2_with fail
   go_cut [22] (fun v wx=>v=.bool false/\Below w.heap.size w wx)
   case first =>
    first
     | (go_region_held3 (fun W=>W.cell? ⟨h,0,none⟩=some (.string e.id)/\W.cell? ⟨h,1,none⟩=some (.string e.sd)/\W.cell? ⟨h,2,none⟩=some (.string e.ty)/\W.cell? ⟨h,3,none⟩=some (.bool e.st)/\W.cell? ⟨h,4,none⟩=some (.string e.key)/\W.cell? ⟨h,5,none⟩=some (.int .i64 e.tm)/\W.cell? ⟨h,6,none⟩=some (.slice pa e.np cp)/\W.cell? ⟨h,7,none⟩=some (.slice aa e.na ca)/\W.cell? ⟨h,8,none⟩=some (.string e.val)/\W.cell? ⟨h,9,none⟩=some (.slice ga e.ng cg)) (first|(with_reducible exact ⟨k0,Y,O,k3,N,U,k6,Z,J,k9⟩)|go_keep)
       (first|(go_at_call 27;refine (HB.o _ (by with_reducible first|exact I|exact I.drew|exact I.drew.drew|exact I.drew.drew.drew|exact I.drew.drew.drew.drew|exact I.drew.drew.drew.drew.drew)).mono ?_;rintro x w2 ⟨rfl,u⟩;have q0:=(u.cell (by exact G)).trans k0;have q1:=(u.cell (by exact G)).trans Y;have q2:=(u.cell (by exact G)).trans O;have q3:=(u.cell (by exact G)).trans k3;have q4:=(u.cell (by exact G)).trans N;have q5:=(u.cell (by exact G)).trans U;have q6:=(u.cell (by exact G)).trans k6;have q7:=(u.cell (by exact G)).trans Z;have q8:=(u.cell (by exact G)).trans J;have q9:=(u.cell (by exact G)).trans k9)))
     | fail
    all_goals (try go_wp2_with fail)
    all_goals go_meet
    all_goals exact ⟨rfl,(by with_reducible first|exact u|exact u.drew|exact u.drew.drew|exact u.drew.drew.drew|exact u.drew.drew.drew.drew|exact u.drew.drew.drew.drew.drew)⟩
   case rest =>
    obtain ⟨rfl,u⟩:=hcut;obtain ⟨w2,ay⟩:∃ w2:World,w2=wc:=⟨_,rfl⟩;subst ay;cases x1
    all_goals
     go_wp2_with fail
     refine (HX.o _ u).mono ?_;rintro x w4 ⟨rfl,ao⟩;go_wp2
     go_ret2
     exact ⟨cT (by rw [HJ.o];rfl),ao⟩
end Go.Proofs.YtpfeegcdlikegaaGreat
