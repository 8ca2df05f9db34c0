import Derived.Test.YtpfeegcdlikegaaGreatLvIZ
set_option maxHeartbeats 16000000
set_option maxRecDepth 100000
namespace Go.Proofs.YtpfeegcdlikegaaGreat
open Go.RowKit Go.Maps Go.ChangeMaps Go.Proofs.Tryz
variable {c h ca cg cp mb:Nat}{F:aE->Value}{aa ga oc op pa:Option Addr}{o:dI}{e:Ev}
theorem bh0 (w:World)(H:Hr w h mb c F oc op o e pa cp aa ca ga cg) :
  Calls prog 102 #[.pointer (some ⟨h,0,none⟩)] w fun x w'=>x=.returned (eL (rS o e))/\Below w.heap.size w w':=by
 have U:w.cell? ⟨h,2,none⟩=some (.string e.ty):=H.ev.c2;have O:w.cell? ⟨h,11,none⟩=some (.pointer oc):=H.c11;have u:Below w.heap.size w w:=kB;have N:=H.lev.c;clear H;cases hcr:dV e
 case false =>
  have I:He (rS o e=(0,false)):=by unfold He rS;rw [hcr];rfl
  have G:(e.ty.toList == [99,114,101,97,116,101])=false:=hcr;clear hcr N
  go_enter func102,ntmps102
  go_wp2
  go_ret2
  exact ⟨cT I.o,u⟩
 case true =>
  have G:(e.ty.toList == [99,114,101,97,116,101])=true:=hcr;rcases N with ⟨J,rfl⟩|⟨ev,b,off,J,rfl,-⟩
  ·have I:He (rS o e=(0,true)):=by unfold He rS;rw [hcr,J];rfl
   clear hcr J
   go_enter func102,ntmps102
   go_wp2
   go_ret2
   exact ⟨cT I.o,u⟩
  have I:He (rS o e=(1,true)):=by unfold He rS;rw [hcr,J];rfl
  clear hcr J
  go_enter func102,ntmps102
  go_wp2
  go_ret2
  exact ⟨cT I.o,u⟩
theorem bi0 (w:World)(H:Hr w h mb c F oc op o e pa cp aa ca ga cg) :
  Calls prog 103 #[.pointer (some ⟨h,0,none⟩)] w fun x w'=>x=.returned (eL (pS o))/\Below w.heap.size w w':=by
 have J:w.cell? ⟨h,11,none⟩=some (.pointer oc):=H.c11;have u:Below w.heap.size w w:=kB;have N:=H.lev.c;clear H;rcases N with ⟨G,rfl⟩|⟨ev,b,off,G,rfl,-⟩
 ·have I:He (pS o=(2,true)):=by unfold He pS;rw [G];rfl
  clear G
  go_enter func103,ntmps103
  go_wp2_with fail
  go_quiet (fail)
  all_goals
   go_wp2
   go_ret2
   exact ⟨cT I.o,qC u _⟩
 have I:He (pS o=(2,false)):=by unfold He pS;rw [G];rfl
 clear G
 go_enter func103,ntmps103
 go_wp2_with fail
 go_quiet (fail)
 all_goals
  go_wp2
  go_ret2
  exact ⟨cT I.o,qC u _⟩
theorem bt0 (w:World)(H:Hr w h mb c F oc op o e pa cp aa ca ga cg)(Z:dV e=false) :
  Calls prog 106 #[.pointer (some ⟨h,0,none⟩)] w fun x w'=>x=.returned (eL (DU o e))/\Below w.heap.size w w':=by
 have G:Below w.heap.size w w:=kB;have N:w.cell? ⟨h,1,none⟩=some (.string e.sd):=H.ev.c1;have I:w.cell? ⟨h,10,none⟩=some (.map (some mb)):=H.c10;have J:=H.lt;have U:=H.memS Z;have Y:He (DU o e=(6,!bG (memO o e.sd))):=rfl;clear H;generalize memO o e.sd=t at *
 go_enter func106,ntmps106
 go_wp2_with fail
 go_region_held3 (fun W=>W.cell? ⟨h,10,none⟩=some (.map (some mb))/\W.cell? ⟨h,1,none⟩=some (.string e.sd)) (first|(with_reducible exact ⟨I,N⟩)|go_keep)
  (first|(go_at_call 136;refine (U.o _ (by with_reducible first|exact G|exact G.drew|exact G.drew.drew|exact G.drew.drew.drew|exact G.drew.drew.drew.drew|exact G.drew.drew.drew.drew.drew)).mono ?_;rintro x w2 ⟨rfl,u⟩;have O:=(u.cell (by exact J)).trans I;have q1:=(u.cell (by exact J)).trans N))
 all_goals
  go_wp2
  go_ret2
  exact ⟨cT (by rw [Y.o];rfl),(by with_reducible first|exact u|exact u.drew|exact u.drew.drew|exact u.drew.drew.drew|exact u.drew.drew.drew.drew|exact u.drew.drew.drew.drew.drew)⟩
variable {w:World}
theorem Hr.thing (H:Hr w h mb c F oc op o e pa cp aa ca ga cg)(t:ByteArray)(G:t.size<=1000):He (∀ W,Below w.heap.size w W->Calls prog 140 #[.agg #[.pointer oc,.pointer op],.string t] W fun x w'=>x=.returned (.int .i64 (gA o t))/\Below w.heap.size w w'):=fun W u=>(UW t G W (H.lev.below u)).mono fun _ _ ⟨I,J⟩=>⟨I,u.trans (J.mono u.size)⟩
theorem a80 (w:World)(H:Hr w h mb c F oc op o e pa cp aa ca ga cg) :
  Calls prog 141 #[.pointer (some ⟨h,0,none⟩)] w fun x w'=>x=.returned (.int .i64 (JS o e))/\Below w.heap.size w w':=by
 have G:Below w.heap.size w w:=kB;have k4:w.cell? ⟨h,4,none⟩=some (.string e.key):=H.ev.c4;have N:w.cell? ⟨h,11,none⟩=some (.pointer oc):=H.c11;have O:w.cell? ⟨h,12,none⟩=some (.pointer op):=H.c12;have J:w.cell? ⟨h,13,none⟩=some (.int .i64 (dL o e.sd)):=H.c13;have I:=H.lt;have HU:He (∀ W,Below w.heap.size w W->Calls prog 32 #[.agg #[.pointer oc,.pointer op],.string e.key] W fun x w'=>x=.returned (.int .i64 (dL o e.key))/\Below w.heap.size w w'):=fun W Y=>(UK e.key W (H.lev.below Y)).mono fun _ _ ⟨h1,h2⟩=>⟨h1,Y.trans (h2.mono Y.size)⟩
 have U:He (JS o e=if dL o e.sd<=dL o e.key then 9 else 0):=rfl;clear H;generalize JS o e=r at *;generalize dL o e.sd=a at *;generalize dL o e.key=b at *
 go_enter func141,ntmps141
 go_wp2_with fail
 go_cut [17] (fun v wx=>v=.bool (decide (a<=b))/\Below w.heap.size w wx)
 case first =>
  go_region_held3 (fun W=>W.cell? ⟨h,11,none⟩=some (.pointer oc)/\W.cell? ⟨h,12,none⟩=some (.pointer op)/\W.cell? ⟨h,4,none⟩=some (.string e.key)/\W.cell? ⟨h,13,none⟩=some (.int .i64 a)) (first|(with_reducible exact ⟨N,O,k4,J⟩)|go_keep)
   (first|(go_at_call 32;refine (HU.o _ (by with_reducible first|exact G|exact G.drew|exact G.drew.drew|exact G.drew.drew.drew|exact G.drew.drew.drew.drew|exact G.drew.drew.drew.drew.drew)).mono ?_;rintro x w2 ⟨rfl,u⟩;have ai:=(u.cell (by exact I)).trans N;have aj:=(u.cell (by exact I)).trans O;have q4:=(u.cell (by exact I)).trans k4;have ae:=(u.cell (by exact I)).trans J))
  all_goals (try go_wp2_with fail)
  all_goals go_meet
  all_goals exact ⟨rfl,(by with_reducible first|exact u|exact u.drew|exact u.drew.drew|exact u.drew.drew.drew|exact u.drew.drew.drew.drew|exact u.drew.drew.drew.drew.drew)⟩
 case rest =>
  obtain ⟨rfl,u⟩:=hcut;obtain ⟨w2,ab⟩:∃ w2:World,w2=wc:=⟨_,rfl⟩;subst ab;cases hd:decide (a<=b)
  ·have Z:He (r=0):=by unfold He;rw [U.o,if_neg (of_decide_eq_false hd)]
   clear U;go_wp2
   go_ret;exact ⟨aA Z.o.symm,u⟩
  have Z:He (r=9):=by unfold He;rw [U.o,if_pos (of_decide_eq_true hd)]
  clear U;go_wp2
  go_ret;exact ⟨aA Z.o.symm,u⟩
theorem bo0 (w:World)(H:Hr w h mb c F oc op o e pa cp aa ca ga cg) :
  Calls prog 107 #[.pointer (some ⟨h,0,none⟩)] w fun x w'=>x=.returned (eL (tH o e))/\Below w.heap.size w w':=by
 have Z:Below w.heap.size w w:=kB;have k0:w.cell? ⟨h,0,none⟩=some (.string e.id):=H.ev.c0;have k1:w.cell? ⟨h,1,none⟩=some (.string e.sd):=H.ev.c1;have k2:w.cell? ⟨h,2,none⟩=some (.string e.ty):=H.ev.c2;have k3:w.cell? ⟨h,3,none⟩=some (.bool e.st):=H.ev.c3;have k4:w.cell? ⟨h,4,none⟩=some (.string e.key):=H.ev.c4;have k5:w.cell? ⟨h,5,none⟩=some (.int .i64 e.tm):=H.ev.c5;have k6:w.cell? ⟨h,6,none⟩=some (.slice pa e.np cp):=H.ev.c6;have k7:w.cell? ⟨h,7,none⟩=some (.slice aa e.na ca):=H.ev.c7;have k8:w.cell? ⟨h,8,none⟩=some (.string e.val):=H.ev.c8;have k9:w.cell? ⟨h,9,none⟩=some (.slice ga e.ng cg):=H.ev.c9;have U:w.cell? ⟨h,10,none⟩=some (.map (some mb)):=H.c10;have ab:w.cell? ⟨h,11,none⟩=some (.pointer oc):=H.c11;have Y:w.cell? ⟨h,12,none⟩=some (.pointer op):=H.c12;have ad:w.cell? ⟨h,13,none⟩=some (.int .i64 (dL o e.sd)):=H.c13;have J:=H.lt;cases hmj:(bE e && eU e.val)
 case false =>
  have N:He (tH o e=(0,false)):=by unfold He tH;rw [hmj];rfl
  have HB:=nB pa cp aa ca ga cg (t:=oI) (b:=false) (by rw [IW];exact hmj) w;clear H hmj
  go_enter func107,ntmps107
  go_wp2_with fail
  refine (HB.o _ Z).mono ?_;rintro x w1 ⟨rfl,I⟩;go_wp2
  go_ret2
  exact ⟨cT N.o,I⟩
 case true =>
  have hm:bE e=true:=by
   cases h1:bE e
   ·rw [h1] at hmj;cases hmj
   rfl
  have HB:=nB pa cp aa ca ga cg (t:=oI) (b:=true) (by rw [IW];exact hmj) w;have HM:=H.memK hm;have HT:=H.thing oI (by decide);have O:He (tH o e=(if bG (memO o e.key) || bH (memO o e.key) then 7 else if dL o e.sd<gA o oI then 8 else 0,true)):=by unfold He tH;rw [hmj];rfl
  clear H hmj hm;generalize tH o e=r at *;generalize memO o e.key=t at *;generalize dL o e.sd=a at *;generalize gA o oI=b at *
  go_enter func107,ntmps107
  go_wp2_with fail
  refine (HB.o _ Z).mono ?_;rintro x w1 ⟨rfl,I⟩;have q4:=(I.cell (by exact J)).trans k4;have ah:=(I.cell (by exact J)).trans U
  clear HB
  go_wp2_with fail
  go_cut [4] (fun v wx=>v=.string t/\Below w.heap.size w wx)
  case first =>
   go_region_held3 (fun W=>W.cell? ⟨h,10,none⟩=some (.map (some mb))/\W.cell? ⟨h,4,none⟩=some (.string e.key)) (first|(with_reducible exact ⟨ah,q4⟩)|go_keep)
    (first|(go_at_call 136;refine (HM.o _ (by with_reducible first|exact I|exact I.drew|exact I.drew.drew|exact I.drew.drew.drew|exact I.drew.drew.drew.drew|exact I.drew.drew.drew.drew.drew)).mono ?_;rintro x w2 ⟨rfl,u⟩;have aw:=(u.cell (by exact J)).trans U;have s4:=(u.cell (by exact J)).trans k4))
   all_goals (try go_wp2_with fail)
   all_goals go_meet
   all_goals exact ⟨rfl,(by with_reducible first|exact u|exact u.drew|exact u.drew.drew|exact u.drew.drew.drew|exact u.drew.drew.drew.drew|exact u.drew.drew.drew.drew.drew)⟩
  case rest =>
   obtain ⟨rfl,u⟩:=hcut;obtain ⟨w2,am⟩:∃ w2:World,w2=wc:=⟨_,rfl⟩;subst am;clear HM;cases hjo:bG t
   case true =>
    have N:He (r=(7,true)):=by unfold He;rw [O.o,hjo];rfl
    unfold bG at hjo;clear O;go_wp2
    go_ret2
    exact ⟨cT N.o,u⟩
   case false =>
    cases hbn:bH t
    case true =>
     have N:He (r=(7,true)):=by unfold He;rw [O.o,hjo,hbn];rfl
     unfold bG at hjo;unfold bH at hbn;clear O;go_wp2
     go_ret2
     exact ⟨cT N.o,u⟩
    case false =>
     have N:He (r=(if a<b then 8 else 0,true)):=by unfold He;rw [O.o,hjo,hbn];rfl
     unfold bG at hjo;unfold bH at hbn;clear O;have ag:=(u.cell (by exact J)).trans ab;have ai:=(u.cell (by exact J)).trans Y;have ak:=(u.cell (by exact J)).trans ad
     go_wp2_with fail
     go_cut [36] (fun v wx=>v=.bool (decide (a<b))/\Below w.heap.size w wx)
     case first =>
      go_region_held3 (fun W=>W.cell? ⟨h,11,none⟩=some (.pointer oc)/\W.cell? ⟨h,12,none⟩=some (.pointer op)/\W.cell? ⟨h,13,none⟩=some (.int .i64 a)) (first|(with_reducible exact ⟨ag,ai,ak⟩)|go_keep)
       (first|(go_at_call 140;refine (HT.o _ (by with_reducible first|exact u|exact u.drew|exact u.drew.drew|exact u.drew.drew.drew|exact u.drew.drew.drew.drew|exact u.drew.drew.drew.drew.drew)).mono ?_;rintro x w3 ⟨rfl,G⟩;have u11:=(G.cell (by exact J)).trans ab;have u12:=(G.cell (by exact J)).trans Y;have u13:=(G.cell (by exact J)).trans ad))
      all_goals (try go_wp2_with fail)
      all_goals go_meet
      all_goals exact ⟨rfl,(by with_reducible first|exact G|exact G.drew|exact G.drew.drew|exact G.drew.drew.drew|exact G.drew.drew.drew.drew|exact G.drew.drew.drew.drew.drew)⟩
     case rest =>
      obtain ⟨rfl,G⟩:=hcut;obtain ⟨w3,aj⟩:∃ w3:World,w3=wc:=⟨_,rfl⟩;subst aj;cases hd:decide (a<b)
      ·have Hy:He (r=(0,true)):=by unfold He;rw [N.o,if_neg (of_decide_eq_false hd)]
       clear N;go_wp2
       go_ret2
       exact ⟨cT Hy.o,G⟩
      have Hy:He (r=(8,true)):=by unfold He;rw [N.o,if_pos (of_decide_eq_true hd)]
      clear N;go_wp2
      go_ret2
      exact ⟨cT Hy.o,G⟩
theorem be0 (w:World)(H:Hr w h mb c F oc op o e pa cp aa ca ga cg) :
  Calls prog 108 #[.pointer (some ⟨h,0,none⟩)] w fun x w'=>x=.returned (eL (uB o e))/\Below w.heap.size w w':=by
 have N:Below w.heap.size w w:=kB;have k0:w.cell? ⟨h,0,none⟩=some (.string e.id):=H.ev.c0;have k1:w.cell? ⟨h,1,none⟩=some (.string e.sd):=H.ev.c1;have k2:w.cell? ⟨h,2,none⟩=some (.string e.ty):=H.ev.c2;have k3:w.cell? ⟨h,3,none⟩=some (.bool e.st):=H.ev.c3;have k4:w.cell? ⟨h,4,none⟩=some (.string e.key):=H.ev.c4;have k5:w.cell? ⟨h,5,none⟩=some (.int .i64 e.tm):=H.ev.c5;have k6:w.cell? ⟨h,6,none⟩=some (.slice pa e.np cp):=H.ev.c6;have k7:w.cell? ⟨h,7,none⟩=some (.slice aa e.na ca):=H.ev.c7;have k8:w.cell? ⟨h,8,none⟩=some (.string e.val):=H.ev.c8;have k9:w.cell? ⟨h,9,none⟩=some (.slice ga e.ng cg):=H.ev.c9;have ak:w.cell? ⟨h,10,none⟩=some (.map (some mb)):=H.c10;have O:w.cell? ⟨h,11,none⟩=some (.pointer oc):=H.c11;have J:w.cell? ⟨h,12,none⟩=some (.pointer op):=H.c12;have U:w.cell? ⟨h,13,none⟩=some (.int .i64 (dL o e.sd)):=H.c13;have I:=H.lt;cases hmj:(bE e && bH e.val)
 case false =>
  have Hz:He (uB o e=(0,false)):=by unfold He uB;rw [hmj];rfl
  have Y:=nB pa cp aa ca ga cg (t:=jZ) (b:=false) (by rw [IY];exact hmj) w;clear H hmj
  go_enter func108,ntmps108
  go_wp2_with fail
  refine (Y.o _ N).mono ?_;rintro x w1 ⟨rfl,G⟩;go_wp2
  go_ret2
  exact ⟨cT Hz.o,G⟩
 case true =>
  have Y:=nB pa cp aa ca ga cg (t:=jZ) (b:=true) (by rw [IY];exact hmj) w;have HT:=H.thing jZ (by decide);have HO:He (∀ W,Below w.heap.size w W->Calls prog 141 #[.pointer (some ⟨h,0,none⟩)] W fun x w'=>x=.returned (.int .i64 (JS o e))/\Below w.heap.size w w'):=fun W hW=>(a80 W (H.below hW)).mono fun _ _ ⟨h1,h2⟩=>⟨h1,hW.trans (h2.mono hW.size)⟩
  have Z:He (uB o e=(if dL o e.sd<gA o jZ then 8 else JS o e,true)):=by unfold He uB;rw [hmj];rfl
  clear H hmj;generalize uB o e=r at *;generalize JS o e=ov at *;generalize dL o e.sd=a at *;generalize gA o jZ=b at *
  go_enter func108,ntmps108
  go_wp2_with fail
  refine (Y.o _ N).mono ?_;rintro x w1 ⟨rfl,G⟩;have ad:=(G.cell (by exact I)).trans O;have ae:=(G.cell (by exact I)).trans J;have af:=(G.cell (by exact I)).trans U
  clear Y
  go_wp2_with fail
  go_cut [19] (fun v wx=>v=.bool (decide (a<b))/\Below w.heap.size w wx)
  case first =>
   go_region_held3 (fun W=>W.cell? ⟨h,11,none⟩=some (.pointer oc)/\W.cell? ⟨h,12,none⟩=some (.pointer op)/\W.cell? ⟨h,13,none⟩=some (.int .i64 a)) (first|(with_reducible exact ⟨ad,ae,af⟩)|go_keep)
    (first|(go_at_call 140;refine (HT.o _ (by with_reducible first|exact G|exact G.drew|exact G.drew.drew|exact G.drew.drew.drew|exact G.drew.drew.drew.drew|exact G.drew.drew.drew.drew.drew)).mono ?_;rintro x w3 ⟨rfl,u⟩;have u11:=(u.cell (by exact I)).trans O;have u12:=(u.cell (by exact I)).trans J;have u13:=(u.cell (by exact I)).trans U))
   all_goals (try go_wp2_with fail)
   all_goals go_meet
   all_goals exact ⟨rfl,(by with_reducible first|exact u|exact u.drew|exact u.drew.drew|exact u.drew.drew.drew|exact u.drew.drew.drew.drew|exact u.drew.drew.drew.drew.drew)⟩
  case rest =>
   obtain ⟨rfl,u⟩:=hcut;obtain ⟨w3,ag⟩:∃ w3:World,w3=wc:=⟨_,rfl⟩;subst ag;cases hd:decide (a<b)
   ·have Hy:He (r=(ov,true)):=by unfold He;rw [Z.o,if_neg (of_decide_eq_false hd)]
    clear Z
    go_wp2_with fail
    refine (HO.o _ u).mono ?_;rintro x w4 ⟨rfl,ah⟩;go_wp2
    go_ret2
    exact ⟨cT Hy.o,ah⟩
   have Hy:He (r=(8,true)):=by unfold He;rw [Z.o,if_pos (of_decide_eq_true hd)]
   clear Z;go_wp2
   go_ret2
   exact ⟨cT Hy.o,u⟩
theorem bk0 (w:World)(H:Hr w h mb c F oc op o e pa cp aa ca ga cg)(ht:e.ty.size<=1000) :
  Calls prog 110 #[.pointer (some ⟨h,0,none⟩)] w fun x w'=>x=.returned (eL (NC o e))/\Below w.heap.size w w':=by
 have I:Below w.heap.size w w:=kB;have k0:w.cell? ⟨h,0,none⟩=some (.string e.id):=H.ev.c0;have k1:w.cell? ⟨h,1,none⟩=some (.string e.sd):=H.ev.c1;have k2:w.cell? ⟨h,2,none⟩=some (.string e.ty):=H.ev.c2;have k3:w.cell? ⟨h,3,none⟩=some (.bool e.st):=H.ev.c3;have Z:w.cell? ⟨h,4,none⟩=some (.string e.key):=H.ev.c4;have k5:w.cell? ⟨h,5,none⟩=some (.int .i64 e.tm):=H.ev.c5;have k6:w.cell? ⟨h,6,none⟩=some (.slice pa e.np cp):=H.ev.c6;have k7:w.cell? ⟨h,7,none⟩=some (.slice aa e.na ca):=H.ev.c7;have Y:w.cell? ⟨h,8,none⟩=some (.string e.val):=H.ev.c8;have k9:w.cell? ⟨h,9,none⟩=some (.slice ga e.ng cg):=H.ev.c9;have am:w.cell? ⟨h,10,none⟩=some (.map (some mb)):=H.c10;have N:w.cell? ⟨h,11,none⟩=some (.pointer oc):=H.c11;have J:w.cell? ⟨h,12,none⟩=some (.pointer op):=H.c12;have O:w.cell? ⟨h,13,none⟩=some (.int .i64 (dL o e.sd)):=H.c13;have G:=H.lt;have HV:He (∀ W,Below w.heap.size w W->Calls prog 142 #[.agg #[.pointer oc,.pointer op],.agg (ec e pa cp aa ca ga cg)] W fun x w'=>x=.returned (.int .i64 (BV o e))/\Below w.heap.size w w'):=fun W U=>(ab0 e pa cp aa ca ga cg ht W (H.lev.below U)).mono fun _ _ ⟨h1,h2⟩=>⟨h1,U.trans (h2.mono U.size)⟩
 have Hz:He (NC o e=(8,decide (dL o e.sd<BV o e))):=rfl;clear H;generalize NC o e=r at *;generalize dL o e.sd=a at *;generalize BV o e=b at *
 go_enter func110,ntmps110
 go_wp2_with fail
 go_region_held3 (fun W=>W.cell? ⟨h,0,none⟩=some (.string e.id)/\W.cell? ⟨h,1,none⟩=some (.string e.sd)/\W.cell? ⟨h,2,none⟩=some (.string e.ty)/\W.cell? ⟨h,3,none⟩=some (.bool e.st)/\W.cell? ⟨h,4,none⟩=some (.string e.key)/\W.cell? ⟨h,5,none⟩=some (.int .i64 e.tm)/\W.cell? ⟨h,6,none⟩=some (.slice pa e.np cp)/\W.cell? ⟨h,7,none⟩=some (.slice aa e.na ca)/\W.cell? ⟨h,8,none⟩=some (.string e.val)/\W.cell? ⟨h,9,none⟩=some (.slice ga e.ng cg)/\W.cell? ⟨h,11,none⟩=some (.pointer oc)/\W.cell? ⟨h,12,none⟩=some (.pointer op)/\W.cell? ⟨h,13,none⟩=some (.int .i64 a)) (first|(with_reducible exact ⟨k0,k1,k2,k3,Z,k5,k6,k7,Y,k9,N,J,O⟩)|go_keep)
  (first|(go_at_call 142;refine (HV.o _ (by with_reducible first|exact I|exact I.drew|exact I.drew.drew|exact I.drew.drew.drew|exact I.drew.drew.drew.drew|exact I.drew.drew.drew.drew.drew)).mono ?_;rintro x w2 ⟨rfl,u⟩;have q0:=(u.cell (by exact G)).trans k0;have q1:=(u.cell (by exact G)).trans k1;have q2:=(u.cell (by exact G)).trans k2;have q3:=(u.cell (by exact G)).trans k3;have q4:=(u.cell (by exact G)).trans Z;have q5:=(u.cell (by exact G)).trans k5;have q6:=(u.cell (by exact G)).trans k6;have q7:=(u.cell (by exact G)).trans k7;have q8:=(u.cell (by exact G)).trans Y;have q9:=(u.cell (by exact G)).trans k9;have ap:=(u.cell (by exact G)).trans N;have aq:=(u.cell (by exact G)).trans J;have au:=(u.cell (by exact G)).trans O))
 all_goals
  go_wp2
  go_ret2
  exact ⟨cT Hz.o,(by with_reducible first|exact u|exact u.drew|exact u.drew.drew|exact u.drew.drew.drew|exact u.drew.drew.drew.drew|exact u.drew.drew.drew.drew.drew)⟩
theorem VZ {s:ByteArray}(h:0<s.size):((s.extract 0 1).toList == [64])=iD s:=by
 unfold iD;rw [dif_pos h,ByteArray.toList_eq]
 have J:(s.extract 0 1).data.toList=[s[0]]:=by
  have N:s.data.toList≠[]:=fun H=>by
   have I:s.size=s.data.toList.length:=rfl;rw [H,List.length_nil] at I;omega
  rw [ByteArray.data_extract,Array.toList_extract]
  cases hq:s.data.toList with
  | nil=>exact absurd hq N
  | cons x l =>
   have h5:s[0]=x:=by
    show s.data[0]=x
    rw [<- Array.getElem_toList];simp [hq]
   rw [h5];simp [List.extract_eq_take_drop]
 rw [J];generalize s[0]=c
 have G:(c.toNat:Int)=64↔c=64:=⟨fun hh=>by
  apply UInt8.toNat_inj.1
  show c.toNat=64
  omega,fun hh=>by subst hh;rfl⟩
 by_cases u:c=64
 ·rw [decide_eq_true (G.2 u),u];rfl
 rw [decide_eq_false (fun h5=>u (G.1 h5))];simp [u]
theorem XX (s:ByteArray)(H:s.size<=maxLen)(w:World) :
  Calls prog 143 #[.string s,.string ⟨#[64]⟩] w fun x w'=>x=.returned (.bool (iD s))/\w'=w:=by
 unfold maxLen at H
 by_cases G:0<s.size
 ·have u:He (((s.extract 0 1).toList == [64])=iD s):=VZ G
  have I:decide ((1:Int)<=(s.size:Int))=true:=decide_eq_true (by omega);have J:(1:Int)<=(s.size:Int):=by omega
  generalize iD s=b at *
  go_enter func143,ntmps143
  go_wp2
  go_ret;exact ⟨aC u.o,rfl⟩
 have u:He (iD s=false):=by unfold He iD;rw [dif_neg G]
 have I:decide ((1:Int)<=(s.size:Int))=false:=decide_eq_false (by omega);have J:s.size=0:=by omega
 generalize iD s=b at *
 go_enter func143,ntmps143
 go_wp2
 go_ret;exact ⟨aC u.o.symm,rfl⟩
theorem b30 (w:World)(H:Hr w h mb c F oc op o e pa cp aa ca ga cg) :
  Calls prog 111 #[.pointer (some ⟨h,0,none⟩)] w fun x w'=>x=.returned (eL (ME e))/\Below w.heap.size w w':=by
 have u:Below w.heap.size w w:=kB;have N:w.cell? ⟨h,1,none⟩=some (.string e.sd):=H.ev.c1;have J:w.cell? ⟨h,4,none⟩=some (.string e.key):=H.ev.c4;have G:He (∀ W,Calls prog 143 #[.string e.key,.string ⟨#[64]⟩] W fun x w'=>x=.returned (.bool (iD e.key))/\w'=W):=fun W=>XX e.key H.ok.hkey W
 have I:He (ME e=(11,iD e.key && !(e.key.toList == e.sd.toList))):=rfl;clear H;generalize ME e=r at *;generalize iD e.key=b at *;cases b
 all_goals
  go_enter func111,ntmps111
  go_wp2_with fail
  go_quiet ((go_at_call 143;exact Calls.quiet_of_same (G.o _)))
  all_goals
   go_wp2
   go_ret2
   exact ⟨cT (by rw [I.o];rfl),qC u _⟩
theorem Hr.gp (H:Hr w h mb c F oc op o e pa cp aa ca ga cg){p:Ev}{I:Option Addr}{G:Nat}(hg:gN w I p.ng G p.M p.L)(hp:o aX aJ=some p)(s:ByteArray):He (∀ W,Below w.heap.size w W->Calls prog 125 #[.slice I p.ng G,.string s] W fun x w'=>x=.returned (fQ (gV p.M p.L s p.ng))/\Below w.heap.size w w'):=fun W u=>(MR s W (H.lev.asc p hp).1 (by have:=(H.lev.asc p hp).2;omega) (hg.below u)).mono fun _ _ ⟨J,N⟩=>⟨J,u.trans (N.below.mono u.size)⟩
theorem Hr.ge (H:Hr w h mb c F oc op o e pa cp aa ca ga cg)(hi:aT e=true)(s:ByteArray):He (∀ W,Below w.heap.size w W->Calls prog 125 #[.slice ga e.ng cg,.string s] W fun x w'=>x=.returned (fQ (gV e.M e.L s e.ng))/\Below w.heap.size w w'):=fun W u=>(MR s W (qA H.code hi).2 (by have:=(qA H.code hi).1;omega) (H.ok.hg.below u)).mono fun _ _ ⟨G,I⟩=>⟨G,u.trans (I.below.mono u.size)⟩
theorem b40 (w:World)(H:Hr w h mb c F oc op o e pa cp aa ca ga cg){p:Ev}{pb po:Nat}{qa:Option Addr}{qc:Nat}(ap:op=some ⟨pb,po,none⟩)(_hpb:pb<w.heap.size)(ag:w.cell? ⟨pb,po+9,none⟩=some (.slice qa p.ng qc))(hg:gN w qa p.ng qc p.M p.L)(hp:o aX aJ=some p)(hi:aT e=true)(s:ByteArray)(hs:s.size<=maxLen) :
  Calls prog 145 #[.pointer (some ⟨h,0,none⟩),.string s] w fun x w'=>x=.returned (.bool (pJ p e (dL o e.sd) s))/\Below w.heap.size w w':=by
 have ax:Below w.heap.size w w:=kB;have k1:w.cell? ⟨h,1,none⟩=some (.string e.sd):=H.ev.c1;have k9:w.cell? ⟨h,9,none⟩=some (.slice ga e.ng cg):=H.ev.c9;have aw:w.cell? ⟨h,12,none⟩=some (.pointer op):=H.c12;have ah:w.cell? ⟨h,13,none⟩=some (.int .i64 (dL o e.sd)):=H.c13;subst ap;have O:=H.lt;have HP:=H.gp hg hp s;have HE:=H.ge hi s;have Hv:He (pJ p e (dL o e.sd) s=IP (gV p.M p.L s p.ng) (gV e.M e.L s e.ng) (dL o e.sd) s e.sd):=rfl;have HW:He (∀ (uM:Nat) (W:World),W.cell? ⟨uM,0,none⟩=some (.string s)->Calls prog 55 #[.slice (some ⟨uM,0,none⟩) 1 1] W fun x w'=>x=.returned (.bool (cU s))/\w'=W):=fun uM W hc=>fO uM s W hs hc
 clear H hg hp hi;generalize pJ p e (dL o e.sd) s=r at *;generalize dL o e.sd=own at *;generalize gV p.M p.L s p.ng=A at *;generalize gV e.M e.L s e.ng=B at *;generalize hiw:cU s=iw at *
 have step:∀ (a b:Int) (ha hb:Bool),A=(if ha then some a else none)->B=(if hb then some b else none)->(ha=false->a=0)->(hb=false->b=0)->Calls prog 145 #[.pointer (some ⟨h,0,none⟩),.string s] w fun x w'=>x=.returned (.bool r)/\Below w.heap.size w w':=by
  intro a b ha hb hA hB J N
  have EA:He (fQ A=.tuple #[.int .i64 a,.bool ha]):=by
   unfold He;rw [hA];cases ha
   ·rw [J rfl];rfl
   rfl
  have EB:He (fQ B=.tuple #[.int .i64 b,.bool hb]):=by
   unfold He;rw [hB];cases hb
   ·rw [N rfl];rfl
   rfl
  have af:He (r=if (ha == hb) && decide (a=b) then true else if (ha && decide (own<a)) || (hb && decide (own<b)) then false else !(iw && !(s.toList == e.sd.toList) && ha && decide (own<=a))):=by
   unfold He;rw [Hv.o,hA,hB];unfold IP
   cases ha <;> cases hb <;> simp [J,N,hiw]
  have I:He (r=if (ha == hb) && decide (a=b) then true else if (ha && decide (own<a)) || (hb && decide (own<b)) then false else !(iw && !(s.toList == e.sd.toList) && ha && !decide (a<own))):=by
   have au:decide (own<=a)=!decide (a<own):=by
    by_cases h1:a<own
    ·rw [decide_eq_true h1,decide_eq_false (by omega)];rfl
    rw [decide_eq_false h1,decide_eq_true (by omega)];rfl
   unfold He;rw [af.o,au]
  have an:He (ha=false->a=0):=J;have aq:He (hb=false->b=0):=N;rw [EA.o] at HP;rw [EB.o] at HE;clear Hv EA EB hA hB J N af hiw;have bk:He (w.cell? ⟨pb,po+9,none⟩=some (.slice qa p.ng qc)):=ag
  go_enter func145,ntmps145
  go_wp2_with fail
  refine (HP.o _ ax).mono ?_;rintro x w1 ⟨rfl,ad⟩;have q9:=(ad.cell (by exact O)).trans k9;clear HP ag
  go_wp2_with fail
  refine (HE.o _ ad).mono ?_;rintro x w2 ⟨rfl,u⟩;have s1:=(u.cell (by exact O)).trans k1;have a4:=(u.cell (by exact O)).trans ah;clear HE q9 k1 k9 aw ah;have ae:((w2.alloc (.cells #[.string s] 9)).cell? ⟨w2.heap.size,0,none⟩)=some (.string s):=kA rfl;have Y:Below w.heap.size w (w2.alloc (.cells #[.string s] 9)):=u.alloc u.size _;have U:h<w2.heap.size:=nT O u.size;have t1:(w2.alloc (.cells #[.string s] 9)).cell? ⟨h,1,none⟩=some (.string e.sd):=(bA.cell (by exact U)).trans s1;have bn:(w2.alloc (.cells #[.string s] 9)).cell? ⟨h,13,none⟩=some (.int .i64 own):=(bA.cell (by exact U)).trans a4;have bo:h≠w2.heap.size:=by omega
  have Z:He (Calls prog 55 #[.slice (some ⟨w2.heap.size,0,none⟩) 1 1] (w2.alloc (.cells #[.string s] 9)) fun x w'=>x=.returned (.bool iw)/\w'=(w2.alloc (.cells #[.string s] 9))):=HW.o _ _ ae;clear HW ae ad;cases ha <;> cases hb
  case false.false =>
   obtain rfl:=an.o rfl;obtain rfl:=aq.o rfl;go_wp2
   go_ret;exact ⟨aC (by rw [I.o];rfl),u⟩
  case false.true =>
   cases hd2:decide (own<b)
   case true =>
    go_wp2
    go_ret;exact ⟨aC (by rw [I.o,hd2];rfl),u⟩
   case false =>
    go_wp2_with fail
    refine Z.o.mono ?_;rintro x w3 ⟨rfl,rfl⟩;cases iw <;> cases hsk:(s.toList == e.sd.toList) <;> cases hd3:decide (a<own)
    all_goals
     go_wp2
     go_ret;exact ⟨aC (by rw [I.o,hd2,hsk,hd3];rfl),Y⟩
  case true.false =>
   cases hd1:decide (own<a)
   case true =>
    go_wp2
    go_ret;exact ⟨aC (by rw [I.o,hd1];rfl),u⟩
   case false =>
    go_wp2_with fail
    refine Z.o.mono ?_;rintro x w3 ⟨rfl,rfl⟩;cases iw <;> cases hsk:(s.toList == e.sd.toList) <;> cases hd3:decide (a<own)
    all_goals
     go_wp2
     go_ret;exact ⟨aC (by rw [I.o,hd1,hsk,hd3];rfl),Y⟩
  case true.true =>
   by_cases ab:a=b
   ·subst ab
    have ai:decide (a=a)=true:=decide_eq_true rfl;go_wp2
    go_ret;exact ⟨aC (by rw [I.o,ai];rfl),u⟩
   have G:decide (a=b)=false:=decide_eq_false ab;have bg:(a == b)=false:=by simpa using ab
   cases hd1:decide (own<a)
   case true =>
    go_wp2
    go_ret;exact ⟨aC (by rw [I.o,G,hd1];rfl),u⟩
   case false =>
    cases hd2:decide (own<b)
    case true =>
     go_wp2
     go_ret;exact ⟨aC (by rw [I.o,G,hd1,hd2];rfl),u⟩
    case false =>
     go_wp2_with fail
     refine Z.o.mono ?_;rintro x w3 ⟨rfl,rfl⟩;cases iw <;> cases hsk:(s.toList == e.sd.toList) <;> cases hd3:decide (a<own)
     all_goals
      go_wp2
      go_ret;exact ⟨aC (by rw [I.o,G,hd1,hd2,hsk,hd3];rfl),Y⟩
 cases A with
 | none =>
  cases B with
  | none=>exact step 0 0 false false rfl rfl (fun _=>rfl) (fun _=>rfl)
  | some y=>exact step 0 y false true rfl rfl (fun _=>rfl) (fun h=>nomatch h)
 | some x =>
  cases B with
  | none=>exact step x 0 true false rfl rfl (fun h=>nomatch h) (fun _=>rfl)
  | some y=>exact step x y true true rfl rfl (fun h=>nomatch h) (fun h=>nomatch h)
end Go.Proofs.YtpfeegcdlikegaaGreat
