import Derived.Test.YtnbdlaglnefcbaaGreatRows
import Derived.Test.YtnbdlaglnefcbaaGreatDiS
import Derived.Test.YtnbdlaglnefcbaaGreatInIZ
import Derived.ProofKit
import Derived.SizedLaws
import Derived.Deep.Strs
namespace Go.Proofs.YtnbdlaglnefcbaaGreat
open Go.RowKit
def NdP (N:Nat)(E:Nat->Ev)(V:Ev)(W:World)(x:Ending)(w':World):Prop :=
 ∃ b cap pa cp aa ca ga cg,x=.returned (.tuple #[.agg #[.slice (some ⟨b,0,none⟩) N cap],.agg #[.string V.id,.string V.sd,.string V.ty,.bool V.st,.string V.key,.int .i64 V.tm,.slice pa V.np cp,.slice aa V.na ca,.string V.val,.slice ga V.ng cg]])∧Hid (SlV w' (some ⟨b,0,none⟩) N cap E)∧Hid (EvOk w' V pa cp aa ca ga cg)∧(EvReach V∧N<=301∧∀ i,i<N->EvReach (E i))∧Below W.heap.size W w'
def NsP (M:Nat)(X:Nat->Ev)(cd:Int)(W:World)(x:Ending)(w':World):Prop :=
 ∃ va vc,x=.returned (.tuple #[.agg #[.slice va M vc],.int .i64 cd])∧Hid (SlV w' va M vc X)∧Below W.heap.size W w'
theorem InPost.ns {Q:World->Ev->Ls->Prop}(c:QC Q){E:Nat->Ev}{n:Nat}{e:Ev}{w w':World}{x:Ending}(h:InPost Q E n e w x w'):NsP (insN E n e) (extE E n e) (insCode E n e) w x w':=by
 obtain ⟨v,T,rfl,hV,hb⟩:=h
 obtain ⟨va,vc,rfl,hs⟩:=hV.out.slv c
 exact ⟨va,vc,rfl,hs,hb⟩
theorem insS_ns {b n cap:Nat}{E:Nat->Ev}{e:Ev}{pa aa ga:Option Addr}{cp ca cg:Nat}(W:World)(hr:EvReach e∧n<=301∧∀ i,i<n->EvReach (E i))(h:SlV W (some ⟨b,0,none⟩) n cap E)(he:EvOk W e pa cp aa ca ga cg) :
  Calls Tryz.prog 5 #[.agg #[.slice (some ⟨b,0,none⟩) n cap],.agg #[.string e.id,.string e.sd,.string e.ty,.bool e.st,.string e.key,.int .i64 e.tm,.slice pa e.np cp,.slice aa e.na ca,.string e.val,.slice ga e.ng cg]] W (NsP (insN E n e) (extE E n e) (insCode E n e) W):=by
 rcases h.cells with h0|⟨b',off,hb,hlt,hc⟩
 ·exact (inS_any b 0 n cap E e W (by omega) hr.2.2 hr.1 h (fun hp=>by omega) (fun i hi=>by omega) he).mono fun _ _ hx=>hx.ns qcJ
 ·injection hb with hb
  injection hb with hb1 hb2
  subst hb1 hb2
  exact (inS_any b 0 n cap E e W (by omega) hr.2.2 hr.1 h (fun _=>hlt) hc he).mono fun _ _ hx=>hx.ns qcJ
theorem insI_ns {b n cap:Nat}{E:Nat->Ev}{e:Ev}{pa aa ga:Option Addr}{cp ca cg:Nat}(W:World)(hr:EvReach e∧n<=301∧∀ i,i<n->EvReach (E i))(h:SlV W (some ⟨b,0,none⟩) n cap E)(he:EvOk W e pa cp aa ca ga cg) :
  Calls Tryz.prog 6 #[.agg #[.slice (some ⟨b,0,none⟩) n cap],.agg #[.string e.id,.string e.sd,.string e.ty,.bool e.st,.string e.key,.int .i64 e.tm,.slice pa e.np cp,.slice aa e.na ca,.string e.val,.slice ga e.ng cg]] W (NsP (insN E n e) (extE E n e) (insCode E n e) W):=by
 rcases h.cells with h0|⟨b',off,hb,hlt,hc⟩
 ·exact (inI_any b 0 n cap E e W (by omega) hr.2.2 hr.1 h (fun hp=>by omega) (fun i hi=>by omega) he).mono fun _ _ hx=>hx.ns qcI
 ·injection hb with hb
  injection hb with hb1 hb2
  subst hb1 hb2
  exact (inI_any b 0 n cap E e W (by omega) hr.2.2 hr.1 h (fun _=>hlt) hc he).mono fun _ _ hx=>hx.ns qcI
theorem evC_alloc (W:World)(e:Ev)(pa:Option Addr)(cp:Nat)(aa:Option Addr)(ca:Nat)(ga:Option Addr)(cg:Nat):EvCells (W.alloc (.cells #[.string e.id,.string e.sd,.string e.ty,.bool e.st,.string e.key,.int .i64 e.tm,.slice pa e.np cp,.slice aa e.na ca,.string e.val,.slice ga e.ng cg] 29)) W.heap.size 0 e pa cp aa ca ga cg:=by
 refine ⟨?_,?_,?_,?_,?_,?_,?_,?_,?_,?_⟩
 all_goals
  rw [World.cell?_alloc_at _ _ _ _ rfl]
  rfl
def NsRel (m:Nat)(w0:World)(iv:Value)(wr:World):Prop:=∃ k:Nat,k<=m∧iv=.int .i64 (k:Int)∧Below w0.heap.size w0 wr
set_option maxRecDepth 100000 in
set_option maxHeartbeats 4000000 in
theorem lawInsert {a:Option Addr}{n cap:Nat}{bs:Nat->Nat}(w:World)(hle:n<=cap)(hmax:cap<=maxLen)(h:BytesV w a n bs)(hb1:∀ i,i<n->bs i<256) :
  Calls Tryz.prog 3 #[.slice a n cap] w fun e w'=>e=.returned (.bool true)∧Below w.heap.size w w':=by
 have HS:Hid (∀ W,Below w.heap.size w W->Calls Tryz.prog 4 #[.slice a n cap] W (NdP (diN bs (rdN n)) (diE bs (rdN n)) (diV bs (rdN n)) W)):=fun W hW=>(drawInsert W hle hmax (h.imp id fun ⟨b,off,e,hlt,hx⟩=>⟨b,off,e,Nat.lt_of_lt_of_le hlt hW.size,fun i hi=>(hW.cell (by exact hlt)).trans (hx i hi)⟩) hb1).mono fun _ _ ⟨b,cap,pa,cp,aa,ca,ga,cg,h1,h2,h3,h4,h5⟩=>⟨b,cap,pa,cp,aa,ca,ga,cg,h1,h2,h3,h4,h5⟩
 have hnm:(n:Int)<=9223372036854775807:=by unfold maxLen at hmax;omega
 clear hmax hle h hb1
 generalize diN bs (rdN n)=N at *
 generalize diE bs (rdN n)=E at *
 generalize diV bs (rdN n)=V at *
 by_cases hbig:1048576<n
 ·go_enter Tryz.func3,Tryz.ntmps3
  go_wp2
  go_ret
  exact ⟨rfl,Below.refl _ _⟩
 go_enter Tryz.func3,Tryz.ntmps3
 go_wp2_with fail
 refine (HS.out w (Below.refl _ _)).mono ?_
 rintro x w1 ⟨b,rc,pa,cp,aa,ca,ga,cg,rfl,hs1,hok1,hR,hw1⟩
 have HI:Hid (∀ W b cap pa cp aa ca ga cg,Hid (SlV W (some ⟨b,0,none⟩) N cap E)->Hid (EvOk W V pa cp aa ca ga cg)->Calls Tryz.prog 5 #[.agg #[.slice (some ⟨b,0,none⟩) N cap],.agg #[.string V.id,.string V.sd,.string V.ty,.bool V.st,.string V.key,.int .i64 V.tm,.slice pa V.np cp,.slice aa V.na ca,.string V.val,.slice ga V.ng cg]] W (NsP (insN E N V) (extE E N V) (insCode E N V) W)):=fun W b cap pa cp aa ca ga cg h1 h2=>insS_ns W hR h1.out h2.out
 have HJ:Hid (∀ W b cap pa cp aa ca ga cg,Hid (SlV W (some ⟨b,0,none⟩) N cap E)->Hid (EvOk W V pa cp aa ca ga cg)->Calls Tryz.prog 6 #[.agg #[.slice (some ⟨b,0,none⟩) N cap],.agg #[.string V.id,.string V.sd,.string V.ty,.bool V.st,.string V.key,.int .i64 V.tm,.slice pa V.np cp,.slice aa V.na ca,.string V.val,.slice ga V.ng cg]] W (NsP (insN E N V) (extE E N V) (insCode E N V) W)):=fun W b cap pa cp aa ca ga cg h1 h2=>insI_ns W hR h1.out h2.out
 have HM:Hid ((insCode E N V=0->insN E N V=N+1)∧(insCode E N V≠0->insN E N V=N)):=⟨fun h=>by unfold insN;rw [if_pos h],fun h=>by unfold insN;rw [if_neg h]⟩
 have HX:Hid ((∀ i,i<N->extE E N V i=E i)∧extE E N V N=V):=⟨fun i hi=>extE_lt V hi,extE_at N V⟩
 have HT:Hid (insCode E N V=0->roomTo (extE E N V) (insN E N V)=roomTo E N):=fun h=>by
  have:insN E N V=N+1:=by unfold insN;rw [if_pos h]
  rw [this]
  exact roomTo_one h
 have hN:=hR.2.1
 have HRs:Hid (∀ W a n cap E,SlV W a n cap E->Calls Tryz.prog 8 #[.agg #[.slice a n cap]] W fun e w'=>e=.returned (.bool (roomTo E n))∧Below W.heap.size W w'):=fun W _ _ _ _ h=>roomS_sl W h
 have HRi:Hid (∀ W a n cap E,SlV W a n cap E->Calls Tryz.prog 9 #[.agg #[.slice a n cap]] W fun e w'=>e=.returned (.bool (roomTo E n))∧Below W.heap.size W w'):=fun W _ _ _ _ h=>roomI_sl W h
 clear hR
 generalize insN E N V=M at *
 generalize extE E N V=X at *
 generalize insCode E N V=cd at *
 have h31:=Nat.le_refl N
 obtain ⟨wa,hwa⟩:∃ wa,wa=(w1.alloc (.cells #[.slice (some ⟨b,0,none⟩) N rc] 25)).alloc (.cells #[.string V.id,.string V.sd,.string V.ty,.bool V.st,.string V.key,.int .i64 V.tm,.slice pa V.np cp,.slice aa V.na ca,.string V.val,.slice ga V.ng cg] 29):=⟨_,rfl⟩
 have hba:Below w1.heap.size w1 wa:=by rw [hwa];exact bA.alloc (by simp) _
 have hsa:w1.heap.size+1<wa.heap.size:=by rw [hwa];simp
 have r0:wa.cell? ⟨w1.heap.size,0,none⟩=some (.slice (some ⟨b,0,none⟩) N rc):=by rw [hwa,World.cell?_alloc_past _ _ _ (by simp)];exact World.cell?_alloc_at _ _ _ _ rfl
 have HC:Hid (EvCells wa (w1.heap.size+1) 0 V pa cp aa ca ga cg):=by
  rw [hwa]
  have hq:=evC_alloc (w1.alloc (.cells #[.slice (some ⟨b,0,none⟩) N rc] 25)) V pa cp aa ca ga cg
  rw [show (w1.alloc (.cells #[.slice (some ⟨b,0,none⟩) N rc] 25)).heap.size=w1.heap.size+1 from by simp] at hq
  exact hq
 have hs1a:Hid (SlV wa (some ⟨b,0,none⟩) N rc E):=hs1.out.below hba
 have hoka:Hid (EvOk wa V pa cp aa ca ga cg):=hok1.out.below hba
 have hwwa:=hw1.trans (hba.mono hw1.size)
 obtain ⟨B,hB⟩:∃ B,B=w1.heap.size:=⟨_,rfl⟩
 rw [<- hB] at hsa r0 HC
 go_upto_region 4 with fail
 rw [<- hwa,<- hB]
 clear hwa hba hB hw1 hs1 hok1 h31
 have hrf:Below wa.heap.size wa wa:=Below.refl _ _
 have c0:wa.cell? ⟨B+1,0,none⟩=some (.string V.id):=HC.out.c0
 have c1:wa.cell? ⟨B+1,1,none⟩=some (.string V.sd):=HC.out.c1
 have c2:wa.cell? ⟨B+1,2,none⟩=some (.string V.ty):=HC.out.c2
 have c3:wa.cell? ⟨B+1,3,none⟩=some (.bool V.st):=HC.out.c3
 have c4:wa.cell? ⟨B+1,4,none⟩=some (.string V.key):=HC.out.c4
 have c5:wa.cell? ⟨B+1,5,none⟩=some (.int .i64 V.tm):=HC.out.c5
 have c6:wa.cell? ⟨B+1,6,none⟩=some (.slice pa V.np cp):=HC.out.c6
 have c7:wa.cell? ⟨B+1,7,none⟩=some (.slice aa V.na ca):=HC.out.c7
 have c8:wa.cell? ⟨B+1,8,none⟩=some (.string V.val):=HC.out.c8
 have c9:wa.cell? ⟨B+1,9,none⟩=some (.slice ga V.ng cg):=HC.out.c9
 go_wp2_with fail
 refine (HI.out wa b rc pa cp aa ca ga cg hs1a hoka).mono ?_
 rintro x w2 ⟨va,vc,rfl,-,hb2⟩
 clear c0 c1 c2 c3 c4 c5 c6 c7 c8 c9 HI hrf
 obtain ⟨w3,hw3⟩:∃ w3,w3=w2.alloc (.cells #[.slice va M vc] 25):=⟨_,rfl⟩
 have hb3:Below wa.heap.size wa w3:=by rw [hw3];exact hb2.alloc hb2.size _
 have hww3:=hwwa.trans (hb3.mono hwwa.size)
 go_upto_region 5 with fail
 rw [<- hw3]
 clear hw3 hb2
 go_wp2_with fail
 refine (HS.out w3 hww3).mono ?_
 rintro x w4 ⟨b2,rc2,pb,kb,ab,lb,gb,mb,rfl,hs4,hok4,-,hb4⟩
 obtain ⟨w5,hw5⟩:∃ w5,w5=(w4.alloc (.cells #[.slice (some ⟨b2,0,none⟩) N rc2] 25)).alloc (.cells #[.string V.id,.string V.sd,.string V.ty,.bool V.st,.string V.key,.int .i64 V.tm,.slice pb V.np kb,.slice ab V.na lb,.string V.val,.slice gb V.ng mb] 29):=⟨_,rfl⟩
 have hb5:Below w4.heap.size w4 w5:=by rw [hw5];exact bA.alloc (by simp) _
 have hs5:w4.heap.size+1<w5.heap.size:=by rw [hw5];simp
 have r5:w5.cell? ⟨w4.heap.size,0,none⟩=some (.slice (some ⟨b2,0,none⟩) N rc2):=by rw [hw5,World.cell?_alloc_past _ _ _ (by simp)];exact World.cell?_alloc_at _ _ _ _ rfl
 have HC5:Hid (EvCells w5 (w4.heap.size+1) 0 V pb kb ab lb gb mb):=by
  rw [hw5]
  have hq:=evC_alloc (w4.alloc (.cells #[.slice (some ⟨b2,0,none⟩) N rc2] 25)) V pb kb ab lb gb mb
  rw [show (w4.alloc (.cells #[.slice (some ⟨b2,0,none⟩) N rc2] 25)).heap.size=w4.heap.size+1 from by simp] at hq
  exact hq
 have hs5a:Hid (SlV w5 (some ⟨b2,0,none⟩) N rc2 E):=hs4.out.below hb5
 have hok5:Hid (EvOk w5 V pb kb ab lb gb mb):=hok4.out.below hb5
 have hba5:Below wa.heap.size wa w5:=(hb3.trans (hb4.mono hb3.size)).trans (hb5.mono (hb3.trans (hb4.mono hb3.size)).size)
 obtain ⟨C,hC⟩:∃ C,C=w4.heap.size:=⟨_,rfl⟩
 rw [<- hC] at hs5 r5 HC5
 go_upto_region 6 with fail
 rw [<- hw5,<- hC]
 clear hw5 hC hb5 hs4 hok4 hb3 hww3 hb4 HS
 have c0:w5.cell? ⟨C+1,0,none⟩=some (.string V.id):=HC5.out.c0
 have c1:w5.cell? ⟨C+1,1,none⟩=some (.string V.sd):=HC5.out.c1
 have c2:w5.cell? ⟨C+1,2,none⟩=some (.string V.ty):=HC5.out.c2
 have c3:w5.cell? ⟨C+1,3,none⟩=some (.bool V.st):=HC5.out.c3
 have c4:w5.cell? ⟨C+1,4,none⟩=some (.string V.key):=HC5.out.c4
 have c5:w5.cell? ⟨C+1,5,none⟩=some (.int .i64 V.tm):=HC5.out.c5
 have c6:w5.cell? ⟨C+1,6,none⟩=some (.slice pb V.np kb):=HC5.out.c6
 have c7:w5.cell? ⟨C+1,7,none⟩=some (.slice ab V.na lb):=HC5.out.c7
 have c8:w5.cell? ⟨C+1,8,none⟩=some (.string V.val):=HC5.out.c8
 have c9:w5.cell? ⟨C+1,9,none⟩=some (.slice gb V.ng mb):=HC5.out.c9
 go_wp2_with fail
 refine (HJ.out w5 b2 rc2 pb kb ab lb gb mb hs5a hok5).mono ?_
 rintro x w6 ⟨va2,vc2,rfl,hs6,hb6⟩
 clear c0 c1 c2 c3 c4 c5 c6 c7 c8 c9 HJ HC5 hok5
 obtain ⟨w7,hw7⟩:∃ w7,w7=w6.alloc (.cells #[.slice va2 M vc2] 25):=⟨_,rfl⟩
 have hb7:Below w6.heap.size w6 w7:=by rw [hw7];exact bA
 have hb57:Below w5.heap.size w5 w7:=hb6.trans (hb7.mono hb6.size)
 have hba7:Below wa.heap.size wa w7:=hba5.trans (hb57.mono hba5.size)
 have hD7:w6.heap.size<w7.heap.size:=by rw [hw7];simp
 have f9:w7.cell? ⟨w6.heap.size,0,none⟩=some (.slice va2 M vc2):=by rw [hw7];exact World.cell?_alloc_at _ _ _ _ rfl
 have f7:w7.cell? ⟨C,0,none⟩=some (.slice (some ⟨b2,0,none⟩) N rc2):=(hb57.cell (by show C<_;omega)).trans r5
 have f3:w7.cell? ⟨B,0,none⟩=some (.slice (some ⟨b,0,none⟩) N rc):=(hba7.cell (by show B<_;omega)).trans r0
 have hC7:C<w7.heap.size:=Nat.lt_of_lt_of_le (by omega) hb57.size
 have hB7:B+1<w7.heap.size:=Nat.lt_of_lt_of_le hsa hba7.size
 have S7:Hid (SlV w7 (some ⟨b,0,none⟩) N rc E∧SlV w7 (some ⟨b2,0,none⟩) N rc2 E∧SlV w7 va2 M vc2 X∧EvOk w7 V pa cp aa ca ga cg∧EvCells w7 (B+1) 0 V pa cp aa ca ga cg):=⟨hs1a.out.below hba7,hs5a.out.below hb57,hs6.out.below hb7,hoka.out.below hba7,HC.out.below hba7 hsa⟩
 have hww7:=hwwa.trans (hba7.mono hwwa.size)
 obtain ⟨D,hD⟩:∃ D,D=w6.heap.size:=⟨_,rfl⟩
 rw [<- hD] at hD7 f9
 have hM:M<=302:=by
  by_cases hz:cd=0
  ·have:=HM.out.1 hz
   omega
  ·have:=HM.out.2 hz
   omega
 have hNm:N<=301:=hN
 go_upto_region 7 with fail
 rw [<- hw7,<- hD]
 clear hw7 hD hb7 hb57 hba7 hba5 hs6 hs5a hs1a hoka HC r5 r0 hs5 hsa hb6 hwwa hN
 go_upto_if 47 with fail
 go_cut [11] (fun v wx=>v=.int .i64 (M:Int)∧wx=w7)
 case first =>
  by_cases hz:cd=0
  ·have hMN:=HM.out.1 hz
   subst hz
   go_wp2_with fail
   go_meet
   exact ⟨by rw [hMN];go_num,rfl⟩
  ·have hMN:=HM.out.2 hz
   go_wp2_with fail
   go_meet
   exact ⟨by rw [hMN],rfl⟩
 case rest =>
  obtain ⟨rfl,hwc⟩:=hcut
  subst hwc
  obtain ⟨w8,hw8⟩:∃ w8:World,w8=wc:=⟨_,rfl⟩
  subst hw8
  go_wp2_with fail
  go_loopw [12] (fun iv wr=>NsRel M w8 iv wr) (fun iv _=>M - (intOf iv).toNat)
  case atStart=>exact ⟨0,Nat.zero_le _,rfl,Below.refl _ _⟩
  case round =>
   obtain ⟨k,hk,rfl,hbr⟩:=hrel
   have a3:=(hbr.cell (by show B<_;omega)).trans f3
   have a9:=(hbr.cell (by exact hD7)).trans f9
   have sB:=Nat.lt_of_lt_of_le hB7 hbr.size
   have sD:=Nat.lt_of_lt_of_le hD7 hbr.size
   have sB0:B<wr.heap.size:=by omega
   by_cases hlt:k<M
   ·have z0:(0:Int)<=(k:Int):=by omega
    have z1:(k:Int)<(M:Int):=by omega
    have e0:wr.cell? ⟨B+1,0,none⟩=some (.string V.id):=(S7.out.2.2.2.2.below hbr hB7).c0
    have e1:wr.cell? ⟨B+1,1,none⟩=some (.string V.sd):=(S7.out.2.2.2.2.below hbr hB7).c1
    have e2:wr.cell? ⟨B+1,2,none⟩=some (.string V.ty):=(S7.out.2.2.2.2.below hbr hB7).c2
    have e3:wr.cell? ⟨B+1,3,none⟩=some (.bool V.st):=(S7.out.2.2.2.2.below hbr hB7).c3
    have e4:wr.cell? ⟨B+1,4,none⟩=some (.string V.key):=(S7.out.2.2.2.2.below hbr hB7).c4
    have e5:wr.cell? ⟨B+1,5,none⟩=some (.int .i64 V.tm):=(S7.out.2.2.2.2.below hbr hB7).c5
    have e6:wr.cell? ⟨B+1,6,none⟩=some (.slice pa V.np cp):=(S7.out.2.2.2.2.below hbr hB7).c6
    have e7:wr.cell? ⟨B+1,7,none⟩=some (.slice aa V.na ca):=(S7.out.2.2.2.2.below hbr hB7).c7
    have e8:wr.cell? ⟨B+1,8,none⟩=some (.string V.val):=(S7.out.2.2.2.2.below hbr hB7).c8
    have e9:wr.cell? ⟨B+1,9,none⟩=some (.slice ga V.ng cg):=(S7.out.2.2.2.2.below hbr hB7).c9
    go_upto_if 65 with fail
    go_cut [13] from 55 to 78 (fun pv wx=>∃ p1 k1 p2 k2 p3 k3,CutG wr (X k) p1 k1 p2 k2 p3 k3 pv wx∧Hid (EvOk wx (X k) p1 k1 p2 k2 p3 k3))
    case first =>
     by_cases hkN:k<N
     ·rcases (S7.out.1.below hbr).cells with h0|⟨b',off,hbe,hbl,hce⟩
      ·omega
      injection hbe with hbe
      injection hbe with h1 h2
      subst h1 h2
      obtain ⟨p1,k1,p2,k2,p3,k3,hE,hO⟩:=hce k hkN
      rw [Nat.zero_add] at hE
      have hxk:=HX.out.1 k hkN
      have z2:(k:Int)<(N:Int):=by omega
      have d0:wr.cell? ⟨b,k * 10,none⟩=some (.string (E k).id):=hE.c0
      have d1:wr.cell? ⟨b,k * 10+1,none⟩=some (.string (E k).sd):=hE.c1
      have d2:wr.cell? ⟨b,k * 10+2,none⟩=some (.string (E k).ty):=hE.c2
      have d3:wr.cell? ⟨b,k * 10+3,none⟩=some (.bool (E k).st):=hE.c3
      have d4:wr.cell? ⟨b,k * 10+4,none⟩=some (.string (E k).key):=hE.c4
      have d5:wr.cell? ⟨b,k * 10+5,none⟩=some (.int .i64 (E k).tm):=hE.c5
      have d6:wr.cell? ⟨b,k * 10+6,none⟩=some (.slice p1 (E k).np k1):=hE.c6
      have d7:wr.cell? ⟨b,k * 10+7,none⟩=some (.slice p2 (E k).na k2):=hE.c7
      have d8:wr.cell? ⟨b,k * 10+8,none⟩=some (.string (E k).val):=hE.c8
      have d9:wr.cell? ⟨b,k * 10+9,none⟩=some (.slice p3 (E k).ng k3):=hE.c9
      have hG:=cutG_a (ev:=E k) (pa:=p1) (cp:=k1) (aa:=p2) (ca:=k2) (ga:=p3) (cg:=k3) (Below.refl wr.heap.size wr)
      obtain ⟨_,_,_,_,hGb⟩:=id hG
      have hO2:=hO.below hGb
      have HG:Hid (_∧_):=⟨hG,hO2⟩
      clear hG hGb hO2 hO hE hce
      go_wp2_with fail
      go_meet
      rw [hxk]
      exact ⟨_,_,_,_,_,_,HG.out.1,HG.out.2⟩
     ·have hkN':k=N:=by
       by_cases hz:cd=0
       ·have:=HM.out.1 hz
        omega
       ·have:=HM.out.2 hz
        omega
      have hxk:X k=V:=by rw [hkN'];exact HX.out.2
      have z2:¬ (k:Int)<(N:Int):=by omega
      have hO:=S7.out.2.2.2.1.below hbr
      have hG:=cutG_a (ev:=V) (pa:=pa) (cp:=cp) (aa:=aa) (ca:=ca) (ga:=ga) (cg:=cg) (Below.refl wr.heap.size wr)
      obtain ⟨_,_,_,_,hGb⟩:=id hG
      have hO2:=hO.below hGb
      have HG:Hid (_∧_):=⟨hG,hO2⟩
      clear hG hGb hO2 hO hkN'
      go_wp2_with fail
      go_meet
      rw [hxk]
      exact ⟨_,_,_,_,_,_,HG.out.1,HG.out.2⟩
    case rest =>
     obtain ⟨p1,k1,p2,k2,p3,k3,⟨G,rfl,hGl,hGc,hbG⟩,hGo⟩:=hcut
     obtain ⟨wg,hwg⟩:∃ wg:World,wg=wc:=⟨_,rfl⟩
     subst hwg
     have hbg:=hbr.trans (hbG.mono hbr.size)
     rcases (S7.out.2.2.1.below hbg).cells with h0|⟨b3,o3,rfl,hbl,hce⟩
     ·omega
     obtain ⟨q1,l1,q2,l2,q3,l3,hE,hO⟩:=hce k hlt
     have s9:=(hbG.cell (by exact sD)).trans a9
     have sDg:=Nat.lt_of_lt_of_le sD hbG.size
     have hfin:Hid (∀ W,Below wg.heap.size wg W->Below w8.heap.size w8 W):=fun W hW=>hbg.trans (hW.mono hbg.size)
     generalize X k=xk at *
     have HSm:Hid (∀ W,Below wg.heap.size wg W->Calls Tryz.prog 7 #[.agg #[.string xk.id,.string xk.sd,.string xk.ty,.bool xk.st,.string xk.key,.int .i64 xk.tm,.slice q1 xk.np l1,.slice q2 xk.na l2,.string xk.val,.slice q3 xk.ng l3],.agg #[.string xk.id,.string xk.sd,.string xk.ty,.bool xk.st,.string xk.key,.int .i64 xk.tm,.slice p1 xk.np k1,.slice p2 xk.na k2,.string xk.val,.slice p3 xk.ng k3]] W fun x w'=>x=.returned (.bool true)∧Below wg.heap.size wg w'):=fun W hW=>(sameEv xk W (hO.below hW) (hGo.out.below hW)).mono fun _ _ ⟨h1,h2⟩=>⟨h1,hW.trans (h2.mono hW.size)⟩
     have d0:wg.cell? ⟨b3,o3+k * 10,none⟩=some (.string xk.id):=hE.c0
     have d1:wg.cell? ⟨b3,o3+k * 10+1,none⟩=some (.string xk.sd):=hE.c1
     have d2:wg.cell? ⟨b3,o3+k * 10+2,none⟩=some (.string xk.ty):=hE.c2
     have d3:wg.cell? ⟨b3,o3+k * 10+3,none⟩=some (.bool xk.st):=hE.c3
     have d4:wg.cell? ⟨b3,o3+k * 10+4,none⟩=some (.string xk.key):=hE.c4
     have d5:wg.cell? ⟨b3,o3+k * 10+5,none⟩=some (.int .i64 xk.tm):=hE.c5
     have d6:wg.cell? ⟨b3,o3+k * 10+6,none⟩=some (.slice q1 xk.np l1):=hE.c6
     have d7:wg.cell? ⟨b3,o3+k * 10+7,none⟩=some (.slice q2 xk.na l2):=hE.c7
     have d8:wg.cell? ⟨b3,o3+k * 10+8,none⟩=some (.string xk.val):=hE.c8
     have d9:wg.cell? ⟨b3,o3+k * 10+9,none⟩=some (.slice q3 xk.ng l3):=hE.c9
     have g0:wg.cell? ⟨G,0,none⟩=some (.string xk.id):=hGc.c0
     have g1:wg.cell? ⟨G,1,none⟩=some (.string xk.sd):=hGc.c1
     have g2:wg.cell? ⟨G,2,none⟩=some (.string xk.ty):=hGc.c2
     have g3:wg.cell? ⟨G,3,none⟩=some (.bool xk.st):=hGc.c3
     have g4:wg.cell? ⟨G,4,none⟩=some (.string xk.key):=hGc.c4
     have g5:wg.cell? ⟨G,5,none⟩=some (.int .i64 xk.tm):=hGc.c5
     have g6:wg.cell? ⟨G,6,none⟩=some (.slice p1 xk.np k1):=hGc.c6
     have g7:wg.cell? ⟨G,7,none⟩=some (.slice p2 xk.na k2):=hGc.c7
     have g8:wg.cell? ⟨G,8,none⟩=some (.string xk.val):=hGc.c8
     have g9:wg.cell? ⟨G,9,none⟩=some (.slice p3 xk.ng k3):=hGc.c9
     clear hE hO hce hGc hGo e0 e1 e2 e3 e4 e5 e6 e7 e8 e9 a3 a9 hbG hbg
     have hrf:Below wg.heap.size wg wg:=Below.refl _ _
     go_wp2_with fail
     go_cut [78] from 55 to 78 (fun v wx=>v=.bool false∧Below wg.heap.size wg wx)
     case first =>
      go_region_held3 (fun W=>W.cell? ⟨D,0,none⟩=some (.slice (some ⟨b3,o3,none⟩) M vc2)∧W.cell? ⟨b3,o3+k * 10,none⟩=some (.string xk.id)∧W.cell? ⟨b3,o3+k * 10+1,none⟩=some (.string xk.sd)∧W.cell? ⟨b3,o3+k * 10+2,none⟩=some (.string xk.ty)∧W.cell? ⟨b3,o3+k * 10+3,none⟩=some (.bool xk.st)∧W.cell? ⟨b3,o3+k * 10+4,none⟩=some (.string xk.key)∧W.cell? ⟨b3,o3+k * 10+5,none⟩=some (.int .i64 xk.tm)∧W.cell? ⟨b3,o3+k * 10+6,none⟩=some (.slice q1 xk.np l1)∧W.cell? ⟨b3,o3+k * 10+7,none⟩=some (.slice q2 xk.na l2)∧W.cell? ⟨b3,o3+k * 10+8,none⟩=some (.string xk.val)∧W.cell? ⟨b3,o3+k * 10+9,none⟩=some (.slice q3 xk.ng l3)∧W.cell? ⟨G,0,none⟩=some (.string xk.id)∧W.cell? ⟨G,1,none⟩=some (.string xk.sd)∧W.cell? ⟨G,2,none⟩=some (.string xk.ty)∧W.cell? ⟨G,3,none⟩=some (.bool xk.st)∧W.cell? ⟨G,4,none⟩=some (.string xk.key)∧W.cell? ⟨G,5,none⟩=some (.int .i64 xk.tm)∧W.cell? ⟨G,6,none⟩=some (.slice p1 xk.np k1)∧W.cell? ⟨G,7,none⟩=some (.slice p2 xk.na k2)∧W.cell? ⟨G,8,none⟩=some (.string xk.val)∧W.cell? ⟨G,9,none⟩=some (.slice p3 xk.ng k3))
       (first|(with_reducible exact ⟨s9,d0,d1,d2,d3,d4,d5,d6,d7,d8,d9,g0,g1,g2,g3,g4,g5,g6,g7,g8,g9⟩)|go_keep)
       ((go_at_call 7;refine (HSm.out _ (by with_reducible first|exact hrf|exact hrf.drew|exact hrf.drew.drew|exact hrf.drew.drew.drew)).mono ?_;rintro e w5 ⟨rfl,hb5⟩;have ks9:=(hb5.cell (by exact sDg)).trans s9;have kd0:=(hb5.cell (by exact hbl)).trans d0;have kd1:=(hb5.cell (by exact hbl)).trans d1;have kd2:=(hb5.cell (by exact hbl)).trans d2;have kd3:=(hb5.cell (by exact hbl)).trans d3;have kd4:=(hb5.cell (by exact hbl)).trans d4;have kd5:=(hb5.cell (by exact hbl)).trans d5;have kd6:=(hb5.cell (by exact hbl)).trans d6;have kd7:=(hb5.cell (by exact hbl)).trans d7;have kd8:=(hb5.cell (by exact hbl)).trans d8;have kd9:=(hb5.cell (by exact hbl)).trans d9;have kg0:=(hb5.cell (by exact hGl)).trans g0;have kg1:=(hb5.cell (by exact hGl)).trans g1;have kg2:=(hb5.cell (by exact hGl)).trans g2;have kg3:=(hb5.cell (by exact hGl)).trans g3;have kg4:=(hb5.cell (by exact hGl)).trans g4;have kg5:=(hb5.cell (by exact hGl)).trans g5;have kg6:=(hb5.cell (by exact hGl)).trans g6;have kg7:=(hb5.cell (by exact hGl)).trans g7;have kg8:=(hb5.cell (by exact hGl)).trans g8;have kg9:=(hb5.cell (by exact hGl)).trans g9))
      all_goals (try go_wp2_with fail)
      all_goals go_meet
      all_goals exact ⟨rfl,by first|exact hb5|exact hb5.drew|exact hb5.drew.drew⟩
     case rest =>
      obtain ⟨rfl,hb5⟩:=hcut
      have hB5:=hfin.out _ hb5
      go_wp2_with fail
      go_roundw
      case rel=>first|exact ⟨k+1,by omega,by go_num,hB5⟩|((repeat apply Exists.intro);exact ⟨⟨k+1,by omega,by go_num,hB5⟩,rfl⟩)
      case measure=>simp [intOf];omega
   ·have sS:=S7.out.1.below hbr
    have hwr:=hww7.trans (hbr.mono hww7.size)
    go_wp2_with fail
    refine (HRs.out wr _ _ _ _ sS).mono ?_
    rintro x w9 ⟨rfl,hb9⟩
    have hbr9:=hbr.trans (hb9.mono hbr.size)
    have a7:=(hbr9.cell (by exact hC7)).trans f7
    have sI:=S7.out.2.1.below hbr9
    have hww9:=hwr.trans (hb9.mono hwr.size)
    have sD9:=Nat.lt_of_lt_of_le sD hb9.size
    have a99:=(hb9.cell (by exact sD)).trans a9
    have HRx:Hid (∀ W,Below w8.heap.size w8 W->Calls Tryz.prog 9 #[.agg #[.slice va2 M vc2]] W fun e w'=>e=.returned (.bool (roomTo X M))∧Below W.heap.size W w'):=fun W hW=>HRi.out W _ _ _ _ (S7.out.2.2.1.below hW)
    have HRy:Hid (Calls Tryz.prog 9 #[.agg #[.slice (some ⟨b2,0,none⟩) N rc2]] w9 fun e w'=>e=.returned (.bool (roomTo E N))∧Below w9.heap.size w9 w'):=HRi.out w9 _ _ _ _ sI
    clear S7 HRi HRs sS sI HX a3 a9 hwr hb9
    generalize roomTo E N=v at *
    generalize roomTo X M=v' at *
    by_cases hz:cd=0
    ·have hv:=HT.out hz
     subst hz hv
     clear HT HM
     go_wp2_with fail
     refine HRy.out.mono ?_
     rintro x w10 ⟨rfl,hb10⟩
     have c9:=(hb10.cell (by exact sD9)).trans a99
     have hbr10:=hbr9.trans (hb10.mono hbr9.size)
     have hww10:=hww9.trans (hb10.mono hww9.size)
     clear a7 a99
     go_wp2_with fail
     refine (HRx.out w10 hbr10).mono ?_
     rintro x w11 ⟨rfl,hb11⟩
     go_wp2_with fail
     go_ret
     exact ⟨rfl,hww10.trans (hb11.mono hww10.size)⟩
    ·clear HT HM
     go_wp2_with fail
     refine HRy.out.mono ?_
     rintro x w10 ⟨rfl,hb10⟩
     have hww10:=hww9.trans (hb10.mono hww9.size)
     clear a7 a99
     go_wp2_with fail
     go_ret
     exact ⟨rfl,hww10⟩
def BytesIn (w:World)(a:Option Addr)(n:Nat):Prop :=
 n=0∨∃ b off,a=some ⟨b,off,none⟩∧b<w.heap.size∧∀ i,i<n->∃ x:Nat,x<256∧w.cell? ⟨b,off+i,none⟩=some (.int .u8 (x:Int))
end Go.Proofs.YtnbdlaglnefcbaaGreat
namespace Go.Proofs.YtnbdlaglnefcbaaGreat
open Go.ChangeShapes Go.WideShapes Go.ChangeAt Go.RowKit Go.Deep
theorem Tryz.cellsU8:Tryz.prog.cellsOf 5=1:=by kernel_rfl
theorem in_bytes {H:Type}{enc:TypeId × Value->H}{W:World}{fuel:Nat}{cs:List Value}{x:DataW H × List MemPlace}(h:DataW.trod enc Tryz.prog W 0 (fun _=>true) true fuel 22 cs=some x)
  (hlt:∀ q ∈ x.2,q.block<W.heap.size):∃ a n cap,cs=[.slice a n cap]∧n<=cap∧cap<=maxLen∧BytesIn W a n:=by
 rcases open_slice1 Tryz.underlying22 Tryz.cellsU8 h with ⟨rfl,rfl⟩|⟨a,len,cap,m,n,V,D,Pl,rfl,_,hl,hm,hmm,rfl,hx⟩
 ·exact ⟨none,0,0,rfl,Nat.le_refl _,by decide,Or.inl rfl⟩
 ·simp only [if_true] at hmm
  subst hmm
  refine ⟨some a,len,m,rfl,hl,hm,?_⟩
  by_cases h0:len=0
  ·exact Or.inl h0
  ·right
   obtain ⟨b,off,spot⟩:=a
   have hspot:spot=none:=by simpa [Addr.add] using World.cell?_spot (hx 0 (by omega)).1
   subst hspot
   refine ⟨b,off,rfl,hlt (.cell b off) (List.mem_append_left _ (MemPlace.mem_row.2 ⟨0,by omega,by simp⟩)),fun i hi=>?_⟩
   obtain ⟨q1,q2⟩:=hx i (by omega)
   obtain ⟨z,e1,_,hwf⟩:=DataW.trod_int Tryz.underlying5 q2
   simp only [List.cons.injEq,and_true] at e1
   rw [e1] at q1
   simp only [Lit.wf,Bool.and_eq_true,decide_eq_true_eq] at hwf
   have hz0:(0:Int)<=z:=hwf.1
   have hz1:z<=255:=hwf.2
   refine ⟨z.toNat,by omega,?_⟩
   rw [Int.toNat_of_nonneg hz0,<- add_plain]
   exact q1
end Go.Proofs.YtnbdlaglnefcbaaGreat
namespace Go.Proofs.YtnbdlaglnefcbaaGreat
open Go.RowKit
theorem bytes_choose {W:World}{a:Option Addr}{n:Nat}(h:BytesIn W a n):∃ bs:Nat->Nat,BytesV W a n bs∧∀ i,i<n->bs i<256:=by
 rcases h with h0|⟨b,off,e,hb,hx⟩
 ·exact ⟨fun _=>0,Or.inl h0,fun _ _=>by show (0:Nat)<256;decide⟩
 ·refine ⟨fun i=>if hi:i<n then Classical.choose (hx i hi) else 0,Or.inr ⟨b,off,e,hb,fun i hi=>?_⟩,fun i hi=>?_⟩
  ·dsimp only
   rw [dif_pos hi]
   exact (Classical.choose_spec (hx i hi)).2
  ·dsimp only
   rw [dif_pos hi]
   exact (Classical.choose_spec (hx i hi)).1
end Go.Proofs.YtnbdlaglnefcbaaGreat
namespace Go.Proofs.YtnbdlaglnefcbaaGreat
open Go.ChangeShapes Go.WideShapes Go.ChangeAt Go.RowKit
theorem Tryz.own:ownKnob Tryz.prog.godebug=none:=by kernel_rfl
theorem Tryz.laidOut:laidOutB Tryz.prog=true:=by kernel_rfl
set_option maxRecDepth 100000 in
theorem fnInsert_lifted (os:Os)(started:os.Started)(H:Type)(enc:TypeId × Value->H) :
  ReturnsInHanded {} Tryz.checked os 3 .any (Rows.fnInsertSpec.pre6 enc Tryz.prog Tryz.f3 Rows.fnInsertRow.domain false) (Rows.fnInsertSpec.post enc Tryz.prog Tryz.f3 false true false false):=by
 refine returnsInHanded_of_change_sized (C:=Tryz.checked) Tryz.own started (by kernel_rfl) Tryz.func3
  (ChangeSpec.witness6 (enc:=enc) (C:=Tryz.checked) false ⟨#[],#[.slice none 0 0],[]⟩ 8 (by kernel_rfl) (by kernel_rfl) (by kernel_rfl) (by kernel_rfl)) ?_
 intro W base args ds gs before hval0 hW _ hsz0 _
 have hsz:(DataW.weightsEach Tryz.prog (Tryz.f3.params.toList ++ Rows.fnInsertSpec.plain.varTypes Tryz.prog) (ds ++ gs)).all (·<=reachBytes)=true:=hsz0
 clear hsz0
 have hval:∀ (j:Nat) t v,Tryz.f3.params[j]?=some t->args[j]?=some v->Value.okWide Tryz.prog W .any base t v:=hval0
 have hW':=hW
 obtain ⟨p,q,hA0,hV,rfl,_,_⟩:=hW
 have hA:DataW.TrodAll enc Tryz.prog W 0 (fun _=>true) true Tryz.f3.params.toList args.toList ds p:=hA0
 rw [Tryz.params3] at hA hval hsz
 obtain ⟨v0,d0,rfl,rfl,h0⟩:=trodAll_one hA
 obtain ⟨rfl,rfl⟩:=trodVars_none hV
 obtain ⟨ya0,yn0,yc0,rfl⟩:=okWide_slice Tryz.underlying22 (hval 0 22 v0 rfl rfl)
 have h0k:=h0
 obtain ⟨fuel0,hf0⟩:=h0
 clear hA0 hval0
 simp only [List.append_nil] at hW'
 have hlt0:∀ x ∈ p,x.block<W.heap.size:=fun x hx=>by simpa using hW'.lt x hx
 obtain ⟨a0,n0,c0,heq0,hle0,hm0,s0⟩:=in_bytes hf0 hlt0
 simp only [Value.cells,List.cons.injEq,and_true] at heq0
 injection heq0 with e1 e2 e3
 subst e1 e2 e3
 obtain ⟨bs,s1,s2⟩:=bytes_choose s0
 refine (lawInsert W hle0 hm0 s1 s2).mono fun e W' ⟨he,hnx⟩=>?_
 subst he
 refine ⟨_,rfl,_,_,_,[],p,[],hW',?_,?_,rfl,hnx.frame _,fun h=>by cases h⟩
 ·exact trodAll_mk1 (shut_bool Tryz.underlying4 true)
 ·have:=trodAll_mk1 (Below.trod Tryz.laidOut (by kernel_rfl) (of_decide_eq_true (by kernel_rfl)) h0k hnx hlt0)
  try simp only [List.append_nil] at this
  exact this
theorem fnInsert_holds:Rows.FnInsertSaid :=
 OpenClaim.holds_of_wide 3 Tryz.f3 rfl rfl rfl rfl rfl rfl rfl ⟨rfl,rfl,rfl,rfl,rfl⟩ rfl rfl rfl rfl rfl (by kernel_rfl) Tryz.func3 (by kernel_rfl)
  (of_decide_eq_true (by kernel_rfl)) (by unfold Func.isWrapper;first|(rw [if_pos (by decide +kernel)];kernel_rfl)|(rw [if_neg (by decide +kernel)];exact ⟨rfl,rfl⟩))
  (fun os started H enc _=>fnInsert_lifted os started H enc)
#print axioms fnInsert_holds
end Go.Proofs.YtnbdlaglnefcbaaGreat
