import Derived.Test.YtkdalopokdhndaaGreatLvSZ
set_option maxHeartbeats 16000000
set_option maxRecDepth 100000
namespace Go.Proofs.YtkdalopokdhndaaGreat
open Go.RowKit
variable {a sa:Option Addr}{n ll sc cap:Nat}
theorem l5Jo_sl {o:View}(e:Ev)(pa:Option Addr)(cp:Nat)(aa:Option Addr)(ca:Nat)(ga:Option Addr)(cg:Nat)(w:World)(hV:ViewS w a n cap sa ll sc o)(hc:(o tCre tNil).isSome=true) :
  Calls Tryz.prog 73 #[.agg #[.slice a n cap],.slice sa ll sc,e.val' pa cp aa ca ga cg] w fun x w'=>x=.returned (.int .i64 (joV o e))∧Below w.heap.size w w':=by
 have HM:Hid (∀ W,Below w.heap.size w W->Calls Tryz.prog 74 #[.agg #[.slice a n cap],.slice sa ll sc,.string e.key] W fun x w'=>x=.returned (.string (memO o e.key))∧Below W.heap.size W w'):=fun W hW=>l5Mb_sl e.key W (hV.below hW)
 have HR:Hid (∀ W,Below w.heap.size w W->Calls Tryz.prog 72 #[.agg #[.slice a n cap],.slice sa ll sc,.string tRul,.string tNil] W (E5o W (o tRul tNil))):=fun W hW=>hV.ev W tRul tNil hW
 have HC:Hid (∀ W,Below w.heap.size w W->Calls Tryz.prog 72 #[.agg #[.slice a n cap],.slice sa ll sc,.string tCre,.string tNil] W (E5o W (o tCre tNil))):=fun W hW=>hV.ev W tCre tNil hW
 have HE:Hid (∀ W,Below w.heap.size w W->Calls Tryz.prog 72 #[.agg #[.slice a n cap],.slice sa ll sc,.string tMem,.string e.key] W (E5o W (o tMem e.key))):=fun W hW=>hV.ev W tMem e.key hW
 have Hv:Hid (joV o e=if (e.sd.toList == e.key.toList)=false then 3 else if isBan (memO o e.key) then 4 else if expB (memO o e.key) || pubB o || (creB o e.sd && (o tMem e.key).isNone) then 0 else 5):=rfl;have Hp:Hid (pubB o=((o tRul tNil).isSome && isPub ((o tRul tNil).getD evZ).val)):=by unfold Hid pubB;cases o tRul tNil <;> rfl
 have Hc:Hid (creB o e.sd=(e.sd.toList == ((o tCre tNil).getD evZ).sd.toList)):=by
  unfold Hid creB
  cases hx:o tCre tNil with
  | none=>rw [hx] at hc;cases hc
  | some c=>exact Bool.beq_comm
 have Hn:Hid ((o tMem e.key).isNone=!(o tMem e.key).isSome):=by unfold Hid;cases o tMem e.key <;> rfl
 generalize memO o e.key=t at *;generalize joV o e=v at *;generalize pubB o=pb at *;generalize creB o e.sd=cb at *;generalize o tRul tNil=xr at *;generalize o tMem e.key=xm at *;generalize o tCre tNil=xc at *;clear hV hc
 go_enter Tryz.func73,Tryz.ntmps73
 go_wp2_with fail
 have hZ0:=EZ2.start w a n cap e pa cp aa ca ga cg 25 30;refine (HM.out _ hZ0.bl).mono ?_;rintro x w1 ⟨rfl,hb1⟩;have hZ1:=hZ0.call hb1;clear hZ0 hb1;have hr:=hZ1.r;have he:=hZ1.c;cases hk:(e.sd.toList == e.key.toList)
 case false =>
  have Hz:Hid (v=3):=by unfold Hid;rw [Hv.out,if_pos hk]
  clear Hv;go_wp2
  go_ret;exact ⟨ret_int Hz.out.symm,hZ1.bl⟩
 case true =>
  cases hB:isBan t
  case true =>
   have Hz:Hid (v=4):=by unfold Hid;rw [Hv.out,hk,hB];rfl
   unfold isBan at hB;clear Hv;go_wp2
   go_ret;exact ⟨ret_int Hz.out.symm,hZ1.bl⟩
  case false =>
   have Hu:Hid (v=if expB t || pb || (cb && xm.isNone) then 0 else 5):=by unfold Hid;rw [Hv.out,hk,hB];rfl
   unfold isBan at hB;clear Hv
   go_wp2_with fail
   refine (HR.out _ hZ1.bl).mono ?_;intro x w2 hE2;obtain ⟨hb2,pr,cr,ar,acr,gr,gcr,rfl,-⟩:=hE2.get;clear hr he hE2 HR HM;generalize xr.getD evZ=r at *;generalize xr.isSome=br at *;obtain ⟨W2,hW2⟩:∃ W2,W2=w2.alloc (.cells (ec r pr cr ar acr gr gcr) 30):=⟨_,rfl⟩;have hZA:EZ2 w W2 a n cap e pa cp aa ca ga cg:=by rw [hW2];exact (hZ1.call hb2).alloc _
   have f2:∀ o,W2.cell? ⟨w2.heap.size,o,none⟩=((ec r pr cr ar acr gr gcr):Array Value)[o]?:=fun o=>by rw [hW2];exact kA rfl
   have hs2:w2.heap.size<W2.heap.size:=by rw [hW2];simp
   have hS1:=(hZ1.call hb2).sz;have hrX:∀ o Z,(w2.alloc Z).cell? ⟨w.heap.size,o,none⟩=(#[.slice a n cap]:Array Value)[o]?:=fun o Z=>((hZ1.call hb2).alloc Z).r o
   have hbX:∀ Z,Below w.heap.size w (w2.alloc Z):=fun Z=>((hZ1.call hb2).alloc Z).bl
   go_wp2_with fail
   refine (HC.out _ (hbX _)).mono ?_;rw [<- hW2];clear hrX hbX hW2;intro x w3 hE3;obtain ⟨hb3,pc,cc,ac,acc,gc,gcc,rfl,-⟩:=hE3.get;clear hE3 HC;generalize xc.getD evZ=c at *;generalize xc.isSome=bc at *;obtain ⟨W3,hW3⟩:∃ W3,W3=w3.alloc (.cells (ec c pc cc ac acc gc gcc) 30):=⟨_,rfl⟩;have hZB:EZ2 w W3 a n cap e pa cp aa ca ga cg:=by rw [hW3];exact (hZA.call hb3).alloc _
   have hb23:Below W2.heap.size W2 W3:=by rw [hW3];exact hb3.alloc hb3.size _
   have g3:∀ o,W3.cell? ⟨w3.heap.size,o,none⟩=((ec c pc cc ac acc gc gcc):Array Value)[o]?:=fun o=>by rw [hW3];exact kA rfl
   have hs3:w3.heap.size<W3.heap.size:=by rw [hW3];simp
   have f3:∀ o,W3.cell? ⟨w2.heap.size,o,none⟩=((ec r pr cr ar acr gr gcr):Array Value)[o]?:=fun o=>(hb23.cell (by exact hs2)).trans (f2 o)
   have hrX:∀ o Z,(w3.alloc Z).cell? ⟨w.heap.size,o,none⟩=(#[.slice a n cap]:Array Value)[o]?:=fun o Z=>((hZA.call hb3).alloc Z).r o
   have hkX:∀ Z,(w3.alloc Z).cell? ⟨w.heap.size+1,4,none⟩=some (.string e.key):=fun Z=>((hZA.call hb3).alloc Z).c 4
   have hbX:∀ Z,Below w.heap.size w (w3.alloc Z):=fun Z=>((hZA.call hb3).alloc Z).bl
   have hS3:=(hZA.call hb3).sz;have hn0:w.heap.size≠w3.heap.size:=by omega
   have hn1:w.heap.size+1≠w3.heap.size:=by omega
   clear f2
   go_wp2_with fail
   refine (HE.out _ (hbX _)).mono ?_;rw [<- hW3];clear hrX hkX hbX hW3 hb3;intro x w4 hE4;obtain ⟨hb4,pm,cm,am,acm,gm,gcm,rfl,-⟩:=hE4.get;clear hE4 HE;generalize xm.getD evZ=m at *;have Hx:Hid (xm.isNone=!xm.isSome):=Hn;generalize xm.isSome=bm at *;have hsz3:=hb23.size;have hsz4:=hb4.size;have hZC:=hZB.call hb4;have hAl:∀ o,Below w4.heap.size w4 (w4.alloc o):=fun o=>bA
   have f4:∀ o Z,(w4.alloc Z).cell? ⟨w2.heap.size,o,none⟩=((ec r pr cr ar acr gr gcr):Array Value)[o]?:=fun o Z=>((hAl Z).cell (by simp;omega)).trans ((hb4.cell (by simp;omega)).trans (f3 o))
   have g4:∀ o Z,(w4.alloc Z).cell? ⟨w3.heap.size,o,none⟩=((ec c pc cc ac acc gc gcc):Array Value)[o]?:=fun o Z=>((hAl Z).cell (by simp;omega)).trans ((hb4.cell (by exact hs3)).trans (g3 o))
   have hkX:∀ Z,(w4.alloc Z).cell? ⟨w.heap.size+1,1,none⟩=some (.string e.sd):=fun Z=>(hZC.alloc Z).c 1
   have f8:=f4 8;have g1:=g4 1;have hbl:∀ Z,Below w.heap.size w (w4.alloc Z):=fun Z=>(hZC.alloc Z).bl
   have hS4:=hZC.sz;have hn2:w2.heap.size≠w4.heap.size:=by omega
   have hn3:w3.heap.size≠w4.heap.size:=by omega
   have hn4:w.heap.size+1≠w4.heap.size:=by omega
   clear hn0 hn1 f3 g3 f4 g4 hZA hZB hZC hZ1 hAl hb23 hb4;unfold expB at Hu;cases hJ:isJoin t
   case true =>
    have Hz:Hid (v=0):=by unfold Hid;rw [Hu.out,hJ];rfl
    unfold isJoin at hJ;clear Hu Hp Hc Hx Hn;go_wp2
    go_ret;exact ⟨ret_int Hz.out.symm,hbl _⟩
   case false =>
   cases hI:isInv t
   case true =>
    have Hz:Hid (v=0):=by unfold Hid;rw [Hu.out,hJ,hI];rfl
    unfold isJoin at hJ;unfold isInv at hI;clear Hu Hp Hc Hx Hn;go_wp2
    go_ret;exact ⟨ret_int Hz.out.symm,hbl _⟩
   case false =>
   have Hw:Hid (v=if (br && isPub r.val) || ((e.sd.toList == c.sd.toList) && !bm) then 0 else 5):=by unfold Hid;rw [Hu.out,hJ,hI,Hp.out,Hc.out,Hx.out];rfl
   unfold isJoin at hJ;unfold isInv at hI;clear Hu Hp Hc Hx Hn;cases br <;> cases hP:isPub r.val <;> cases hS:(e.sd.toList == c.sd.toList) <;> cases bm
   all_goals
    rw [hP,hS] at Hw;unfold isPub at hP;go_wp2
    go_ret;exact ⟨ret_int (by rw [Hw.out];rfl),hbl _⟩
theorem l5Me_sl {o:View}(e:Ev)(pa:Option Addr)(cp:Nat)(aa:Option Addr)(ca:Nat)(ga:Option Addr)(cg:Nat)(w:World)(hV:ViewS w a n cap sa ll sc o) :
  Calls Tryz.prog 75 #[.agg #[.slice a n cap],.slice sa ll sc,e.val' pa cp aa ca ga cg] w fun x w'=>x=.returned (.int .i64 (meV o e))∧Below w.heap.size w w':=by
 have HM:Hid (∀ W,Below w.heap.size w W->Calls Tryz.prog 74 #[.agg #[.slice a n cap],.slice sa ll sc,.string e.key] W fun x w'=>x=.returned (.string (memO o e.key))∧Below W.heap.size W w'):=fun W hW=>l5Mb_sl e.key W (hV.below hW)
 have HL:Hid (∀ W,Below w.heap.size w W->Calls Tryz.prog 47 #[.agg #[.slice a n cap],.slice sa ll sc,.string e.sd] W fun x w'=>x=.returned (.int .i64 (lvO o e.sd))∧Below W.heap.size W w'):=fun W hW=>hV.lv W e.sd hW
 have HK:Hid (∀ W,Below w.heap.size w W->Calls Tryz.prog 47 #[.agg #[.slice a n cap],.slice sa ll sc,.string e.key] W fun x w'=>x=.returned (.int .i64 (lvO o e.key))∧Below W.heap.size W w'):=fun W hW=>hV.lv W e.key hW
 have HI:Hid (∀ W,Below w.heap.size w W->Calls Tryz.prog 76 #[.agg #[.slice a n cap],.slice sa ll sc,.string tInv] W fun x w'=>x=.returned (.int .i64 (tgV o tInv))∧Below W.heap.size W w'):=fun W hW=>l5Th_sl tInv (by decide) W (hV.below hW)
 have HB:Hid (∀ W,Below w.heap.size w W->Calls Tryz.prog 76 #[.agg #[.slice a n cap],.slice sa ll sc,.string tBan] W fun x w'=>x=.returned (.int .i64 (tgV o tBan))∧Below W.heap.size W w'):=fun W hW=>l5Th_sl tBan (by decide) W (hV.below hW)
 have HQ:Hid (∀ W,Below w.heap.size w W->Calls Tryz.prog 76 #[.agg #[.slice a n cap],.slice sa ll sc,.string tKic] W fun x w'=>x=.returned (.int .i64 (tgV o tKic))∧Below W.heap.size W w'):=fun W hW=>l5Th_sl tKic (by decide) W (hV.below hW)
 have Hv:Hid (meV o e=if isInv e.val then (if isJoin (memO o e.key) || isBan (memO o e.key) then 7 else if lvO o e.sd<tgV o tInv then 8 else 0) else if (isBan e.val || isBan (memO o e.key)) && decide (lvO o e.sd<tgV o tBan) then 8 else if isLea e.val && decide (lvO o e.sd<tgV o tKic) then 8 else if lvO o e.sd<=lvO o e.key then 9 else 0):=rfl;generalize memO o e.key=t at *;generalize meV o e=v at *;generalize lvO o e.sd=own at *;generalize lvO o e.key=lk at *;generalize tgV o tInv=xi at *;generalize tgV o tBan=xb at *;generalize tgV o tKic=xk at *;clear hV
 go_enter Tryz.func75,Tryz.ntmps75
 go_wp2_with fail
 have hZ0:=EZ2.start w a n cap e pa cp aa ca ga cg 25 30;refine (HM.out _ hZ0.bl).mono ?_;rintro x w1 ⟨rfl,hb1⟩;have hZ1:=hZ0.call hb1;clear hZ0 hb1 HM;have hr:=hZ1.r;have he:=hZ1.c
 go_wp2_with fail
 refine (HL.out _ hZ1.bl).mono ?_;rintro x w2 ⟨rfl,hb2⟩;have hZ2:=hZ1.call hb2;clear hZ1 hb2 HL hr he;have hr:=hZ2.r;have he:=hZ2.c;cases hI:isInv e.val
 case true =>
  rw [hI] at Hv;unfold isInv at hI;cases hJ:isJoin t
  case true =>
   have Hz:Hid (v=7):=by unfold Hid;rw [Hv.out,hJ];rfl
   unfold isJoin at hJ;clear Hv;go_wp2
   go_ret;exact ⟨ret_int Hz.out.symm,hZ2.bl⟩
  case false =>
  cases hB:isBan t
  case true =>
   have Hz:Hid (v=7):=by unfold Hid;rw [Hv.out,hJ,hB];rfl
   unfold isJoin at hJ;unfold isBan at hB;clear Hv;go_wp2
   go_ret;exact ⟨ret_int Hz.out.symm,hZ2.bl⟩
  case false =>
  have Hz:Hid (v=if own<xi then 8 else 0):=by unfold Hid;rw [Hv.out,hJ,hB];rfl
  unfold isJoin at hJ;unfold isBan at hB;clear Hv
  go_wp2_with fail
  refine (HI.out _ hZ2.bl).mono ?_;rintro x w3 ⟨rfl,hb3⟩;have hw3:=(hZ2.call hb3).bl;clear hr he HI HB HQ HK hZ2 hb3
  by_cases hlt:own<xi
  ·have Hy:Hid (v=8):=by unfold Hid;rw [Hz.out,if_pos hlt]
   clear Hz;go_wp2
   go_ret;exact ⟨ret_int Hy.out.symm,hw3⟩
  have Hy:Hid (v=0):=by unfold Hid;rw [Hz.out,if_neg hlt]
  clear Hz;go_wp2
  go_ret;exact ⟨ret_int Hy.out.symm,hw3⟩
 case false =>
 rw [hI] at Hv;unfold isInv at hI;cases hV:isBan e.val
 case true =>
  have Hb:Hid (v=if decide (own<xb) then 8 else if isLea e.val && decide (own<xk) then 8 else if own<=lk then 9 else 0):=by unfold Hid;rw [Hv.out,hV];rfl
  unfold isBan at hV;clear Hv
  go_wp2_with fail
  refine (HB.out _ hZ2.bl).mono ?_;rintro x w3 ⟨rfl,hb3⟩;have hZZ:=hZ2.call hb3;clear hr he hZ2 hb3;have hrz:=hZZ.r;have hez:=hZZ.c
  by_cases hlb:own<xb
  ·have Hy:Hid (v=8):=by unfold Hid;rw [Hb.out,decide_eq_true hlb];rfl
   clear Hb;go_wp2
   go_ret;exact ⟨ret_int Hy.out.symm,hZZ.bl⟩
  have Ht:Hid (v=if isLea e.val && decide (own<xk) then 8 else if own<=lk then 9 else 0):=by unfold Hid;rw [Hb.out,decide_eq_false hlb];rfl
  clear Hb;cases hL:isLea e.val
  case true =>
   have Hu:Hid (v=if decide (own<xk) then 8 else if own<=lk then 9 else 0):=by unfold Hid;rw [Ht.out,hL];rfl
   unfold isLea at hL;clear Ht
   go_wp2_with fail
   refine (HQ.out _ hZZ.bl).mono ?_;rintro x w4 ⟨rfl,hb4⟩;have hZ4:=hZZ.call hb4;clear hrz hez hb4 hZZ;have hr4:=hZ4.r;have he4:=hZ4.c
   by_cases hlt:own<xk
   ·have Hy:Hid (v=8):=by unfold Hid;rw [Hu.out,decide_eq_true hlt];rfl
    clear Hu;go_wp2
    go_ret;exact ⟨ret_int Hy.out.symm,hZ4.bl⟩
   have Hy:Hid (v=if own<=lk then 9 else 0):=by unfold Hid;rw [Hu.out,decide_eq_false hlt];rfl
   clear Hu
   go_wp2_with fail
   refine (HK.out _ hZ4.bl).mono ?_;rintro x w5 ⟨rfl,hb5⟩;have hw5:=(hZ4.call hb5).bl;clear hr4 he4 HK HQ HB HI hZ4 hb5
   by_cases hle:own<=lk
   ·have Hx:Hid (v=9):=by unfold Hid;rw [Hy.out,if_pos hle]
    clear Hy;go_wp2
    go_ret;exact ⟨ret_int Hx.out.symm,hw5⟩
   have Hx:Hid (v=0):=by unfold Hid;rw [Hy.out,if_neg hle]
   clear Hy;go_wp2
   go_ret;exact ⟨ret_int Hx.out.symm,hw5⟩
  case false =>
   have Hy:Hid (v=if own<=lk then 9 else 0):=by unfold Hid;rw [Ht.out,hL];rfl
   unfold isLea at hL;clear Ht
   go_wp2_with fail
   refine (HK.out _ hZZ.bl).mono ?_;rintro x w5 ⟨rfl,hb5⟩;have hw5:=(hZZ.call hb5).bl;clear hrz hez HK HQ HB HI hZZ hb5
   by_cases hle:own<=lk
   ·have Hx:Hid (v=9):=by unfold Hid;rw [Hy.out,if_pos hle]
    clear Hy;go_wp2
    go_ret;exact ⟨ret_int Hx.out.symm,hw5⟩
   have Hx:Hid (v=0):=by unfold Hid;rw [Hy.out,if_neg hle]
   clear Hy;go_wp2
   go_ret;exact ⟨ret_int Hx.out.symm,hw5⟩
 case false =>
 cases hB:isBan t
 case true =>
  have Hb:Hid (v=if decide (own<xb) then 8 else if isLea e.val && decide (own<xk) then 8 else if own<=lk then 9 else 0):=by unfold Hid;rw [Hv.out,hV,hB];rfl
  unfold isBan at hV hB;clear Hv
  go_wp2_with fail
  refine (HB.out _ hZ2.bl).mono ?_;rintro x w3 ⟨rfl,hb3⟩;have hZZ:=hZ2.call hb3;clear hr he hZ2 hb3;have hrz:=hZZ.r;have hez:=hZZ.c
  by_cases hlb:own<xb
  ·have Hy:Hid (v=8):=by unfold Hid;rw [Hb.out,decide_eq_true hlb];rfl
   clear Hb;go_wp2
   go_ret;exact ⟨ret_int Hy.out.symm,hZZ.bl⟩
  have Ht:Hid (v=if isLea e.val && decide (own<xk) then 8 else if own<=lk then 9 else 0):=by unfold Hid;rw [Hb.out,decide_eq_false hlb];rfl
  clear Hb;cases hL:isLea e.val
  case true =>
   have Hu:Hid (v=if decide (own<xk) then 8 else if own<=lk then 9 else 0):=by unfold Hid;rw [Ht.out,hL];rfl
   unfold isLea at hL;clear Ht
   go_wp2_with fail
   refine (HQ.out _ hZZ.bl).mono ?_;rintro x w4 ⟨rfl,hb4⟩;have hZ4:=hZZ.call hb4;clear hrz hez hb4 hZZ;have hr4:=hZ4.r;have he4:=hZ4.c
   by_cases hlt:own<xk
   ·have Hy:Hid (v=8):=by unfold Hid;rw [Hu.out,decide_eq_true hlt];rfl
    clear Hu;go_wp2
    go_ret;exact ⟨ret_int Hy.out.symm,hZ4.bl⟩
   have Hy:Hid (v=if own<=lk then 9 else 0):=by unfold Hid;rw [Hu.out,decide_eq_false hlt];rfl
   clear Hu
   go_wp2_with fail
   refine (HK.out _ hZ4.bl).mono ?_;rintro x w5 ⟨rfl,hb5⟩;have hw5:=(hZ4.call hb5).bl;clear hr4 he4 HK HQ HB HI hZ4 hb5
   by_cases hle:own<=lk
   ·have Hx:Hid (v=9):=by unfold Hid;rw [Hy.out,if_pos hle]
    clear Hy;go_wp2
    go_ret;exact ⟨ret_int Hx.out.symm,hw5⟩
   have Hx:Hid (v=0):=by unfold Hid;rw [Hy.out,if_neg hle]
   clear Hy;go_wp2
   go_ret;exact ⟨ret_int Hx.out.symm,hw5⟩
  case false =>
   have Hy:Hid (v=if own<=lk then 9 else 0):=by unfold Hid;rw [Ht.out,hL];rfl
   unfold isLea at hL;clear Ht
   go_wp2_with fail
   refine (HK.out _ hZZ.bl).mono ?_;rintro x w5 ⟨rfl,hb5⟩;have hw5:=(hZZ.call hb5).bl;clear hrz hez HK HQ HB HI hZZ hb5
   by_cases hle:own<=lk
   ·have Hx:Hid (v=9):=by unfold Hid;rw [Hy.out,if_pos hle]
    clear Hy;go_wp2
    go_ret;exact ⟨ret_int Hx.out.symm,hw5⟩
   have Hx:Hid (v=0):=by unfold Hid;rw [Hy.out,if_neg hle]
   clear Hy;go_wp2
   go_ret;exact ⟨ret_int Hx.out.symm,hw5⟩
 case false =>
  have Ht:Hid (v=if isLea e.val && decide (own<xk) then 8 else if own<=lk then 9 else 0):=by unfold Hid;rw [Hv.out,hV,hB];rfl
  unfold isBan at hV hB;clear Hv;have hZZ:=hZ2;have hrz:=hr;have hez:=he;clear hZ2 hr he;cases hL:isLea e.val
  case true =>
   have Hu:Hid (v=if decide (own<xk) then 8 else if own<=lk then 9 else 0):=by unfold Hid;rw [Ht.out,hL];rfl
   unfold isLea at hL;clear Ht
   go_wp2_with fail
   refine (HQ.out _ hZZ.bl).mono ?_;rintro x w4 ⟨rfl,hb4⟩;have hZ4:=hZZ.call hb4;clear hrz hez hb4 hZZ;have hr4:=hZ4.r;have he4:=hZ4.c
   by_cases hlt:own<xk
   ·have Hy:Hid (v=8):=by unfold Hid;rw [Hu.out,decide_eq_true hlt];rfl
    clear Hu;go_wp2
    go_ret;exact ⟨ret_int Hy.out.symm,hZ4.bl⟩
   have Hy:Hid (v=if own<=lk then 9 else 0):=by unfold Hid;rw [Hu.out,decide_eq_false hlt];rfl
   clear Hu
   go_wp2_with fail
   refine (HK.out _ hZ4.bl).mono ?_;rintro x w5 ⟨rfl,hb5⟩;have hw5:=(hZ4.call hb5).bl;clear hr4 he4 HK HQ HB HI hZ4 hb5
   by_cases hle:own<=lk
   ·have Hx:Hid (v=9):=by unfold Hid;rw [Hy.out,if_pos hle]
    clear Hy;go_wp2
    go_ret;exact ⟨ret_int Hx.out.symm,hw5⟩
   have Hx:Hid (v=0):=by unfold Hid;rw [Hy.out,if_neg hle]
   clear Hy;go_wp2
   go_ret;exact ⟨ret_int Hx.out.symm,hw5⟩
  case false =>
   have Hy:Hid (v=if own<=lk then 9 else 0):=by unfold Hid;rw [Ht.out,hL];rfl
   unfold isLea at hL;clear Ht
   go_wp2_with fail
   refine (HK.out _ hZZ.bl).mono ?_;rintro x w5 ⟨rfl,hb5⟩;have hw5:=(hZZ.call hb5).bl;clear hrz hez HK HQ HB HI hZZ hb5
   by_cases hle:own<=lk
   ·have Hx:Hid (v=9):=by unfold Hid;rw [Hy.out,if_pos hle]
    clear Hy;go_wp2
    go_ret;exact ⟨ret_int Hx.out.symm,hw5⟩
   have Hx:Hid (v=0):=by unfold Hid;rw [Hy.out,if_neg hle]
   clear Hy;go_wp2
   go_ret;exact ⟨ret_int Hx.out.symm,hw5⟩
end Go.Proofs.YtkdalopokdhndaaGreat
