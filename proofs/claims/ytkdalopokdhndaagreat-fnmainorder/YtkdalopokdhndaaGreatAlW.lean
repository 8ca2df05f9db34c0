import Derived.Test.YtkdalopokdhndaaGreatAlTZ
import Derived.Test.YtkdalopokdhndaaGreatAlV
set_option maxHeartbeats 16000000
set_option maxRecDepth 100000
namespace Go.Proofs.YtkdalopokdhndaaGreat
open Go.RowKit
variable {a sa:Option Addr}{n ll sc cap:Nat}
theorem l5Al_sl {o:View}(e:Ev)(pa:Option Addr)(cp:Nat)(aa:Option Addr)(ca:Nat)(ga:Option Addr)(cg:Nat)(w:World)(hV:ViewS w a n cap sa ll sc o)(hP:∀ p,o tPow tNil=some p->p.ng<=50)(he:EvOk w e pa cp aa ca ga cg)(hcode:e.code=0) :
  Calls Tryz.prog 30 #[.agg #[.slice a n cap],.slice sa ll sc,e.val' pa cp aa ca ga cg] w fun x w'=>x=.returned (.int .i64 (alV o e))∧Below w.heap.size w w':=by
 have HM:Hid (∀ W u,Below w.heap.size w W->Calls Tryz.prog 74 #[.agg #[.slice a n cap],.slice sa ll sc,.string u] W fun x w'=>x=.returned (.string (memO o u))∧Below W.heap.size W w'):=fun W u hW=>l5Mb_sl u W (hV.below hW)
 have HL:Hid (∀ W,Below w.heap.size w W->Calls Tryz.prog 47 #[.agg #[.slice a n cap],.slice sa ll sc,.string e.sd] W fun x w'=>x=.returned (.int .i64 (lvO o e.sd))∧Below W.heap.size W w'):=fun W hW=>hV.lv W e.sd hW
 have HC:Hid (∀ W,Below w.heap.size w W->Calls Tryz.prog 72 #[.agg #[.slice a n cap],.slice sa ll sc,.string tCre,.string tNil] W (E5o W (o tCre tNil))):=fun W hW=>hV.ev W tCre tNil hW
 have HW:Hid (∀ W,Below w.heap.size w W->Calls Tryz.prog 72 #[.agg #[.slice a n cap],.slice sa ll sc,.string tPow,.string tNil] W (E5o W (o tPow tNil))):=fun W hW=>hV.ev W tPow tNil hW
 have HJ:Hid ((o tCre tNil).isSome=true->∀ W,Below w.heap.size w W->Calls Tryz.prog 73 #[.agg #[.slice a n cap],.slice sa ll sc,e.val' pa cp aa ca ga cg] W fun x w'=>x=.returned (.int .i64 (joV o e))∧Below W.heap.size W w'):=fun hc W hW=>l5Jo_sl e pa cp aa ca ga cg W (hV.below hW) hc
 have HE:Hid (∀ W,Below w.heap.size w W->Calls Tryz.prog 75 #[.agg #[.slice a n cap],.slice sa ll sc,e.val' pa cp aa ca ga cg] W fun x w'=>x=.returned (.int .i64 (meV o e))∧Below W.heap.size W w'):=fun W hW=>l5Me_sl e pa cp aa ca ga cg W (hV.below hW)
 have HA:Hid (∀ W,Below w.heap.size w W->Calls Tryz.prog 76 #[.agg #[.slice a n cap],.slice sa ll sc,.string tAct] W fun x w'=>x=.returned (.int .i64 (tgV o tAct))∧Below W.heap.size W w'):=fun W hW=>l5Th_sl tAct (by decide) W (hV.below hW)
 have HS:Hid (∀ W,Below w.heap.size w W->Calls Tryz.prog 76 #[.agg #[.slice a n cap],.slice sa ll sc,.string tSta] W fun x w'=>x=.returned (.int .i64 (tgV o tSta))∧Below W.heap.size W w'):=fun W hW=>l5Th_sl tSta (by decide) W (hV.below hW)
 have HG:Hid (EvOk w e pa cp aa ca ga cg):=he;have hty:e.ty.size<=1000:=by have:=isW_size (ev_ws hcode).2;omega
 have Hkey:Hid (e.key.toList.isEmpty=true∨(e.st=true∧isW e.key=true)):=ev_key hcode;have Hng:Hid (isPow e=true->e.ng<=50):=fun h=>(gr_asc hcode h).1
 have Hv:Hid (alV o e=if isCr e then (if (o tCre tNil).isSome then 1 else 0) else if (o tCre tNil).isNone then 2 else if isMb e && isJn e then joV o e else if isMb e && isLea e.val && (e.sd.toList == e.key.toList) then (if expB (memO o e.key) then 0 else 10) else if isJoin (memO o e.sd)=false then 6 else if isMb e then meV o e else tlV o e):=rfl;have Ht:Hid (tlV o e=if lvO o e.sd<ndV o e then 8 else if atB e.key && !(e.key.toList == e.sd.toList) then 11 else match o tPow tNil with|some p=>if isPow e && !pwB p e (lvO o e.sd) then 12 else 0|none=>0):=rfl
 have Hnd:Hid (ndV o e=match o tPow tNil with|some p=>(gV p.M p.L (⟨#[35]⟩ ++ e.ty) p.ng).getD (if e.st then tgV o tSta else tgV o tAct)|none=>(if e.st then tgV o tSta else tgV o tAct)):=by
  unfold Hid ndV thO;rw [show tgV o (if e.st=true then tSta else tAct)=(if e.st=true then tgV o tSta else tgV o tAct) by cases e.st <;> rfl];rfl
 have HP:Hid (_):=hP;clear hV hP he hcode;generalize alV o e=v at *;generalize tlV o e=tl at *;generalize ndV o e=nd at *;generalize joV o e=jo at *;generalize meV o e=me at *;generalize lvO o e.sd=own at *;generalize tgV o tAct=xa at *;generalize tgV o tSta=xs at *
 go_enter Tryz.func30,Tryz.ntmps30
 go_wp2_with fail
 have hZ0:=EZ2.start w a n cap e pa cp aa ca ga cg 25 30;refine (HC.out _ hZ0.bl).mono ?_;intro x w1 hE1;obtain ⟨hb1,pc,cc,ac,acc,gc,gcc,rfl,-⟩:=hE1.get;have hZ1:=(hZ0.call hb1).alloc (.cells #[.string ((o tCre tNil).getD evZ).id,.string ((o tCre tNil).getD evZ).sd,.string ((o tCre tNil).getD evZ).ty,.bool ((o tCre tNil).getD evZ).st,.string ((o tCre tNil).getD evZ).key,.int .i64 ((o tCre tNil).getD evZ).tm,.slice pc ((o tCre tNil).getD evZ).np cc,.slice ac ((o tCre tNil).getD evZ).na acc,.string ((o tCre tNil).getD evZ).val,.slice gc ((o tCre tNil).getD evZ).ng gcc] 30);have hS1:=(hZ0.call hb1).sz;have hn0:w.heap.size≠w1.heap.size:=by omega
 have hn1:w.heap.size+1≠w1.heap.size:=by omega
 clear hE1 HC hb1 hZ0;have Hno:Hid ((o tCre tNil).isNone=!(o tCre tNil).isSome):=by unfold Hid;cases o tCre tNil <;> rfl
 generalize (o tCre tNil).getD evZ=c at *;generalize (o tCre tNil).isNone=bn at *;generalize (o tCre tNil).isSome=bc at *;have hr:=hZ1.r;have hev:=hZ1.c;have hbl:=hZ1.bl;cases hCr:isCr e
 case true =>
  have Hz:Hid (v=if bc then 1 else 0):=by unfold Hid;rw [Hv.out,hCr];rfl
  unfold isCr at hCr;clear Hv;cases bc
  all_goals
   go_wp2
   go_ret;exact ⟨ret_int (by rw [Hz.out];rfl),hbl⟩
 case false =>
 cases bc
 case false =>
  have Hz:Hid (v=2):=by unfold Hid;rw [Hv.out,hCr,Hno.out];rfl
  unfold isCr at hCr;clear Hv;go_wp2
  go_ret;exact ⟨ret_int Hz.out.symm,hbl⟩
 case true =>
 have Hu:Hid (v=if isMb e && isJn e then jo else if isMb e && isLea e.val && (e.sd.toList == e.key.toList) then (if expB (memO o e.key) then 0 else 10) else if isJoin (memO o e.sd)=false then 6 else if isMb e then me else tl):=by unfold Hid;rw [Hv.out,hCr,Hno.out];rfl
 unfold isCr at hCr;clear Hv Hno;have HJ':Hid (_):=HJ.out rfl;clear HJ;cases hM:isMb e
 case true =>
  have hM':=hM;unfold isMb at hM';cases hJn:isJn e
  case true =>
   have Hz:Hid (v=jo):=by unfold Hid;rw [Hu.out,hM,hJn];rfl
   unfold isJn at hJn;clear Hu hM
   go_wp2_with fail
   refine (HJ'.out _ hbl).mono ?_;rintro x w2 ⟨rfl,hb2⟩;go_wp2
   go_ret;exact ⟨ret_int Hz.out.symm,hbl.trans (hb2.mono hbl.size)⟩
  case false =>
  have hJn':=hJn;unfold isJn at hJn';cases hOwn:(isLea e.val && (e.sd.toList == e.key.toList))
  case true =>
   obtain ⟨hL,hk⟩:isLea e.val=true∧(e.sd.toList == e.key.toList)=true:=by simpa only [Bool.and_eq_true] using hOwn
   have Hz:Hid (v=if expB (memO o e.key) then 0 else 10):=by unfold Hid;rw [Hu.out,hM,hJn,hL,hk];rfl
   unfold isLea at hL;clear Hu hM hOwn
   go_wp2_with fail
   refine (HM.out _ e.key hbl).mono ?_;rintro x w2 ⟨rfl,hb2⟩;have hw2:=hbl.trans (hb2.mono hbl.size);clear hr hev;generalize memO o e.key=t at *;unfold expB at Hz;cases hJ:isJoin t <;> cases hI:isInv t
   all_goals
    rw [hJ,hI] at Hz;unfold isJoin at hJ;unfold isInv at hI;go_wp2
    go_ret;exact ⟨ret_int (by rw [Hz.out];rfl),hw2⟩
  case false =>
   have Hz:Hid (v=if isJoin (memO o e.sd)=false then 6 else me):=by unfold Hid;rw [Hu.out,hM,hJn];simp only [Bool.true_and,hOwn];simp
   clear Hu hM
   have hOwn2:isLea e.val=false∨(isLea e.val=true∧(e.sd.toList == e.key.toList)=false):=by
    cases hL:isLea e.val
    ·exact Or.inl rfl
    rw [hL] at hOwn;exact Or.inr ⟨rfl,by simpa using hOwn⟩
   clear hOwn;rcases hOwn2 with hL|⟨hL,hk⟩
   all_goals
    unfold isLea at hL
    go_wp2_with fail
    refine (HM.out _ e.sd hbl).mono ?_;rintro x w2 ⟨rfl,hb2⟩;have hZ2:=hZ1.call hb2;clear hr hev;have hr:=hZ2.r;have hev:=hZ2.c;generalize memO o e.sd=t at *;cases hJ:isJoin t
    case false =>
     have Hy:Hid (v=6):=by unfold Hid;rw [Hz.out,if_pos hJ]
     unfold isJoin at hJ;go_wp2
     go_ret;exact ⟨ret_int Hy.out.symm,hZ2.bl⟩
    case true =>
     have Hy:Hid (v=me):=by unfold Hid;rw [Hz.out,hJ];rfl
     unfold isJoin at hJ
     go_wp2_with fail
     refine (HE.out _ hZ2.bl).mono ?_;rintro x w3 ⟨rfl,hb3⟩;go_wp2
     go_ret;exact ⟨ret_int Hy.out.symm,hZ2.bl.trans (hb3.mono hZ2.bl.size)⟩
 case false =>
  have Hz:Hid (v=if isJoin (memO o e.sd)=false then 6 else tl):=by unfold Hid;rw [Hu.out,hM];rfl
  unfold isMb at hM;clear Hu HJ' HE
  go_wp2_with fail
  refine (HM.out _ e.sd hbl).mono ?_;rintro x w2 ⟨rfl,hb2⟩;have hZ2:=hZ1.call hb2;clear hr hev HM hZ1 hbl hb2;have hr:=hZ2.r;have hev:=hZ2.c;generalize memO o e.sd=t at *;cases hJ:isJoin t
  case false =>
   have Hy:Hid (v=6):=by unfold Hid;rw [Hz.out,if_pos hJ]
   unfold isJoin at hJ;go_wp2
   go_ret;exact ⟨ret_int Hy.out.symm,hZ2.bl⟩
  case true =>
  have Hy:Hid (v=tl):=by unfold Hid;rw [Hz.out,hJ];rfl
  unfold isJoin at hJ;clear Hz
  go_wp2_with fail
  refine (HL.out _ hZ2.bl).mono ?_;rintro x w3 ⟨rfl,hb3⟩;have hZ3:=hZ2.call hb3;clear hr hev HL hZ2 hb3;have hr:=hZ3.r;have hev:=hZ3.c
  go_wp2_with fail
  refine (HW.out _ hZ3.bl).mono ?_;intro x w4 hE4;obtain ⟨hb4,pp,cpp,ap,cap',gp,gcp,rfl,hokp⟩:=hE4.get;clear hr hev HW hE4
  have Hpn:Hid (((o tPow tNil).getD evZ).ng<=50):=by
   unfold Hid
   cases hx:o tPow tNil with
   | none=>decide
   | some q=>exact HP.out q hx
  have Ht':Hid (tl=if own<nd then 8 else if atB e.key && !(e.key.toList == e.sd.toList) then 11 else if (o tPow tNil).isSome && (isPow e && !pwB ((o tPow tNil).getD evZ) e own) then 12 else 0):=by
   unfold Hid;rw [Ht.out];cases o tPow tNil <;> rfl
  have Hn':Hid (nd=if (o tPow tNil).isSome then (gV ((o tPow tNil).getD evZ).M ((o tPow tNil).getD evZ).L (⟨#[35]⟩ ++ e.ty) ((o tPow tNil).getD evZ).ng).getD (if e.st then xs else xa) else (if e.st then xs else xa)):=by
   unfold Hid;rw [Hnd.out];cases o tPow tNil <;> rfl
  clear Ht Hnd HP;generalize (o tPow tNil).getD evZ=p at *;generalize (o tPow tNil).isSome=bp at *;have hS4:=(hZ3.call hb4).sz;have hrX:∀ o Z,(w4.alloc Z).cell? ⟨w.heap.size,o,none⟩=(#[.slice a n cap]:Array Value)[o]?:=fun o Z=>((hZ3.call hb4).alloc Z).r o
  have hbX:∀ Z,Below w.heap.size w (w4.alloc Z):=fun Z=>((hZ3.call hb4).alloc Z).bl
  have hn2:w.heap.size≠w4.heap.size:=by omega
  obtain ⟨W4,hW4⟩:∃ W4,W4=w4.alloc (.cells (ec p pp cpp ap cap' gp gcp) 30):=⟨_,rfl⟩;have hZ4:EZ2 w W4 a n cap e pa cp aa ca ga cg:=by rw [hW4];exact (hZ3.call hb4).alloc _
  have f4:W4.cell? ⟨w4.heap.size,9,none⟩=some (.slice gp p.ng gcp):=by rw [hW4];exact kA rfl
  have hs4:w4.heap.size<W4.heap.size:=by rw [hW4];simp
  have hg4:Hid (SlG W4 gp p.ng gcp p.M p.L):=by unfold Hid;rw [hW4];exact hokp.hg.below bA
  go_wp2_with fail
  refine (HA.out _ (hbX _)).mono ?_;rw [<- hW4];clear hrX hbX hW4 hokp;rintro x w5 ⟨rfl,hb5⟩;have hZ5:=hZ4.call hb5;have f5:w5.cell? ⟨w4.heap.size,9,none⟩=some (.slice gp p.ng gcp):=(hb5.cell (by exact hs4)).trans f4;have hr:=hZ5.r;have hev:=hZ5.c;have hs5:w4.heap.size<w5.heap.size:=nT hs4 hb5.size;have Hpg5:Hid (SlG w5 gp p.ng gcp p.M p.L):=hg4.out.below hb5;clear f4 HA hg4 hn2 hn0 hn1 hb4 hZ3;cases hst:e.st
  case false =>
   have Hpg:=Hpg5;have HGr:Hid (∀ W,Below w5.heap.size w5 W->Calls Tryz.prog 77 #[.slice gp p.ng gcp,.string (⟨#[35]⟩ ++ e.ty)] W fun e' w'=>e'=.returned (gAns (gV p.M p.L (⟨#[35]⟩ ++ e.ty) p.ng))∧w'=W):=fun W hW=>l5Gr_sl _ W (Hpg.out.below hW)
   go_wp2_with fail
   refine (HGr.out _ kB).mono ?_;rintro x w8 ⟨rfl,rfl⟩;clear HGr;unfold gAns;have hw9:=hZ5.bl
   cases hgv:gV p.M p.L (⟨#[35]⟩ ++ e.ty) p.ng with
   | none =>
    simp only [Option.getD_none,Option.isSome_none];rw [hgv] at Hn';cases bp
    case false =>
     have hnd:nd=xa:=by rw [Hn'.out,hst];rfl
     clear Hn' hgv
     by_cases hlt:own<xa
     ·have Hx:Hid (tl=8):=by unfold Hid;rw [Ht'.out,hnd,if_pos hlt]
      clear Ht' hnd;go_wp2
      go_ret;exact ⟨ret_int (by rw [Hy.out,Hx.out]),hw9⟩
     have Hx:Hid (tl=if atB e.key && !(e.key.toList == e.sd.toList) then 11 else if false && (isPow e && !pwB p e own) then 12 else 0):=by unfold Hid;rw [Ht'.out,hnd,if_neg hlt]
     clear Ht' hnd
     by_cases hat:e.key.toList.isEmpty=false∧atB e.key=true∧(e.key.toList == e.sd.toList)=false
     ·have Hq:Hid (tl=11):=by unfold Hid;rw [Hx.out,hat.2.1,hat.2.2];rfl
      obtain ⟨hke,hka,hks⟩:=hat
      have hst':e.st=true:=by
       rcases Hkey.out with h0|h0
       ·rw [h0] at hke;cases hke
       exact h0.1
      have hpos:=size_pos hke;have h64:(e.key[0].toNat:Int)=64:=by unfold atB at hka;rw [dif_pos hpos] at hka;exact of_decide_eq_true hka
      clear Hx hka;rw [hst] at hst';cases hst'
     have Hq:Hid (tl=if false && (isPow e && !pwB p e own) then 12 else 0):=by
      unfold Hid;rw [Hx.out,if_neg];intro h0;rw [Bool.and_eq_true,Bool.not_eq_true'] at h0;refine hat ⟨?_,h0.1,h0.2⟩;cases hke:e.key.toList.isEmpty
      ·rfl
      rw [atB_none hke] at h0;cases h0.1
     have hat2:e.key.toList.isEmpty=true∨(e.key.toList.isEmpty=false∧∃ h:0<e.key.size,((e.key[0].toNat:Int)≠64∨((e.key[0].toNat:Int)=64∧(e.key.toList == e.sd.toList)=true))):=by
      cases hke:e.key.toList.isEmpty
      ·refine Or.inr ⟨rfl,size_pos hke,?_⟩
       cases hks:(e.key.toList == e.sd.toList)
       ·refine Or.inl fun h64=>hat ⟨hke,?_,hks⟩
        unfold atB;rw [dif_pos (size_pos hke)];exact decide_eq_true h64
       by_cases h64:((e.key[0]'(size_pos hke)).toNat:Int)=64
       ·exact Or.inr ⟨h64,rfl⟩
       exact Or.inl h64
      exact Or.inl rfl
     clear hat Hx;rcases hat2 with hke|⟨hke,hpos,h64|⟨h64,hks⟩⟩
     all_goals
      go_wp2
      all_goals
       go_ret;exact ⟨ret_int (by rw [Hy.out,Hq.out];rfl),hw9⟩
    case true =>
     have hnd:nd=xa:=by rw [Hn'.out,hst];rfl
     clear Hn' hgv
     by_cases hlt:own<xa
     ·have Hx:Hid (tl=8):=by unfold Hid;rw [Ht'.out,hnd,if_pos hlt]
      clear Ht' hnd;go_wp2
      go_ret;exact ⟨ret_int (by rw [Hy.out,Hx.out]),hw9⟩
     have Hx:Hid (tl=if atB e.key && !(e.key.toList == e.sd.toList) then 11 else if true && (isPow e && !pwB p e own) then 12 else 0):=by unfold Hid;rw [Ht'.out,hnd,if_neg hlt]
     clear Ht' hnd
     by_cases hat:e.key.toList.isEmpty=false∧atB e.key=true∧(e.key.toList == e.sd.toList)=false
     ·have Hq:Hid (tl=11):=by unfold Hid;rw [Hx.out,hat.2.1,hat.2.2];rfl
      obtain ⟨hke,hka,hks⟩:=hat
      have hst':e.st=true:=by
       rcases Hkey.out with h0|h0
       ·rw [h0] at hke;cases hke
       exact h0.1
      have hpos:=size_pos hke;have h64:(e.key[0].toNat:Int)=64:=by unfold atB at hka;rw [dif_pos hpos] at hka;exact of_decide_eq_true hka
      clear Hx hka;rw [hst] at hst';cases hst'
     have Hq:Hid (tl=if true && (isPow e && !pwB p e own) then 12 else 0):=by
      unfold Hid;rw [Hx.out,if_neg];intro h0;rw [Bool.and_eq_true,Bool.not_eq_true'] at h0;refine hat ⟨?_,h0.1,h0.2⟩;cases hke:e.key.toList.isEmpty
      ·rfl
      rw [atB_none hke] at h0;cases h0.1
     have hat2:e.key.toList.isEmpty=true∨(e.key.toList.isEmpty=false∧∃ h:0<e.key.size,((e.key[0].toNat:Int)≠64∨((e.key[0].toNat:Int)=64∧(e.key.toList == e.sd.toList)=true))):=by
      cases hke:e.key.toList.isEmpty
      ·refine Or.inr ⟨rfl,size_pos hke,?_⟩
       cases hks:(e.key.toList == e.sd.toList)
       ·refine Or.inl fun h64=>hat ⟨hke,?_,hks⟩
        unfold atB;rw [dif_pos (size_pos hke)];exact decide_eq_true h64
       by_cases h64:((e.key[0]'(size_pos hke)).toNat:Int)=64
       ·exact Or.inr ⟨h64,rfl⟩
       exact Or.inl h64
      exact Or.inl rfl
     clear hat Hx;rcases hat2 with hke|⟨hke,hpos,h64|⟨h64,hks⟩⟩
     all_goals
      cases hpw:isPow e
      case false =>
       have Hr:Hid (tl=0):=by unfold Hid;rw [Hq.out,hpw];rfl
       unfold isPow at hpw;go_wp2
       go_ret;exact ⟨ret_int (by rw [Hy.out,Hr.out]),hw9⟩
      case true =>
       have Hr:Hid (tl=if !pwB p e own then 12 else 0):=by unfold Hid;rw [Hq.out,hpw];rfl
       have HPw:Hid (Calls Tryz.prog 78 #[.slice gp p.ng gcp,.slice ga e.ng cg,.string e.sd,.int .i64 own] w8 fun x w'=>x=.returned (.bool (pwB p e own))∧Below w8.heap.size w8 w'):=l5Pw_sl p e own w8 Hpg.out (HG.out.below hw9).hg (by have:=Hpn.out;omega) (by have:=Hng.out hpw;omega);unfold isPow at hpw;clear Hq
       go_wp2_with fail
       refine HPw.out.mono ?_;rintro x w10 ⟨rfl,hb10⟩;cases hB:pwB p e own
       all_goals
        rw [hB] at Hr;go_wp2
        go_ret
        exact ⟨ret_int (by rw [Hy.out,Hr.out];rfl),hw9.trans (hb10.mono hw9.size)⟩
   | some y =>
    simp only [Option.getD_some,Option.isSome_some];rw [hgv] at Hn';cases bp
    case false =>
     have hnd:nd=xa:=by rw [Hn'.out,hst];rfl
     clear Hn' hgv
     by_cases hlt:own<xa
     ·have Hx:Hid (tl=8):=by unfold Hid;rw [Ht'.out,hnd,if_pos hlt]
      clear Ht' hnd;go_wp2
      go_ret;exact ⟨ret_int (by rw [Hy.out,Hx.out]),hw9⟩
     have Hx:Hid (tl=if atB e.key && !(e.key.toList == e.sd.toList) then 11 else if false && (isPow e && !pwB p e own) then 12 else 0):=by unfold Hid;rw [Ht'.out,hnd,if_neg hlt]
     clear Ht' hnd
     by_cases hat:e.key.toList.isEmpty=false∧atB e.key=true∧(e.key.toList == e.sd.toList)=false
     ·have Hq:Hid (tl=11):=by unfold Hid;rw [Hx.out,hat.2.1,hat.2.2];rfl
      obtain ⟨hke,hka,hks⟩:=hat
      have hst':e.st=true:=by
       rcases Hkey.out with h0|h0
       ·rw [h0] at hke;cases hke
       exact h0.1
      have hpos:=size_pos hke;have h64:(e.key[0].toNat:Int)=64:=by unfold atB at hka;rw [dif_pos hpos] at hka;exact of_decide_eq_true hka
      clear Hx hka;rw [hst] at hst';cases hst'
     have Hq:Hid (tl=if false && (isPow e && !pwB p e own) then 12 else 0):=by
      unfold Hid;rw [Hx.out,if_neg];intro h0;rw [Bool.and_eq_true,Bool.not_eq_true'] at h0;refine hat ⟨?_,h0.1,h0.2⟩;cases hke:e.key.toList.isEmpty
      ·rfl
      rw [atB_none hke] at h0;cases h0.1
     have hat2:e.key.toList.isEmpty=true∨(e.key.toList.isEmpty=false∧∃ h:0<e.key.size,((e.key[0].toNat:Int)≠64∨((e.key[0].toNat:Int)=64∧(e.key.toList == e.sd.toList)=true))):=by
      cases hke:e.key.toList.isEmpty
      ·refine Or.inr ⟨rfl,size_pos hke,?_⟩
       cases hks:(e.key.toList == e.sd.toList)
       ·refine Or.inl fun h64=>hat ⟨hke,?_,hks⟩
        unfold atB;rw [dif_pos (size_pos hke)];exact decide_eq_true h64
       by_cases h64:((e.key[0]'(size_pos hke)).toNat:Int)=64
       ·exact Or.inr ⟨h64,rfl⟩
       exact Or.inl h64
      exact Or.inl rfl
     clear hat Hx;rcases hat2 with hke|⟨hke,hpos,h64|⟨h64,hks⟩⟩
     all_goals
      go_wp2
      all_goals
       go_ret;exact ⟨ret_int (by rw [Hy.out,Hq.out];rfl),hw9⟩
    case true =>
     have hnd:nd=y:=by rw [Hn'.out];rfl
     clear Hn' hgv
     by_cases hlt:own<y
     ·have Hx:Hid (tl=8):=by unfold Hid;rw [Ht'.out,hnd,if_pos hlt]
      clear Ht' hnd;go_wp2
      go_ret;exact ⟨ret_int (by rw [Hy.out,Hx.out]),hw9⟩
     have Hx:Hid (tl=if atB e.key && !(e.key.toList == e.sd.toList) then 11 else if true && (isPow e && !pwB p e own) then 12 else 0):=by unfold Hid;rw [Ht'.out,hnd,if_neg hlt]
     clear Ht' hnd
     by_cases hat:e.key.toList.isEmpty=false∧atB e.key=true∧(e.key.toList == e.sd.toList)=false
     ·have Hq:Hid (tl=11):=by unfold Hid;rw [Hx.out,hat.2.1,hat.2.2];rfl
      obtain ⟨hke,hka,hks⟩:=hat
      have hst':e.st=true:=by
       rcases Hkey.out with h0|h0
       ·rw [h0] at hke;cases hke
       exact h0.1
      have hpos:=size_pos hke;have h64:(e.key[0].toNat:Int)=64:=by unfold atB at hka;rw [dif_pos hpos] at hka;exact of_decide_eq_true hka
      clear Hx hka;rw [hst] at hst';cases hst'
     have Hq:Hid (tl=if true && (isPow e && !pwB p e own) then 12 else 0):=by
      unfold Hid;rw [Hx.out,if_neg];intro h0;rw [Bool.and_eq_true,Bool.not_eq_true'] at h0;refine hat ⟨?_,h0.1,h0.2⟩;cases hke:e.key.toList.isEmpty
      ·rfl
      rw [atB_none hke] at h0;cases h0.1
     have hat2:e.key.toList.isEmpty=true∨(e.key.toList.isEmpty=false∧∃ h:0<e.key.size,((e.key[0].toNat:Int)≠64∨((e.key[0].toNat:Int)=64∧(e.key.toList == e.sd.toList)=true))):=by
      cases hke:e.key.toList.isEmpty
      ·refine Or.inr ⟨rfl,size_pos hke,?_⟩
       cases hks:(e.key.toList == e.sd.toList)
       ·refine Or.inl fun h64=>hat ⟨hke,?_,hks⟩
        unfold atB;rw [dif_pos (size_pos hke)];exact decide_eq_true h64
       by_cases h64:((e.key[0]'(size_pos hke)).toNat:Int)=64
       ·exact Or.inr ⟨h64,rfl⟩
       exact Or.inl h64
      exact Or.inl rfl
     clear hat Hx;rcases hat2 with hke|⟨hke,hpos,h64|⟨h64,hks⟩⟩
     all_goals
      cases hpw:isPow e
      case false =>
       have Hr:Hid (tl=0):=by unfold Hid;rw [Hq.out,hpw];rfl
       unfold isPow at hpw;go_wp2
       go_ret;exact ⟨ret_int (by rw [Hy.out,Hr.out]),hw9⟩
      case true =>
       have Hr:Hid (tl=if !pwB p e own then 12 else 0):=by unfold Hid;rw [Hq.out,hpw];rfl
       have HPw:Hid (Calls Tryz.prog 78 #[.slice gp p.ng gcp,.slice ga e.ng cg,.string e.sd,.int .i64 own] w8 fun x w'=>x=.returned (.bool (pwB p e own))∧Below w8.heap.size w8 w'):=l5Pw_sl p e own w8 Hpg.out (HG.out.below hw9).hg (by have:=Hpn.out;omega) (by have:=Hng.out hpw;omega);unfold isPow at hpw;clear Hq
       go_wp2_with fail
       refine HPw.out.mono ?_;rintro x w10 ⟨rfl,hb10⟩;cases hB:pwB p e own
       all_goals
        rw [hB] at Hr;go_wp2
        go_ret;exact ⟨ret_int (by rw [Hy.out,Hr.out];rfl),hw9.trans (hb10.mono hw9.size)⟩
  case true =>
   go_wp2_with fail
   refine (HS.out _ hZ5.bl).mono ?_;rintro x w6 ⟨rfl,hb6⟩;have hZ6:=hZ5.call hb6;have f6:w6.cell? ⟨w4.heap.size,9,none⟩=some (.slice gp p.ng gcp):=(hb6.cell (by exact hs5)).trans f5;clear hr hev f5;have hr:=hZ6.r;have hev:=hZ6.c;have Hpg:Hid (SlG w6 gp p.ng gcp p.M p.L):=Hpg5.out.below hb6;clear HS Hpg5;have HGr:Hid (∀ W,Below w6.heap.size w6 W->Calls Tryz.prog 77 #[.slice gp p.ng gcp,.string (⟨#[35]⟩ ++ e.ty)] W fun e' w'=>e'=.returned (gAns (gV p.M p.L (⟨#[35]⟩ ++ e.ty) p.ng))∧w'=W):=fun W hW=>l5Gr_sl _ W (Hpg.out.below hW)
   go_wp2_with fail
   refine (HGr.out _ kB).mono ?_;rintro x w8 ⟨rfl,rfl⟩;clear HGr;unfold gAns;have hw9:=hZ6.bl
   cases hgv:gV p.M p.L (⟨#[35]⟩ ++ e.ty) p.ng with
   | none =>
    simp only [Option.getD_none,Option.isSome_none];rw [hgv] at Hn';cases bp
    case false =>
     have hnd:nd=xs:=by rw [Hn'.out,hst];rfl
     clear Hn' hgv
     by_cases hlt:own<xs
     ·have Hx:Hid (tl=8):=by unfold Hid;rw [Ht'.out,hnd,if_pos hlt]
      clear Ht' hnd;go_wp2
      go_ret;exact ⟨ret_int (by rw [Hy.out,Hx.out]),hw9⟩
     have Hx:Hid (tl=if atB e.key && !(e.key.toList == e.sd.toList) then 11 else if false && (isPow e && !pwB p e own) then 12 else 0):=by unfold Hid;rw [Ht'.out,hnd,if_neg hlt]
     clear Ht' hnd
     by_cases hat:e.key.toList.isEmpty=false∧atB e.key=true∧(e.key.toList == e.sd.toList)=false
     ·have Hq:Hid (tl=11):=by unfold Hid;rw [Hx.out,hat.2.1,hat.2.2];rfl
      obtain ⟨hke,hka,hks⟩:=hat
      have hst':e.st=true:=by
       rcases Hkey.out with h0|h0
       ·rw [h0] at hke;cases hke
       exact h0.1
      have hpos:=size_pos hke;have h64:(e.key[0].toNat:Int)=64:=by unfold atB at hka;rw [dif_pos hpos] at hka;exact of_decide_eq_true hka
      clear Hx hka;go_wp2
      go_ret;exact ⟨ret_int (by rw [Hy.out,Hq.out]),hw9⟩
     have Hq:Hid (tl=if false && (isPow e && !pwB p e own) then 12 else 0):=by
      unfold Hid;rw [Hx.out,if_neg];intro h0;rw [Bool.and_eq_true,Bool.not_eq_true'] at h0;refine hat ⟨?_,h0.1,h0.2⟩;cases hke:e.key.toList.isEmpty
      ·rfl
      rw [atB_none hke] at h0;cases h0.1
     have hat2:e.key.toList.isEmpty=true∨(e.key.toList.isEmpty=false∧∃ h:0<e.key.size,((e.key[0].toNat:Int)≠64∨((e.key[0].toNat:Int)=64∧(e.key.toList == e.sd.toList)=true))):=by
      cases hke:e.key.toList.isEmpty
      ·refine Or.inr ⟨rfl,size_pos hke,?_⟩
       cases hks:(e.key.toList == e.sd.toList)
       ·refine Or.inl fun h64=>hat ⟨hke,?_,hks⟩
        unfold atB;rw [dif_pos (size_pos hke)];exact decide_eq_true h64
       by_cases h64:((e.key[0]'(size_pos hke)).toNat:Int)=64
       ·exact Or.inr ⟨h64,rfl⟩
       exact Or.inl h64
      exact Or.inl rfl
     clear hat Hx;rcases hat2 with hke|⟨hke,hpos,h64|⟨h64,hks⟩⟩
     all_goals
      go_wp2
      all_goals
       go_ret;exact ⟨ret_int (by rw [Hy.out,Hq.out];rfl),hw9⟩
    case true =>
     have hnd:nd=xs:=by rw [Hn'.out,hst];rfl
     clear Hn' hgv
     by_cases hlt:own<xs
     ·have Hx:Hid (tl=8):=by unfold Hid;rw [Ht'.out,hnd,if_pos hlt]
      clear Ht' hnd;go_wp2
      go_ret;exact ⟨ret_int (by rw [Hy.out,Hx.out]),hw9⟩
     have Hx:Hid (tl=if atB e.key && !(e.key.toList == e.sd.toList) then 11 else if true && (isPow e && !pwB p e own) then 12 else 0):=by unfold Hid;rw [Ht'.out,hnd,if_neg hlt]
     clear Ht' hnd
     by_cases hat:e.key.toList.isEmpty=false∧atB e.key=true∧(e.key.toList == e.sd.toList)=false
     ·have Hq:Hid (tl=11):=by unfold Hid;rw [Hx.out,hat.2.1,hat.2.2];rfl
      obtain ⟨hke,hka,hks⟩:=hat
      have hst':e.st=true:=by
       rcases Hkey.out with h0|h0
       ·rw [h0] at hke;cases hke
       exact h0.1
      have hpos:=size_pos hke;have h64:(e.key[0].toNat:Int)=64:=by unfold atB at hka;rw [dif_pos hpos] at hka;exact of_decide_eq_true hka
      clear Hx hka;go_wp2
      go_ret;exact ⟨ret_int (by rw [Hy.out,Hq.out]),hw9⟩
     have Hq:Hid (tl=if true && (isPow e && !pwB p e own) then 12 else 0):=by
      unfold Hid;rw [Hx.out,if_neg];intro h0;rw [Bool.and_eq_true,Bool.not_eq_true'] at h0;refine hat ⟨?_,h0.1,h0.2⟩;cases hke:e.key.toList.isEmpty
      ·rfl
      rw [atB_none hke] at h0;cases h0.1
     have hat2:e.key.toList.isEmpty=true∨(e.key.toList.isEmpty=false∧∃ h:0<e.key.size,((e.key[0].toNat:Int)≠64∨((e.key[0].toNat:Int)=64∧(e.key.toList == e.sd.toList)=true))):=by
      cases hke:e.key.toList.isEmpty
      ·refine Or.inr ⟨rfl,size_pos hke,?_⟩
       cases hks:(e.key.toList == e.sd.toList)
       ·refine Or.inl fun h64=>hat ⟨hke,?_,hks⟩
        unfold atB;rw [dif_pos (size_pos hke)];exact decide_eq_true h64
       by_cases h64:((e.key[0]'(size_pos hke)).toNat:Int)=64
       ·exact Or.inr ⟨h64,rfl⟩
       exact Or.inl h64
      exact Or.inl rfl
     clear hat Hx;rcases hat2 with hke|⟨hke,hpos,h64|⟨h64,hks⟩⟩
     all_goals
      cases hpw:isPow e
      case false =>
       have Hr:Hid (tl=0):=by unfold Hid;rw [Hq.out,hpw];rfl
       unfold isPow at hpw;go_wp2
       go_ret;exact ⟨ret_int (by rw [Hy.out,Hr.out]),hw9⟩
      case true =>
       have Hr:Hid (tl=if !pwB p e own then 12 else 0):=by unfold Hid;rw [Hq.out,hpw];rfl
       have HPw:Hid (Calls Tryz.prog 78 #[.slice gp p.ng gcp,.slice ga e.ng cg,.string e.sd,.int .i64 own] w8 fun x w'=>x=.returned (.bool (pwB p e own))∧Below w8.heap.size w8 w'):=l5Pw_sl p e own w8 Hpg.out (HG.out.below hw9).hg (by have:=Hpn.out;omega) (by have:=Hng.out hpw;omega);unfold isPow at hpw;clear Hq
       go_wp2_with fail
       refine HPw.out.mono ?_;rintro x w10 ⟨rfl,hb10⟩;cases hB:pwB p e own
       all_goals
        rw [hB] at Hr;go_wp2
        go_ret
        exact ⟨ret_int (by rw [Hy.out,Hr.out];rfl),hw9.trans (hb10.mono hw9.size)⟩
   | some y =>
    simp only [Option.getD_some,Option.isSome_some];rw [hgv] at Hn';cases bp
    case false =>
     have hnd:nd=xs:=by rw [Hn'.out,hst];rfl
     clear Hn' hgv
     by_cases hlt:own<xs
     ·have Hx:Hid (tl=8):=by unfold Hid;rw [Ht'.out,hnd,if_pos hlt]
      clear Ht' hnd;go_wp2
      go_ret;exact ⟨ret_int (by rw [Hy.out,Hx.out]),hw9⟩
     have Hx:Hid (tl=if atB e.key && !(e.key.toList == e.sd.toList) then 11 else if false && (isPow e && !pwB p e own) then 12 else 0):=by unfold Hid;rw [Ht'.out,hnd,if_neg hlt]
     clear Ht' hnd
     by_cases hat:e.key.toList.isEmpty=false∧atB e.key=true∧(e.key.toList == e.sd.toList)=false
     ·have Hq:Hid (tl=11):=by unfold Hid;rw [Hx.out,hat.2.1,hat.2.2];rfl
      obtain ⟨hke,hka,hks⟩:=hat
      have hst':e.st=true:=by
       rcases Hkey.out with h0|h0
       ·rw [h0] at hke;cases hke
       exact h0.1
      have hpos:=size_pos hke;have h64:(e.key[0].toNat:Int)=64:=by unfold atB at hka;rw [dif_pos hpos] at hka;exact of_decide_eq_true hka
      clear Hx hka;go_wp2
      go_ret;exact ⟨ret_int (by rw [Hy.out,Hq.out]),hw9⟩
     have Hq:Hid (tl=if false && (isPow e && !pwB p e own) then 12 else 0):=by
      unfold Hid;rw [Hx.out,if_neg];intro h0;rw [Bool.and_eq_true,Bool.not_eq_true'] at h0;refine hat ⟨?_,h0.1,h0.2⟩;cases hke:e.key.toList.isEmpty
      ·rfl
      rw [atB_none hke] at h0;cases h0.1
     have hat2:e.key.toList.isEmpty=true∨(e.key.toList.isEmpty=false∧∃ h:0<e.key.size,((e.key[0].toNat:Int)≠64∨((e.key[0].toNat:Int)=64∧(e.key.toList == e.sd.toList)=true))):=by
      cases hke:e.key.toList.isEmpty
      ·refine Or.inr ⟨rfl,size_pos hke,?_⟩
       cases hks:(e.key.toList == e.sd.toList)
       ·refine Or.inl fun h64=>hat ⟨hke,?_,hks⟩
        unfold atB;rw [dif_pos (size_pos hke)];exact decide_eq_true h64
       by_cases h64:((e.key[0]'(size_pos hke)).toNat:Int)=64
       ·exact Or.inr ⟨h64,rfl⟩
       exact Or.inl h64
      exact Or.inl rfl
     clear hat Hx;rcases hat2 with hke|⟨hke,hpos,h64|⟨h64,hks⟩⟩
     all_goals
      go_wp2
      all_goals
       go_ret;exact ⟨ret_int (by rw [Hy.out,Hq.out];rfl),hw9⟩
    case true =>
     have hnd:nd=y:=by rw [Hn'.out];rfl
     clear Hn' hgv
     by_cases hlt:own<y
     ·have Hx:Hid (tl=8):=by unfold Hid;rw [Ht'.out,hnd,if_pos hlt]
      clear Ht' hnd;go_wp2
      go_ret;exact ⟨ret_int (by rw [Hy.out,Hx.out]),hw9⟩
     have Hx:Hid (tl=if atB e.key && !(e.key.toList == e.sd.toList) then 11 else if true && (isPow e && !pwB p e own) then 12 else 0):=by unfold Hid;rw [Ht'.out,hnd,if_neg hlt]
     clear Ht' hnd
     by_cases hat:e.key.toList.isEmpty=false∧atB e.key=true∧(e.key.toList == e.sd.toList)=false
     ·have Hq:Hid (tl=11):=by unfold Hid;rw [Hx.out,hat.2.1,hat.2.2];rfl
      obtain ⟨hke,hka,hks⟩:=hat
      have hst':e.st=true:=by
       rcases Hkey.out with h0|h0
       ·rw [h0] at hke;cases hke
       exact h0.1
      have hpos:=size_pos hke;have h64:(e.key[0].toNat:Int)=64:=by unfold atB at hka;rw [dif_pos hpos] at hka;exact of_decide_eq_true hka
      clear Hx hka;go_wp2
      go_ret;exact ⟨ret_int (by rw [Hy.out,Hq.out]),hw9⟩
     have Hq:Hid (tl=if true && (isPow e && !pwB p e own) then 12 else 0):=by
      unfold Hid;rw [Hx.out,if_neg];intro h0;rw [Bool.and_eq_true,Bool.not_eq_true'] at h0;refine hat ⟨?_,h0.1,h0.2⟩;cases hke:e.key.toList.isEmpty
      ·rfl
      rw [atB_none hke] at h0;cases h0.1
     have hat2:e.key.toList.isEmpty=true∨(e.key.toList.isEmpty=false∧∃ h:0<e.key.size,((e.key[0].toNat:Int)≠64∨((e.key[0].toNat:Int)=64∧(e.key.toList == e.sd.toList)=true))):=by
      cases hke:e.key.toList.isEmpty
      ·refine Or.inr ⟨rfl,size_pos hke,?_⟩
       cases hks:(e.key.toList == e.sd.toList)
       ·refine Or.inl fun h64=>hat ⟨hke,?_,hks⟩
        unfold atB;rw [dif_pos (size_pos hke)];exact decide_eq_true h64
       by_cases h64:((e.key[0]'(size_pos hke)).toNat:Int)=64
       ·exact Or.inr ⟨h64,rfl⟩
       exact Or.inl h64
      exact Or.inl rfl
     clear hat Hx;rcases hat2 with hke|⟨hke,hpos,h64|⟨h64,hks⟩⟩
     all_goals
      cases hpw:isPow e
      case false =>
       have Hr:Hid (tl=0):=by unfold Hid;rw [Hq.out,hpw];rfl
       unfold isPow at hpw;go_wp2
       go_ret;exact ⟨ret_int (by rw [Hy.out,Hr.out]),hw9⟩
      case true =>
       have Hr:Hid (tl=if !pwB p e own then 12 else 0):=by unfold Hid;rw [Hq.out,hpw];rfl
       have HPw:Hid (Calls Tryz.prog 78 #[.slice gp p.ng gcp,.slice ga e.ng cg,.string e.sd,.int .i64 own] w8 fun x w'=>x=.returned (.bool (pwB p e own))∧Below w8.heap.size w8 w'):=l5Pw_sl p e own w8 Hpg.out (HG.out.below hw9).hg (by have:=Hpn.out;omega) (by have:=Hng.out hpw;omega);unfold isPow at hpw;clear Hq
       go_wp2_with fail
       refine HPw.out.mono ?_;rintro x w10 ⟨rfl,hb10⟩;cases hB:pwB p e own
       all_goals
        rw [hB] at Hr;go_wp2
        go_ret;exact ⟨ret_int (by rw [Hy.out,Hr.out];rfl),hw9.trans (hb10.mono hw9.size)⟩
end Go.Proofs.YtkdalopokdhndaaGreat
