import Derived.Test.YtpfeegcdlikegaaGreatAlV
set_option maxHeartbeats 16000000
set_option maxRecDepth 100000
namespace Go.Proofs.YtpfeegcdlikegaaGreat
open Go.RowKit Go.Proofs.Tryz
variable {a sa:Option Addr}{n ll sc cap:Nat}{o:dI}
theorem xQ (e:Ev)(pa:Option Addr)(cp:Nat)(aa:Option Addr)(ca:Nat)(ga:Option Addr)(cg:Nat)(w:World)(hV:nX w a n cap sa ll sc o)(hP:∀ p,o aX aJ=some p->p.ng<=50)(he:cI w e pa cp aa ca ga cg)(ax:e.code=0) :
  Calls prog 16 #[.agg #[.slice a n cap],.slice sa ll sc,e.val' pa cp aa ca ga cg] w fun x w'=>x=.returned (.int .i64 (lJ o e))/\Below w.heap.size w w':=by
 have HM:He (∀ W u,Below w.heap.size w W->Calls prog 48 #[.agg #[.slice a n cap],.slice sa ll sc,.string u] W fun x w'=>x=.returned (.string (memO o u))/\Below W.heap.size W w'):=fun W u hW=>xR u W (hV.below hW)
 have HL:He (∀ W,Below w.heap.size w W->Calls prog 33 #[.agg #[.slice a n cap],.slice sa ll sc,.string e.sd] W fun x w'=>x=.returned (.int .i64 (dL o e.sd))/\Below W.heap.size W w'):=fun W hW=>hV.lv W e.sd hW
 have HC:He (∀ W,Below w.heap.size w W->Calls prog 46 #[.agg #[.slice a n cap],.slice sa ll sc,.string bJ,.string aJ] W (QW W (o bJ aJ))):=fun W hW=>hV.ev W bJ aJ hW
 have HW:He (∀ W,Below w.heap.size w W->Calls prog 46 #[.agg #[.slice a n cap],.slice sa ll sc,.string aX,.string aJ] W (QW W (o aX aJ))):=fun W hW=>hV.ev W aX aJ hW
 have HJ:He ((o bJ aJ).isSome=true->∀ W,Below w.heap.size w W->Calls prog 47 #[.agg #[.slice a n cap],.slice sa ll sc,e.val' pa cp aa ca ga cg] W fun x w'=>x=.returned (.int .i64 (LP o e))/\Below W.heap.size W w'):=fun hc W hW=>SF e pa cp aa ca ga cg W (hV.below hW) hc
 have HE:He (∀ W,Below w.heap.size w W->Calls prog 49 #[.agg #[.slice a n cap],.slice sa ll sc,e.val' pa cp aa ca ga cg] W fun x w'=>x=.returned (.int .i64 (LF o e))/\Below W.heap.size W w'):=fun W hW=>UA e pa cp aa ca ga cg W (hV.below hW)
 have HA:He (∀ W,Below w.heap.size w W->Calls prog 50 #[.agg #[.slice a n cap],.slice sa ll sc,.string rL] W fun x w'=>x=.returned (.int .i64 (gA o rL))/\Below W.heap.size W w'):=fun W hW=>oL rL (by decide) W (hV.below hW)
 have HS:He (∀ W,Below w.heap.size w W->Calls prog 50 #[.agg #[.slice a n cap],.slice sa ll sc,.string sU] W fun x w'=>x=.returned (.int .i64 (gA o sU))/\Below W.heap.size W w'):=fun W hW=>oL sU (by decide) W (hV.below hW)
 have HG:He (cI w e pa cp aa ca ga cg):=he;have hty:e.ty.size<=1000:=by have:=fT (UR ax).2;omega
 have ao:He (e.key.toList.isEmpty=true\/(e.st=true/\cU e.key=true)):=YI ax;have bt:He (aT e=true->e.ng<=50):=fun h=>(qA ax h).1
 have Hv:He (lJ o e=if dV e then (if (o bJ aJ).isSome then 1 else 0) else if (o bJ aJ).isNone then 2 else if bE e && eZ e then LP o e else if bE e && bX e.val && (e.sd.toList == e.key.toList) then (if lD (memO o e.key) then 0 else 10) else if bG (memO o e.sd)=false then 6 else if bE e then LF o e else VC o e):=rfl;have Ht:He (VC o e=if dL o e.sd<BV o e then 8 else if iD e.key && !(e.key.toList == e.sd.toList) then 11 else match o aX aJ with|some p=>if aT e && !jU p e (dL o e.sd) then 12 else 0|none=>0):=rfl
 have cd:He (BV o e=match o aX aJ with|some p=>(gV p.M p.L (⟨#[35]⟩ ++ e.ty) p.ng).getD (if e.st then gA o sU else gA o rL)|none=>(if e.st then gA o sU else gA o rL)):=by
  unfold He BV VL;rw [show gA o (if e.st=true then sU else rL)=(if e.st=true then gA o sU else gA o rL) by cases e.st <;> rfl];rfl
 have HP:He (_):=hP;clear hV hP he ax;generalize lJ o e=v at *;generalize VC o e=tl at *;generalize BV o e=nd at *;generalize LP o e=jo at *;generalize LF o e=me at *;generalize dL o e.sd=own at *;generalize gA o rL=xa at *;generalize gA o sU=xs at *
 go_enter func16,ntmps16
 go_wp2_with fail
 have bk:=GU.start w a n cap e pa cp aa ca ga cg 25 30;refine (HC.o _ bk.bl).mono ?_;intro x w1 b9;obtain ⟨b5,pc,cc,ac,co,gc,dc,rfl,-⟩:=b9.get;have ba:=(bk.call b5).alloc (.cells #[.string ((o bJ aJ).getD rA).id,.string ((o bJ aJ).getD rA).sd,.string ((o bJ aJ).getD rA).ty,.bool ((o bJ aJ).getD rA).st,.string ((o bJ aJ).getD rA).key,.int .i64 ((o bJ aJ).getD rA).tm,.slice pc ((o bJ aJ).getD rA).np cc,.slice ac ((o bJ aJ).getD rA).na co,.string ((o bJ aJ).getD rA).val,.slice gc ((o bJ aJ).getD rA).ng dc] 30);have dv:=(bk.call b5).sz;have cz:w.heap.size≠w1.heap.size:=by omega
 have cx:w.heap.size+1≠w1.heap.size:=by omega
 clear b9 HC b5 bk;have bw:He ((o bJ aJ).isNone=!(o bJ aJ).isSome):=by unfold He;cases o bJ aJ <;> rfl
 generalize (o bJ aJ).getD rA=c at *;generalize (o bJ aJ).isNone=bn at *;generalize (o bJ aJ).isSome=bc at *;have hr:=ba.r;have aq:=ba.c;have aw:=ba.bl;cases hCr:dV e
 case true =>
  have Hz:He (v=if bc then 1 else 0):=by unfold He;rw [Hv.o,hCr];rfl
  unfold dV at hCr;clear Hv;cases bc
  all_goals
   go_wp2
   go_ret;exact ⟨aA (by rw [Hz.o];rfl),aw⟩
 case false =>
 cases bc
 case false =>
  have Hz:He (v=2):=by unfold He;rw [Hv.o,hCr,bw.o];rfl
  unfold dV at hCr;clear Hv;go_wp2
  go_ret;exact ⟨aA Hz.o.symm,aw⟩
 case true =>
 have Hu:He (v=if bE e && eZ e then jo else if bE e && bX e.val && (e.sd.toList == e.key.toList) then (if lD (memO o e.key) then 0 else 10) else if bG (memO o e.sd)=false then 6 else if bE e then me else tl):=by unfold He;rw [Hv.o,hCr,bw.o];rfl
 unfold dV at hCr;clear Hv bw;have cj:He (_):=HJ.o rfl;clear HJ;cases hM:bE e
 case true =>
  have cv:=hM;unfold bE at cv;cases hJn:eZ e
  case true =>
   have Hz:He (v=jo):=by unfold He;rw [Hu.o,hM,hJn];rfl
   unfold eZ at hJn;clear Hu hM
   go_wp2_with fail
   refine (cj.o _ aw).mono ?_;rintro x w2 ⟨rfl,a4⟩;go_wp2
   go_ret;exact ⟨aA Hz.o.symm,aw.trans (a4.mono aw.size)⟩
  case false =>
  have ch:=hJn;unfold eZ at ch;cases hOwn:(bX e.val && (e.sd.toList == e.key.toList))
  case true =>
   obtain ⟨hL,hk⟩:bX e.val=true/\(e.sd.toList == e.key.toList)=true:=by simpa only [Bool.and_eq_true] using hOwn
   have Hz:He (v=if lD (memO o e.key) then 0 else 10):=by unfold He;rw [Hu.o,hM,hJn,hL,hk];rfl
   unfold bX at hL;clear Hu hM hOwn
   go_wp2_with fail
   refine (HM.o _ e.key aw).mono ?_;rintro x w2 ⟨rfl,a4⟩;have cw:=aw.trans (a4.mono aw.size);clear hr aq;generalize memO o e.key=t at *;unfold lD at Hz;cases hJ:bG t <;> cases hI:eU t
   all_goals
    rw [hJ,hI] at Hz;unfold bG at hJ;unfold eU at hI;go_wp2
    go_ret;exact ⟨aA (by rw [Hz.o];rfl),cw⟩
  case false =>
   have Hz:He (v=if bG (memO o e.sd)=false then 6 else me):=by unfold He;rw [Hu.o,hM,hJn];simp only [Bool.true_and,hOwn];simp
   clear Hu hM
   have b2:bX e.val=false\/(bX e.val=true/\(e.sd.toList == e.key.toList)=false):=by
    cases hL:bX e.val
    ·exact Or.inl rfl
    rw [hL] at hOwn;exact Or.inr ⟨rfl,by simpa using hOwn⟩
   clear hOwn;rcases b2 with hL|⟨hL,hk⟩
   all_goals
    unfold bX at hL
    go_wp2_with fail
    refine (HM.o _ e.sd aw).mono ?_;rintro x w2 ⟨rfl,a4⟩;have an:=ba.call a4;clear hr aq;have hr:=an.r;have aq:=an.c;generalize memO o e.sd=t at *;cases hJ:bG t
    case false =>
     have Hy:He (v=6):=by unfold He;rw [Hz.o,if_pos hJ]
     unfold bG at hJ;go_wp2
     go_ret;exact ⟨aA Hy.o.symm,an.bl⟩
    case true =>
     have Hy:He (v=me):=by unfold He;rw [Hz.o,hJ];rfl
     unfold bG at hJ
     go_wp2_with fail
     refine (HE.o _ an.bl).mono ?_;rintro x w3 ⟨rfl,bj⟩;go_wp2
     go_ret;exact ⟨aA Hy.o.symm,an.bl.trans (bj.mono an.bl.size)⟩
 case false =>
  have Hz:He (v=if bG (memO o e.sd)=false then 6 else tl):=by unfold He;rw [Hu.o,hM];rfl
  unfold bE at hM;clear Hu cj HE
  go_wp2_with fail
  refine (HM.o _ e.sd aw).mono ?_;rintro x w2 ⟨rfl,a4⟩;have an:=ba.call a4;clear hr aq HM ba aw a4;have hr:=an.r;have aq:=an.c;generalize memO o e.sd=t at *;cases hJ:bG t
  case false =>
   have Hy:He (v=6):=by unfold He;rw [Hz.o,if_pos hJ]
   unfold bG at hJ;go_wp2
   go_ret;exact ⟨aA Hy.o.symm,an.bl⟩
  case true =>
  have Hy:He (v=tl):=by unfold He;rw [Hz.o,hJ];rfl
  unfold bG at hJ;clear Hz
  go_wp2_with fail
  refine (HL.o _ an.bl).mono ?_;rintro x w3 ⟨rfl,bj⟩;have a3:=an.call bj;clear hr aq HL an bj;have hr:=a3.r;have aq:=a3.c
  go_wp2_with fail
  refine (HW.o _ a3.bl).mono ?_;intro x w4 b8;obtain ⟨bh,pp,cy,ap,ce,gp,am,rfl,bv⟩:=b8.get;clear hr aq HW b8
  have bm:He (((o aX aJ).getD rA).ng<=50):=by
   unfold He
   cases hx:o aX aJ with
   | none=>decide
   | some q=>exact HP.o q hx
  have ab:He (tl=if own<nd then 8 else if iD e.key && !(e.key.toList == e.sd.toList) then 11 else if (o aX aJ).isSome && (aT e && !jU ((o aX aJ).getD rA) e own) then 12 else 0):=by
   unfold He;rw [Ht.o];cases o aX aJ <;> rfl
  have ai:He (nd=if (o aX aJ).isSome then (gV ((o aX aJ).getD rA).M ((o aX aJ).getD rA).L (⟨#[35]⟩ ++ e.ty) ((o aX aJ).getD rA).ng).getD (if e.st then xs else xa) else (if e.st then xs else xa)):=by
   unfold He;rw [cd.o];cases o aX aJ <;> rfl
  clear Ht cd HP;generalize (o aX aJ).getD rA=p at *;generalize (o aX aJ).isSome=bp at *;have d2:=(a3.call bh).sz;have ct:∀ o Z,(w4.alloc Z).cell? ⟨w.heap.size,o,none⟩=(#[.slice a n cap]:Array Value)[o]?:=fun o Z=>((a3.call bh).alloc Z).r o
  have ci:∀ Z,Below w.heap.size w (w4.alloc Z):=fun Z=>((a3.call bh).alloc Z).bl
  have da:w.heap.size≠w4.heap.size:=by omega
  obtain ⟨W4,bb⟩:∃ W4,W4=w4.alloc (.cells (ec p pp cy ap ce gp am) 30):=⟨_,rfl⟩;have cu:GU w W4 a n cap e pa cp aa ca ga cg:=by rw [bb];exact (a3.call bh).alloc _
  have f4:W4.cell? ⟨w4.heap.size,9,none⟩=some (.slice gp p.ng am):=by rw [bb];exact kA rfl
  have cf:w4.heap.size<W4.heap.size:=by rw [bb];simp
  have b7:He (gN W4 gp p.ng am p.M p.L):=by unfold He;rw [bb];exact bv.hg.below bA
  go_wp2_with fail
  refine (HA.o _ (ci _)).mono ?_;rw [<- bb];clear ct ci bb bv;rintro x w5 ⟨rfl,bq⟩;have bf:=cu.call bq;have f5:w5.cell? ⟨w4.heap.size,9,none⟩=some (.slice gp p.ng am):=(bq.cell (by exact cf)).trans f4;have hr:=bf.r;have aq:=bf.c;have db:w4.heap.size<w5.heap.size:=nT cf bq.size;have bi:He (gN w5 gp p.ng am p.M p.L):=b7.o.below bq;clear f4 HA b7 da cz cx bh a3;cases hst:e.st
  case false =>
   have a8:=bi;have bg:He (∀ W,Below w5.heap.size w5 W->Calls prog 51 #[.slice gp p.ng am,.string (⟨#[35]⟩ ++ e.ty)] W fun e' w'=>e'=.returned (fQ (gV p.M p.L (⟨#[35]⟩ ++ e.ty) p.ng))/\w'=W):=fun W hW=>mR _ W (a8.o.below hW)
   go_wp2_with fail
   refine (bg.o _ kB).mono ?_;rintro x w8 ⟨rfl,rfl⟩;clear bg;unfold fQ;have Y:=bf.bl
   cases hgv:gV p.M p.L (⟨#[35]⟩ ++ e.ty) p.ng with
   | none =>
    simp only [Option.getD_none,Option.isSome_none];rw [hgv] at ai;cases bp
    case false =>
     have J:nd=xa:=by rw [ai.o,hst];rfl
     clear ai hgv
     by_cases ag:own<xa
     ·have Hx:He (tl=8):=by unfold He;rw [ab.o,J,if_pos ag]
      clear ab J;go_wp2
      go_ret;exact ⟨aA (by rw [Hy.o,Hx.o]),Y⟩
     have Hx:He (tl=if iD e.key && !(e.key.toList == e.sd.toList) then 11 else if false && (aT e && !jU p e own) then 12 else 0):=by unfold He;rw [ab.o,J,if_neg ag]
     clear ab J
     by_cases I:e.key.toList.isEmpty=false/\iD e.key=true/\(e.key.toList == e.sd.toList)=false
     ·have Hq:He (tl=11):=by unfold He;rw [Hx.o,I.2.1,I.2.2];rfl
      obtain ⟨G,N,ad⟩:=I
      have af:e.st=true:=by
       rcases ao.o with O|O
       ·rw [O] at G;cases G
       exact O.1
      have U:=aS G;have H:(e.key[0].toNat:Int)=64:=by unfold iD at N;rw [dif_pos U] at N;exact of_decide_eq_true N
      clear Hx N;rw [hst] at af;cases af
     have Hq:He (tl=if false && (aT e && !jU p e own) then 12 else 0):=by
      unfold He;rw [Hx.o,if_neg];intro O;rw [Bool.and_eq_true,Bool.not_eq_true'] at O;refine I ⟨?_,O.1,O.2⟩;cases G:e.key.toList.isEmpty
      ·rfl
      rw [gR G] at O;cases O.1
     have ah:e.key.toList.isEmpty=true\/(e.key.toList.isEmpty=false/\∃ h:0<e.key.size,((e.key[0].toNat:Int)≠64\/((e.key[0].toNat:Int)=64/\(e.key.toList == e.sd.toList)=true))):=by
      cases G:e.key.toList.isEmpty
      ·refine Or.inr ⟨rfl,aS G,?_⟩
       cases ad:(e.key.toList == e.sd.toList)
       ·refine Or.inl fun H=>I ⟨G,?_,ad⟩
        unfold iD;rw [dif_pos (aS G)];exact decide_eq_true H
       by_cases H:((e.key[0]'(aS G)).toNat:Int)=64
       ·exact Or.inr ⟨H,rfl⟩
       exact Or.inl H
      exact Or.inl rfl
     clear I Hx;rcases ah with G|⟨G,U,H|⟨H,ad⟩⟩
     all_goals
      go_wp2
      all_goals
       go_ret;exact ⟨aA (by rw [Hy.o,Hq.o];rfl),Y⟩
    case true =>
     have J:nd=xa:=by rw [ai.o,hst];rfl
     clear ai hgv
     by_cases ag:own<xa
     ·have Hx:He (tl=8):=by unfold He;rw [ab.o,J,if_pos ag]
      clear ab J;go_wp2
      go_ret;exact ⟨aA (by rw [Hy.o,Hx.o]),Y⟩
     have Hx:He (tl=if iD e.key && !(e.key.toList == e.sd.toList) then 11 else if true && (aT e && !jU p e own) then 12 else 0):=by unfold He;rw [ab.o,J,if_neg ag]
     clear ab J
     by_cases I:e.key.toList.isEmpty=false/\iD e.key=true/\(e.key.toList == e.sd.toList)=false
     ·have Hq:He (tl=11):=by unfold He;rw [Hx.o,I.2.1,I.2.2];rfl
      obtain ⟨G,N,ad⟩:=I
      have af:e.st=true:=by
       rcases ao.o with O|O
       ·rw [O] at G;cases G
       exact O.1
      have U:=aS G;have H:(e.key[0].toNat:Int)=64:=by unfold iD at N;rw [dif_pos U] at N;exact of_decide_eq_true N
      clear Hx N;rw [hst] at af;cases af
     have Hq:He (tl=if true && (aT e && !jU p e own) then 12 else 0):=by
      unfold He;rw [Hx.o,if_neg];intro O;rw [Bool.and_eq_true,Bool.not_eq_true'] at O;refine I ⟨?_,O.1,O.2⟩;cases G:e.key.toList.isEmpty
      ·rfl
      rw [gR G] at O;cases O.1
     have ah:e.key.toList.isEmpty=true\/(e.key.toList.isEmpty=false/\∃ h:0<e.key.size,((e.key[0].toNat:Int)≠64\/((e.key[0].toNat:Int)=64/\(e.key.toList == e.sd.toList)=true))):=by
      cases G:e.key.toList.isEmpty
      ·refine Or.inr ⟨rfl,aS G,?_⟩
       cases ad:(e.key.toList == e.sd.toList)
       ·refine Or.inl fun H=>I ⟨G,?_,ad⟩
        unfold iD;rw [dif_pos (aS G)];exact decide_eq_true H
       by_cases H:((e.key[0]'(aS G)).toNat:Int)=64
       ·exact Or.inr ⟨H,rfl⟩
       exact Or.inl H
      exact Or.inl rfl
     clear I Hx;rcases ah with G|⟨G,U,H|⟨H,ad⟩⟩
     all_goals
      cases hpw:aT e
      case false =>
       have Hr:He (tl=0):=by unfold He;rw [Hq.o,hpw];rfl
       unfold aT at hpw;go_wp2
       go_ret;exact ⟨aA (by rw [Hy.o,Hr.o]),Y⟩
      case true =>
       have Hr:He (tl=if !jU p e own then 12 else 0):=by unfold He;rw [Hq.o,hpw];rfl
       have a6:He (Calls prog 52 #[.slice gp p.ng am,.slice ga e.ng cg,.string e.sd,.int .i64 own] w8 fun x w'=>x=.returned (.bool (jU p e own))/\Below w8.heap.size w8 w'):=rG p e own w8 a8.o (HG.o.below Y).hg (by have:=bm.o;omega) (by have:=bt.o hpw;omega);unfold aT at hpw;clear Hq
       go_wp2_with fail
       refine a6.o.mono ?_;rintro x bx ⟨rfl,au⟩;cases hB:jU p e own
       all_goals
        rw [hB] at Hr;go_wp2
        go_ret
        exact ⟨aA (by rw [Hy.o,Hr.o];rfl),Y.trans (au.mono Y.size)⟩
   | some y =>
    simp only [Option.getD_some,Option.isSome_some];rw [hgv] at ai;cases bp
    case false =>
     have J:nd=xa:=by rw [ai.o,hst];rfl
     clear ai hgv
     by_cases ag:own<xa
     ·have Hx:He (tl=8):=by unfold He;rw [ab.o,J,if_pos ag]
      clear ab J;go_wp2
      go_ret;exact ⟨aA (by rw [Hy.o,Hx.o]),Y⟩
     have Hx:He (tl=if iD e.key && !(e.key.toList == e.sd.toList) then 11 else if false && (aT e && !jU p e own) then 12 else 0):=by unfold He;rw [ab.o,J,if_neg ag]
     clear ab J
     by_cases I:e.key.toList.isEmpty=false/\iD e.key=true/\(e.key.toList == e.sd.toList)=false
     ·have Hq:He (tl=11):=by unfold He;rw [Hx.o,I.2.1,I.2.2];rfl
      obtain ⟨G,N,ad⟩:=I
      have af:e.st=true:=by
       rcases ao.o with O|O
       ·rw [O] at G;cases G
       exact O.1
      have U:=aS G;have H:(e.key[0].toNat:Int)=64:=by unfold iD at N;rw [dif_pos U] at N;exact of_decide_eq_true N
      clear Hx N;rw [hst] at af;cases af
     have Hq:He (tl=if false && (aT e && !jU p e own) then 12 else 0):=by
      unfold He;rw [Hx.o,if_neg];intro O;rw [Bool.and_eq_true,Bool.not_eq_true'] at O;refine I ⟨?_,O.1,O.2⟩;cases G:e.key.toList.isEmpty
      ·rfl
      rw [gR G] at O;cases O.1
     have ah:e.key.toList.isEmpty=true\/(e.key.toList.isEmpty=false/\∃ h:0<e.key.size,((e.key[0].toNat:Int)≠64\/((e.key[0].toNat:Int)=64/\(e.key.toList == e.sd.toList)=true))):=by
      cases G:e.key.toList.isEmpty
      ·refine Or.inr ⟨rfl,aS G,?_⟩
       cases ad:(e.key.toList == e.sd.toList)
       ·refine Or.inl fun H=>I ⟨G,?_,ad⟩
        unfold iD;rw [dif_pos (aS G)];exact decide_eq_true H
       by_cases H:((e.key[0]'(aS G)).toNat:Int)=64
       ·exact Or.inr ⟨H,rfl⟩
       exact Or.inl H
      exact Or.inl rfl
     clear I Hx;rcases ah with G|⟨G,U,H|⟨H,ad⟩⟩
     all_goals
      go_wp2
      all_goals
       go_ret;exact ⟨aA (by rw [Hy.o,Hq.o];rfl),Y⟩
    case true =>
     have J:nd=y:=by rw [ai.o];rfl
     clear ai hgv
     by_cases ag:own<y
     ·have Hx:He (tl=8):=by unfold He;rw [ab.o,J,if_pos ag]
      clear ab J;go_wp2
      go_ret;exact ⟨aA (by rw [Hy.o,Hx.o]),Y⟩
     have Hx:He (tl=if iD e.key && !(e.key.toList == e.sd.toList) then 11 else if true && (aT e && !jU p e own) then 12 else 0):=by unfold He;rw [ab.o,J,if_neg ag]
     clear ab J
     by_cases I:e.key.toList.isEmpty=false/\iD e.key=true/\(e.key.toList == e.sd.toList)=false
     ·have Hq:He (tl=11):=by unfold He;rw [Hx.o,I.2.1,I.2.2];rfl
      obtain ⟨G,N,ad⟩:=I
      have af:e.st=true:=by
       rcases ao.o with O|O
       ·rw [O] at G;cases G
       exact O.1
      have U:=aS G;have H:(e.key[0].toNat:Int)=64:=by unfold iD at N;rw [dif_pos U] at N;exact of_decide_eq_true N
      clear Hx N;rw [hst] at af;cases af
     have Hq:He (tl=if true && (aT e && !jU p e own) then 12 else 0):=by
      unfold He;rw [Hx.o,if_neg];intro O;rw [Bool.and_eq_true,Bool.not_eq_true'] at O;refine I ⟨?_,O.1,O.2⟩;cases G:e.key.toList.isEmpty
      ·rfl
      rw [gR G] at O;cases O.1
     have ah:e.key.toList.isEmpty=true\/(e.key.toList.isEmpty=false/\∃ h:0<e.key.size,((e.key[0].toNat:Int)≠64\/((e.key[0].toNat:Int)=64/\(e.key.toList == e.sd.toList)=true))):=by
      cases G:e.key.toList.isEmpty
      ·refine Or.inr ⟨rfl,aS G,?_⟩
       cases ad:(e.key.toList == e.sd.toList)
       ·refine Or.inl fun H=>I ⟨G,?_,ad⟩
        unfold iD;rw [dif_pos (aS G)];exact decide_eq_true H
       by_cases H:((e.key[0]'(aS G)).toNat:Int)=64
       ·exact Or.inr ⟨H,rfl⟩
       exact Or.inl H
      exact Or.inl rfl
     clear I Hx;rcases ah with G|⟨G,U,H|⟨H,ad⟩⟩
     all_goals
      cases hpw:aT e
      case false =>
       have Hr:He (tl=0):=by unfold He;rw [Hq.o,hpw];rfl
       unfold aT at hpw;go_wp2
       go_ret;exact ⟨aA (by rw [Hy.o,Hr.o]),Y⟩
      case true =>
       have Hr:He (tl=if !jU p e own then 12 else 0):=by unfold He;rw [Hq.o,hpw];rfl
       have a6:He (Calls prog 52 #[.slice gp p.ng am,.slice ga e.ng cg,.string e.sd,.int .i64 own] w8 fun x w'=>x=.returned (.bool (jU p e own))/\Below w8.heap.size w8 w'):=rG p e own w8 a8.o (HG.o.below Y).hg (by have:=bm.o;omega) (by have:=bt.o hpw;omega);unfold aT at hpw;clear Hq
       go_wp2_with fail
       refine a6.o.mono ?_;rintro x bx ⟨rfl,au⟩;cases hB:jU p e own
       all_goals
        rw [hB] at Hr;go_wp2
        go_ret;exact ⟨aA (by rw [Hy.o,Hr.o];rfl),Y.trans (au.mono Y.size)⟩
  case true =>
   go_wp2_with fail
   refine (HS.o _ bf.bl).mono ?_;rintro x w6 ⟨rfl,b4⟩;have bz:=bf.call b4;have f6:w6.cell? ⟨w4.heap.size,9,none⟩=some (.slice gp p.ng am):=(b4.cell (by exact db)).trans f5;clear hr aq f5;have hr:=bz.r;have aq:=bz.c;have a8:He (gN w6 gp p.ng am p.M p.L):=bi.o.below b4;clear HS bi;have bg:He (∀ W,Below w6.heap.size w6 W->Calls prog 51 #[.slice gp p.ng am,.string (⟨#[35]⟩ ++ e.ty)] W fun e' w'=>e'=.returned (fQ (gV p.M p.L (⟨#[35]⟩ ++ e.ty) p.ng))/\w'=W):=fun W hW=>mR _ W (a8.o.below hW)
   go_wp2_with fail
   refine (bg.o _ kB).mono ?_;rintro x w8 ⟨rfl,rfl⟩;clear bg;unfold fQ;have Y:=bz.bl
   cases hgv:gV p.M p.L (⟨#[35]⟩ ++ e.ty) p.ng with
   | none =>
    simp only [Option.getD_none,Option.isSome_none];rw [hgv] at ai;cases bp
    case false =>
     have J:nd=xs:=by rw [ai.o,hst];rfl
     clear ai hgv
     by_cases ag:own<xs
     ·have Hx:He (tl=8):=by unfold He;rw [ab.o,J,if_pos ag]
      clear ab J;go_wp2
      go_ret;exact ⟨aA (by rw [Hy.o,Hx.o]),Y⟩
     have Hx:He (tl=if iD e.key && !(e.key.toList == e.sd.toList) then 11 else if false && (aT e && !jU p e own) then 12 else 0):=by unfold He;rw [ab.o,J,if_neg ag]
     clear ab J
     by_cases I:e.key.toList.isEmpty=false/\iD e.key=true/\(e.key.toList == e.sd.toList)=false
     ·have Hq:He (tl=11):=by unfold He;rw [Hx.o,I.2.1,I.2.2];rfl
      obtain ⟨G,N,ad⟩:=I
      have af:e.st=true:=by
       rcases ao.o with O|O
       ·rw [O] at G;cases G
       exact O.1
      have U:=aS G;have H:(e.key[0].toNat:Int)=64:=by unfold iD at N;rw [dif_pos U] at N;exact of_decide_eq_true N
      clear Hx N;go_wp2
      go_ret;exact ⟨aA (by rw [Hy.o,Hq.o]),Y⟩
     have Hq:He (tl=if false && (aT e && !jU p e own) then 12 else 0):=by
      unfold He;rw [Hx.o,if_neg];intro O;rw [Bool.and_eq_true,Bool.not_eq_true'] at O;refine I ⟨?_,O.1,O.2⟩;cases G:e.key.toList.isEmpty
      ·rfl
      rw [gR G] at O;cases O.1
     have ah:e.key.toList.isEmpty=true\/(e.key.toList.isEmpty=false/\∃ h:0<e.key.size,((e.key[0].toNat:Int)≠64\/((e.key[0].toNat:Int)=64/\(e.key.toList == e.sd.toList)=true))):=by
      cases G:e.key.toList.isEmpty
      ·refine Or.inr ⟨rfl,aS G,?_⟩
       cases ad:(e.key.toList == e.sd.toList)
       ·refine Or.inl fun H=>I ⟨G,?_,ad⟩
        unfold iD;rw [dif_pos (aS G)];exact decide_eq_true H
       by_cases H:((e.key[0]'(aS G)).toNat:Int)=64
       ·exact Or.inr ⟨H,rfl⟩
       exact Or.inl H
      exact Or.inl rfl
     clear I Hx;rcases ah with G|⟨G,U,H|⟨H,ad⟩⟩
     all_goals
      go_wp2
      all_goals
       go_ret;exact ⟨aA (by rw [Hy.o,Hq.o];rfl),Y⟩
    case true =>
     have J:nd=xs:=by rw [ai.o,hst];rfl
     clear ai hgv
     by_cases ag:own<xs
     ·have Hx:He (tl=8):=by unfold He;rw [ab.o,J,if_pos ag]
      clear ab J;go_wp2
      go_ret;exact ⟨aA (by rw [Hy.o,Hx.o]),Y⟩
     have Hx:He (tl=if iD e.key && !(e.key.toList == e.sd.toList) then 11 else if true && (aT e && !jU p e own) then 12 else 0):=by unfold He;rw [ab.o,J,if_neg ag]
     clear ab J
     by_cases I:e.key.toList.isEmpty=false/\iD e.key=true/\(e.key.toList == e.sd.toList)=false
     ·have Hq:He (tl=11):=by unfold He;rw [Hx.o,I.2.1,I.2.2];rfl
      obtain ⟨G,N,ad⟩:=I
      have af:e.st=true:=by
       rcases ao.o with O|O
       ·rw [O] at G;cases G
       exact O.1
      have U:=aS G;have H:(e.key[0].toNat:Int)=64:=by unfold iD at N;rw [dif_pos U] at N;exact of_decide_eq_true N
      clear Hx N;go_wp2
      go_ret;exact ⟨aA (by rw [Hy.o,Hq.o]),Y⟩
     have Hq:He (tl=if true && (aT e && !jU p e own) then 12 else 0):=by
      unfold He;rw [Hx.o,if_neg];intro O;rw [Bool.and_eq_true,Bool.not_eq_true'] at O;refine I ⟨?_,O.1,O.2⟩;cases G:e.key.toList.isEmpty
      ·rfl
      rw [gR G] at O;cases O.1
     have ah:e.key.toList.isEmpty=true\/(e.key.toList.isEmpty=false/\∃ h:0<e.key.size,((e.key[0].toNat:Int)≠64\/((e.key[0].toNat:Int)=64/\(e.key.toList == e.sd.toList)=true))):=by
      cases G:e.key.toList.isEmpty
      ·refine Or.inr ⟨rfl,aS G,?_⟩
       cases ad:(e.key.toList == e.sd.toList)
       ·refine Or.inl fun H=>I ⟨G,?_,ad⟩
        unfold iD;rw [dif_pos (aS G)];exact decide_eq_true H
       by_cases H:((e.key[0]'(aS G)).toNat:Int)=64
       ·exact Or.inr ⟨H,rfl⟩
       exact Or.inl H
      exact Or.inl rfl
     clear I Hx;rcases ah with G|⟨G,U,H|⟨H,ad⟩⟩
     all_goals
      cases hpw:aT e
      case false =>
       have Hr:He (tl=0):=by unfold He;rw [Hq.o,hpw];rfl
       unfold aT at hpw;go_wp2
       go_ret;exact ⟨aA (by rw [Hy.o,Hr.o]),Y⟩
      case true =>
       have Hr:He (tl=if !jU p e own then 12 else 0):=by unfold He;rw [Hq.o,hpw];rfl
       have a6:He (Calls prog 52 #[.slice gp p.ng am,.slice ga e.ng cg,.string e.sd,.int .i64 own] w8 fun x w'=>x=.returned (.bool (jU p e own))/\Below w8.heap.size w8 w'):=rG p e own w8 a8.o (HG.o.below Y).hg (by have:=bm.o;omega) (by have:=bt.o hpw;omega);unfold aT at hpw;clear Hq
       go_wp2_with fail
       refine a6.o.mono ?_;rintro x bx ⟨rfl,au⟩;cases hB:jU p e own
       all_goals
        rw [hB] at Hr;go_wp2
        go_ret
        exact ⟨aA (by rw [Hy.o,Hr.o];rfl),Y.trans (au.mono Y.size)⟩
   | some y =>
    simp only [Option.getD_some,Option.isSome_some];rw [hgv] at ai;cases bp
    case false =>
     have J:nd=xs:=by rw [ai.o,hst];rfl
     clear ai hgv
     by_cases ag:own<xs
     ·have Hx:He (tl=8):=by unfold He;rw [ab.o,J,if_pos ag]
      clear ab J;go_wp2
      go_ret;exact ⟨aA (by rw [Hy.o,Hx.o]),Y⟩
     have Hx:He (tl=if iD e.key && !(e.key.toList == e.sd.toList) then 11 else if false && (aT e && !jU p e own) then 12 else 0):=by unfold He;rw [ab.o,J,if_neg ag]
     clear ab J
     by_cases I:e.key.toList.isEmpty=false/\iD e.key=true/\(e.key.toList == e.sd.toList)=false
     ·have Hq:He (tl=11):=by unfold He;rw [Hx.o,I.2.1,I.2.2];rfl
      obtain ⟨G,N,ad⟩:=I
      have af:e.st=true:=by
       rcases ao.o with O|O
       ·rw [O] at G;cases G
       exact O.1
      have U:=aS G;have H:(e.key[0].toNat:Int)=64:=by unfold iD at N;rw [dif_pos U] at N;exact of_decide_eq_true N
      clear Hx N;go_wp2
      go_ret;exact ⟨aA (by rw [Hy.o,Hq.o]),Y⟩
     have Hq:He (tl=if false && (aT e && !jU p e own) then 12 else 0):=by
      unfold He;rw [Hx.o,if_neg];intro O;rw [Bool.and_eq_true,Bool.not_eq_true'] at O;refine I ⟨?_,O.1,O.2⟩;cases G:e.key.toList.isEmpty
      ·rfl
      rw [gR G] at O;cases O.1
     have ah:e.key.toList.isEmpty=true\/(e.key.toList.isEmpty=false/\∃ h:0<e.key.size,((e.key[0].toNat:Int)≠64\/((e.key[0].toNat:Int)=64/\(e.key.toList == e.sd.toList)=true))):=by
      cases G:e.key.toList.isEmpty
      ·refine Or.inr ⟨rfl,aS G,?_⟩
       cases ad:(e.key.toList == e.sd.toList)
       ·refine Or.inl fun H=>I ⟨G,?_,ad⟩
        unfold iD;rw [dif_pos (aS G)];exact decide_eq_true H
       by_cases H:((e.key[0]'(aS G)).toNat:Int)=64
       ·exact Or.inr ⟨H,rfl⟩
       exact Or.inl H
      exact Or.inl rfl
     clear I Hx;rcases ah with G|⟨G,U,H|⟨H,ad⟩⟩
     all_goals
      go_wp2
      all_goals
       go_ret;exact ⟨aA (by rw [Hy.o,Hq.o];rfl),Y⟩
    case true =>
     have J:nd=y:=by rw [ai.o];rfl
     clear ai hgv
     by_cases ag:own<y
     ·have Hx:He (tl=8):=by unfold He;rw [ab.o,J,if_pos ag]
      clear ab J;go_wp2
      go_ret;exact ⟨aA (by rw [Hy.o,Hx.o]),Y⟩
     have Hx:He (tl=if iD e.key && !(e.key.toList == e.sd.toList) then 11 else if true && (aT e && !jU p e own) then 12 else 0):=by unfold He;rw [ab.o,J,if_neg ag]
     clear ab J
     by_cases I:e.key.toList.isEmpty=false/\iD e.key=true/\(e.key.toList == e.sd.toList)=false
     ·have Hq:He (tl=11):=by unfold He;rw [Hx.o,I.2.1,I.2.2];rfl
      obtain ⟨G,N,ad⟩:=I
      have af:e.st=true:=by
       rcases ao.o with O|O
       ·rw [O] at G;cases G
       exact O.1
      have U:=aS G;have H:(e.key[0].toNat:Int)=64:=by unfold iD at N;rw [dif_pos U] at N;exact of_decide_eq_true N
      clear Hx N;go_wp2
      go_ret;exact ⟨aA (by rw [Hy.o,Hq.o]),Y⟩
     have Hq:He (tl=if true && (aT e && !jU p e own) then 12 else 0):=by
      unfold He;rw [Hx.o,if_neg];intro O;rw [Bool.and_eq_true,Bool.not_eq_true'] at O;refine I ⟨?_,O.1,O.2⟩;cases G:e.key.toList.isEmpty
      ·rfl
      rw [gR G] at O;cases O.1
     have ah:e.key.toList.isEmpty=true\/(e.key.toList.isEmpty=false/\∃ h:0<e.key.size,((e.key[0].toNat:Int)≠64\/((e.key[0].toNat:Int)=64/\(e.key.toList == e.sd.toList)=true))):=by
      cases G:e.key.toList.isEmpty
      ·refine Or.inr ⟨rfl,aS G,?_⟩
       cases ad:(e.key.toList == e.sd.toList)
       ·refine Or.inl fun H=>I ⟨G,?_,ad⟩
        unfold iD;rw [dif_pos (aS G)];exact decide_eq_true H
       by_cases H:((e.key[0]'(aS G)).toNat:Int)=64
       ·exact Or.inr ⟨H,rfl⟩
       exact Or.inl H
      exact Or.inl rfl
     clear I Hx;rcases ah with G|⟨G,U,H|⟨H,ad⟩⟩
     all_goals
      cases hpw:aT e
      case false =>
       have Hr:He (tl=0):=by unfold He;rw [Hq.o,hpw];rfl
       unfold aT at hpw;go_wp2
       go_ret;exact ⟨aA (by rw [Hy.o,Hr.o]),Y⟩
      case true =>
       have Hr:He (tl=if !jU p e own then 12 else 0):=by unfold He;rw [Hq.o,hpw];rfl
       have a6:He (Calls prog 52 #[.slice gp p.ng am,.slice ga e.ng cg,.string e.sd,.int .i64 own] w8 fun x w'=>x=.returned (.bool (jU p e own))/\Below w8.heap.size w8 w'):=rG p e own w8 a8.o (HG.o.below Y).hg (by have:=bm.o;omega) (by have:=bt.o hpw;omega);unfold aT at hpw;clear Hq
       go_wp2_with fail
       refine a6.o.mono ?_;rintro x bx ⟨rfl,au⟩;cases hB:jU p e own
       all_goals
        rw [hB] at Hr;go_wp2
        go_ret;exact ⟨aA (by rw [Hy.o,Hr.o];rfl),Y.trans (au.mono Y.size)⟩
end Go.Proofs.YtpfeegcdlikegaaGreat
