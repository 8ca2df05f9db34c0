import Derived.Test.YtpfeegcdlikegaaGreatLvIZ
set_option maxHeartbeats 16000000
set_option maxRecDepth 100000
namespace Go.Proofs.YtpfeegcdlikegaaGreat
open Go.RowKit Go.Maps Go.ChangeMaps Go.Proofs.Tryz
variable {w w':World}{c ca cg cp mb:Nat}{F:aE->Value}{aa ga oc op pa:Option Addr}{o:dI}{e:Ev}
structure Hm (w:World)(mb c:Nat)(F:aE->Value)(oc op:Option Addr)(o:dI)(e:Ev)(pa:Option Addr)(cp:Nat)(aa:Option Addr)(ca:Nat)(ga:Option Addr)(cg:Nat):Prop where
 ok:cI w e pa cp aa ca ga cg
 map:fE w mb c F
 lev:oT w oc op o
 code:e.code=0
 sd:dV e=false->fV w F o ⟨dK,e.sd,aJ⟩
 key:bE e=true->fV w F o ⟨dK,e.key,aJ⟩
 rul:bE e=true->eZ e=true->fV w F o ⟨lB,aJ,aJ⟩
theorem Hm.below (H:Hm w mb c F oc op o e pa cp aa ca ga cg)(hb:Below w.heap.size w w'):Hm w' mb c F oc op o e pa cp aa ca ga cg :=
 ⟨H.ok.below hb,H.map.below hb,H.lev.below hb,H.code,fun u=>(H.sd u).below hb,fun u=>(H.key u).below hb,fun u G=>(H.rul u G).below hb⟩
theorem Hm.hr (H:Hm w mb c F oc op o e pa cp aa ca ga cg){w3:World}(hb:Below w.heap.size w w3)(T:TypeId) :
  Hr (w3.alloc (.cells #[.string e.id,.string e.sd,.string e.ty,.bool e.st,.string e.key,.int .i64 e.tm,.slice pa e.np cp,.slice aa e.na ca,.string e.val,.slice ga e.ng cg,.map (some mb),.pointer oc,.pointer op,.int .i64 (dL o e.sd)] T)) w3.heap.size mb c F oc op o e pa cp aa ca ga cg:=by
 have G:=hb.trans (((Below.refl w3.heap.size w3).alloc nL (.cells #[.string e.id,.string e.sd,.string e.ty,.bool e.st,.string e.key,.int .i64 e.tm,.slice pa e.np cp,.slice aa e.na ca,.string e.val,.slice ga e.ng cg,.map (some mb),.pointer oc,.pointer op,.int .i64 (dL o e.sd)] T)).mono hb.size);have u:=H.below G;exact ⟨by simp,⟨kA rfl,kA rfl,kA rfl,kA rfl,kA rfl,kA rfl,kA rfl,kA rfl,kA rfl,kA rfl⟩,kA rfl,kA rfl,kA rfl,kA rfl,u.ok,u.map,u.lev,u.code,u.sd,u.key,u.rul⟩
def MI (w:World)(mb c:Nat)(F:aE->Value)(oc op:Option Addr)(o:dI)(e:Ev)(pa:Option Addr)(cp:Nat)(aa:Option Addr)(ca:Nat)(ga:Option Addr)(cg:Nat)(x:Ending)(w':World):Prop :=
 ∃ h,x=.returned (.pointer (some ⟨h,0,none⟩))/\Hr w' h mb c F oc op o e pa cp aa ca ga cg/\Below w.heap.size w w'
theorem bw0 (w:World)(H:Hm w mb c F oc op o e pa cp aa ca ga cg)(hC:F sD=.pointer oc)(hP:F tI=.pointer op) :
  Calls prog 20 #[.agg (ec e pa cp aa ca ga cg),.map (some mb)] w (MI w mb c F oc op o e pa cp aa ca ga cg):=by
 obtain ⟨U,ab⟩:∃ U,U=w.alloc (.cells (ec e pa cp aa ca ga cg) 30):=⟨_,rfl⟩;have ae:Below w.heap.size w U:=by rw [ab];exact bA
 have J:w.heap.size<U.heap.size:=by rw [ab];simp
 have N:He (∀ i,U.cell? ⟨w.heap.size,i,none⟩=((ec e pa cp aa ca ga cg):Array Value)[i]?):=fun i=>by rw [ab];exact kA rfl
 have Ha:=H.below ae;have ag:He (∀ W,Below U.heap.size U W->Calls prog 31 #[.map (some mb)] W fun x w'=>x=.returned (.agg #[.pointer oc,.pointer op])/\Below U.heap.size U w'):=fun W hW=>(IG W (Ha.map.below hW) hC hP).mono fun _ _ ⟨h1,h2⟩=>⟨h1,hW.trans (h2.mono hW.size)⟩
 have HV:He (∀ W,Below U.heap.size U W->Calls prog 32 #[.agg #[.pointer oc,.pointer op],.string e.sd] W fun x w'=>x=.returned (.int .i64 (dL o e.sd))/\Below W.heap.size W w'):=fun W hW=>UK e.sd W (Ha.lev.below hW)
 have HE:He (∀ w3,Below U.heap.size U w3->MI w mb c F oc op o e pa cp aa ca ga cg (.returned (.pointer (some ⟨w3.heap.size,0,none⟩))) (w3.alloc (.cells #[.string e.id,.string e.sd,.string e.ty,.bool e.st,.string e.key,.int .i64 e.tm,.slice pa e.np cp,.slice aa e.na ca,.string e.val,.slice ga e.ng cg,.map (some mb),.pointer oc,.pointer op,.int .i64 (dL o e.sd)] 110))):=fun w3 h3=>by
  have af:=ae.trans (h3.mono ae.size);exact ⟨_,rfl,H.hr af _,af.alloc af.size _⟩
 have an:Below U.heap.size U U:=kB;clear H Ha hC hP
 go_enter func20,ntmps20
 go_wp2_with fail
 rw [<- ab];clear ab;refine (ag.o _ an).mono ?_;rintro x w1 ⟨rfl,ai⟩;obtain ⟨I,Z⟩:∃ I,I=w1.alloc (.cells #[.pointer oc,.pointer op] 74):=⟨_,rfl⟩;have u:Below U.heap.size U I:=by rw [Z];exact ai.alloc ai.size _
 have ah:w1.heap.size<I.heap.size:=by rw [Z];simp
 have y0:I.cell? ⟨w1.heap.size,0,none⟩=some (.pointer oc):=by rw [Z];exact kA rfl
 have y1:I.cell? ⟨w1.heap.size,1,none⟩=some (.pointer op):=by rw [Z];exact kA rfl
 have O:w.heap.size<I.heap.size:=nT J u.size;have z0:I.cell? ⟨w.heap.size,0,none⟩=some (.string e.id):=(u.cell (by exact J)).trans (N.o 0);have z1:I.cell? ⟨w.heap.size,1,none⟩=some (.string e.sd):=(u.cell (by exact J)).trans (N.o 1);have z2:I.cell? ⟨w.heap.size,2,none⟩=some (.string e.ty):=(u.cell (by exact J)).trans (N.o 2);have z3:I.cell? ⟨w.heap.size,3,none⟩=some (.bool e.st):=(u.cell (by exact J)).trans (N.o 3);have z4:I.cell? ⟨w.heap.size,4,none⟩=some (.string e.key):=(u.cell (by exact J)).trans (N.o 4);have z5:I.cell? ⟨w.heap.size,5,none⟩=some (.int .i64 e.tm):=(u.cell (by exact J)).trans (N.o 5);have z6:I.cell? ⟨w.heap.size,6,none⟩=some (.slice pa e.np cp):=(u.cell (by exact J)).trans (N.o 6);have z7:I.cell? ⟨w.heap.size,7,none⟩=some (.slice aa e.na ca):=(u.cell (by exact J)).trans (N.o 7);have z8:I.cell? ⟨w.heap.size,8,none⟩=some (.string e.val):=(u.cell (by exact J)).trans (N.o 8);have z9:I.cell? ⟨w.heap.size,9,none⟩=some (.slice ga e.ng cg):=(u.cell (by exact J)).trans (N.o 9);have Y:Below I.heap.size I I:=kB;have ao:He (∀ W,Below I.heap.size I W->Calls prog 32 #[.agg #[.pointer oc,.pointer op],.string e.sd] W fun x w'=>x=.returned (.int .i64 (dL o e.sd))/\Below I.heap.size I w'):=fun W hW=>(HV.o W (u.trans (hW.mono u.size))).mono fun _ _ ⟨h1,h2⟩=>⟨h1,hW.trans (h2.mono hW.size)⟩
 generalize dL o e.sd=lv at *;clear ag HV N
 go_wp2_with fail
 rw [<- Z];clear Z
 go_region_held3 (fun W=>W.cell? ⟨w1.heap.size,0,none⟩=some (.pointer oc)/\W.cell? ⟨w1.heap.size,1,none⟩=some (.pointer op)/\W.cell? ⟨w.heap.size,0,none⟩=some (.string e.id)/\W.cell? ⟨w.heap.size,1,none⟩=some (.string e.sd)/\W.cell? ⟨w.heap.size,2,none⟩=some (.string e.ty)/\W.cell? ⟨w.heap.size,3,none⟩=some (.bool e.st)/\W.cell? ⟨w.heap.size,4,none⟩=some (.string e.key)/\W.cell? ⟨w.heap.size,5,none⟩=some (.int .i64 e.tm)/\W.cell? ⟨w.heap.size,6,none⟩=some (.slice pa e.np cp)/\W.cell? ⟨w.heap.size,7,none⟩=some (.slice aa e.na ca)/\W.cell? ⟨w.heap.size,8,none⟩=some (.string e.val)/\W.cell? ⟨w.heap.size,9,none⟩=some (.slice ga e.ng cg)) (first|(with_reducible exact ⟨y0,y1,z0,z1,z2,z3,z4,z5,z6,z7,z8,z9⟩)|go_keep)
  (first|(go_at_call 32;refine (ao.o _ (by with_reducible first|exact Y|exact Y.drew|exact Y.drew.drew|exact Y.drew.drew.drew|exact Y.drew.drew.drew.drew|exact Y.drew.drew.drew.drew.drew)).mono ?_;rintro x w3 ⟨rfl,G⟩;have bm:=(G.cell (by exact ah)).trans y0;have bo:=(G.cell (by exact ah)).trans y1;have bg:=(G.cell (by exact O)).trans z0;have bk:=(G.cell (by exact O)).trans z1;have bq:=(G.cell (by exact O)).trans z2;have bc:=(G.cell (by exact O)).trans z3;have bn:=(G.cell (by exact O)).trans z4;have bj:=(G.cell (by exact O)).trans z5;have bp:=(G.cell (by exact O)).trans z6;have bf:=(G.cell (by exact O)).trans z7;have br:=(G.cell (by exact O)).trans z8;have bh:=(G.cell (by exact O)).trans z9))
 all_goals
  go_wp2
  go_ret
  first
   | exact HE.o _ (u.trans (G.mono u.size))
   | exact HE.o _ (u.trans (G.drew.mono u.size))
variable {a sa:Option Addr}{b n sc cap off:Nat}{E:Nat->Ev}{l:List aE}
def RC:Nat->aE
 | 0=>sD
 | _=>tI
theorem QL (E:Nat->Ev)(n:Nat)(l:List aE)(b off:Nat):FM E n l b off RC 2 sD=.pointer (uA b off (eF E n l bJ aJ))/\FM E n l b off RC 2 tI=.pointer (uA b off (eF E n l aX aJ)):=by
 have e0:FM E n l b off RC 2=if 0<=eF E n l aX aJ then qX (FM E n l b off RC 1) tI (.pointer (some ⟨b,off+(eF E n l aX aJ).toNat * 10,none⟩)) else FM E n l b off RC 1:=rfl
 have I:FM E n l b off RC 1=if 0<=eF E n l bJ aJ then qX (fun _=>.pointer none) sD (.pointer (some ⟨b,off+(eF E n l bJ aJ).toNat * 10,none⟩)) else (fun _=>.pointer none):=rfl
 have u:dB sD sD=true:=by unfold dB;simp only [ByteArray.toList_eq];decide
 have G:dB sD tI=false:=by unfold dB;simp only [ByteArray.toList_eq];decide
 have H:dB tI sD=false:=by unfold dB;simp only [ByteArray.toList_eq];decide
 have J:dB tI tI=true:=by unfold dB;simp only [ByteArray.toList_eq];decide
 rw [e0,I];unfold uA qX;constructor <;> (split <;> split <;> simp only [u,G,H,J,if_true,Bool.false_eq_true,if_false])
theorem RN (u:ByteArray)(w:World)(hr:aF E n=true)(hf:dY E n l=true)(h:dW w a n cap E)(Ha:0<n->a=some ⟨b,off,none⟩) :
  Calls prog 32 #[.agg #[.pointer (uA b off (eF E n l bJ aJ)),.pointer (uA b off (eF E n l aX aJ))],.string u] w fun e w'=>e=.returned (.int .i64 (LQ E n l u))/\Below w.heap.size w w':=by
 have ai:eF E n l aX aJ<n:=(cJ E (aQ l aX aJ) n).2;have ah:eF E n l bJ aJ<n:=(cJ E (aQ l bJ aJ) n).2
 have G:∀ i,i<n->b<w.heap.size/\mT w b (off+i * 10) (E i):=fun i hi=>by
  rcases h.cells with h0|⟨b2,ae,e,ad,N⟩
  ·omega
  rw [Ha (by omega)] at e;injection e with e
  injection e with e1 I
  subst e1 I;exact ⟨ad,N i hi⟩
 unfold LQ
 by_cases hp:0<=eF E n l aX aJ
 ·have hty:=OZ hr hf hp
  have hi:(eF E n l aX aJ).toNat<n:=by omega
  obtain ⟨hb,pa,cp,aa,ca,ga,cg,N,J⟩:=G _ hi;have H:=cL hr hi;have O:aT (E (eF E n l aX aJ).toNat)=true:=by unfold aT;rw [hty,ByteArray.toList_eq];decide
  obtain ⟨Z,has⟩:=qA H O;rw [if_pos hp];have I:uA b off (eF E n l aX aJ)=some ⟨b,off+(eF E n l aX aJ).toNat * 10,none⟩:=if_pos hp;rw [I];exact IF u w hb N.c9 has Z J.hg
 have I:uA b off (eF E n l aX aJ)=none:=if_neg hp;rw [if_neg hp,I]
 by_cases hq:0<=eF E n l bJ aJ
 ·have hi:(eF E n l bJ aJ).toNat<n:=by omega
  obtain ⟨hb,pa,cp,aa,ca,ga,cg,N,J⟩:=G _ hi;have e3:uA b off (eF E n l bJ aJ)=some ⟨b,off+(eF E n l bJ aJ).toNat * 10,none⟩:=if_pos hq;rw [e3];refine (IX _ u w hb N.c1).mono fun e w' ⟨U,Y⟩=>⟨?_,Y⟩
  rw [U];simp only [hq,true_and]
 have e3:uA b off (eF E n l bJ aJ)=none:=if_neg hq;rw [e3];refine (AD u w).mono fun e w' ⟨U,Y⟩=>⟨?_,Y⟩
 rw [U,if_neg (fun hx=>hq hx.1)]
theorem vH (sa:Option Addr)(k sc:Nat)(w:World) :
  Calls prog 22 #[.slice sa k sc] w fun e w'=>∃ bs,e=.returned (.func (.func 63) #[] #[.pointer (some ⟨bs,0,none⟩)])/\bs<w'.heap.size/\w'.cell? ⟨bs,0,none⟩=some (.slice sa k sc)/\Below w.heap.size w w':=by
 go_enter func22,ntmps22
 go_wp2
 go_ret;exact ⟨_,rfl,by simp,kA rfl,bA⟩
theorem dF.allOk (h:dF w a cap l):bK l:=fun x u=>by
 obtain ⟨i,hi,rfl⟩:=List.mem_iff_getElem.1 u
 have:=h.size i hi
 rwa [bP l i hi] at this
theorem XS (u:ByteArray)(w:World)(h:dW w a n cap E)(hs:dF w sa sc l) :
  Calls prog 9 #[.agg #[.slice a n cap],.slice sa l.length sc,.string u] w fun e w'=>e=.returned (.int .i64 (sC E n l u))/\Below w.heap.size w w':=by
 have aw:∀ o,Below w.heap.size w (w.alloc o):=fun o=>bA
 have HR:He (sC E n l u=if aF E n && dY E n l then LQ E n l u else 0):=rfl
 obtain ⟨b,off,Ha⟩:∃ b off,He (0<n->a=some ⟨b,off,none⟩):=by
  rcases h.cells with h0|⟨b,off,e,_⟩
  ·exact ⟨0,0,fun hn=>by omega⟩
  exact ⟨b,off,fun _=>e⟩
 go_enter func9,ntmps9
 go_wp2_with fail
 refine (zA _ (h.below (aw _))).mono ?_;rintro e w1 ⟨bj,hp⟩;have Y:=(aw _).trans (bj.mono (aw _).size);rcases hp with ⟨hq,mm,ra,rc,rfl,am,bv⟩|⟨hq,rfl⟩
 case inr =>
  have Hz:He (sC E n l u=0):=by unfold He;rw [HR.o,hq];rfl
  clear HR hq;go_wp2
  go_ret;exact ⟨aA Hz.o.symm,Y.alloc Y.size _⟩
 case inl =>
  have Hq:He (_):=hq;have aj:∀ o,Below w1.heap.size w1 (w1.alloc o):=fun o=>bA
  clear bj bv
  go_wp2_with fail
  refine (GE _ ((h.below Y).below (aj _)) (am.below (aj _)) ((hs.below Y).below (aj _))).mono ?_;rintro e w2 ⟨rfl,an⟩;have a6:=an.mono (B':=w1.heap.size+1) (by simp);have aq:=(aj _).trans (an.mono (by simp));have ay:=Y.trans (aq.mono Y.size);have ah:=aK a6;have au:w1.heap.size+1<=w2.heap.size:=by simpa using a6.size
  clear an;cases hf:dY E n l
  case false =>
   have Hz:He (sC E n l u=0):=by unfold He;rw [HR.o,hq,hf];rfl
   clear HR hq hf;go_wp2
   go_ret;exact ⟨aA Hz.o.symm,ay⟩
  case true =>
   have Hz:He (sC E n l u=LQ E n l u):=by unfold He;rw [HR.o,hq,hf];rfl
   have Hf:He (_):=hf;obtain ⟨bi,ak,-⟩:=gS (l:=l) (by unfold dY at hf;rw [Bool.and_eq_true] at hf;exact hf.2);clear HR hq hf;obtain ⟨G,ab⟩:∃ G,G=w2.alloc (.cells #[.string bJ,.string aJ,.string aX,.string aJ] 63):=⟨_,rfl⟩;have ad:Below w2.heap.size w2 G:=by rw [ab];exact bA
   have b7:G.heap.size=w2.heap.size+1:=by rw [ab];simp
   have O:=ay.trans (ad.mono ay.size);have bu:=aq.trans (ad.mono aq.size);have hk:dW G a n cap E:=h.below O;have ax:dF G sa sc l:=hs.below O;have bc:=am.below bu;have ae:∀ i,G.cell? ⟨w2.heap.size,i,none⟩=(#[.string bJ,.string aJ,.string aX,.string aJ]:Array Value)[i]?:=fun i=>by rw [ab];exact kA rfl
   have y0:G.cell? ⟨w1.heap.size,0,none⟩=some (.slice a n cap):=(ad.cell (by exact au)).trans (ah 0);have y1:G.cell? ⟨w1.heap.size,1,none⟩=some (.map (some mm)):=(ad.cell (by exact au)).trans (ah 1);have y2:G.cell? ⟨w1.heap.size,2,none⟩=some (.slice ra n rc):=(ad.cell (by exact au)).trans (ah 2);have H:w1.heap.size<G.heap.size:=by omega
   have br:Below G.heap.size G G:=kB;have HI:He (∀ W,Below G.heap.size G W->Calls prog 22 #[.slice sa l.length sc] W fun e w'=>∃ bs,e=.returned (.func (.func 63) #[] #[.pointer (some ⟨bs,0,none⟩)])/\bs<w'.heap.size/\He (w'.cell? ⟨bs,0,none⟩=some (.slice sa l.length sc))/\Below G.heap.size G w'):=fun W I=>(vH sa l.length sc W).mono fun e w' ⟨bs,h1,h2,h3,h4⟩=>⟨bs,h1,h2,h3,I.trans (h4.mono I.size)⟩
   have HE:He (∀ Z W bs,Below G.heap.size G Z->bs<Z.heap.size->He (Z.cell? ⟨bs,0,none⟩=some (.slice sa l.length sc))->Below Z.heap.size Z W->Calls prog 21 #[.agg #[.slice a n cap,.map (some mm),.slice ra n rc],.slice (some ⟨w2.heap.size,0,none⟩) 2 2,.func (.func 63) #[] #[.pointer (some ⟨bs,0,none⟩)]] W fun e w'=>∃ mb,e=.returned (.map (some mb))/\He (fE w' mb 2 (FM E n l b off RC 2))/\Below G.heap.size G w'):=fun Z W bs J bp bn N=>by
    have I:=J.trans (N.mono J.size);refine (zH W (hk.below I) Ha (bc.below I) ax.allOk (X:=RC) (fun k hk=>?_) (by decide) (by have:=I.size;omega) (fun k hk=>?_) (fun k hk=>?_) (fun W' x bg=>?_)).mono fun e w' ⟨mb,h1,h2,h3⟩=>⟨mb,h1,h2,I.trans (h3.mono I.size)⟩
    ·match k with
     | 0=>exact ⟨by decide,by decide⟩
     | 1=>exact ⟨by decide,by decide⟩
    ·match k with
     | 0=>exact (I.cell (by simp;omega)).trans (ae 0)
     | 1=>exact (I.cell (by simp;omega)).trans (ae 2)
    ·match k with
     | 0=>exact (I.cell (by simp;omega)).trans (ae 1)
     | 1=>exact (I.cell (by simp;omega)).trans (ae 3)
    have bt:=I.trans (bg.mono I.size);have ba:=N.trans (bg.mono N.size);exact AT x ak bi W' (ax.below bt) (by have:=ba.size;omega) ((ba.cell (by exact bp)).trans bn.o)
   have HL:He (∀ Z W mb,He (fE Z mb 2 (FM E n l b off RC 2))->Below G.heap.size G Z->Below Z.heap.size Z W->Calls prog 31 #[.map (some mb)] W fun e w'=>e=.returned (.agg #[.pointer (uA b off (eF E n l bJ aJ)),.pointer (uA b off (eF E n l aX aJ))])/\Below G.heap.size G w'):=fun Z W mb hM J N =>
    (IG W (hM.o.below N) (QL E n l b off).1 (QL E n l b off).2).mono fun e w' ⟨h1,h2⟩=>⟨h1,(J.trans (N.mono J.size)).trans (h2.mono (J.trans (N.mono J.size)).size)⟩
   have HU:He (∀ W,Below G.heap.size G W->Calls prog 32 #[.agg #[.pointer (uA b off (eF E n l bJ aJ)),.pointer (uA b off (eF E n l aX aJ))],.string u] W fun e w'=>e=.returned (.int .i64 (sC E n l u))/\Below G.heap.size G w'):=fun W I =>
    (RN u W Hq.o Hf.o (hk.below I) Ha.o).mono fun e w' ⟨h1,h2⟩=>⟨by rw [Hz.o];exact h1,I.trans (h2.mono I.size)⟩
   clear hk ax bc ae ah h hs am Hq Hf Ha ak Hz;generalize uA b off (eF E n l bJ aJ)=pc at *;generalize uA b off (eF E n l aX aJ)=pp at *;generalize FM E n l b off RC 2=F2 at *
   go_wp2_with fail
   rw [<- ab];clear ab
   go_region_held3 (fun W=>W.cell? ⟨w1.heap.size,0,none⟩=some (.slice a n cap)/\W.cell? ⟨w1.heap.size,1,none⟩=some (.map (some mm))/\W.cell? ⟨w1.heap.size,2,none⟩=some (.slice ra n rc))
    (first|(with_reducible exact ⟨y0,y1,y2⟩)|go_keep)
    (first
     | (go_at_call 32;refine (HU.o _ (by with_reducible (repeat refine .drew ?_);exact ag)).mono ?_;rintro e w6 ⟨rfl,U⟩;have q0:=(U.cell (by exact H)).trans y0;have q1:=(U.cell (by exact H)).trans y1;have q2:=(U.cell (by exact H)).trans y2)
     | (go_at_call 31;refine (HL.o _ _ _ bz ai (by first|with_reducible exact Below.refl w4.heap.size w4|with_reducible exact (Below.refl w4.heap.size w4).drew|with_reducible exact (Below.refl w4.heap.size w4).drew.drew)).mono ?_;rintro e w5 ⟨rfl,ag⟩;have q0:=(ag.cell (by exact H)).trans y0;have q1:=(ag.cell (by exact H)).trans y1;have q2:=(ag.cell (by exact H)).trans y2)
     | (go_at_call 21;refine (HE.o _ _ _ af bf bw (by first|with_reducible exact Below.refl w3.heap.size w3|with_reducible exact (Below.refl w3.heap.size w3).drew|with_reducible exact (Below.refl w3.heap.size w3).drew.drew|with_reducible exact (Below.refl w3.heap.size w3).drew.drew.drew)).mono ?_;rintro e w4 ⟨mb,rfl,bz,ai⟩;have q0:=(ai.cell (by exact H)).trans y0;have q1:=(ai.cell (by exact H)).trans y1;have q2:=(ai.cell (by exact H)).trans y2)
     | (go_at_call 22;refine (HI.o _ (by with_reducible (repeat refine .drew ?_);exact br)).mono ?_;rintro e w3 ⟨bs,rfl,bf,bw,af⟩;have q0:=(af.cell (by exact H)).trans y0;have q1:=(af.cell (by exact H)).trans y1;have q2:=(af.cell (by exact H)).trans y2))
   all_goals
    go_wp2
    go_ret;exact ⟨rfl,O.trans (Below.mono (by first|exact U|exact U.drew|exact U.drew.drew) O.size)⟩
variable {x y:aE}
theorem NW (E:Nat->Ev)(n:Nat)(l:List aE)(b off:Nat)(X:Nat->aE)(x:aE):∀ k,(∀ i,i<k->dB (X i) x=false)->FM E n l b off X k x=.pointer none
 | 0,_=>rfl
 | k+1,h=>by
  have u:=NW E n l b off X x k (fun i hi=>h i (by omega));rw [FM];split
  ·unfold qX
   rw [if_neg (by rw [h k (by omega)];decide)];exact u
  exact u
def vF (E:Nat->Ev)(n:Nat)(l:List aE)(e:Ev):dI:=if dV e then (fun ty key=>if dB dM ⟨ty,key,aJ⟩=true then iZ E n l ty key else none) else iZ E n l
theorem xL:dB dM ⟨aX,aJ,aJ⟩=false:=by
 unfold dB dM;simp only [ByteArray.toList_eq];decide
theorem FK (E:Nat->Ev)(n:Nat)(l:List aE)(e:Ev):vF E n l e bJ aJ=iZ E n l bJ aJ:=by
 unfold vF;split
 ·exact if_pos ((cN _ _).2 ⟨rfl,rfl⟩)
 rfl
theorem XY (E:Nat->Ev)(n:Nat)(l:List aE)(e:Ev):lJ (vF E n l e) e=lJ (iZ E n l) e:=by
 cases hc:dV e
 ·unfold vF;rw [hc];rfl
 unfold lJ;rw [hc,FK];rfl
theorem FJ (h:dW w a n cap E)(H:0<n->a=some ⟨b,off,none⟩)(l:List aE)(ty key:ByteArray):EI w (uA b off (eF E n l ty key)) (iZ E n l ty key):=by
 have I:eF E n l ty key<n:=(cJ E (aQ l ty key) n).2;unfold iZ
 by_cases hp:0<=eF E n l ty key
 ·rcases h.cells with Y|⟨U,G,e,u,O⟩
  ·omega
  rw [H (by omega)] at e;injection e with e
  injection e with N J
  subst N J;exact Or.inr ⟨_,b,off+(eF E n l ty key).toNat * 10,if_pos hp,if_pos hp,u,O _ (by omega)⟩
 exact Or.inl ⟨if_neg hp,if_neg hp⟩
theorem NK (e:Ev):(cD e).length<=5:=by
 unfold cD jF uq
 repeat' split
 all_goals simp
theorem XL (N:e.sd.size<=maxLen)(O:e.key.size<=maxLen):∀ i,i<(cD e).length->EJ (aI (cD e) i):=fun i hi=>by
 have G:=fW (cD e) i hi;generalize aI (cD e) i=x at G;have I:EJ dM:=⟨by show dM.ty.size<=maxLen;decide,by show dM.key.size<=maxLen;decide⟩;have U:EJ pK:=⟨by show pK.ty.size<=maxLen;decide,by show pK.key.size<=maxLen;decide⟩;have Y:EJ gZ:=⟨by show gZ.ty.size<=maxLen;decide,by show gZ.key.size<=maxLen;decide⟩;have J:∀ u:ByteArray,u.size<=maxLen->EJ (cW u):=fun u H=>⟨by show (⟨#[109,101,109,98,101,114]⟩:ByteArray).size<=maxLen;decide,H⟩
 unfold cD at G;split at G
 ·split at G
  ·rw [List.mem_singleton] at G;subst G;exact I
  simp only [List.mem_cons,List.mem_append,List.mem_map,List.not_mem_nil,or_false] at G;rcases G with rfl|(G|⟨u,H,rfl⟩)|rfl
  ·exact I
  ·unfold jF at G
   split at G
   ·rw [List.mem_singleton] at G;subst G;exact U
   cases G
  ·rcases (pM e u).1 H with rfl|⟨_,rfl⟩
   ·exact J _ N
   exact J _ O
  exact Y
 cases G
abbrev JG (E:Nat->Ev)(n:Nat)(l:List aE)(b off:Nat)(e:Ev):aE->Value:=FM E n l b off (aI (cD e)) (cD e).length
theorem CN (E:Nat->Ev)(n:Nat)(l:List aE)(b off:Nat)(e:Ev)(G:y ∈ cD e)(u:dB y x=true):JG E n l b off e x=.pointer (uA b off (eF E n l x.ty x.key)):=by
 obtain ⟨i,hi,rfl⟩:=List.mem_iff_getElem.1 G;exact UV E n l b off _ x _ i hi (by rw [bP _ _ hi];exact u)
theorem vJ (h:bE e=true):dV e=false:=by
 unfold bE at h;unfold dV;rw [beq_iff_eq] at h;rw [h];decide
theorem GQ (G:e.code=0)(u:dV e=false):cD e=dM :: (jF e ++ (uq e).map cW ++ [gZ]):=by unfold cD;rw [if_pos G,u];rfl
theorem PY (h:dW w a n cap E)(N:0<n->a=some ⟨b,off,none⟩)(hr:aF E n=true)(hf:dY E n l=true)(H:e.code=0) :
  ∃ oc op,JG E n l b off e sD=.pointer oc/\JG E n l b off e tI=.pointer op/\oT w oc op (vF E n l e)/\(dV e=false->fV w (JG E n l b off e) (vF E n l e) ⟨dK,e.sd,aJ⟩)/\(bE e=true->fV w (JG E n l b off e) (vF E n l e) ⟨dK,e.key,aJ⟩)/\(bE e=true->eZ e=true->fV w (JG E n l b off e) (vF E n l e) ⟨lB,aJ,aJ⟩):=by
 have J:∀ p,iZ E n l aX aJ=some p->uJ p.M p.ng/\p.ng<=50:=fun p hp=>by
  unfold iZ at hp;have Z:eF E n l aX aJ<n:=(cJ E (aQ l aX aJ) n).2
  by_cases O:0<=eF E n l aX aJ
  ·rw [if_pos O] at hp
   injection hp with hp
   have hty:=OZ hr hf O;have U:aT (E (eF E n l aX aJ).toNat)=true:=by unfold aT;rw [hty,ByteArray.toList_eq];decide
   have:=qA (cL hr (by omega)) U;rw [hp] at this;exact ⟨this.2,this.1⟩
  rw [if_neg O] at hp;cases hp
 have G:∀ x:aE,dV e=false->(∃ y ∈ cD e,dB y x=true)->fV w (JG E n l b off e) (vF E n l e) x:=fun x u ⟨y,hy,Y⟩=>by
  refine ⟨_,CN E n l b off e hy Y,?_⟩;unfold vF;rw [u];exact FJ h N l x.ty x.key
 have hC:dM ∈ cD e:=by
  unfold cD;rw [if_pos H];split
  ·exact List.mem_singleton.2 rfl
  exact List.mem_cons_self
 refine ⟨_,(if dV e then none else uA b off (eF E n l aX aJ)),CN E n l b off e hC ((cN _ _).2 ⟨rfl,rfl⟩),?_,⟨?_,?_,?_⟩,?_,?_,?_⟩
 ·cases u:dV e
  ·exact CN E n l b off e (y:=gZ) (by rw [GQ H u];simp) ((cN _ _).2 ⟨rfl,rfl⟩)
  have hL:cD e=[dM]:=by unfold cD;rw [if_pos H,u];rfl
  unfold JG;rw [hL]
  exact NW E n l b off _ _ _ (fun i hi=>by
   have:i=0:=by simpa using hi
   subst this;exact xL)
 ·rw [FK]
  exact FJ h N l bJ aJ
 ·cases u:dV e
  ·have:vF E n l e=iZ E n l:=by unfold vF;rw [u];rfl
   rw [this];exact FJ h N l aX aJ
  refine Or.inl ⟨?_,rfl⟩;unfold vF;rw [u];exact if_neg (by rw [xL];decide)
 ·intro p hp
  cases u:dV e
  ·have:vF E n l e=iZ E n l:=by unfold vF;rw [u];rfl
   rw [this] at hp;exact J p hp
  unfold vF at hp;rw [u] at hp
  have h2:(none:Option Ev)=some p:=by
   rw [<- hp];exact (if_neg (by rw [xL];decide)).symm
  cases h2
 ·intro u
  exact G _ u ⟨cW e.sd,by rw [GQ H u];simp only [List.mem_cons,List.mem_append,List.mem_map];exact Or.inr (Or.inl (Or.inr ⟨e.sd,(pM e _).2 (Or.inl rfl),rfl⟩)),(cN _ _).2 ⟨rfl,rfl⟩⟩
 ·intro I
  have u:=vJ I;exact G _ u ⟨cW e.key,by rw [GQ H u];simp only [List.mem_cons,List.mem_append,List.mem_map];exact Or.inr (Or.inl (Or.inr ⟨e.key,(pM e _).2 (Or.inr ⟨I,rfl⟩),rfl⟩)),(cN _ _).2 ⟨rfl,rfl⟩⟩
 intro I hj;have u:=vJ I;have hY:jF e=[pK]:=by unfold jF;rw [I,hj];rfl
 exact G _ u ⟨pK,by rw [GQ H u,hY];simp,(cN _ _).2 ⟨rfl,rfl⟩⟩
end Go.Proofs.YtpfeegcdlikegaaGreat
