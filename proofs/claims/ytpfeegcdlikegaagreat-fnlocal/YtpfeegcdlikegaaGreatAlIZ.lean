import Derived.Test.YtpfeegcdlikegaaGreatHrMZ
import Derived.Test.YtpfeegcdlikegaaGreatHrOZ
import Derived.Test.YtpfeegcdlikegaaGreatLdDZ
set_option maxHeartbeats 16000000
set_option maxRecDepth 100000
namespace Go.Proofs.YtpfeegcdlikegaaGreat
open Go.RowKit Go.Maps Go.ChangeMaps Go.Proofs.Tryz
variable {w w':World}{l:List aE}{e:Ev}{a aa ga pa sa:Option Addr}{n ca cg cp sc cap:Nat}{E:Nat->Ev}
def RQ (w:World)(u G:Nat)(l:List aE):Prop:=u<w.heap.size/\(∀ k,k<l.length->w.cell? ⟨u,G+k * 2,none⟩=some (.string (aI l k).ty))/\(∀ k,k<l.length->w.cell? ⟨u,G+k * 2+1,none⟩=some (.string (aI l k).key))
theorem RQ.below {G H:Nat}(h:RQ w G H l)(hb:Below w.heap.size w w'):RQ w' G H l :=
 ⟨nT h.1 hb.size,fun k u=>(hb.cell (by exact h.1)).trans (h.2.1 k u),fun k u=>(hb.cell (by exact h.1)).trans (h.2.2 k u)⟩
theorem ae0 (u:e.code=0):cD e≠[]:=by
 unfold cD;rw [if_pos u];split <;> simp
theorem UL (e:Ev)(w:World)(N:cI w e pa cp aa ca ga cg)(Z:e.code=0) :
  Calls prog 8 #[.agg (ec e pa cp aa ca ga cg)] w fun x w'=>∃ G H cq,x=.returned (.slice (some ⟨G,H,none⟩) (cD e).length cq)/\He (RQ w' G H (cD e))/\Below w.heap.size w w':=by
 refine (TV e w N).mono ?_;rintro x w' ⟨v,rfl,u,hb⟩;obtain ⟨q,cq,rfl,I⟩:=u.sl;rcases I.cells with O|⟨G,H,rfl,J,U,Y⟩
 ·exact absurd O (ae0 Z)
 exact ⟨G,H,cq,rfl,⟨J,U,Y⟩,hb⟩
theorem WC (e:Ev)(w:World)(h:dW w a n cap E)(hs:dF w sa sc l)(he:cI w e pa cp aa ca ga cg) :
  Calls prog 6 #[.agg #[.slice a n cap],.slice sa l.length sc,.agg (ec e pa cp aa ca ga cg)] w fun x w'=>x=.returned (.int .i64 (tP E n l e))/\Below w.heap.size w w':=by
 have HR:He (tP E n l e=if e.code=0/\(aF E n && dY E n l)=true then lJ (iZ E n l) e else 99):=rfl
 obtain ⟨b,off,Ha⟩:∃ b off,He (0<n->a=some ⟨b,off,none⟩):=by
  rcases h.cells with h0|⟨b,off,e,_⟩
  ·exact ⟨0,0,fun hn=>by omega⟩
  exact ⟨b,off,fun _=>e⟩
 obtain ⟨wa,a6⟩:∃ wa,wa=(w.alloc (.cells #[.slice a n cap] 25)).alloc (.cells (ec e pa cp aa ca ga cg) 30):=⟨_,rfl⟩;have ag:Below w.heap.size w wa:=by rw [a6];exact bA.alloc (by simp) _
 have gt:wa.heap.size=w.heap.size+2:=by rw [a6];simp
 have ab:He (∀ i,wa.cell? ⟨w.heap.size+1,i,none⟩=((ec e pa cp aa ca ga cg):Array Value)[i]?):=fun i=>by rw [a6];exact kA (by simp)
 have r0:((w.alloc (.cells #[.slice a n cap] 25)).alloc (.cells (ec e pa cp aa ca ga cg) 30)).cell? ⟨w.heap.size,0,none⟩=some (.slice a n cap):=by rw [World.cell?_alloc_past _ _ _ (by simp)];exact kA rfl
 have b0:He (∀ W,Below wa.heap.size wa W->Calls prog 18 #[.agg (ec e pa cp aa ca ga cg)] W fun x w'=>x=.returned (.int .i64 e.code)/\Below W.heap.size W w'):=fun W hW=>by
  have ak:=he.below (ag.trans (hW.mono ag.size));exact wM e.id e.sd e.ty e.key e.val e.st e.tm pa e.np cp aa e.na ca ga e.ng cg e.Pv e.Av e.M e.L W ak.hid ak.hsd ak.hty ak.hkey ak.hval ak.hp ak.ha ak.hg
 go_enter func6,ntmps6
 go_wp2_with fail
 rw [<- a6];clear a6 r0;refine (zA _ (h.below ag)).mono ?_;rintro x w1 ⟨bg,hp⟩;have dg:=ag.trans (bg.mono ag.size);have f8:w.heap.size+2<=w1.heap.size:=by have:=bg.size;omega
 rcases hp with ⟨hq,mm,ra,rc,rfl,bw,dj⟩|⟨hq,rfl⟩
 case inr =>
  have Hz:He (tP E n l e=99):=by unfold He;rw [HR.o,hq,if_neg (fun h1=>by cases h1.2)]
  clear HR hq;go_wp2
  go_ret;exact ⟨aA Hz.o.symm,dg.alloc dg.size _⟩
 case inl =>
  have Hq:He (_):=hq;clear dj;obtain ⟨w2,aj⟩:∃ w2,w2=w1.alloc (.cells #[.slice a n cap,.map (some mm),.slice ra n rc] 49):=⟨_,rfl⟩;have a8:Below w1.heap.size w1 w2:=by rw [aj];exact bA
  have gj:w2.heap.size=w1.heap.size+1:=by rw [aj];simp
  have am:Below wa.heap.size wa w2:=bg.trans (a8.mono bg.size);have bf:He (∀ i,w2.cell? ⟨w1.heap.size,i,none⟩=(#[.slice a n cap,.map (some mm),.slice ra n rc]:Array Value)[i]?):=fun i=>by rw [aj];exact kA rfl
  have H:w.heap.size+1<wa.heap.size:=by omega
  have ae:∀ i,(w1.alloc (.cells #[.slice a n cap,.map (some mm),.slice ra n rc] 49)).cell? ⟨w.heap.size+1,i,none⟩=((ec e pa cp aa ca ga cg):Array Value)[i]?:=fun i=>by rw [<- aj];exact (am.cell (by exact H)).trans (ab.o i)
  have z0:=ae 0;have z1:=ae 1;have z2:=ae 2;have z3:=ae 3;have z4:=ae 4;have z5:=ae 5;have z6:=ae 6;have z7:=ae 7;have z8:=ae 8;have z9:=ae 9;have gr:w.heap.size+1≠w1.heap.size:=by omega
  clear ae
  by_cases hc:e.code=0
  case neg =>
   have Hz:He (tP E n l e=99):=by unfold He;rw [HR.o,if_neg (fun h1=>hc h1.1)]
   have gu:(e.code != 0)=true:=by simpa using hc
   generalize e.code=cd at *;clear HR hc hq
   go_wp2_with fail
   rw [<- aj];clear aj;refine (b0.o _ am).mono ?_;rintro x w3 ⟨rfl,ah⟩;go_wp2
   go_ret;exact ⟨aA Hz.o.symm,ag.trans ((am.trans (ah.mono am.size)).mono ag.size)⟩
  case pos =>
   have bi:He (Calls prog 18 #[.agg (ec e pa cp aa ca ga cg)] w2 fun x w'=>x=.returned (.int .i64 0)/\Below w2.heap.size w2 w'):=by
    have:=b0.o w2 am;rw [hc] at this;exact this
   have Hc:He (e.code=0):=hc;clear b0 hc
   go_wp2_with fail
   rw [<- aj];clear aj z0 z1 z2 z3 z4 z5 z6 z7 z8 z9;refine bi.o.mono ?_;rintro x w3 ⟨rfl,ah⟩;have b4:=am.trans (ah.mono am.size);have an:w1.heap.size<w2.heap.size:=by omega
   have g0:w3.cell? ⟨w1.heap.size,0,none⟩=some (.slice a n cap):=(ah.cell (by exact an)).trans (bf.o 0);have g1:w3.cell? ⟨w1.heap.size,1,none⟩=some (.map (some mm)):=(ah.cell (by exact an)).trans (bf.o 1);have g2:w3.cell? ⟨w1.heap.size,2,none⟩=some (.slice ra n rc):=(ah.cell (by exact an)).trans (bf.o 2);have b2:=a8.trans (ah.mono a8.size);have ay:=ag.trans (b4.mono ag.size);clear bi
   go_wp2_with fail
   refine (GE w3 (h.below ay) (bw.below b2) (hs.below ay)).mono ?_;rintro x I ⟨rfl,ai⟩;cases hf:dY E n l
   case false =>
    have Hz:He (tP E n l e=99):=by unfold He;rw [HR.o,hf,if_neg (fun h1=>by simp at h1)]
    clear HR hf;go_wp2
    go_ret;exact ⟨aA Hz.o.symm,ay.trans (ai.mono ay.size)⟩
   case true =>
    have ad:=b4.trans (ai.mono b4.size);have a4:=ay.trans (ai.mono ay.size);have dk:=b2.trans (ai.mono b2.size);have bu:dW I a n cap E:=h.below a4;have a2:dF I sa sc l:=hs.below a4;have cy:=bw.below dk;have a3:=he.below a4;have ao:w1.heap.size<w3.heap.size:=nT an ah.size;have G:w1.heap.size<I.heap.size:=nT ao ai.size;have u:w.heap.size+1<I.heap.size:=nT H ad.size;have y0:I.cell? ⟨w.heap.size+1,0,none⟩=some (.string e.id):=(ad.cell (by exact H)).trans (ab.o 0);have y1:I.cell? ⟨w.heap.size+1,1,none⟩=some (.string e.sd):=(ad.cell (by exact H)).trans (ab.o 1);have y2:I.cell? ⟨w.heap.size+1,2,none⟩=some (.string e.ty):=(ad.cell (by exact H)).trans (ab.o 2);have y3:I.cell? ⟨w.heap.size+1,3,none⟩=some (.bool e.st):=(ad.cell (by exact H)).trans (ab.o 3);have y4:I.cell? ⟨w.heap.size+1,4,none⟩=some (.string e.key):=(ad.cell (by exact H)).trans (ab.o 4);have y5:I.cell? ⟨w.heap.size+1,5,none⟩=some (.int .i64 e.tm):=(ad.cell (by exact H)).trans (ab.o 5);have y6:I.cell? ⟨w.heap.size+1,6,none⟩=some (.slice pa e.np cp):=(ad.cell (by exact H)).trans (ab.o 6);have y7:I.cell? ⟨w.heap.size+1,7,none⟩=some (.slice aa e.na ca):=(ad.cell (by exact H)).trans (ab.o 7);have y8:I.cell? ⟨w.heap.size+1,8,none⟩=some (.string e.val):=(ad.cell (by exact H)).trans (ab.o 8);have y9:I.cell? ⟨w.heap.size+1,9,none⟩=some (.slice ga e.ng cg):=(ad.cell (by exact H)).trans (ab.o 9);have x0:I.cell? ⟨w1.heap.size,0,none⟩=some (.slice a n cap):=(ai.cell (by exact ao)).trans g0;have x1:I.cell? ⟨w1.heap.size,1,none⟩=some (.map (some mm)):=(ai.cell (by exact ao)).trans g1;have x2:I.cell? ⟨w1.heap.size,2,none⟩=some (.slice ra n rc):=(ai.cell (by exact ao)).trans g2;clear g0 g1 g2
    have Hz:He (tP E n l e=qQ (zQ (vF E n l e) e) 0 11):=by
     unfold He;rw [HR.o,if_pos ⟨Hc.o,by rw [Hq.o,hf];rfl⟩,ak0 Hc.o,XY]
    obtain ⟨cu,bn,-⟩:=gS (l:=l) (by unfold dY at hf;rw [Bool.and_eq_true] at hf;exact hf.2);have hty:e.ty.size<=1000:=nZ (fT (UR Hc.o).2) (by decide);obtain ⟨oc,op,co,cx,bo,hsd,hkey,bp⟩:=PY (l:=l) (e:=e) bu Ha.o Hq.o hf Hc.o;have HN:He (∀ W,Below I.heap.size I W->Calls prog 8 #[.agg (ec e pa cp aa ca ga cg)] W fun x w'=>∃ bq oq cq,x=.returned (.slice (some ⟨bq,oq,none⟩) (cD e).length cq)/\He (RQ w' bq oq (cD e))/\Below I.heap.size I w'):=fun W hW=>(UL e W (a3.below hW) Hc.o).mono fun _ _ ⟨bq,oq,cq,h1,h2,h3⟩=>⟨bq,oq,cq,h1,h2,hW.trans (h3.mono hW.size)⟩
    have HI:He (∀ W0 W,Below W0.heap.size W0 W->Calls prog 22 #[.slice sa l.length sc] W fun x w'=>∃ bs,x=.returned (.func (.func 63) #[] #[.pointer (some ⟨bs,0,none⟩)])/\He (bs<w'.heap.size/\w'.cell? ⟨bs,0,none⟩=some (.slice sa l.length sc))/\Below W0.heap.size W0 w'):=fun W0 W hW=>(vH sa l.length sc W).mono fun _ _ ⟨bs,h1,h2,h3,h4⟩=>⟨bs,h1,⟨h2,h3⟩,hW.trans (h4.mono hW.size)⟩
    have HE:He (∀ W5 W6 W bq oq cq bs,Below I.heap.size I W5->He (RQ W5 bq oq (cD e))->Below W5.heap.size W5 W6->He (bs<W6.heap.size/\W6.cell? ⟨bs,0,none⟩=some (.slice sa l.length sc))->Below W6.heap.size W6 W->Calls prog 21 #[.agg #[.slice a n cap,.map (some mm),.slice ra n rc],.slice (some ⟨bq,oq,none⟩) (cD e).length cq,.func (.func 63) #[] #[.pointer (some ⟨bs,0,none⟩)]] W fun x w'=>∃ mb,x=.returned (.map (some mb))/\He (fE w' mb (cD e).length (JG E n l b off e))/\Below I.heap.size I w'):=fun W5 W6 W bq oq cq bs h5 b5 bt bz h6=>by
     have cw:=h5.trans (bt.mono h5.size);have J:=cw.trans (h6.mono cw.size);have dq:=bt.trans (h6.mono bt.size);have bv:=b5.o.below dq;refine (zH W (bu.below J) Ha (cy.below J) a2.allOk (X:=aI (cD e)) (XL a3.hsd a3.hkey) (by have:=NK e;omega) bv.1 bv.2.1 bv.2.2 (fun W' x db=>?_)).mono fun _ _ ⟨mb,h1,h2,h3⟩=>⟨mb,h1,h2,J.trans (h3.mono J.size)⟩
     have dm:=J.trans (db.mono J.size);have dc:=h6.trans (db.mono h6.size);exact AT x bn cu W' (a2.below dm) (nT bz.o.1 dc.size) ((dc.cell (by exact bz.o.1)).trans bz.o.2)
    have HH:He (∀ W7 W mb,Below I.heap.size I W7->He (fE W7 mb (cD e).length (JG E n l b off e))->Below W7.heap.size W7 W->Calls prog 20 #[.agg (ec e pa cp aa ca ga cg),.map (some mb)] W fun x w'=>∃ h,x=.returned (.pointer (some ⟨h,0,none⟩))/\He (Hr w' h mb (cD e).length (JG E n l b off e) oc op (vF E n l e) e pa cp aa ca ga cg)/\Below I.heap.size I w'):=fun W7 W mb h7 hM da=>by
     have J:=h7.trans (da.mono h7.size);refine (bw0 W ⟨a3.below J,hM.o.below da,bo.below J,Hc.o,fun h1=>(hsd h1).below J,fun h1=>(hkey h1).below J,fun h1 h2=>(bp h1 h2).below J⟩ co cx).mono ?_;rintro x w' ⟨h,h1,h2,h3⟩;exact ⟨h,h1,h2,J.trans (h3.mono J.size)⟩
    have HD:He (∀ W8 W h mb,He (Hr W8 h mb (cD e).length (JG E n l b off e) oc op (vF E n l e) e pa cp aa ca ga cg)->Below I.heap.size I W8->Below W8.heap.size W8 W->Calls prog 23 #[.pointer (some ⟨h,0,none⟩)] W fun x w'=>x=.returned (.int .i64 (tP E n l e))/\Below I.heap.size I w'):=fun W8 W h mb hH h8 df=>by
     have J:=h8.trans (df.mono h8.size);exact (vdI W (hH.o.below df) hty).mono fun _ _ ⟨h1,h2⟩=>⟨by rw [h1,Hz.o],J.trans (h2.mono J.size)⟩
    clear Hz HR bo hsd hkey bp co cx bn bu a2 cy a3 h hs he bw Hq hq hf Ha ab bf;have au:Below I.heap.size I I:=kB;generalize JG E n l b off e=FF at *;generalize vF E n l e=oo at *;generalize (cD e).length=cc at *
    go_wp2_with fail
    go_region_held3 (fun W=>W.cell? ⟨w.heap.size+1,0,none⟩=some (.string e.id)/\W.cell? ⟨w.heap.size+1,1,none⟩=some (.string e.sd)/\W.cell? ⟨w.heap.size+1,2,none⟩=some (.string e.ty)/\W.cell? ⟨w.heap.size+1,3,none⟩=some (.bool e.st)/\W.cell? ⟨w.heap.size+1,4,none⟩=some (.string e.key)/\W.cell? ⟨w.heap.size+1,5,none⟩=some (.int .i64 e.tm)/\W.cell? ⟨w.heap.size+1,6,none⟩=some (.slice pa e.np cp)/\W.cell? ⟨w.heap.size+1,7,none⟩=some (.slice aa e.na ca)/\W.cell? ⟨w.heap.size+1,8,none⟩=some (.string e.val)/\W.cell? ⟨w.heap.size+1,9,none⟩=some (.slice ga e.ng cg)/\W.cell? ⟨w1.heap.size,0,none⟩=some (.slice a n cap)/\W.cell? ⟨w1.heap.size,1,none⟩=some (.map (some mm))/\W.cell? ⟨w1.heap.size,2,none⟩=some (.slice ra n rc)) (first|(with_reducible exact ⟨y0,y1,y2,y3,y4,y5,y6,y7,y8,y9,x0,x1,x2⟩)|go_keep)
     (first
      | (go_at_call 8;refine (HN.o _ (by with_reducible first|exact au|exact au.drew|exact au.drew.drew|exact au.drew.drew.drew|exact au.drew.drew.drew.drew|exact au.drew.drew.drew.drew.drew)).mono ?_;rintro x w5 ⟨bq,oq,cq,rfl,b5,N⟩;have d6:=(N.cell (by exact u)).trans y0;have fd:=(N.cell (by exact u)).trans y1;have fj:=(N.cell (by exact u)).trans y2;have eg:=(N.cell (by exact u)).trans y3;have e1:=(N.cell (by exact u)).trans y4;have ej:=(N.cell (by exact u)).trans y5;have eb:=(N.cell (by exact u)).trans y6;have e6:=(N.cell (by exact u)).trans y7;have d7:=(N.cell (by exact u)).trans y8;have fo:=(N.cell (by exact u)).trans y9;have eu:=(N.cell (by exact G)).trans x0;have fi:=(N.cell (by exact G)).trans x1;have ek:=(N.cell (by exact G)).trans x2)
      | (go_at_call 22;refine (HI.o w5 _ (by first|with_reducible exact (Below.refl w5.heap.size w5)|with_reducible exact (Below.refl w5.heap.size w5).drew|with_reducible exact (Below.refl w5.heap.size w5).drew.drew|with_reducible exact (Below.refl w5.heap.size w5).drew.drew.drew|with_reducible exact (Below.refl w5.heap.size w5).drew.drew.drew.drew|with_reducible exact (Below.refl w5.heap.size w5).drew.drew.drew.drew.drew)).mono ?_;rintro x w6 ⟨bs,rfl,cv,bk⟩;have Z:=N.trans (bk.mono N.size);have fm:=(Z.cell (by exact u)).trans y0;have e8:=(Z.cell (by exact u)).trans y1;have e7:=(Z.cell (by exact u)).trans y2;have en:=(Z.cell (by exact u)).trans y3;have ew:=(Z.cell (by exact u)).trans y4;have e4:=(Z.cell (by exact u)).trans y5;have fw:=(Z.cell (by exact u)).trans y6;have et:=(Z.cell (by exact u)).trans y7;have e5:=(Z.cell (by exact u)).trans y8;have f6:=(Z.cell (by exact u)).trans y9;have dy:=(Z.cell (by exact G)).trans x0;have e9:=(Z.cell (by exact G)).trans x1;have eh:=(Z.cell (by exact G)).trans x2)
      | (go_at_call 21;refine (HE.o w5 w6 _ bq oq cq bs N b5 bk cv (by first|with_reducible exact (Below.refl w6.heap.size w6)|with_reducible exact (Below.refl w6.heap.size w6).drew|with_reducible exact (Below.refl w6.heap.size w6).drew.drew|with_reducible exact (Below.refl w6.heap.size w6).drew.drew.drew|with_reducible exact (Below.refl w6.heap.size w6).drew.drew.drew.drew|with_reducible exact (Below.refl w6.heap.size w6).drew.drew.drew.drew.drew)).mono ?_;rintro x w7 ⟨mb,rfl,dn,U⟩;have fa:=(U.cell (by exact u)).trans y0;have er:=(U.cell (by exact u)).trans y1;have ft:=(U.cell (by exact u)).trans y2;have dv:=(U.cell (by exact u)).trans y3;have fp:=(U.cell (by exact u)).trans y4;have d4:=(U.cell (by exact u)).trans y5;have d8:=(U.cell (by exact u)).trans y6;have f4:=(U.cell (by exact u)).trans y7;have ex:=(U.cell (by exact u)).trans y8;have fx:=(U.cell (by exact u)).trans y9;have e3:=(U.cell (by exact G)).trans x0;have f2:=(U.cell (by exact G)).trans x1;have d1:=(U.cell (by exact G)).trans x2)
      | (go_at_call 20;refine (HH.o w7 _ mb U dn (by first|with_reducible exact (Below.refl w7.heap.size w7)|with_reducible exact (Below.refl w7.heap.size w7).drew|with_reducible exact (Below.refl w7.heap.size w7).drew.drew|with_reducible exact (Below.refl w7.heap.size w7).drew.drew.drew|with_reducible exact (Below.refl w7.heap.size w7).drew.drew.drew.drew|with_reducible exact (Below.refl w7.heap.size w7).drew.drew.drew.drew.drew)).mono ?_;rintro x w8 ⟨hh,rfl,ds,Y⟩;have ei:=(Y.cell (by exact u)).trans y0;have fn:=(Y.cell (by exact u)).trans y1;have e2:=(Y.cell (by exact u)).trans y2;have ed:=(Y.cell (by exact u)).trans y3;have ez:=(Y.cell (by exact u)).trans y4;have fr:=(Y.cell (by exact u)).trans y5;have fq:=(Y.cell (by exact u)).trans y6;have d2:=(Y.cell (by exact u)).trans y7;have fu:=(Y.cell (by exact u)).trans y8;have f5:=(Y.cell (by exact u)).trans y9;have fc:=(Y.cell (by exact G)).trans x0;have du:=(Y.cell (by exact G)).trans x1;have fe:=(Y.cell (by exact G)).trans x2)
      | (go_at_call 23;refine (HD.o w8 _ hh mb ds Y (by first|with_reducible exact (Below.refl w8.heap.size w8)|with_reducible exact (Below.refl w8.heap.size w8).drew|with_reducible exact (Below.refl w8.heap.size w8).drew.drew|with_reducible exact (Below.refl w8.heap.size w8).drew.drew.drew|with_reducible exact (Below.refl w8.heap.size w8).drew.drew.drew.drew|with_reducible exact (Below.refl w8.heap.size w8).drew.drew.drew.drew.drew)).mono ?_;rintro x w9 ⟨rfl,O⟩;have ff:=(O.cell (by exact u)).trans y0;have d5:=(O.cell (by exact u)).trans y1;have fy:=(O.cell (by exact u)).trans y2;have em:=(O.cell (by exact u)).trans y3;have ef:=(O.cell (by exact u)).trans y4;have ey:=(O.cell (by exact u)).trans y5;have fg:=(O.cell (by exact u)).trans y6;have ea:=(O.cell (by exact u)).trans y7;have d9:=(O.cell (by exact u)).trans y8;have ep:=(O.cell (by exact u)).trans y9;have dx:=(O.cell (by exact G)).trans x0;have fk:=(O.cell (by exact G)).trans x1;have es:=(O.cell (by exact G)).trans x2))
    all_goals
     go_wp2
     go_ret;exact ⟨rfl,a4.trans (Below.mono (by first|exact O|exact O.drew|exact O.drew.drew) a4.size)⟩
end Go.Proofs.YtpfeegcdlikegaaGreat
namespace Go.Proofs.YtpfeegcdlikegaaGreat
open Go.RowKit Go.Proofs.Tryz
variable {s:List aE}{sa:Option Addr}{cq sc:Nat}
theorem BS (s L:List aE):∀ k,(nU s L k).length<=k
 | 0=>nL
 | k+1=>by
  have:=oO (nU s L k) ⟨(aI L k).ty,(aI L k).key,aQ s (aI L k).ty (aI L k).key⟩ false
  have:=BS s L k
  show (dG _ _ false).length<=_
  omega
theorem UE (h:bK s)(L:List aE)(k:Nat):bK (nU s L k):=fun x u=>h x (EF k x u)
theorem ac0 (w W:World)(u:w.heap.size<=W.heap.size):aU (W.alloc (.cells #[] 66)) w.heap.size (.slice (some ⟨W.heap.size,0,none⟩) 0 0) [] :=
 ⟨rfl,Or.inr ⟨W.heap.size,0,#[],rfl,u,by show (W.heap.push _)[W.heap.size]?=_;simp,nL,by decide,rfl,rfl⟩⟩
theorem WM {J N:Nat}{L:List aE}(w:World)(hs:dF w sa sc s)(hq:RQ w J N L)(hL:L.length<=1000) :
  Calls prog 7 #[.slice sa s.length sc,.slice (some ⟨J,N,none⟩) L.length cq] w fun e w'=>∃ ra rc,e=.returned (.slice ra (vL s L).length rc)/\He (dF w' ra rc (vL s L))/\Below w.heap.size w w':=by
 have ai:=ac0 w w nL;have ah:∀ o,Below w.heap.size w (w.alloc o):=fun o=>bA
 have Z:He (bK s):=hs.ok;have HE:He (vL s L=nU s L L.length):=rfl
 go_enter func7,ntmps7
 go_wp2_with fail
 go_loopw [5,6] (fun v iv wr=>∃ k:Nat,k<=L.length/\iv=.int .i64 (k:Int)/\He (aU wr w.heap.size v (nU s L k))/\Below w.heap.size w wr) (fun _ iv _=>L.length - (intOf iv).toNat)
 case atStart=>exact ⟨0,nz,rfl,ai,ah _⟩
 case round =>
  clear ai ah;obtain ⟨k,hk,rfl,HO,hB⟩:=hrel;obtain ⟨va,vc,e1,I⟩:=HO.o.sl (UE Z.o L k).at;subst e1
  by_cases aj:k<L.length
  ·have af:(k:Int)<(L.length:Int):=by omega
   have G:=hq.below hB;have c1:=G.2.1 k aj;have c2:=G.2.2 k aj;have ae:=G.1;have ax:=BS s L k
   have ad:He (∀ W,Below wr.heap.size wr W->Calls prog 25 #[.slice sa s.length sc,.string (aI L k).ty,.string (aI L k).key] W fun e w2=>e=.returned (.string (aQ s (aI L k).ty (aI L k).key))/\He (Calls prog 24 #[.slice va (nU s L k).length vc,.agg #[.string (aI L k).ty,.string (aI L k).key,.string (aQ s (aI L k).ty (aI L k).key)],.bool false] w2 fun e w3=>∃ v,e=.returned v/\He (aU w3 w.heap.size v (nU s L (k+1)))/\Below wr.heap.size wr w3)/\Below wr.heap.size wr w2):=fun W Y=>by
    refine (iL (aI L k).ty (aI L k).key W (hs.below (hB.trans (Y.mono hB.size)))).mono ?_;rintro e w2 ⟨rfl,H⟩;have u:=Y.trans (H.mono Y.size);refine ⟨rfl,?_,u⟩;refine (nH ⟨(aI L k).ty,(aI L k).key,aQ s (aI L k).ty (aI L k).key⟩ false w2 (by omega) (I.below u)).mono ?_;rintro e w3 ⟨v,rfl,h1,h2⟩;exact ⟨v,rfl,h1.base_le (nZ hB.size u.size),u.trans (h2.mono u.size)⟩
   clear HO I hq G Z HE;generalize (nU s L k).length=ln at *;generalize aQ s (aI L k).ty (aI L k).key=fd at *;generalize aI L k=x at *;have HS:He (∀ W,Below wr.heap.size wr W->W.cell? ⟨J,N+k * 2,none⟩=some (.string x.ty)/\W.cell? ⟨J,N+k * 2+1,none⟩=some (.string x.key)):=fun W Y=>⟨(Y.cell (p:=⟨J,N+k * 2,none⟩) ae).trans c1,(Y.cell (p:=⟨J,N+k * 2+1,none⟩) ae).trans c2⟩
   have U:Below wr.heap.size wr wr:=kB;clear c1 c2
   go_upto_region 5 with fail
   refine wp_region_held_drew (S:=fun X=>X.cell? ⟨J,N+k * 2,none⟩=some (.string x.ty)/\X.cell? ⟨J,N+k * 2+1,none⟩=some (.string x.key)) (by kernel_rfl) ?_ (fun hHeld=>?_)
   ·(try dsimp only);exact HS.o _ (by with_reducible (repeat refine .drew ?_);exact U)
   refine tq 0 rfl ?_;simp only [si];refine tq 1 rfl ?_;simp only [si];refine tq 2 rfl ?_;simp only [si];refine tq 3 rfl ?_;simp only [si];refine tq 4 rfl ?_;simp only [si];refine tq 5 rfl ?_;simp only [si];refine tq 6 rfl ?_;simp only [si];refine tq 7 rfl ?_;simp only [si];refine tq 8 rfl ?_;simp only [si];refine tq 9 rfl ?_;simp only [si];refine tq 10 rfl ?_;simp only [si];refine tq 11 rfl ?_;simp only [si];refine tq 12 rfl ?_;simp only [si];refine tq 13 rfl ?_;simp only [si];refine tq 14 rfl ?_;simp only [si];refine tq 15 rfl ?_;simp only [si];refine tq 16 rfl ?_;simp only [si];refine tq 17 rfl ?_;simp only [si];refine tq 18 rfl ?_;simp only [si];refine tq 19 rfl ?_;simp only [si];refine tq 20 rfl ?_;simp only [si];refine tq 21 rfl ?_;simp only [si];refine rd 22 rfl fun K hK=>?_
   go_simp
   go_at_call 25
   refine (ad.o _ (by with_reducible (repeat refine .drew ?_);exact U)).mono ?_;rintro e w2 ⟨rfl,ab,H⟩
   (try dsimp only)
   refine hK.out _ _ ?_ (fun hHeld=>?_)
   ·(try dsimp only);exact HS.o _ H
   clear hK K;try simp only [si]
   refine tq 23 rfl ?_;simp only [si];refine rd 24 rfl fun K hK=>?_
   go_simp
   go_at_call 24
   refine ab.o.mono ?_;rintro e w3 ⟨v3,rfl,aq,O⟩
   (try dsimp only)
   refine hK.out _ _ ?_ (fun hHeld=>?_)
   ·(try dsimp only);exact HS.o _ O
   clear hK K;try simp only [si]
   refine tq 25 rfl ?_;simp only [si];refine wpAnyH_done (by kernel_rfl) ?_ _;have au:=hB.trans (O.mono hB.size);clear ab ad HS O H U hB;go_wp2
   go_roundw
   case rel=>exact ⟨k+1,by omega,by go_num,aq,au⟩
   simp [intOf];omega
  have ag:k=L.length:=by omega
  have af:¬ (k:Int)<(L.length:Int):=by omega
  have HP:He (∃ ra rc,Ending.returned (.slice va (nU s L k).length vc)=.returned (.slice ra (vL s L).length rc)/\He (dF wr ra rc (vL s L))/\Below w.heap.size w wr):=by
   rw [HE.o,<- ag];exact ⟨va,vc,rfl,I,hB⟩
  clear HO I HE ag;go_wp2
  go_ret;exact HP.o
def DT (w:World)(x:Ending)(w':World):Prop :=
 ∃ a n cap E sa sc s ev pa cp aa ca ga cg,x=.returned (.tuple #[.agg #[.slice a n cap],.slice sa (List.length s) sc,Ev.val' ev pa cp aa ca ga cg])/\He (dW w' a n cap E/\dF w' sa sc s/\cI w' ev pa cp aa ca ga cg)/\Below w.heap.size w w'
theorem OT {a0:Option Addr}{n0 ao:Nat}(w:World)(bj:n0<=maxLen)(au:He (Calls prog 4 #[.slice a0 n0 ao] w (DT w))) :
  Calls prog 3 #[.slice a0 n0 ao] w fun e w'=>e=.returned (.bool true)/\Below w.heap.size w w':=by
 have cb:(n0:Int)<=9223372036854775807:=by unfold maxLen at bj;omega
 by_cases b6:1048576<n0
 ·have bw:(1048576:Int)<(n0:Int):=by omega
  clear au
  go_enter func3,ntmps3
  go_wp2
  go_ret;exact ⟨rfl,kB⟩
 have bw:¬ (1048576:Int)<(n0:Int):=by omega
 go_enter func3,ntmps3
 go_wp2_with fail
 refine au.o.mono ?_;rintro x w1 ⟨a,n,cap,E,sa,sc,s,e,pa,cp,aa,ca,ga,cg,rfl,H1,a4⟩;clear au;obtain ⟨G,U⟩:∃ G,G=(w1.alloc (.cells #[.slice a n cap] 25)).alloc (.cells (ec e pa cp aa ca ga cg) 30):=⟨_,rfl⟩;unfold Ev.val'
 go_upto_region 4 with fail
 rw [<- U];have ah:Below w1.heap.size w1 G:=by rw [U];exact bA.alloc (by simp) _
 have bz:G.heap.size=w1.heap.size+2:=by rw [U];simp
 have ax:=a4.trans (ah.mono a4.size)
 have H:He (∀ W,Below G.heap.size G W->W.cell? ⟨w1.heap.size,0,none⟩=some (.slice a n cap)/\(∀ o,W.cell? ⟨w1.heap.size+1,o,none⟩=((ec e pa cp aa ca ga cg):Array Value)[o]?)/\dW W a n cap E/\dF W sa sc s/\cI W e pa cp aa ca ga cg/\Below w.heap.size w W):=fun W u=>by
  have hb:=ah.trans (u.mono ah.size);refine ⟨(u.cell (p:=⟨w1.heap.size,0,none⟩) (by show w1.heap.size<_;omega)).trans ?_,fun o=>(u.cell (p:=⟨w1.heap.size+1,o,none⟩) (by show w1.heap.size+1<_;omega)).trans ?_,H1.o.1.below hb,H1.o.2.1.below hb,H1.o.2.2.below hb,ax.trans (u.mono ax.size)⟩
  ·rw [U,World.cell?_alloc_past _ _ _ (by simp)]
   exact kA rfl
  rw [U];exact kA (by simp)
 clear U H1 a4 ah bz ax;have ba:He (∀ W,Below G.heap.size G W->Calls prog 5 #[.agg #[.slice a n cap],.slice sa s.length sc,.agg (ec e pa cp aa ca ga cg)] W fun x w'=>x=.returned (.int .i64 (tP E n s e))/\Below G.heap.size G w'):=fun W u=>(WV e W (H.o W u).2.2.1 (H.o W u).2.2.2.1 (H.o W u).2.2.2.2.1).mono fun _ _ ⟨h1,O⟩=>⟨h1,u.trans (O.mono u.size)⟩
 have an:He (∀ W (ra:Option Addr) (rc:Nat) (l:List aE),Below G.heap.size G W->dF W ra rc l->Calls prog 6 #[.agg #[.slice a n cap],.slice ra l.length rc,.agg (ec e pa cp aa ca ga cg)] W fun x w'=>x=.returned (.int .i64 (tP E n l e))/\Below G.heap.size G w'):=fun W ra rc l u hl=>(WC e W (H.o W u).2.2.1 hl (H.o W u).2.2.2.2.1).mono fun _ _ ⟨h1,O⟩=>⟨h1,u.trans (O.mono u.size)⟩
 have ap:He (∀ W (ra:Option Addr) (rc:Nat) (l:List aE),Below G.heap.size G W->dF W ra rc l->Calls prog 9 #[.agg #[.slice a n cap],.slice ra l.length rc,.string e.sd] W fun x w'=>x=.returned (.int .i64 (sC E n l e.sd))/\Below W.heap.size W w'):=fun W ra rc l u hl=>XS e.sd W (H.o W u).2.2.1 hl
 have bf:He (∀ W,Below G.heap.size G W->Calls prog 10 #[.agg #[.slice a n cap],.slice sa s.length sc,.string e.sd] W fun x w'=>x=.returned (.int .i64 (sC E n s e.sd))/\Below G.heap.size G w'):=fun W u=>(XC e.sd W (H.o W u).2.2.1 (H.o W u).2.2.2.1).mono fun _ _ ⟨h1,O⟩=>⟨h1,u.trans (O.mono u.size)⟩
 have a3:He (e.code=0->∀ W,Below G.heap.size G W->Calls prog 8 #[.agg (ec e pa cp aa ca ga cg)] W fun x w'=>∃ bq oq cq,x=.returned (.slice (some ⟨bq,oq,none⟩) (cD e).length cq)/\He (RQ w' bq oq (cD e))/\Below G.heap.size G w'):=fun hc W u=>(UL e W (H.o W u).2.2.2.2.1 hc).mono fun _ _ ⟨bq,oq,cq,h1,O,h3⟩=>⟨bq,oq,cq,h1,O,u.trans (h3.mono u.size)⟩
 have aw:He (∀ W bq oq cq,Below G.heap.size G W->RQ W bq oq (cD e)->Calls prog 7 #[.slice sa s.length sc,.slice (some ⟨bq,oq,none⟩) (cD e).length cq] W fun x w'=>∃ ra rc,x=.returned (.slice ra (vL s (cD e)).length rc)/\He (dF w' ra rc (vL s (cD e)))/\Below G.heap.size G w'):=fun W bq oq cq u hq=>(WM W (H.o W u).2.2.2.1 hq (nZ (NK e) (by decide))).mono fun _ _ ⟨ra,rc,h1,O,h3⟩=>⟨ra,rc,h1,O,u.trans (h3.mono u.size)⟩
 have HA:He (tP E n s e≠99->e.code=0/\tP E n (vL s (cD e)) e=tP E n s e/\(dV e=false->sC E n (vL s (cD e)) e.sd=sC E n s e.sd)):=fun b2=>by
  by_cases ai:e.code=0/\(aF E n && dY E n s)=true
  ·have O:=ai.2
   rw [Bool.and_eq_true] at O;exact ⟨ai.1,VO ai.1 O.1 O.2⟩
  exact absurd (if_neg ai) b2
 have HE:∀ W,Below G.heap.size G W->W.cell? ⟨w1.heap.size,0,none⟩=some (.slice a n cap)/\W.cell? ⟨w1.heap.size+1,0,none⟩=some (.string e.id)/\W.cell? ⟨w1.heap.size+1,1,none⟩=some (.string e.sd)/\W.cell? ⟨w1.heap.size+1,2,none⟩=some (.string e.ty)/\W.cell? ⟨w1.heap.size+1,3,none⟩=some (.bool e.st)/\W.cell? ⟨w1.heap.size+1,4,none⟩=some (.string e.key)/\W.cell? ⟨w1.heap.size+1,5,none⟩=some (.int .i64 e.tm)/\W.cell? ⟨w1.heap.size+1,6,none⟩=some (.slice pa e.np cp)/\W.cell? ⟨w1.heap.size+1,7,none⟩=some (.slice aa e.na ca)/\W.cell? ⟨w1.heap.size+1,8,none⟩=some (.string e.val)/\W.cell? ⟨w1.heap.size+1,9,none⟩=some (.slice ga e.ng cg):=fun W u=>⟨(H.o W u).1,(H.o W u).2.1 0,(H.o W u).2.1 1,(H.o W u).2.1 2,(H.o W u).2.1 3,(H.o W u).2.1 4,(H.o W u).2.1 5,(H.o W u).2.1 6,(H.o W u).2.1 7,(H.o W u).2.1 8,(H.o W u).2.1 9⟩
 have HF:He (∀ W,Below G.heap.size G W->dF W sa sc s/\Below w.heap.size w W):=fun W u=>⟨(H.o W u).2.2.2.1,(H.o W u).2.2.2.2.2⟩
 have I:He (_):=HE;clear H HE;obtain ⟨y,c0,c1,c2,c3,c4,c5,c6,c7,c8,c9⟩:=I.o G kB
 go_wp2_with fail
 refine (ba.o G kB).mono ?_;rintro x w2 ⟨rfl,aj⟩;clear y c0 c1 c2 c3 c4 c5 c6 c7 c8 c9;obtain ⟨y,c0,c1,c2,c3,c4,c5,c6,c7,c8,c9⟩:=I.o w2 aj
 go_wp2_with fail
 refine (an.o w2 sa sc s aj (HF.o w2 aj).1).mono ?_;rintro x w3 ⟨rfl,Y⟩;clear y c0 c1 c2 c3 c4 c5 c6 c7 c8 c9 aj
 by_cases bi:tP E n s e=99
 ·have HZ:=(HF.o w3 Y).2
  have br:He (Below w.heap.size w w3):=HZ;rw [bi];clear HZ HF ba an ap bf a3 aw HA I Y;go_wp2
  go_ret;exact ⟨rfl,br.o⟩
 obtain ⟨bv,bk,ae⟩:=HA.o bi;have aq:He (dV e=false->sC E n (vL s (cD e)) e.sd=sC E n s e.sd):=ae;obtain ⟨y,c0,c1,c2,c3,c4,c5,c6,c7,c8,c9⟩:=I.o w3 Y;clear HA ae;generalize tP E n s e=z at *
 go_wp2_with fail
 refine (a3.o bv w3 Y).mono ?_;rintro x w4 ⟨bq,oq,cq,rfl,hq,bm⟩;clear y c0 c1 c2 c3 c4 c5 c6 c7 c8 c9 Y a3
 go_wp2_with fail
 refine (aw.o w4 bq oq cq bm hq.o).mono ?_;rintro x w5 ⟨ra,rc,rfl,hr,ab⟩;clear bm hq aw;obtain ⟨y,c0,c1,c2,c3,c4,c5,c6,c7,c8,c9⟩:=I.o w5 ab
 go_wp2_with fail
 refine (ap.o w5 ra rc _ ab hr.o).mono ?_;rintro x w6 ⟨rfl,Z⟩;have J:=ab.trans (Z.mono ab.size);have am:He (dF w6 ra rc (vL s (cD e))):=hr.o.below Z;clear y c0 c1 c2 c3 c4 c5 c6 c7 c8 c9 ab hr Z;obtain ⟨y,c0,c1,c2,c3,c4,c5,c6,c7,c8,c9⟩:=I.o w6 J;cases hcr:dV e
 ·have hty:(e.ty.toList == [99,114,101,97,116,101])=false:=hcr
  have ae:=aq.o hcr;obtain ⟨lv,a2⟩:∃ lv,lv=sC E n s e.sd:=⟨_,rfl⟩;rw [ae,<- a2];have bg:He (lv=sC E n s e.sd):=a2;clear hcr ae aq a2
  go_wp2_with fail
  refine (ap.o w6 sa sc s J (HF.o w6 J).1).mono ?_;rintro x w7 ⟨bb,ad⟩;have ay:=J.trans (ad.mono J.size);have bo:He (dF w7 ra rc (vL s (cD e))):=am.o.below ad;rw [<- bg.o] at bb;subst bb;clear y c0 c1 c2 c3 c4 c5 c6 c7 c8 c9 J ad am;obtain ⟨y,c0,c1,c2,c3,c4,c5,c6,c7,c8,c9⟩:=I.o w7 ay
  go_wp2_with fail
  refine (an.o w7 ra rc _ ay bo.o).mono ?_;rintro x w8 ⟨rfl,N⟩;rw [bk];clear y c0 c1 c2 c3 c4 c5 c6 c7 c8 c9 ay bo;obtain ⟨y,c0,c1,c2,c3,c4,c5,c6,c7,c8,c9⟩:=I.o w8 N
  go_wp2_with fail
  refine (bf.o w8 N).mono ?_;rintro x w9 ⟨bc,bn⟩;rw [<- bg.o] at bc;subst bc;have HZ:He (Below w.heap.size w w9):=(HF.o w9 bn).2;clear y c0 c1 c2 c3 c4 c5 c6 c7 c8 c9 N bn;go_wp2
  go_ret;exact ⟨rfl,HZ.o⟩
 have hty:(e.ty.toList == [99,114,101,97,116,101])=true:=hcr;clear hcr aq;generalize sC E n (vL s (cD e)) e.sd=lv at *
 go_wp2_with fail
 refine (an.o w6 ra rc _ J am.o).mono ?_;rintro x w8 ⟨rfl,N⟩;rw [bk];clear y c0 c1 c2 c3 c4 c5 c6 c7 c8 c9 J am;obtain ⟨y,c0,c1,c2,c3,c4,c5,c6,c7,c8,c9⟩:=I.o w8 N;have HZ:He (Below w.heap.size w w8):=(HF.o w8 N).2;go_wp2
 go_ret;exact ⟨rfl,HZ.o⟩
end Go.Proofs.YtpfeegcdlikegaaGreat
