import Derived.Test.YtpfeegcdlikegaaGreatPoFZ
set_option maxHeartbeats 16000000
set_option maxRecDepth 100000
namespace Go.Proofs.YtpfeegcdlikegaaGreat
open Go.RowKit Go.Proofs.Tryz
variable {W w W' w':World}{a aa ga pa sa:Option Addr}{n ca cg cp ll sc cap:Nat}{o:dI}{E:Nat->Ev}{l:List aE}{e:Ev}
def QW (w:World)(o:Option Ev)(x:Ending)(w':World):Prop:=Below w.heap.size w w' /\
 ((o=none/\x=.returned (.tuple #[II,.bool false]))\/∃ ev,o=some ev/\∃ pa cp aa ca ga cg,x=.returned (.tuple #[ev.val' pa cp aa ca ga cg,.bool true])/\cI w' ev pa cp aa ca ga cg)
def rA:Ev:=⟨⟨#[]⟩,⟨#[]⟩,⟨#[]⟩,⟨#[]⟩,⟨#[]⟩,false,0,0,0,0,fun _=>⟨#[]⟩,fun _=>⟨#[]⟩,fun _=>⟨#[]⟩,fun _=>0⟩
theorem WP (w:World):cI w rA none 0 none 0 none 0 :=
 ⟨by decide,by decide,by decide,by decide,by decide,⟨nL,by decide,fun i hi=>absurd hi (Nat.not_lt_zero _),Or.inl rfl⟩,⟨nL,by decide,fun i hi=>absurd hi (Nat.not_lt_zero _),Or.inl rfl⟩,⟨nL,by decide,fun i hi=>absurd hi (Nat.not_lt_zero _),Or.inl rfl⟩⟩
theorem QW.get {o:Option Ev}{x:Ending}(h:QW w o x w'):Below w.heap.size w w'/\∃ pa cp aa ca ga cg,x=.returned (.tuple #[(o.getD rA).val' pa cp aa ca ga cg,.bool o.isSome])/\cI w' (o.getD rA) pa cp aa ca ga cg:=by
 obtain ⟨hb,h⟩:=h;refine ⟨hb,?_⟩;rcases h with ⟨rfl,rfl⟩|⟨ev,rfl,r⟩
 ·exact ⟨_,_,_,_,_,_,rfl,WP w'⟩
 exact r
structure nX (w:World)(a:Option Addr)(n cap:Nat)(sa:Option Addr)(ll sc:Nat)(o:dI):Prop where
 ev:∀ W kind key,Below w.heap.size w W->Calls prog 46 #[.agg #[.slice a n cap],.slice sa ll sc,.string kind,.string key] W (QW W (o kind key))
 lv:∀ W u,Below w.heap.size w W->Calls prog 33 #[.agg #[.slice a n cap],.slice sa ll sc,.string u] W fun e w'=>e=.returned (.int .i64 (dL o u))/\Below W.heap.size W w'
theorem nX.below (h:nX w a n cap sa ll sc o)(hb:Below w.heap.size w w'):nX w' a n cap sa ll sc o :=
 ⟨fun W kind key G=>h.ev W kind key (hb.trans (G.mono hb.size)),fun W u G=>h.lv W u (hb.trans (G.mono hb.size))⟩
theorem rJ (h:dW w a n cap E)(J:dF w sa sc l):nX w a n cap sa l.length sc (iZ E n l):=by
 refine ⟨fun W kind key G=>(DP kind key W (h.below G) (J.below G)).mono fun e w' ⟨H,I⟩=>⟨H,?_⟩,fun W u G=>(QT u W (h.below G) (J.below G)).mono fun e w' ⟨H,I⟩=>⟨by rw [xK];exact H,I⟩⟩;rcases I with ⟨N,rfl⟩|⟨q,hq,r⟩
 ·exact Or.inl ⟨if_neg (by omega),rfl⟩
 refine Or.inr ⟨E q,?_,r⟩;unfold iZ;rw [hq,if_pos (by omega),Int.toNat_natCast]
theorem xR (u:ByteArray)(w:World)(U:nX w a n cap sa ll sc o) :
  Calls prog 48 #[.agg #[.slice a n cap],.slice sa ll sc,.string u] w fun e w'=>e=.returned (.string (memO o u))/\Below w.heap.size w w':=by
 have I:∀ o,Below w.heap.size w (w.alloc o):=fun o=>bA
 have Y:He (∀ W,Below w.heap.size w W->Calls prog 46 #[.agg #[.slice a n cap],.slice sa ll sc,.string dK,.string u] W (QW W (o dK u))):=fun W Z=>U.ev W dK u Z
 have J:He (memO o u=match o dK u with|some m=>m.val|none=>rX):=rfl;generalize memO o u=v at *;generalize o dK u=x at *;clear U
 go_enter func48,ntmps48
 go_wp2_with fail
 refine (Y.o _ (I _)).mono ?_;rintro e w1 ⟨H,hq⟩;have G:=(I _).trans (H.mono (by simp));rcases hq with ⟨rfl,rfl⟩|⟨m,rfl,pa,cp,aa,ca,ga,cg,rfl,N⟩
 ·have O:He (v=rX):=J.o
  clear J H;go_wp2
  go_ret;exact ⟨by rw [O.o];rfl,G.alloc G.size _⟩
 have O:He (v=m.val):=J.o;clear J H N;go_wp2
 go_ret;exact ⟨by rw [O.o];rfl,G.alloc G.size _⟩
theorem oL (t:ByteArray)(ht:t.size<=1000)(w:World)(Z:nX w a n cap sa ll sc o) :
  Calls prog 50 #[.agg #[.slice a n cap],.slice sa ll sc,.string t] w fun e w'=>e=.returned (.int .i64 (gA o t))/\Below w.heap.size w w':=by
 have I:∀ o,Below w.heap.size w (w.alloc o):=fun o=>bA
 have HP:He (∀ W,Below w.heap.size w W->Calls prog 46 #[.agg #[.slice a n cap],.slice sa ll sc,.string aX,.string aJ] W (QW W (o aX aJ))):=fun W O=>Z.ev W aX aJ O
 have J:He (gA o t=match o aX aJ with|some p=>(gV p.M p.L (⟨#[42]⟩ ++ t) p.ng).getD (DE o t)|none=>DE o t):=rfl;have Y:He (DE o t=if bH t || sP t || (sW t && (o aX aJ).isSome) then 50 else 0):=rfl;generalize gA o t=v at *;generalize DE o t=d at *;generalize o aX aJ=x at *;clear Z
 go_enter func50,ntmps50
 go_wp2_with fail
 refine (HP.o _ (I _)).mono ?_;rintro e w1 ⟨G,hq⟩;have u:=(I _).trans (G.mono (by simp));cases hB:bH t <;> cases hK:sP t <;> cases hS:sW t
 all_goals
  rw [hB,hK,hS] at Y;unfold bH at hB;unfold sP at hK;unfold sW at hS;rcases hq with ⟨rfl,rfl⟩|⟨m,rfl,pa,cp,aa,ca,ga,cg,rfl,H⟩
  ·have U:He (v=d):=J.o
   clear J G;go_wp2
   go_ret;exact ⟨aA (by rw [U.o,Y.o];rfl),u.alloc u.size _⟩
  have U:He (v=(gV m.M m.L (⟨#[42]⟩ ++ t) m.ng).getD d):=J.o;have HG:He (∀ W,Below w1.heap.size w1 W->Calls prog 51 #[.slice ga m.ng cg,.string (⟨#[42]⟩ ++ t)] W fun e w'=>e=.returned (fQ (gV m.M m.L (⟨#[42]⟩ ++ t) m.ng))/\w'=W):=fun W O=>mR _ W (H.hg.below O)
  have N:∀ o,Below w1.heap.size w1 (w1.alloc o):=fun o=>bA
  clear J G H
  go_wp2_with fail
  refine (HG.o _ (N _)).mono ?_;rintro e w2 ⟨rfl,rfl⟩;cases hg:gV m.M m.L (⟨#[42]⟩ ++ t) m.ng
  all_goals
   have Hg:He (_=_):=hg;clear hg;unfold fQ;simp only [Option.getD_some,Option.getD_none,Option.isSome_some,Option.isSome_none];go_wp2
   go_ret;exact ⟨aA (by rw [U.o,Hg.o];first|rfl|(rw [Y.o];rfl)),u.alloc u.size _⟩
structure GU (w W:World)(a:Option Addr)(n cap:Nat)(e:Ev)(pa:Option Addr)(cp:Nat)(aa:Option Addr)(ca:Nat)(ga:Option Addr)(cg:Nat):Prop where
 bl:Below w.heap.size w W
 sz:w.heap.size+2<=W.heap.size
 r:∀ o,W.cell? ⟨w.heap.size,o,none⟩=(#[.slice a n cap]:Array Value)[o]?
 c:∀ o,W.cell? ⟨w.heap.size+1,o,none⟩=((ec e pa cp aa ca ga cg):Array Value)[o]?
theorem GU.start (w:World)(a:Option Addr)(n cap:Nat)(e:Ev)(pa:Option Addr)(cp:Nat)(aa:Option Addr)(ca:Nat)(ga:Option Addr)(cg:Nat)(t u:TypeId):GU w ((w.alloc (.cells #[.slice a n cap] t)).alloc (.cells (ec e pa cp aa ca ga cg) u)) a n cap e pa cp aa ca ga cg:=by
 refine ⟨bA.alloc (by simp) _,by simp,fun o=>?_,fun o=>?_⟩
 ·have G:Below (w.heap.size+1) (w.alloc (.cells #[.slice a n cap] t)) ((w.alloc (.cells #[.slice a n cap] t)).alloc (.cells (ec e pa cp aa ca ga cg) u)):=kB.alloc (by simp) _
  exact aK G o
 exact kA (by simp)
theorem GU.call (h:GU w W a n cap e pa cp aa ca ga cg)(hb:Below W.heap.size W W'):GU w W' a n cap e pa cp aa ca ga cg :=
 ⟨h.bl.trans (hb.mono h.bl.size),nZ h.sz hb.size,fun o=>(hb.cell (by have:=h.sz;simp;omega)).trans (h.r o),fun o=>(hb.cell (by have:=h.sz;simp;omega)).trans (h.c o)⟩
theorem GU.alloc (h:GU w W a n cap e pa cp aa ca ga cg)(o:Obj):GU w (W.alloc o) a n cap e pa cp aa ca ga cg:=h.call bA
theorem SF (e:Ev)(pa:Option Addr)(cp:Nat)(aa:Option Addr)(ca:Nat)(ga:Option Addr)(cg:Nat)(w:World)(hV:nX w a n cap sa ll sc o)(hc:(o bJ aJ).isSome=true) :
  Calls prog 47 #[.agg #[.slice a n cap],.slice sa ll sc,e.val' pa cp aa ca ga cg] w fun x w'=>x=.returned (.int .i64 (LP o e))/\Below w.heap.size w w':=by
 have HM:He (∀ W,Below w.heap.size w W->Calls prog 48 #[.agg #[.slice a n cap],.slice sa ll sc,.string e.key] W fun x w'=>x=.returned (.string (memO o e.key))/\Below W.heap.size W w'):=fun W hW=>xR e.key W (hV.below hW)
 have HR:He (∀ W,Below w.heap.size w W->Calls prog 46 #[.agg #[.slice a n cap],.slice sa ll sc,.string lB,.string aJ] W (QW W (o lB aJ))):=fun W hW=>hV.ev W lB aJ hW
 have HC:He (∀ W,Below w.heap.size w W->Calls prog 46 #[.agg #[.slice a n cap],.slice sa ll sc,.string bJ,.string aJ] W (QW W (o bJ aJ))):=fun W hW=>hV.ev W bJ aJ hW
 have HE:He (∀ W,Below w.heap.size w W->Calls prog 46 #[.agg #[.slice a n cap],.slice sa ll sc,.string dK,.string e.key] W (QW W (o dK e.key))):=fun W hW=>hV.ev W dK e.key hW
 have Hv:He (LP o e=if (e.sd.toList == e.key.toList)=false then 3 else if bH (memO o e.key) then 4 else if lD (memO o e.key) || rW o || (oB o e.sd && (o dK e.key).isNone) then 0 else 5):=rfl;have Hp:He (rW o=((o lB aJ).isSome && AU ((o lB aJ).getD rA).val)):=by unfold He rW;cases o lB aJ <;> rfl
 have Hc:He (oB o e.sd=(e.sd.toList == ((o bJ aJ).getD rA).sd.toList)):=by
  unfold He oB
  cases hx:o bJ aJ with
  | none=>rw [hx] at hc;cases hc
  | some c=>exact Bool.beq_comm
 have Hn:He ((o dK e.key).isNone=!(o dK e.key).isSome):=by unfold He;cases o dK e.key <;> rfl
 generalize memO o e.key=t at *;generalize LP o e=v at *;generalize rW o=pb at *;generalize oB o e.sd=cb at *;generalize o lB aJ=xr at *;generalize o dK e.key=xm at *;generalize o bJ aJ=xc at *;clear hV hc
 go_enter func47,ntmps47
 go_wp2_with fail
 have aj:=GU.start w a n cap e pa cp aa ca ga cg 25 30;refine (HM.o _ aj.bl).mono ?_;rintro x w1 ⟨rfl,a8⟩;have u:=aj.call a8;clear aj a8;have hr:=u.r;have he:=u.c;cases hk:(e.sd.toList == e.key.toList)
 case false =>
  have Hz:He (v=3):=by unfold He;rw [Hv.o,if_pos hk]
  clear Hv;go_wp2
  go_ret;exact ⟨aA Hz.o.symm,u.bl⟩
 case true =>
  cases hB:bH t
  case true =>
   have Hz:He (v=4):=by unfold He;rw [Hv.o,hk,hB];rfl
   unfold bH at hB;clear Hv;go_wp2
   go_ret;exact ⟨aA Hz.o.symm,u.bl⟩
  case false =>
   have Hu:He (v=if lD t || pb || (cb && xm.isNone) then 0 else 5):=by unfold He;rw [Hv.o,hk,hB];rfl
   unfold bH at hB;clear Hv
   go_wp2_with fail
   refine (HR.o _ u.bl).mono ?_;intro x w2 ay;obtain ⟨ad,pr,cr,ar,ae,gr,af,rfl,-⟩:=ay.get;clear hr he ay HR HM;generalize xr.getD rA=r at *;generalize xr.isSome=br at *;obtain ⟨W2,O⟩:∃ W2,W2=w2.alloc (.cells (ec r pr cr ar ae gr af) 30):=⟨_,rfl⟩;have I:GU w W2 a n cap e pa cp aa ca ga cg:=by rw [O];exact (u.call ad).alloc _
   have f2:∀ o,W2.cell? ⟨w2.heap.size,o,none⟩=((ec r pr cr ar ae gr af):Array Value)[o]?:=fun o=>by rw [O];exact kA rfl
   have bq:w2.heap.size<W2.heap.size:=by rw [O];simp
   have ci:=(u.call ad).sz;have ak:∀ o Z,(w2.alloc Z).cell? ⟨w.heap.size,o,none⟩=(#[.slice a n cap]:Array Value)[o]?:=fun o Z=>((u.call ad).alloc Z).r o
   have J:∀ Z,Below w.heap.size w (w2.alloc Z):=fun Z=>((u.call ad).alloc Z).bl
   go_wp2_with fail
   refine (HC.o _ (J _)).mono ?_;rw [<- O];clear ak J O;intro x w3 a4;obtain ⟨G,pc,cc,ac,an,gc,ai,rfl,-⟩:=a4.get;clear a4 HC;generalize xc.getD rA=c at *;generalize xc.isSome=bc at *;obtain ⟨W3,H⟩:∃ W3,W3=w3.alloc (.cells (ec c pc cc ac an gc ai) 30):=⟨_,rfl⟩;have a5:GU w W3 a n cap e pa cp aa ca ga cg:=by rw [H];exact (I.call G).alloc _
   have U:Below W2.heap.size W2 W3:=by rw [H];exact G.alloc G.size _
   have g3:∀ o,W3.cell? ⟨w3.heap.size,o,none⟩=((ec c pc cc ac an gc ai):Array Value)[o]?:=fun o=>by rw [H];exact kA rfl
   have bu:w3.heap.size<W3.heap.size:=by rw [H];simp
   have f3:∀ o,W3.cell? ⟨w2.heap.size,o,none⟩=((ec r pr cr ar ae gr af):Array Value)[o]?:=fun o=>(U.cell (by exact bq)).trans (f2 o)
   have ak:∀ o Z,(w3.alloc Z).cell? ⟨w.heap.size,o,none⟩=(#[.slice a n cap]:Array Value)[o]?:=fun o Z=>((I.call G).alloc Z).r o
   have a2:∀ Z,(w3.alloc Z).cell? ⟨w.heap.size+1,4,none⟩=some (.string e.key):=fun Z=>((I.call G).alloc Z).c 4
   have J:∀ Z,Below w.heap.size w (w3.alloc Z):=fun Z=>((I.call G).alloc Z).bl
   have ck:=(I.call G).sz;have bo:w.heap.size≠w3.heap.size:=by omega
   have bn:w.heap.size+1≠w3.heap.size:=by omega
   clear f2
   go_wp2_with fail
   refine (HE.o _ (J _)).mono ?_;rw [<- H];clear ak a2 J H G;intro x Y a6;obtain ⟨N,pm,cm,am,cn,gm,cf,rfl,-⟩:=a6.get;clear a6 HE;generalize xm.getD rA=m at *;have Hx:He (xm.isNone=!xm.isSome):=Hn;generalize xm.isSome=bm at *;have b9:=U.size;have b7:=N.size;have ab:=a5.call N;have au:∀ o,Below Y.heap.size Y (Y.alloc o):=fun o=>bA
   have f4:∀ o Z,(Y.alloc Z).cell? ⟨w2.heap.size,o,none⟩=((ec r pr cr ar ae gr af):Array Value)[o]?:=fun o Z=>((au Z).cell (by simp;omega)).trans ((N.cell (by simp;omega)).trans (f3 o))
   have g4:∀ o Z,(Y.alloc Z).cell? ⟨w3.heap.size,o,none⟩=((ec c pc cc ac an gc ai):Array Value)[o]?:=fun o Z=>((au Z).cell (by simp;omega)).trans ((N.cell (by exact bu)).trans (g3 o))
   have a2:∀ Z,(Y.alloc Z).cell? ⟨w.heap.size+1,1,none⟩=some (.string e.sd):=fun Z=>(ab.alloc Z).c 1
   have f8:=f4 8;have g1:=g4 1;have ao:∀ Z,Below w.heap.size w (Y.alloc Z):=fun Z=>(ab.alloc Z).bl
   have cj:=ab.sz;have cd:w2.heap.size≠Y.heap.size:=by omega
   have ch:w3.heap.size≠Y.heap.size:=by omega
   have ce:w.heap.size+1≠Y.heap.size:=by omega
   clear bo bn f3 g3 f4 g4 I a5 ab u au U N;unfold lD at Hu;cases hJ:bG t
   case true =>
    have Hz:He (v=0):=by unfold He;rw [Hu.o,hJ];rfl
    unfold bG at hJ;clear Hu Hp Hc Hx Hn;go_wp2
    go_ret;exact ⟨aA Hz.o.symm,ao _⟩
   case false =>
   cases hI:eU t
   case true =>
    have Hz:He (v=0):=by unfold He;rw [Hu.o,hJ,hI];rfl
    unfold bG at hJ;unfold eU at hI;clear Hu Hp Hc Hx Hn;go_wp2
    go_ret;exact ⟨aA Hz.o.symm,ao _⟩
   case false =>
   have Hw:He (v=if (br && AU r.val) || ((e.sd.toList == c.sd.toList) && !bm) then 0 else 5):=by unfold He;rw [Hu.o,hJ,hI,Hp.o,Hc.o,Hx.o];rfl
   unfold bG at hJ;unfold eU at hI;clear Hu Hp Hc Hx Hn;cases br <;> cases hP:AU r.val <;> cases hS:(e.sd.toList == c.sd.toList) <;> cases bm
   all_goals
    rw [hP,hS] at Hw;unfold AU at hP;go_wp2
    go_ret;exact ⟨aA (by rw [Hw.o];rfl),ao _⟩
theorem UA (e:Ev)(pa:Option Addr)(cp:Nat)(aa:Option Addr)(ca:Nat)(ga:Option Addr)(cg:Nat)(w:World)(hV:nX w a n cap sa ll sc o) :
  Calls prog 49 #[.agg #[.slice a n cap],.slice sa ll sc,e.val' pa cp aa ca ga cg] w fun x w'=>x=.returned (.int .i64 (LF o e))/\Below w.heap.size w w':=by
 have HM:He (∀ W,Below w.heap.size w W->Calls prog 48 #[.agg #[.slice a n cap],.slice sa ll sc,.string e.key] W fun x w'=>x=.returned (.string (memO o e.key))/\Below W.heap.size W w'):=fun W hW=>xR e.key W (hV.below hW)
 have HL:He (∀ W,Below w.heap.size w W->Calls prog 33 #[.agg #[.slice a n cap],.slice sa ll sc,.string e.sd] W fun x w'=>x=.returned (.int .i64 (dL o e.sd))/\Below W.heap.size W w'):=fun W hW=>hV.lv W e.sd hW
 have HK:He (∀ W,Below w.heap.size w W->Calls prog 33 #[.agg #[.slice a n cap],.slice sa ll sc,.string e.key] W fun x w'=>x=.returned (.int .i64 (dL o e.key))/\Below W.heap.size W w'):=fun W hW=>hV.lv W e.key hW
 have HI:He (∀ W,Below w.heap.size w W->Calls prog 50 #[.agg #[.slice a n cap],.slice sa ll sc,.string oI] W fun x w'=>x=.returned (.int .i64 (gA o oI))/\Below W.heap.size W w'):=fun W hW=>oL oI (by decide) W (hV.below hW)
 have HB:He (∀ W,Below w.heap.size w W->Calls prog 50 #[.agg #[.slice a n cap],.slice sa ll sc,.string jZ] W fun x w'=>x=.returned (.int .i64 (gA o jZ))/\Below W.heap.size W w'):=fun W hW=>oL jZ (by decide) W (hV.below hW)
 have HQ:He (∀ W,Below w.heap.size w W->Calls prog 50 #[.agg #[.slice a n cap],.slice sa ll sc,.string tQ] W fun x w'=>x=.returned (.int .i64 (gA o tQ))/\Below W.heap.size W w'):=fun W hW=>oL tQ (by decide) W (hV.below hW)
 have Hv:He (LF o e=if eU e.val then (if bG (memO o e.key) || bH (memO o e.key) then 7 else if dL o e.sd<gA o oI then 8 else 0) else if (bH e.val || bH (memO o e.key)) && decide (dL o e.sd<gA o jZ) then 8 else if bX e.val && decide (dL o e.sd<gA o tQ) then 8 else if dL o e.sd<=dL o e.key then 9 else 0):=rfl;generalize memO o e.key=t at *;generalize LF o e=v at *;generalize dL o e.sd=own at *;generalize dL o e.key=lk at *;generalize gA o oI=xi at *;generalize gA o jZ=xb at *;generalize gA o tQ=xk at *;clear hV
 go_enter func49,ntmps49
 go_wp2_with fail
 have a2:=GU.start w a n cap e pa cp aa ca ga cg 25 30;refine (HM.o _ a2.bl).mono ?_;rintro x w1 ⟨rfl,a8⟩;have ao:=a2.call a8;clear a2 a8 HM;have hr:=ao.r;have he:=ao.c
 go_wp2_with fail
 refine (HL.o _ ao.bl).mono ?_;rintro x w2 ⟨rfl,a4⟩;have O:=ao.call a4;clear ao a4 HL hr he;have hr:=O.r;have he:=O.c;cases hI:eU e.val
 case true =>
  rw [hI] at Hv;unfold eU at hI;cases hJ:bG t
  case true =>
   have Hz:He (v=7):=by unfold He;rw [Hv.o,hJ];rfl
   unfold bG at hJ;clear Hv;go_wp2
   go_ret;exact ⟨aA Hz.o.symm,O.bl⟩
  case false =>
  cases hB:bH t
  case true =>
   have Hz:He (v=7):=by unfold He;rw [Hv.o,hJ,hB];rfl
   unfold bG at hJ;unfold bH at hB;clear Hv;go_wp2
   go_ret;exact ⟨aA Hz.o.symm,O.bl⟩
  case false =>
  have Hz:He (v=if own<xi then 8 else 0):=by unfold He;rw [Hv.o,hJ,hB];rfl
  unfold bG at hJ;unfold bH at hB;clear Hv
  go_wp2_with fail
  refine (HI.o _ O.bl).mono ?_;rintro x w3 ⟨rfl,ab⟩;have a6:=(O.call ab).bl;clear hr he HI HB HQ HK O ab
  by_cases Y:own<xi
  ·have G:He (v=8):=by unfold He;rw [Hz.o,if_pos Y]
   clear Hz;go_wp2
   go_ret;exact ⟨aA G.o.symm,a6⟩
  have G:He (v=0):=by unfold He;rw [Hz.o,if_neg Y]
  clear Hz;go_wp2
  go_ret;exact ⟨aA G.o.symm,a6⟩
 case false =>
 rw [hI] at Hv;unfold eU at hI;cases hV:bH e.val
 case true =>
  have Hb:He (v=if decide (own<xb) then 8 else if bX e.val && decide (own<xk) then 8 else if own<=lk then 9 else 0):=by unfold He;rw [Hv.o,hV];rfl
  unfold bH at hV;clear Hv
  go_wp2_with fail
  refine (HB.o _ O.bl).mono ?_;rintro x w3 ⟨rfl,ab⟩;have u:=O.call ab;clear hr he O ab;have Z:=u.r;have ae:=u.c
  by_cases ak:own<xb
  ·have G:He (v=8):=by unfold He;rw [Hb.o,decide_eq_true ak];rfl
   clear Hb;go_wp2
   go_ret;exact ⟨aA G.o.symm,u.bl⟩
  have Ht:He (v=if bX e.val && decide (own<xk) then 8 else if own<=lk then 9 else 0):=by unfold He;rw [Hb.o,decide_eq_false ak];rfl
  clear Hb;cases hL:bX e.val
  case true =>
   have Hu:He (v=if decide (own<xk) then 8 else if own<=lk then 9 else 0):=by unfold He;rw [Ht.o,hL];rfl
   unfold bX at hL;clear Ht
   go_wp2_with fail
   refine (HQ.o _ u.bl).mono ?_;rintro x w4 ⟨rfl,ad⟩;have H:=u.call ad;clear Z ae ad u;have am:=H.r;have an:=H.c
   by_cases Y:own<xk
   ·have G:He (v=8):=by unfold He;rw [Hu.o,decide_eq_true Y];rfl
    clear Hu;go_wp2
    go_ret;exact ⟨aA G.o.symm,H.bl⟩
   have G:He (v=if own<=lk then 9 else 0):=by unfold He;rw [Hu.o,decide_eq_false Y];rfl
   clear Hu
   go_wp2_with fail
   refine (HK.o _ H.bl).mono ?_;rintro x w5 ⟨rfl,J⟩;have N:=(H.call J).bl;clear am an HK HQ HB HI H J
   by_cases I:own<=lk
   ·have U:He (v=9):=by unfold He;rw [G.o,if_pos I]
    clear G;go_wp2
    go_ret;exact ⟨aA U.o.symm,N⟩
   have U:He (v=0):=by unfold He;rw [G.o,if_neg I]
   clear G;go_wp2
   go_ret;exact ⟨aA U.o.symm,N⟩
  case false =>
   have G:He (v=if own<=lk then 9 else 0):=by unfold He;rw [Ht.o,hL];rfl
   unfold bX at hL;clear Ht
   go_wp2_with fail
   refine (HK.o _ u.bl).mono ?_;rintro x w5 ⟨rfl,J⟩;have N:=(u.call J).bl;clear Z ae HK HQ HB HI u J
   by_cases I:own<=lk
   ·have U:He (v=9):=by unfold He;rw [G.o,if_pos I]
    clear G;go_wp2
    go_ret;exact ⟨aA U.o.symm,N⟩
   have U:He (v=0):=by unfold He;rw [G.o,if_neg I]
   clear G;go_wp2
   go_ret;exact ⟨aA U.o.symm,N⟩
 case false =>
 cases hB:bH t
 case true =>
  have Hb:He (v=if decide (own<xb) then 8 else if bX e.val && decide (own<xk) then 8 else if own<=lk then 9 else 0):=by unfold He;rw [Hv.o,hV,hB];rfl
  unfold bH at hV hB;clear Hv
  go_wp2_with fail
  refine (HB.o _ O.bl).mono ?_;rintro x w3 ⟨rfl,ab⟩;have u:=O.call ab;clear hr he O ab;have Z:=u.r;have ae:=u.c
  by_cases ak:own<xb
  ·have G:He (v=8):=by unfold He;rw [Hb.o,decide_eq_true ak];rfl
   clear Hb;go_wp2
   go_ret;exact ⟨aA G.o.symm,u.bl⟩
  have Ht:He (v=if bX e.val && decide (own<xk) then 8 else if own<=lk then 9 else 0):=by unfold He;rw [Hb.o,decide_eq_false ak];rfl
  clear Hb;cases hL:bX e.val
  case true =>
   have Hu:He (v=if decide (own<xk) then 8 else if own<=lk then 9 else 0):=by unfold He;rw [Ht.o,hL];rfl
   unfold bX at hL;clear Ht
   go_wp2_with fail
   refine (HQ.o _ u.bl).mono ?_;rintro x w4 ⟨rfl,ad⟩;have H:=u.call ad;clear Z ae ad u;have am:=H.r;have an:=H.c
   by_cases Y:own<xk
   ·have G:He (v=8):=by unfold He;rw [Hu.o,decide_eq_true Y];rfl
    clear Hu;go_wp2
    go_ret;exact ⟨aA G.o.symm,H.bl⟩
   have G:He (v=if own<=lk then 9 else 0):=by unfold He;rw [Hu.o,decide_eq_false Y];rfl
   clear Hu
   go_wp2_with fail
   refine (HK.o _ H.bl).mono ?_;rintro x w5 ⟨rfl,J⟩;have N:=(H.call J).bl;clear am an HK HQ HB HI H J
   by_cases I:own<=lk
   ·have U:He (v=9):=by unfold He;rw [G.o,if_pos I]
    clear G;go_wp2
    go_ret;exact ⟨aA U.o.symm,N⟩
   have U:He (v=0):=by unfold He;rw [G.o,if_neg I]
   clear G;go_wp2
   go_ret;exact ⟨aA U.o.symm,N⟩
  case false =>
   have G:He (v=if own<=lk then 9 else 0):=by unfold He;rw [Ht.o,hL];rfl
   unfold bX at hL;clear Ht
   go_wp2_with fail
   refine (HK.o _ u.bl).mono ?_;rintro x w5 ⟨rfl,J⟩;have N:=(u.call J).bl;clear Z ae HK HQ HB HI u J
   by_cases I:own<=lk
   ·have U:He (v=9):=by unfold He;rw [G.o,if_pos I]
    clear G;go_wp2
    go_ret;exact ⟨aA U.o.symm,N⟩
   have U:He (v=0):=by unfold He;rw [G.o,if_neg I]
   clear G;go_wp2
   go_ret;exact ⟨aA U.o.symm,N⟩
 case false =>
  have Ht:He (v=if bX e.val && decide (own<xk) then 8 else if own<=lk then 9 else 0):=by unfold He;rw [Hv.o,hV,hB];rfl
  unfold bH at hV hB;clear Hv;have u:=O;have Z:=hr;have ae:=he;clear O hr he;cases hL:bX e.val
  case true =>
   have Hu:He (v=if decide (own<xk) then 8 else if own<=lk then 9 else 0):=by unfold He;rw [Ht.o,hL];rfl
   unfold bX at hL;clear Ht
   go_wp2_with fail
   refine (HQ.o _ u.bl).mono ?_;rintro x w4 ⟨rfl,ad⟩;have H:=u.call ad;clear Z ae ad u;have am:=H.r;have an:=H.c
   by_cases Y:own<xk
   ·have G:He (v=8):=by unfold He;rw [Hu.o,decide_eq_true Y];rfl
    clear Hu;go_wp2
    go_ret;exact ⟨aA G.o.symm,H.bl⟩
   have G:He (v=if own<=lk then 9 else 0):=by unfold He;rw [Hu.o,decide_eq_false Y];rfl
   clear Hu
   go_wp2_with fail
   refine (HK.o _ H.bl).mono ?_;rintro x w5 ⟨rfl,J⟩;have N:=(H.call J).bl;clear am an HK HQ HB HI H J
   by_cases I:own<=lk
   ·have U:He (v=9):=by unfold He;rw [G.o,if_pos I]
    clear G;go_wp2
    go_ret;exact ⟨aA U.o.symm,N⟩
   have U:He (v=0):=by unfold He;rw [G.o,if_neg I]
   clear G;go_wp2
   go_ret;exact ⟨aA U.o.symm,N⟩
  case false =>
   have G:He (v=if own<=lk then 9 else 0):=by unfold He;rw [Ht.o,hL];rfl
   unfold bX at hL;clear Ht
   go_wp2_with fail
   refine (HK.o _ u.bl).mono ?_;rintro x w5 ⟨rfl,J⟩;have N:=(u.call J).bl;clear Z ae HK HQ HB HI u J
   by_cases I:own<=lk
   ·have U:He (v=9):=by unfold He;rw [G.o,if_pos I]
    clear G;go_wp2
    go_ret;exact ⟨aA U.o.symm,N⟩
   have U:He (v=0):=by unfold He;rw [G.o,if_neg I]
   clear G;go_wp2
   go_ret;exact ⟨aA U.o.symm,N⟩
end Go.Proofs.YtpfeegcdlikegaaGreat
