import Derived.Test.YtpfeegcdlikegaaGreatGvSZ
import Derived.Test.YtpfeegcdlikegaaGreatDgC
import Derived.Test.YtpfeegcdlikegaaGreatAfS
set_option maxHeartbeats 16000000
set_option maxRecDepth 100000
namespace Go.Proofs.YtpfeegcdlikegaaGreat
open Go.RowKit Go.Proofs.Tryz
def GwO (w':World)(lo:Nat)(e:Ev)(pa:Option Addr)(cp:Nat)(aa:Option Addr)(ca:Nat)(ga:Option Addr)(cg:Nat):Prop :=
 bU w' lo (.slice pa e.np cp) e.np e.Pv/\bU w' lo (.slice aa e.na ca) e.na e.Av/\bV w' lo (.slice ga e.ng cg) e.ng e.M e.L/\∀ b,(Value.slice pa e.np cp).ownBlock=some b->(Value.slice aa e.na ca).ownBlock≠some b
theorem OK {w:World}{base base' st n:Nat}{t:TypeId}{v:Value}{xs:List Value}(h:w.ownsRow base t st v n xs)(hb:base'<=base):w.ownsRow base' t st v n xs :=
 ⟨h.1,h.2.imp id fun ⟨g,c,u,a1,H,G⟩=>⟨g,c,u,a1,nZ hb H,G⟩⟩
theorem aH.tt {w:World}{base:Nat}{v:Value}{l:List ByteArray}(h:aH w base v l):bU w base v l.length (aG l):=by
 have e:dT (aG l) l.length=l.map Value.string:=by
  apply List.ext_getElem?;intro i
  by_cases hi:i<l.length
  ·rw [gT _ _ _ hi,List.getElem?_map,List.getElem?_eq_getElem hi]
   simp [aG,hi]
  rw [List.getElem?_eq_none (by rw [dZ];omega),List.getElem?_eq_none (by simp;omega)]
 unfold bU;rw [e];exact h
def pT (p:Nat)(w:World)(bs:Nat->Nat)(m q:Nat)(E:Nat->Ev)(n:Nat)(A:Nat->List aE)(x:Ending)(w':World):Prop :=
 ∃ e pa cp aa ca ga cg,JC bs m q E n A e/\x=.returned (e.val' pa cp aa ca ga cg)/\cI w' e pa cp aa ca ga cg/\RH w.heap.size e pa aa ga/\GwO w' w.heap.size e pa cp aa ca ga cg/\bR p w w' bs m (gwQ bs m q)
def YK (p:Nat)(w:World)(be oe n cap:Nat)(E:Nat->Ev)(G u na:Nat)(A:Nat->List aE)(Aa:Nat->Option Addr)(Ca:Nat->Nat):Prop :=
 ∀ W,w.grownBy W (some p)->dW W (some ⟨be,oe,none⟩) n cap E/\(∀ j,j<n->mT W be (oe+j * 10) (E j))/\∀ j,j<na->W.cell? ⟨G,u+j,none⟩=some (.slice (Aa j) (A j).length (Ca j))/\dF W (Aa j) (Ca j) (A j)
def kZ (p:Nat)(w:World)(bs:Nat->Nat)(m q:Nat)(rv:Value)(B:Nat)(c0:Nat->Value)(k n:Nat)(E:Nat->Ev)(A:Nat->List aE)(Aa:Nat->Option Addr)(Ca:Nat->Nat)(i:Nat)(sv:Value)(wr:World):Prop :=
 ∃ pv,qU p w wr bs m q rv B (fun o=>if o=6 then pv else c0 o) ((kH k n i).map fun j=>(E j).id) sv ((kH k n i).map fun j=>.slice (Aa j) (A j).length (Ca j))
section
variable {p:Nat} {w W:World} {bs:Nat->Nat} {m q:Nat} {rv:Value} {B:Nat} {c0:Nat->Value} {k n:Nat} {E:Nat->Ev} {A:Nat->List aE} {Aa:Nat->Option Addr} {Ca:Nat->Nat} {i:Nat} {sv:Value}
theorem SG (h:nF p w W bs m q rv B c0)(u:c0 6=.slice none 0 0):kZ p w bs m q rv B c0 k n E A Aa Ca 0 (.slice (some ⟨W.heap.size,0,none⟩) 0 0) (W.alloc (.cells #[] 26)):=by
 refine ⟨.slice none 0 0,(h.below bA).congr fun o G=>?_,aH.nil _ _,⟨rfl,Or.inr ⟨W.heap.size,0,#[],rfl,h.hi,by show (W.heap.push _)[W.heap.size]?=_;simp,nL,by decide,rfl,rfl⟩⟩,fun b hb=>by cases hb⟩
 by_cases e:o=6
 ·subst e;rw [if_pos rfl];exact u
 rw [if_neg e]
theorem kZ.below (h:kZ p w bs m q rv B c0 k n E A Aa Ca i sv W){W':World}(hb:Below W.heap.size W W'):kZ p w bs m q rv B c0 k n E A Aa Ca i sv W':=h.imp fun _ h=>h.below hb
theorem ES (h:kZ p w bs m q rv B c0 k n E A Aa Ca i sv W)(u:tZ k n i ∈ kH k n i):kZ p w bs m q rv B c0 k n E A Aa Ca (i+1) sv W:=by
 have:kH k n (i+1)=kH k n i:=by simp [kH,u]
 unfold kZ;rw [this];exact h
theorem JP {pv:Value}(h:qU p w W bs m q rv B (fun o=>if o=6 then pv else c0 o) (((kH k n i).map fun j=>(E j).id) ++ [(E (tZ k n i)).id]) sv (((kH k n i).map fun j=>Value.slice (Aa j) (A j).length (Ca j)) ++ [.slice (Aa (tZ k n i)) (A (tZ k n i)).length (Ca (tZ k n i))]))(u:¬ tZ k n i ∈ kH k n i):kZ p w bs m q rv B c0 k n E A Aa Ca (i+1) sv W:=by
 have:kH k n (i+1)=kH k n i ++ [tZ k n i]:=by simp [kH,u]
 unfold kZ;rw [this,List.map_append,List.map_append];exact ⟨pv,h⟩
theorem VW (hr:aF E n=true)(u:0<n):bD (aG ((kH k n i).map fun j=>(E j).id)) ((kH k n i).map fun j=>(E j).id).length (E (tZ k n i)).id=decide (tZ k n i ∈ kH k n i):=by
 rw [Bool.eq_iff_iff,mN,decide_eq_true_iff,List.mem_map];constructor
 ·rintro ⟨j,G,e⟩
  have H:=aP hr (rQ u i j G);have I:=aP hr (CL (k:=k) (i:=i) u);rw [e,I] at H
  have:tZ k n i=j:=by omega
  rw [this];exact G
 intro h;exact ⟨_,h,rfl⟩
end
def bv0 (p:Nat)(w:World)(bs:Nat->Nat)(m q:Nat)(u:Ev)(pa:Option Addr)(cp:Nat)(x:Ending)(w':World):Prop :=
 ∃ ga cg,x=.returned (.agg #[.string u.id,.string u.sd,.string u.ty,.bool u.st,.string u.key,.int .i64 u.tm,.slice pa u.np cp,.slice none 0 0,.string u.val,.slice ga u.ng cg])/\bV w' w.heap.size (.slice ga u.ng cg) u.ng u.M u.L/\bR p w w' bs m q
def DL:Code->Code
 | .seq _ b=>b
 | c=>c
def OG:Code->Code
 | .seq a _=>a
 | c=>c
def fZ (c:Code):Nat->Code
 | 0=>c
 | n+1=>DL (fZ c n)
theorem YT (p:Nat){bs:Nat->Nat}{m q be oe n cap:Nat}{E:Nat->Ev}{ab ao na sc:Nat}{A:Nat->List aE}{Aa:Nat->Option Addr}{Ca:Nat->Nat}{k B:Nat}{ic us:ByteArray}{pv sv u10 u12 u13 u20 u21 u22 u23 u24 u25 u26 u27 u28 u29 u30 u31 u32 u33 u34 u35 u36 u37 u38 u39 u40 u41 u42 u43 u44 u45 u46 u47 u48 u49 u50 u51 u52 u53 u54 u55 u56 u57 u58 u59 u60 u61 u62 u63 u64 u65 u66 u67 u68 u69 u70 u71 u72 u73 u74 u75 u76 u77 u78 u79 u80 u81 u82 u83 u84 u85 u86 u87 u88 u89 u90 u91 u92 u93 u94 u95 u96 u97 u98 u99 u100 u101 u102 u103 u104 u105 u106 u107 u108 u109 u110 u111 u112 u113 u114 u115 u116 u117 u118 u119 u120 u121 u122 u123 u124 u125 u126 u127 u128 u129 u130 u131 u132 u133 u134 u135 u136 u137 u138 u139 u140 u141 u142 u143 u144 u145 u146 u147 u148 u149 u150 u151 u152 u153 u154 u155 u156 u157 u158 u159 u160 u161 u162 u163 u164 u165 u166 i9 gv fx ji gi g6 gj gs jl gh jf iu i6 gu i5 gt i3 gl hy h9 gz ir hm gd jg g8:Value}{K:Act->World->Prop}(w wr:World)(hp:p<w.heap.size)(hn:0<n)(gy:n<=300)(hk:k<256)(Hk:He (k=eD bs m q))(gn:He (ic=LH k n))(nv:ic.size<=100)(lj:He (us=vR (k / 4 % 16 % 5)))(hna:n<=na)(_hna2:na<=2 ^ 63 - 1)(_hcapn:n<=cap/\cap<=2 ^ 63 - 1)(N:He (aF E n=true))(Hf:He (∀ j,j<n->bB E n (A j)))(a5:He (YK p w be oe n cap E ab ao na A Aa Ca))(mt:w.heap.size+2<=B)(HT:He (qU p w wr bs m (aN m q) (.slice (some ⟨be,oe,none⟩) n cap) B (fun o=>if o=6 then pv else (#[.string ic,.string us,.string ⟨#[]⟩,.bool false,.string ⟨#[]⟩,.int .i64 (100+(k:Int) % 7),.slice none 0 0,.slice none 0 0,.string ⟨#[]⟩,.slice none 0 0]:Array Value)[o]?.getD undef) ((kH k n (DJ k)).map fun j=>(E j).id) sv ((kH k n (DJ k)).map fun j=>Value.slice (Aa j) (A j).length (Ca j))))(hK:∀ a w',Code.wp prog (DL (fZ (Tryz.f37.body.getD .skip) 8)) (bodyPost prog Tryz.f37 (pT p w bs m q E n A)) a w'->K a w') :
  Code.wp prog (OG (fZ (Tryz.f37.body.getD .skip) 8)) (Exit.then K (bodyPost prog Tryz.f37 (pT p w bs m q E n A))) { tmps:=#[.pointer (some ⟨p,0,none⟩),.agg #[.slice (some ⟨be,oe,none⟩) n cap],.slice (some ⟨ab,ao,none⟩) na sc,undef,.pointer (some ⟨w.heap.size,0,none⟩),undef,.pointer (some ⟨w.heap.size+1,0,none⟩),.int .i64 (n:Int),.int .i64 (k:Int),.pointer (some ⟨B,0,none⟩),u10,sv,u12,u13,undef,undef,undef,undef,undef,undef,u20,u21,u22,u23,u24,u25,u26,u27,u28,u29,u30,u31,u32,u33,u34,u35,u36,u37,u38,u39,u40,u41,u42,u43,u44,u45,u46,u47,u48,u49,u50,u51,u52,u53,u54,u55,u56,u57,u58,u59,u60,u61,u62,u63,u64,u65,u66,u67,u68,u69,u70,u71,u72,u73,u74,u75,u76,u77,u78,u79,u80,u81,u82,u83,u84,u85,u86,u87,u88,u89,u90,u91,u92,u93,u94,u95,u96,u97,u98,u99,u100,u101,u102,u103,u104,u105,u106,u107,u108,u109,u110,u111,u112,u113,u114,u115,u116,u117,u118,u119,u120,u121,u122,u123,u124,u125,u126,u127,u128,u129,u130,u131,u132,u133,u134,u135,u136,u137,u138,u139,u140,u141,u142,u143,u144,u145,u146,u147,u148,u149,u150,u151,u152,u153,u154,u155,u156,u157,u158,u159,u160,u161,u162,u163,u164,u165,u166,i9,gv,fx,ji,gi,g6,gj,gs,jl,gh,jf,iu,i6,gu,i5,gt,i3,gl,hy,h9,gz,ir,hm,gd,jg,g8],defers:=[] } wr:=by
 obtain ⟨i0,ff,e5,cb,cc⟩:=info_parts Tryz.infoString;obtain ⟨j0,n7,m4,nw,ns⟩:=info_parts Tryz.infoRowE;rw [show DL (fZ (Tryz.f37.body.getD .skip) 8)=Code.seq _ _ from rfl] at hK;rw [show OG (fZ (Tryz.f37.body.getD .skip) 8)=Code.region 17 _ _ from rfl];have hT:=HT.o;clear HT;obtain ⟨L,hL⟩:∃ L,L=kH k n (DJ k):=⟨_,rfl⟩;rw [<- hL] at hT;obtain ⟨pl,cz⟩:∃ pl,pl=L.map fun j=>(E j).id:=⟨_,rfl⟩
 obtain ⟨vs,d4⟩:∃ vs,vs=L.map fun j=>Value.slice (Aa j) (A j).length (Ca j):=⟨_,rfl⟩
 rw [<- cz,<- d4] at hT;have fd:∀ j ∈ L,j<n:=by rw [hL];exact rQ hn _
 have j2:L.length<=3:=by rw [hL];exact nZ (pC k n _) (EV k).1
 obtain ⟨hV,bf,g7⟩:=a5.o wr hT.g.a.dw.2
 have dh:∀ s ∈ pl,s.size<=maxLen:=by
  rw [cz];intro s hs;obtain ⟨j,hj,rfl⟩:=List.mem_map.1 hs;obtain ⟨_,_,_,_,_,_,_,ho⟩:=bf j (fd j hj);exact ho.hid
 have iq:He (∀ s ∈ pl,s.size<=maxLen):=dh;have g3:aH wr (B+1) pv pl:=hT.o;obtain ⟨pa,cp,lg,jy,_⟩:=g3.sl dh;subst lg;have da:pl.length=L.length:=by rw [cz,List.length_map]
 have ej:vs.length=L.length:=by rw [d4,List.length_map]
 have gc:He (∀ i,i<vs.length->vs[i]?=some (.slice (Aa (L.getD i 0)) (A (L.getD i 0)).length (Ca (L.getD i 0)))):=fun i hi=>by
  rw [d4,List.getElem?_map,List.getElem?_eq_getElem (by omega),List.getD_eq_getElem?_getD,List.getElem?_eq_getElem (by omega)];rfl
 have d9:He (∀ i,i<vs.length->L.getD i 0<n):=fun i hi=>by
  rw [List.getD_eq_getElem?_getD,List.getElem?_eq_getElem (by omega)];exact fd _ (List.getElem_mem _)
 obtain ⟨sa,ss,kf,_⟩:=tF hT.r (L:=fun i=>A (L.getD i 0)) (Aa:=fun i=>Aa (L.getD i 0)) (Ca:=fun i=>Ca (L.getD i 0)) gc.o (fun i hi=>(g7 _ (by have:=d9.o i hi;omega)).2);subst kf;obtain ⟨e0,ax⟩:∃ e0,e0=gw0 k n E:=⟨_,rfl⟩
 have iw:e0.val' pa cp none 0 none 0=.agg #[.string ic,.string us,.string ⟨#[]⟩,.bool false,.string ⟨#[]⟩,.int .i64 (100+(k:Int) % 7),.slice pa pl.length cp,.slice none 0 0,.string ⟨#[]⟩,.slice none 0 0]:=by
  have et:(100+(k:Int) % 7)=100+((k % 7:Nat):Int):=by omega
  rw [ax,gn.o,lj.o,et,da,hL];rfl
 have gk:=hT.g.a.dw.1.nx;obtain ⟨k1,k2,k3,k4,k5,k6,k7⟩:=BC bs m (aN m q) e0;obtain ⟨s1,s2,s3,s4⟩:=KT (bs:=bs) (m:=m) (q:=aN m q) (e:=e0) gk (by rw [ax];exact mB _) (by rw [ax];show (⟨#[]⟩:ByteArray).size<=100;decide) (by rw [ax];show (⟨#[]⟩:ByteArray).size<=100;decide) (fun i=>by rw [ax];exact nZ (rU (fun x hx=>by cases hx) i) (by decide));obtain ⟨u,a6⟩:∃ u,u=lG bs m (aN m q) e0:=⟨_,rfl⟩;have e6:u.np=pl.length:=by rw [a6,k4,ax,da,hL];rfl
 have fg:u.Pv=aG pl:=by rw [a6,k5,ax,cz,hL];rfl
 have dt:u.na=0:=by rw [a6,k6,ax];rfl
 have jk:He (Calls prog 81 #[.pointer (some ⟨p,0,none⟩),.agg #[.string ic,.string us,.string ⟨#[]⟩,.bool false,.string ⟨#[]⟩,.int .i64 (100+(k:Int) % 7),.slice pa pl.length cp,.slice none 0 0,.string ⟨#[]⟩,.slice none 0 0]] wr (bv0 p wr bs m (nA bs m (aN m q)) u pa cp)):=by
  have hc:=AQ p e0 pa cp none 0 none 0 wr hT.g.a.dw.1;rw [iw] at hc;refine hc.mono ?_;rintro x w' ⟨ga,cg,rfl,hg,hd⟩;rw [<- a6] at hg;refine ⟨ga,cg,by rw [<- a6,<- dt],?_,hd⟩;rcases hg with ⟨rfl,rfl,q3,q4,q5⟩|hg
  ·have q6:u.ng=0:=by rw [q3,ax];rfl
   rw [q6];exact bV.nil _ _ _ _
  exact hg
 have cb:u.id.size<=maxLen:=by rw [a6,k1,ax];show (LH k n).size<=maxLen;rw [<- gn.o];unfold maxLen;omega
 have cc:u.sd.size<=maxLen:=by rw [a6,k2,ax];exact nZ (mB _) (by decide)
 have dg:u.ty.size<=maxLen/\u.key.size<=maxLen/\u.val.size<=maxLen/\∀ i,(u.M i).size<=maxLen:=by
  rw [a6];exact ⟨nZ s1 (by decide),nZ s2 (by decide),nZ s3 (by decide),fun i=>nZ (s4 i) (by decide)⟩
 have de:He (∀ W ga cg,aH W (B+1) (.slice pa pl.length cp) pl->bV W (B+1) (.slice ga u.ng cg) u.ng u.M u.L->cI W u pa cp none 0 ga cg):=fun W ga cg h1 h2=>⟨cb,cc,dg.1,dg.2.1,dg.2.2.1,by rw [e6,fg];exact (aH.sls h1 iq.o).2,by rw [dt];exact ⟨nL,by decide,fun i hi=>absurd hi (Nat.not_lt_zero _),Or.inl rfl⟩,h2.slg (fun i _=>dg.2.2.2 i)⟩
 have kn:He (u=FA bs m q E n):=by unfold He FA;rw [a6,ax,Hk.o]
 have y0:wr.cell? ⟨B,0,none⟩=some (.string ic):=hT.g.b 0 (by decide);have y1:wr.cell? ⟨B,1,none⟩=some (.string us):=hT.g.b 1 (by decide);have y2:wr.cell? ⟨B,2,none⟩=some (.string ⟨#[]⟩):=hT.g.b 2 (by decide);have y3:wr.cell? ⟨B,3,none⟩=some (.bool false):=hT.g.b 3 (by decide);have y4:wr.cell? ⟨B,4,none⟩=some (.string ⟨#[]⟩):=hT.g.b 4 (by decide);have y5:wr.cell? ⟨B,5,none⟩=some (.int .i64 (100+(k:Int) % 7)):=hT.g.b 5 (by decide);have y6:wr.cell? ⟨B,6,none⟩=some (.slice pa pl.length cp):=hT.g.b 6 (by decide);have y7:wr.cell? ⟨B,7,none⟩=some (.slice none 0 0):=hT.g.b 7 (by decide);have y8:wr.cell? ⟨B,8,none⟩=some (.string ⟨#[]⟩):=hT.g.b 8 (by decide);have y9:wr.cell? ⟨B,9,none⟩=some (.slice none 0 0):=hT.g.b 9 (by decide);have h8:He (qU p w wr bs m (aN m q) (.slice (some ⟨be,oe,none⟩) n cap) B (fun o=>if o=6 then (.slice pa pl.length cp) else (#[.string ic,.string us,.string ⟨#[]⟩,.bool false,.string ⟨#[]⟩,.int .i64 (100+(k:Int) % 7),.slice none 0 0,.slice none 0 0,.string ⟨#[]⟩,.slice none 0 0]:Array Value)[o]?.getD undef) pl (.slice sa vs.length ss) vs):=hT;have kz:=hT.g.hi;have ft:He (u.np=pl.length):=e6;have j7:He (u.Pv=aG pl):=fg;have hl:He (vs.length=L.length):=ej;have mv:vs.length<=3:=by omega
 have nb:pl.length<=3:=by omega
 have lf:He (u.na=0):=dt;have HL:He (L=kH k n (DJ k)):=hL;clear hT hV bf g7 dh g3 jy iw k1 k2 k3 k4 k5 k6 k7 s1 s2 s3 s4 cb cc dg fg e6 dt a6 ax gk fd cz d4 hL da ej j2
 go_wp2_with fail
 refine jk.o.mono ?_;rintro x w8 ⟨ga,cg,rfl,gb,cj⟩;clear jk y0 y1 y2 y3 y4 y5 y6 y7 y8 y9;have J:=h8.o.draw hp cj;have g4:He (bV w8 (B+1) (.slice ga u.ng cg) u.ng u.M u.L):=kD gb kz;have d8:He (qU p w w8 bs m (nA bs m (aN m q)) (.slice (some ⟨be,oe,none⟩) n cap) B (fun o=>if o=6 then (.slice pa pl.length cp) else (#[.string ic,.string us,.string ⟨#[]⟩,.bool false,.string ⟨#[]⟩,.int .i64 (100+(k:Int) % 7),.slice none 0 0,.slice none 0 0,.string ⟨#[]⟩,.slice none 0 0]:Array Value)[o]?.getD undef) pl (.slice sa vs.length ss) vs):=J;have z0:w8.cell? ⟨B,0,none⟩=some (.string ic):=J.g.b 0 (by decide);have z1:w8.cell? ⟨B,1,none⟩=some (.string us):=J.g.b 1 (by decide);have z2:w8.cell? ⟨B,2,none⟩=some (.string ⟨#[]⟩):=J.g.b 2 (by decide);have z3:w8.cell? ⟨B,3,none⟩=some (.bool false):=J.g.b 3 (by decide);have z4:w8.cell? ⟨B,4,none⟩=some (.string ⟨#[]⟩):=J.g.b 4 (by decide);have z5:w8.cell? ⟨B,5,none⟩=some (.int .i64 (100+(k:Int) % 7)):=J.g.b 5 (by decide);have z6:w8.cell? ⟨B,6,none⟩=some (.slice pa pl.length cp):=J.g.b 6 (by decide);have z7:w8.cell? ⟨B,7,none⟩=some (.slice none 0 0):=J.g.b 7 (by decide);have z8:w8.cell? ⟨B,8,none⟩=some (.string ⟨#[]⟩):=J.g.b 8 (by decide);have z9:w8.cell? ⟨B,9,none⟩=some (.slice none 0 0):=J.g.b 9 (by decide);have f0:=J.g.f0 0;have f1:=J.g.f0 1;have f2:=J.g.f0 2;have f3:=J.g.f0 3;have f4:=J.g.f0 4;have f5:=J.g.f0 5;have f6:=J.g.f0 6;have f7:=J.g.f0 7;have f8:=J.g.f0 8;have f9:=J.g.f0 9;clear h8 gb cj J
 go_upto_region 18 with fail
 obtain ⟨w9,d7⟩:∃ w9:World,w9=((((((((((w8.setCell ⟨B,0,none⟩ (.string u.id)).setCell ⟨B,1,none⟩ (.string u.sd)).setCell ⟨B,2,none⟩ (.string u.ty)).setCell ⟨B,3,none⟩ (.bool u.st)).setCell ⟨B,4,none⟩ (.string u.key)).setCell ⟨B,5,none⟩ (.int .i64 u.tm)).setCell ⟨B,6,none⟩ (.slice pa u.np cp)).setCell ⟨B,7,none⟩ (.slice none 0 0)).setCell ⟨B,8,none⟩ (.string u.val)).setCell ⟨B,9,none⟩ (.slice ga u.ng cg)):=⟨_,rfl⟩;rw [<- d7]
 have H9:He (nF p w w9 bs m (nA bs m (aN m q)) (.slice (some ⟨be,oe,none⟩) n cap) B (fun o=>(#[.string u.id,.string u.sd,.string u.ty,.bool u.st,.string u.key,.int .i64 u.tm,.slice pa u.np cp,.slice none 0 0,.string u.val,.slice ga u.ng cg]:Array Value)[o]?.getD undef)):=by
  unfold He;rw [d7];exact d8.o.g.fill10 hp _ _ _ _ _ _ _ _ _ _
 have K9:Kb B w8 w9:=by rw [d7];exact Kb.fill10 B w8 _ _ _ _ _ _ _ _ _ _
 have hf:He (aH w9 (B+1) (.slice pa pl.length cp) pl):=K9.row d8.o.o (Nat.lt_succ_self B);have ii:He (bV w9 (B+1) (.slice ga u.ng cg) u.ng u.M u.L):=K9.row g4.o (Nat.lt_succ_self B);have r9:=K9.row d8.o.r (Nat.lt_succ_self B);clear z0 z1 z2 z3 z4 z5 z6 z7 z8 z9 f0 f1 f2 f3 f4 f5 f6 f7 f8 f9 d7 K9 d8 g4;obtain ⟨im,ex,ei⟩:=a5.o w9 H9.o.a.dw.2;obtain ⟨a9,c9,e9,ih⟩:=tF r9 (L:=fun i=>A (L.getD i 0)) (Aa:=fun i=>Aa (L.getD i 0)) (Ca:=fun i=>Ca (L.getD i 0)) gc.o (fun i hi=>(ei _ (by have:=d9.o i hi;omega)).2);injection e9 with jx _ kg
 subst jx kg;have g5:He (Calls prog 82 #[.agg #[(.slice (some ⟨be,oe,none⟩) n cap)],.slice sa vs.length ss] w9 (MS w9 E n (fun i=>A (L.getD i 0)) vs.length)):=CC w9 N.o (by omega) (fun i hi=>Hf.o _ (d9.o i hi)) im ih
 have Hz:He (∀ j,j<n->(E j).ty.size<=maxLen/\(E j).key.size<=maxLen/\(E j).id.size<=maxLen):=fun j hj=>by
  obtain ⟨_,_,_,_,_,_,_,hk⟩:=ex j hj;exact ⟨hk.hty,hk.hkey,hk.hid⟩
 have x9:=H9.o.a.r;clear im ex ei ih r9
 go_wp2_with fail
 refine g5.o.mono ?_;rintro x Y ⟨v,l,rfl,e8,co,bv⟩;clear g5 x9;have d5:bB E n l:=co.fit N.o (fun i hi=>Hf.o _ (d9.o i hi));have ms:l.length<=300:=nZ (d5.len N.o) gy;obtain ⟨ta,tc,ka,kj⟩:=e8.sl (fun i hi=>(d5.ok Hz.o).at i hi);subst ka;have gm:He (aU Y (B+1) (.slice ta l.length tc) l):=kD e8 H9.o.hi;have a3:He (lE E n (fun i=>A (L.getD i 0)) vs.length l):=co;have i8:He (∀ i,i<l.length->(aI l i).ty.size<=maxLen/\(aI l i).key.size<=maxLen/\(aI l i).id.size<=maxLen):=fun i hi=>(d5.ok Hz.o).at i hi
 have ap:He (nF p w Y bs m (nA bs m (aN m q)) (.slice (some ⟨be,oe,none⟩) n cap) B (fun o=>(#[.string u.id,.string u.sd,.string u.ty,.bool u.st,.string u.key,.int .i64 u.tm,.slice pa u.np cp,.slice none 0 0,.string u.val,.slice ga u.ng cg]:Array Value)[o]?.getD undef)):=H9.o.below bv;have cu:He (aH Y (B+1) (.slice pa pl.length cp) pl):=hf.o.below bv;have db:He (bV Y (B+1) (.slice ga u.ng cg) u.ng u.M u.L):=ii.o.below bv
 have iz:He (Calls prog 83 #[.agg #[.string u.id,.string u.sd,.string u.ty,.bool u.st,.string u.key,.int .i64 u.tm,.slice pa u.np cp,.slice none 0 0,.string u.val,.slice ga u.ng cg]] Y (rM Y u)):=by
  have:=GL u Y (de.o Y ga cg cu.o db.o);rw [show u.val' pa cp none 0 ga cg=.agg #[.string u.id,.string u.sd,.string u.ty,.bool u.st,.string u.key,.int .i64 u.tm,.slice pa u.np cp,.slice none 0 0,.string u.val,.slice ga u.ng cg] by rw [<- lf.o]] at this;exact this
 have y0:Y.cell? ⟨B,0,none⟩=some (.string u.id):=ap.o.b 0 (by decide);have y1:Y.cell? ⟨B,1,none⟩=some (.string u.sd):=ap.o.b 1 (by decide);have y2:Y.cell? ⟨B,2,none⟩=some (.string u.ty):=ap.o.b 2 (by decide);have y3:Y.cell? ⟨B,3,none⟩=some (.bool u.st):=ap.o.b 3 (by decide);have y4:Y.cell? ⟨B,4,none⟩=some (.string u.key):=ap.o.b 4 (by decide);have y5:Y.cell? ⟨B,5,none⟩=some (.int .i64 u.tm):=ap.o.b 5 (by decide);have y6:Y.cell? ⟨B,6,none⟩=some (.slice pa u.np cp):=ap.o.b 6 (by decide);have y7:Y.cell? ⟨B,7,none⟩=some (.slice none 0 0):=ap.o.b 7 (by decide);have y8:Y.cell? ⟨B,8,none⟩=some (.string u.val):=ap.o.b 8 (by decide);have y9:Y.cell? ⟨B,9,none⟩=some (.slice ga u.ng cg):=ap.o.b 9 (by decide);clear H9 hf ii bv e8 co d5 kj Hz
 go_wp2_with fail
 refine iz.o.mono ?_;rintro x I ⟨v2,rfl,dr,ba⟩;clear iz y0 y1 y2 y3 y4 y5 y6 y7 y8 y9;obtain ⟨O,dx⟩:∃ O,O=cD u:=⟨_,rfl⟩;rw [<- dx] at dr;have kw:O.length<=8:=by rw [dx];exact FT u
 have kt:He (O=cD u):=dx;obtain ⟨oa,oc,ke,dq⟩:=dr.sl;subst ke;have iy:B<I.heap.size:=nT ap.o.hi ba.size;have bu:He (aY I (B+1) (.slice oa O.length oc) O):=kD dr ap.o.hi;have bp:He (aU I (B+1) (.slice ta l.length tc) l):=gm.o.below ba;have ae:He (aH I (B+1) (.slice pa pl.length cp) pl):=cu.o.below ba;have ak:He (bV I (B+1) (.slice ga u.ng cg) u.ng u.M u.L):=db.o.below ba
 have ik:He (rI p w I bs m (nA bs m (aN m q)) (.slice (some ⟨be,oe,none⟩) n cap) B (fun o=>(#[.string u.id,.string u.sd,.string u.ty,.bool u.st,.string u.key,.int .i64 u.tm,.slice pa u.np cp,.slice none 0 0,.string u.val,.slice ga u.ng cg]:Array Value)[o]?.getD undef) I [] (.slice none 0 0)):=⟨(ap.o.below ba).congr (fun o ho=>by
  by_cases e:o=7
  ·subst e;rfl
  rw [if_neg e]),Kb.refl _ _,aH.nil _ _,iy⟩
 clear ap cu db gm ba dr dq dx
 go_wp2_with fail
 go_loopw [17] (fun iv wq=>∃ j:Nat,j<=O.length/\iv=.int .i64 (j:Int)/\∃ av,rI p w wq bs m (nA bs m (aN m q)) (.slice (some ⟨be,oe,none⟩) n cap) B (fun o=>(#[.string u.id,.string u.sd,.string u.ty,.bool u.st,.string u.key,.int .i64 u.tm,.slice pa u.np cp,.slice none 0 0,.string u.val,.slice ga u.ng cg]:Array Value)[o]?.getD undef) I (iG l O j) av) (fun iv _=>O.length - (intOf iv).toNat)
 case atStart=>exact ⟨0,nz,rfl,_,ik.o⟩
 case round =>
  clear ik;obtain ⟨j,hj,rfl,av,hU⟩:=hrel
  by_cases el:j<O.length
  ·have HU:He (rI p w wr bs m (nA bs m (aN m q)) (.slice (some ⟨be,oe,none⟩) n cap) B (fun o=>(#[.string u.id,.string u.sd,.string u.ty,.bool u.st,.string u.key,.int .i64 u.tm,.slice pa u.np cp,.slice none 0 0,.string u.val,.slice ga u.ng cg]:Array Value)[o]?.getD undef) I (iG l O j) av):=hU
   have ij:aY wr (B+1) (.slice oa O.length oc) O:=hU.k.row bu.o (Nat.lt_succ_self B);have it:aU wr (B+1) (.slice ta l.length tc) l:=hU.k.row bp.o (Nat.lt_succ_self B);obtain ⟨my,n6,eo,dq⟩:=ij.sl;injection eo with j1 _ kq
   subst j1 kq;obtain ⟨m5,n3,et,gx⟩:=it.sl i8.o;injection et with kk _ j3
   subst kk j3
   obtain ⟨ob,oo,k9,je,fy,ja⟩:∃ ob oo,oa=some ⟨ob,oo,none⟩/\ob<wr.heap.size/\(∀ i,i<O.length->wr.cell? ⟨ob,oo+i * 2,none⟩=some (.string (aI O i).ty))/\(∀ i,i<O.length->wr.cell? ⟨ob,oo+i * 2+1,none⟩=some (.string (aI O i).key)):=by
    rcases dq.cells with h0|h0
    ·have:O.length=0:=by rw [h0];rfl
     omega
    exact h0
   subst k9;have cl:=fy j el;have cw:=ja j el;obtain ⟨ty,hty⟩:∃ ty,ty=(aI O j).ty:=⟨_,rfl⟩;obtain ⟨ky,fc⟩:∃ ky,ky=(aI O j).key:=⟨_,rfl⟩;rw [<- hty] at cl;rw [<- fc] at cw;obtain ⟨fv,fr⟩:∃ fv,fv=TW l ty ky:=⟨_,rfl⟩;obtain ⟨fo,fq⟩:∃ fo,fo=DR l ty ky:=⟨_,rfl⟩;have d6:He (iG l O (j+1)=if fo=true then iG l O j ++ [fv] else iG l O j):=by unfold He;rw [fq,fr,hty,fc];rfl
   have fp:He (∀ W,Below wr.heap.size wr W->Calls prog 84 #[.slice ta l.length tc,.string ty,.string ky] W fun e w'=>e=.returned (.tuple #[.string fv,.bool fo])/\Below wr.heap.size wr w'):=fun W hW=>by
    refine (PO ty ky W (gx.below hW)).mono ?_;rintro e w' ⟨rfl,hb⟩;exact ⟨by rw [fr,fq],hW.trans (hb.mono hW.size)⟩
   have HS:He (∀ W,Below wr.heap.size wr W->W.cell? ⟨ob,oo+j * 2,none⟩=some (.string ty)/\W.cell? ⟨ob,oo+j * 2+1,none⟩=some (.string ky)):=fun W hW=>⟨(hW.cell (p:=⟨ob,oo+j * 2,none⟩) (by exact je)).trans cl,(hW.cell (p:=⟨ob,oo+j * 2+1,none⟩) (by exact je)).trans cw⟩
   have au:Below wr.heap.size wr wr:=kB;have mg:(0:Int)<=(j:Int):=by omega
   have mz:(j:Int)<(O.length:Int):=by omega
   clear hU ij it dq gx fy ja cl cw hty fc fr fq
   go_upto_region 23 with fail
   go_cut [18,19] (fun a b wx=>a=.string fv/\b=.bool fo/\Below wr.heap.size wr wx)
   case first =>
    clear a5 N Hf HU bu bp ae ak a3;refine wp_region_held_drew (S:=fun W=>W.cell? ⟨ob,oo+j * 2,none⟩=some (.string ty)/\W.cell? ⟨ob,oo+j * 2+1,none⟩=some (.string ky)) (by kernel_rfl) ?_ (fun hHeld=>?_)
    ·(try dsimp only);exact HS.o _ (by with_reducible (repeat refine .drew ?_);exact au)
    refine tq 0 rfl ?_;simp only [si];refine tq 1 rfl ?_;simp only [si];refine tq 2 rfl ?_;simp only [si];refine tq 3 rfl ?_;simp only [si];refine tq 4 rfl ?_;simp only [si];refine tq 5 rfl ?_;simp only [si];refine tq 6 rfl ?_;simp only [si];refine tq 7 rfl ?_;simp only [si];refine tq 8 rfl ?_;simp only [si];refine tq 9 rfl ?_;simp only [si];refine tq 10 rfl ?_;simp only [si];refine rd 11 rfl fun K hK=>?_
    go_simp
    go_at_call 84
    refine (fp.o _ (by with_reducible (repeat refine .drew ?_);exact au)).mono ?_;rintro e w2 ⟨rfl,fk⟩;clear fp;try dsimp only
    refine hK.out _ _ ?_ (fun hHeld=>?_)
    ·(try dsimp only);exact HS.o _ (by with_reducible (repeat refine .drew ?_);exact fk)
    clear hK K;try simp only [si]
    refine tq 12 rfl ?_;simp only [si];refine tq 13 rfl ?_;simp only [si];refine tq 14 rfl ?_;simp only [si];refine tq 15 rfl ?_;simp only [si];refine tq 16 rfl ?_;simp only [si];refine wpAnyH_done (by kernel_rfl) ?_ _
    (try go_wp2_with fail)
    go_meet;exact ⟨rfl,rfl,by first|exact fk|exact fk.drew⟩
   case rest =>
    obtain ⟨rfl,rfl,eh⟩:=hcut;obtain ⟨a8,i4⟩:∃ a8:World,a8=wc:=⟨_,rfl⟩;subst i4;have ay:He (rI p w a8 bs m (nA bs m (aN m q)) (.slice (some ⟨be,oe,none⟩) n cap) B (fun o=>(#[.string u.id,.string u.sd,.string u.ty,.bool u.st,.string u.key,.int .i64 u.tm,.slice pa u.np cp,.slice none 0 0,.string u.val,.slice ga u.ng cg]:Array Value)[o]?.getD undef) I (iG l O j) av):=HU.o.below eh;clear HU fp HS eh au;cases fo
    case false =>
     have HX:He (rI p w a8 bs m (nA bs m (aN m q)) (.slice (some ⟨be,oe,none⟩) n cap) B (fun o=>(#[.string u.id,.string u.sd,.string u.ty,.bool u.st,.string u.key,.int .i64 u.tm,.slice pa u.np cp,.slice none 0 0,.string u.val,.slice ga u.ng cg]:Array Value)[o]?.getD undef) I (iG l O (j+1)) av):=by unfold He;rw [d6.o,if_neg (by decide)];exact ay.o
     clear ay d6;go_wp2
     exact ⟨⟨j+1,by omega,by go_num,av,HX.o⟩,by simp [intOf];omega⟩
    case true =>
     have y7:a8.cell? ⟨B,7,none⟩=some av:=ay.o.g.b 7 (by decide);have ez:He (a8.ownsRow I.heap.size 9 1 av (iG l O j).length ((iG l O j).map Value.string)):=ay.o.o;have bt:=oU l O j;have df:(iG l O j).length+1<=maxLen:=by unfold maxLen;omega
     have cn:((iG l O j).length+1) * 16<=140737488355328:=by omega
     have li:I.heap.size<=a8.heap.size:=ay.o.k.1
     have jm:He (∀ w4,(a8.alloc (.cells #[.string fv] 9)).grownBy w4 av.ownBlock->w4.cell? ⟨B,7,none⟩=some av/\w4.frozen? ⟨B,7,none⟩=false):=fun w4 hg=>by
      have h1:=ay.o.below (kB.alloc nL (.cells #[.string fv] 9));have h2:=h1.g.grow hp hg (fun b hb=>by have:=(aD h1.o b hb).1;omega);exact ⟨h2.b 7 (by decide),h2.f0 7⟩
     obtain ⟨aj,jh⟩:∃ aj,aj=iG l O j:=⟨_,rfl⟩;rw [<- jh] at ay ez df cn d6;clear jh bt
     go_wp2_with (at_builtin;refine wpList_append_lies _ rfl _ _ 27 rfl I.heap.size 9 i0 (.string ByteArray.empty) 1 16 underlying27 ff e5 cb cc rfl (by decide) _ _ _ rfl (World.ownsRow.alloc ez.o _) ⟨a8.heap.size,0,none⟩ 1 1 [.string fv] rfl rfl (aV _ _ _) (bL _) (by decide) df cn (by simp;omega) (a8.heap.size+1) (by simp) ?_;intro gg cq w4 a4 ag e3 ey;have z7:=(jm.o w4 ag).1;have f7:=(jm.o w4 ag).2)
     have HX:=ay.o.snoc hp bA a4 ag;rw [show aj ++ [fv]=iG l O (j+1) by rw [d6.o,if_pos rfl]] at HX;exact ⟨⟨j+1,by omega,by go_num,_,HX⟩,by simp [intOf];omega⟩
  rw [show j=O.length by omega] at hU;obtain ⟨al,bt⟩:∃ al,al=iG l O O.length:=⟨_,rfl⟩;rw [<- bt] at hU;have ie:al.length<=8:=by rw [bt];exact nZ (oU l O _) kw
  have ci:∀ s ∈ al,s.size<=maxLen:=by rw [bt];exact qE (fun i hi=>(i8.o i hi).2.2) _
  have j5:He (al=iG l O O.length):=bt;have a2:aH wr I.heap.size av al:=hU.o;obtain ⟨aa,ca,ch,_,_⟩:=a2.sl ci;subst ch;have il:He (∀ s ∈ al,s.size<=maxLen):=ci;have HU:He (rI p w wr bs m (nA bs m (aN m q)) (.slice (some ⟨be,oe,none⟩) n cap) B (fun o=>(#[.string u.id,.string u.sd,.string u.ty,.bool u.st,.string u.key,.int .i64 u.tm,.slice pa u.np cp,.slice none 0 0,.string u.val,.slice ga u.ng cg]:Array Value)[o]?.getD undef) I al (.slice aa al.length ca)):=hU;have y7:wr.cell? ⟨B,7,none⟩=some (.slice aa al.length ca):=hU.g.b 7 (by decide);obtain ⟨cA,bi⟩:∃ cA,cA=decide (al.length=0\/k % 32=31):=⟨_,rfl⟩;have bz:He (cA=decide (al.length=0\/k % 32=31)):=bi;clear hU ci a2 bt bi
  go_upto_region 26 with fail
  go_cut [156] (fun v wx=>v=.bool cA/\Below wr.heap.size wr wx)
  case first =>
   clear a5 N Hf HU bu bp ae ak a3;have bi:=bz.o
   by_cases h1:al.length=0
   ·have jc:(al.length:Int)=0:=by omega
    have u:cA=true:=by rw [bi];exact decide_eq_true (Or.inl h1)
    clear bi bz;go_wp2
    go_meet;exact ⟨by rw [u],kB⟩
   have jc:¬ (al.length:Int)=0:=by omega
   have mq:((al.length:Int) == 0)=false:=by simpa using jc
   by_cases h2:k % 32=31
   ·have i7:(k:Int) % 32=31:=by omega
    have u:cA=true:=by rw [bi];exact decide_eq_true (Or.inr h2)
    clear bi bz;go_wp2
    go_meet;exact ⟨by rw [u],kB⟩
   have i7:¬ (k:Int) % 32=31:=by omega
   have ni:((k:Int) % 32 == 31)=false:=by simpa using i7
   have u:cA=false:=by rw [bi];exact decide_eq_false (fun h=>h.elim h1 h2)
   clear bi bz;go_wp2
   go_meet;exact ⟨by rw [u],kB⟩
  case rest =>
   obtain ⟨rfl,eg⟩:=hcut;obtain ⟨bh,hu⟩:∃ bh:World,bh=wc:=⟨_,rfl⟩;subst hu;have ah:He (rI p w bh bs m (nA bs m (aN m q)) (.slice (some ⟨be,oe,none⟩) n cap) B (fun o=>(#[.string u.id,.string u.sd,.string u.ty,.bool u.st,.string u.key,.int .i64 u.tm,.slice pa u.np cp,.slice none 0 0,.string u.val,.slice ga u.ng cg]:Array Value)[o]?.getD undef) I al (.slice aa al.length ca)):=HU.o.below eg;clear HU eg y7;obtain ⟨i1,d2⟩:∃ i1,i1=(E 0).id:=⟨_,rfl⟩;obtain ⟨G,dc⟩:∃ G,G=XF k E al:=⟨_,rfl⟩
   have bg:He (G=if cA=true then [i1] else al):=by
    unfold He;rw [dc,bz.o,d2];unfold XF
    by_cases h:al.length=0\/k % 32=31
    ·rw [if_pos h,if_pos (decide_eq_true h)]
    rw [if_neg h,if_neg (by rw [decide_eq_false h];decide)]
   have gq:He (G=XF k E al):=dc;obtain ⟨_,bf,_⟩:=a5.o bh ah.o.g.a.dw.2;obtain ⟨_,_,_,_,_,_,ds,dv⟩:=bf 0 hn;have km:bh.cell? ⟨be,oe,none⟩=some (.string i1):=by have:=ds.c0;rw [<- d2] at this;simpa using this
   have ib:i1.size<=maxLen:=by rw [d2];exact dv.hid
   have lc:=ah.o.g.a.r;have z7:=(ah.o.g.below (kB.alloc nL (.cells #[.string i1] 9))).b 7 (by decide);have f7:=(ah.o.g.below (kB.alloc nL (.cells #[.string i1] 9))).f0 7;have ma:(0:Int)<(n:Int):=by omega
   clear dc bf ds dv d2
   go_upto_if 156 with fail
   go_cut [163] (fun _ wx=>∃ fm,rI p w wx bs m (nA bs m (aN m q)) (.slice (some ⟨be,oe,none⟩) n cap) B (fun o=>(#[.string u.id,.string u.sd,.string u.ty,.bool u.st,.string u.key,.int .i64 u.tm,.slice pa u.np cp,.slice none 0 0,.string u.val,.slice ga u.ng cg]:Array Value)[o]?.getD undef) I G fm)
   case first =>
    clear a5 N Hf bu bp ae ak a3 bz;cases cA
    case true =>
     have HX:He (rI p w ((bh.alloc (.cells #[.string i1] 9)).setCell ⟨B,7,none⟩ (.slice (some ⟨bh.heap.size,0,none⟩) 1 1)) bs m (nA bs m (aN m q)) (.slice (some ⟨be,oe,none⟩) n cap) B (fun o=>(#[.string u.id,.string u.sd,.string u.ty,.bool u.st,.string u.key,.int .i64 u.tm,.slice pa u.np cp,.slice none 0 0,.string u.val,.slice ga u.ng cg]:Array Value)[o]?.getD undef) I G (.slice (some ⟨bh.heap.size,0,none⟩) 1 1)):=by unfold He;rw [bg.o,if_pos rfl];exact ah.o.one hp i1
     clear ah bg;go_wp2
     go_meet;exact ⟨_,HX.o⟩
    case false =>
     have HX:He (rI p w bh bs m (nA bs m (aN m q)) (.slice (some ⟨be,oe,none⟩) n cap) B (fun o=>(#[.string u.id,.string u.sd,.string u.ty,.bool u.st,.string u.key,.int .i64 u.tm,.slice pa u.np cp,.slice none 0 0,.string u.val,.slice ga u.ng cg]:Array Value)[o]?.getD undef) I G (.slice aa al.length ca)):=by unfold He;rw [bg.o,if_neg (by decide)];exact ah.o
     clear ah bg;go_wp2
     go_meet;exact ⟨_,HX.o⟩
   case rest =>
    obtain ⟨fm,hU⟩:=hcut;obtain ⟨ai,jb⟩:∃ ai:World,ai=wc:=⟨_,rfl⟩;subst jb
    have cy:∀ t ∈ G,t.size<=maxLen:=by
     rw [bg.o];intro t ht;split at ht
     ·rw [List.mem_singleton] at ht;subst ht;exact ib
     exact il.o t ht
    have nf:G.length<=8:=by
     rw [bg.o];split
     ·simp
     exact ie
    have a2:aH ai I.heap.size fm G:=hU.o;obtain ⟨am,an,ch,eb,_⟩:=a2.sl cy;subst ch;have bx:He (rI p w ai bs m (nA bs m (aN m q)) (.slice (some ⟨be,oe,none⟩) n cap) B (fun o=>(#[.string u.id,.string u.sd,.string u.ty,.bool u.st,.string u.key,.int .i64 u.tm,.slice pa u.np cp,.slice none 0 0,.string u.val,.slice ga u.ng cg]:Array Value)[o]?.getD undef) I G (.slice am G.length an)):=hU;obtain ⟨n1,eu⟩:∃ n1,n1=n - 1:=⟨_,rfl⟩;have er:n1<n:=by omega
    have en:(n:Int) - 1=(n1:Int):=by omega
    have ew:IntKind.i64.wrap ((n:Int) - 1)=(n1:Int):=by rw [IntKind.wrap_i64];omega
    have nj:IntKind.i64.wrap (n1:Int)=(n1:Int):=by rw [IntKind.wrap_i64];omega
    have md:(n1:Int)<(n:Int):=by omega
    have mj:(0:Int)<=(n1:Int):=by omega
    obtain ⟨ix,dy⟩:∃ ix,ix=(E n1).id:=⟨_,rfl⟩
    have aw:He (∀ W,vO p w W bs m (nA bs m (aN m q)) (.slice (some ⟨be,oe,none⟩) n cap)->W.cell? ⟨w.heap.size,0,none⟩=some (.slice (some ⟨be,oe,none⟩) n cap)/\W.cell? ⟨be,oe+n1 * 10,none⟩=some (.string ix)):=fun W hW=>by
     obtain ⟨_,bf,_⟩:=a5.o W hW.dw.2;obtain ⟨_,_,_,_,_,_,ds,_⟩:=bf n1 er;exact ⟨hW.r,by rw [dy];exact ds.c0⟩
    have gr:ix.size<=maxLen:=by
     obtain ⟨_,bf,_⟩:=a5.o ai hU.g.a.dw.2;obtain ⟨_,_,_,_,_,_,_,dv⟩:=bf n1 er;rw [dy];exact dv.hid
    obtain ⟨hv,fj⟩:∃ hv,hv=bD (aG G) G.length ix:=⟨_,rfl⟩;obtain ⟨cB,bk⟩:∃ cB,cB=decide (k % 16=7/\hv=false):=⟨_,rfl⟩;obtain ⟨ad,cv⟩:∃ ad,ad=YC k n E G:=⟨_,rfl⟩
    have bq:He (ad=if cB=true then G ++ [ix] else G):=by
     unfold He;rw [cv,bk,fj,dy,eu];unfold YC
     by_cases h:k % 16=7/\bD (aG G) G.length (E (n - 1)).id=false
     ·rw [if_pos h,if_pos (decide_eq_true h)]
     rw [if_neg h,if_neg (by rw [decide_eq_false h];decide)]
    have io:He (ad=YC k n E G):=cv;have bw:He (∀ W,Below ai.heap.size ai W->Calls prog 80 #[.slice am G.length an,.string ix] W fun e w'=>e=.returned (.bool hv)/\w'=W):=fun W hW=>by rw [fj];exact kM ix W (eb.below hW)
    have HS:He (∀ W,Below ai.heap.size ai W->W.cell? ⟨w.heap.size,0,none⟩=some (.slice (some ⟨be,oe,none⟩) n cap)/\W.cell? ⟨be,oe+n1 * 10,none⟩=some (.string ix)/\W.cell? ⟨B,7,none⟩=some (.slice am G.length an)):=fun W hW=>by
     have h1:=bx.o.below hW;have h2:=aw.o W h1.g.a;exact ⟨h2.1,h2.2,h1.g.b 7 (by decide)⟩
    have au:Below ai.heap.size ai ai:=kB;have dn:He (cB=decide (k % 16=7/\hv=false)):=bk;have ed:He (∀ t ∈ G,t.size<=maxLen):=cy;clear hU cy a2 eb dy fj bk cv eu km lc z7 f7 ah
    go_upto_region 28 with fail
    go_cut [179] (fun v wx=>v=.bool cB/\Below ai.heap.size ai wx)
    case first =>
     clear a5 N Hf bu bp ae ak a3 aw bx bq bg;have bk:=dn.o
     by_cases h7:k % 16=7
     ·have e7:(k:Int).tmod 16=7:=by rw [Int.tmod_eq_emod_of_nonneg (by omega)];omega
      have ec:cB=!hv:=by rw [bk];cases hv <;> simp [h7]
      clear bk dn;refine wp_region_held_drew (S:=fun W=>W.cell? ⟨w.heap.size,0,none⟩=some (.slice (some ⟨be,oe,none⟩) n cap)/\W.cell? ⟨be,oe+n1 * 10,none⟩=some (.string ix)/\W.cell? ⟨B,7,none⟩=some (.slice am G.length an)) (by kernel_rfl) ?_ (fun hHeld=>?_)
      ·(try dsimp only);exact HS.o _ (by with_reducible (repeat refine .drew ?_);exact au)
      refine tq 0 rfl ?_;simp only [si];refine tq 1 rfl ?_;simp only [si];refine tq 2 rfl ?_;simp only [si];refine tq 3 rfl ?_;simp only [si];refine tq 4 rfl ?_;simp only [si];refine tq 5 rfl ?_;simp only [si];refine tq 6 rfl ?_;simp only [si];refine tq 7 rfl ?_;simp only [si];refine tq 8 rfl ?_;simp only [si];refine tq 9 rfl ?_;simp only [si];refine tq 10 rfl ?_;simp only [si];refine tq 11 rfl ?_;simp only [si];refine tq 12 rfl ?_;simp only [si];refine rd 13 rfl fun K hK=>?_
      go_simp
      go_at_call 80
      refine (bw.o _ (by with_reducible (repeat refine .drew ?_);exact au)).mono ?_;rintro e w2 ⟨rfl,rfl⟩;clear bw;try dsimp only
      refine hK.out _ _ ?_ (fun hHeld=>?_)
      ·(try dsimp only);exact HS.o _ (by with_reducible (repeat refine .drew ?_);exact au)
      clear hK K;try simp only [si]
      refine tq 14 rfl ?_;simp only [si];refine tq 15 rfl ?_;simp only [si];refine wpAnyH_done (by kernel_rfl) ?_ _
      (try go_wp2_with fail)
      go_meet;exact ⟨by rw [ec],by first|exact au|exact au.drew⟩
     have e7:¬ (k:Int).tmod 16=7:=by rw [Int.tmod_eq_emod_of_nonneg (by omega)];omega
     have m8:((k:Int).tmod 16 == 7)=false:=by simpa using e7
     have ec:cB=false:=by rw [bk];simp [h7]
     clear bk dn bw;refine wp_region_held_drew (S:=fun W=>W.cell? ⟨w.heap.size,0,none⟩=some (.slice (some ⟨be,oe,none⟩) n cap)/\W.cell? ⟨be,oe+n1 * 10,none⟩=some (.string ix)/\W.cell? ⟨B,7,none⟩=some (.slice am G.length an)) (by kernel_rfl) ?_ (fun hHeld=>?_)
     ·(try dsimp only);exact HS.o _ (by with_reducible (repeat refine .drew ?_);exact au)
     refine tq 0 rfl ?_;simp only [si];refine tq 1 rfl ?_;simp only [si];refine tq 2 rfl ?_;simp only [si];refine tq 3 rfl ?_;simp only [si];refine tk 4 undef rfl (Or.inr ⟨by rfl,rfl⟩) ?_;simp only [si];refine tk 5 undef rfl (Or.inr ⟨by rfl,rfl⟩) ?_;simp only [si];refine tk 6 undef rfl (Or.inr ⟨by rfl,rfl⟩) ?_;simp only [si];refine tk 7 undef rfl (Or.inr ⟨by rfl,rfl⟩) ?_;simp only [si];refine tk 8 undef rfl (Or.inr ⟨by rfl,rfl⟩) ?_;simp only [si];refine tk 9 undef rfl (Or.inr ⟨by rfl,rfl⟩) ?_;simp only [si];refine tk 10 undef rfl (Or.inr ⟨by rfl,rfl⟩) ?_;simp only [si];refine tk 11 undef rfl (Or.inr ⟨by rfl,rfl⟩) ?_;simp only [si];refine tk 12 undef rfl (Or.inr ⟨by rfl,rfl⟩) ?_;simp only [si];refine tk 13 undef rfl (Or.inr ⟨by rfl,rfl⟩) ?_;simp only [si];refine tk 14 undef rfl (Or.inr ⟨by rfl,rfl⟩) ?_;simp only [si];refine tq 15 rfl ?_;simp only [si];refine wpAnyH_done (by kernel_rfl) ?_ _
     (try go_wp2_with fail)
     go_meet;exact ⟨by rw [ec],by first|exact au|exact au.drew⟩
    case rest =>
     obtain ⟨rfl,em⟩:=hcut;obtain ⟨af,jd⟩:∃ af:World,af=wc:=⟨_,rfl⟩;subst jd;have U:He (rI p w af bs m (nA bs m (aN m q)) (.slice (some ⟨be,oe,none⟩) n cap) B (fun o=>(#[.string u.id,.string u.sd,.string u.ty,.bool u.st,.string u.key,.int .i64 u.tm,.slice pa u.np cp,.slice none 0 0,.string u.val,.slice ga u.ng cg]:Array Value)[o]?.getD undef) I G (.slice am G.length an)):=bx.o.below em;clear bx em bw HS au
     go_upto_if 179 with fail
     go_cut [191] (fun _ wx=>∃ fi,rI p w wx bs m (nA bs m (aN m q)) (.slice (some ⟨be,oe,none⟩) n cap) B (fun o=>(#[.string u.id,.string u.sd,.string u.ty,.bool u.st,.string u.key,.int .i64 u.tm,.slice pa u.np cp,.slice none 0 0,.string u.val,.slice ga u.ng cg]:Array Value)[o]?.getD undef) I ad fi)
     case first =>
      clear a5 N Hf bu bp ae ak a3 bg dn;cases cB
      case true =>
       have jj:He (ad=G ++ [ix]):=by have:=bq.o;rw [if_pos rfl] at this;exact this
       clear bq;have bm:=U.o.g.a;have y7:af.cell? ⟨B,7,none⟩=some (.slice am G.length an):=U.o.g.b 7 (by decide);have nc:(af.alloc (.cells #[.string ix] 9)).cell? ⟨B,7,none⟩=some (.slice am G.length an):=(U.o.g.below bA).b 7 (by decide);have HO:He (∀ W,Below af.heap.size af W->W.ownsRow I.heap.size 9 1 (.slice am G.length an) G.length (G.map Value.string)):=fun W hW=>(U.o.below hW).o
       have df:G.length+1<=maxLen:=by unfold maxLen;omega
       have cn:(G.length+1) * 16<=140737488355328:=by omega
       have li:I.heap.size<=af.heap.size:=U.o.k.1
       go_upto_region 29 with fail
       refine wp_region_held_drew (S:=fun W=>W.cell? ⟨w.heap.size,0,none⟩=some (.slice (some ⟨be,oe,none⟩) n cap)/\W.cell? ⟨be,oe+n1 * 10,none⟩=some (.string ix)) (by kernel_rfl) ?_ (fun hHeld=>?_)
       ·(try dsimp only);exact aw.o _ (bm.below (by first|with_reducible exact kB|with_reducible exact kB.drew|with_reducible exact kB.drew.drew|with_reducible exact kB.drew.drew.drew))
       refine tq 0 rfl ?_;simp only [si];refine tq 2 rfl ?_;simp only [si];refine tq 3 rfl ?_;simp only [si];refine tq 4 rfl ?_;simp only [si];refine tq 5 rfl ?_;simp only [si];refine tq 6 rfl ?_;simp only [si];refine tq 7 rfl ?_;simp only [si];refine tq 8 rfl ?_;simp only [si];refine wpAnyH_ready (rs:=[1,9]) (by kernel_rfl) (by simp) ?_;refine AllReadyH.cons rfl (fun K hK=>?_) (AllReadyH.cons rfl (fun K hK=>?_) AllReadyH.nil)
       ·go_simp
        refine hK.out _ _ ?_ (fun hHeld=>?_)
        ·(try dsimp only);exact aw.o _ (bm.below (by first|with_reducible exact kB|with_reducible exact kB.drew|with_reducible exact kB.drew.drew|with_reducible exact kB.drew.drew.drew))
        clear hK K;try simp only [si]
        refine rd 9 rfl fun K hK=>?_
        go_simp;refine hK.out _ _ ?_ (fun hHeld=>?_)
        ·(try dsimp only);exact aw.o _ (bm.below (by first|exact bA|exact bA.drew|exact kB.drew.alloc nL _|exact (kB.drew.alloc nL _).drew))
        clear hK K;try simp only [si]
        refine rd 10 rfl fun K hK=>?_
        refine step_append_lies _ (by rfl) _ _ _ (by rfl) I.heap.size 9 i0 _ 1 16 underlying27 ff e5 cb cc rfl (by decide) (.slice am G.length an) G.length (G.map Value.string) (by rfl) (HO.o _ (by first|exact bA|exact bA.drew|exact kB.drew.alloc nL _|exact (kB.drew.alloc nL _).drew)) ⟨af.heap.size,0,none⟩ 1 1 [.string ix] (by rfl) (by rfl) (aV _ _ _) (bL _) (by decide) df cn (by simp;omega) (af.heap.size+1) (by simp) ?_;intro gg cq w4 a4 ag e3 ey;have aq:=(U.o.g.below (by first|exact bA|exact bA.drew|exact kB.drew.alloc nL _|exact (kB.drew.alloc nL _).drew)).grow hp ag (fun b hb=>by have:=(aD (HO.o af kB) b hb).1;omega);have z7:w4.cell? ⟨B,7,none⟩=some (.slice am G.length an):=aq.b 7 (by decide);have f7:=aq.f0 7;refine hK.out _ _ ?_ (fun hHeld=>?_)
        ·(try dsimp only);exact aw.o _ (by first|exact aq.a|exact aq.a.below kB.drew)
        clear hK K;try simp only [si]
        refine tq 11 rfl ?_;simp only [si];refine rd 12 rfl fun K hK=>?_
        go_simp;refine hK.out _ _ ?_ (fun hHeld=>?_)
        ·(try dsimp only);exact aw.o _ (by first|exact (aq.set hp 7 (by decide) _).a|exact (aq.set hp 7 (by decide) _).a.below kB.drew)
        clear hK K;try simp only [si]
        refine wpAnyH_done (by kernel_rfl) ?_ _
        (try go_wp2_with fail)
        go_meet;have hS:=U.o.snoc (X:=_) hp (by first|exact bA|exact bA.drew|exact kB.drew.alloc nL _|exact (kB.drew.alloc nL _).drew) a4 ag;rw [<- jj.o] at hS;exact ⟨_,by first|with_reducible exact hS|with_reducible exact hS.below kB.drew⟩
       go_simp;refine hK.out _ _ ?_ (fun hHeld=>?_)
       ·(try dsimp only);exact aw.o _ (bm.below (by first|exact bA|exact bA.drew|exact kB.drew.alloc nL _|exact (kB.drew.alloc nL _).drew))
       clear hK K;try simp only [si]
       refine rd 1 rfl fun K hK=>?_
       go_simp;refine hK.out _ _ ?_ (fun hHeld=>?_)
       ·(try dsimp only);exact aw.o _ (bm.below (by first|exact bA|exact bA.drew|exact kB.drew.alloc nL _|exact (kB.drew.alloc nL _).drew))
       clear hK K;try simp only [si]
       refine rd 10 rfl fun K hK=>?_
       refine step_append_lies _ (by rfl) _ _ _ (by rfl) I.heap.size 9 i0 _ 1 16 underlying27 ff e5 cb cc rfl (by decide) (.slice am G.length an) G.length (G.map Value.string) (by rfl) (HO.o _ (by first|exact bA|exact bA.drew|exact kB.drew.alloc nL _|exact (kB.drew.alloc nL _).drew)) ⟨af.heap.size,0,none⟩ 1 1 [.string ix] (by rfl) (by rfl) (aV _ _ _) (bL _) (by decide) df cn (by simp;omega) (af.heap.size+1) (by simp) ?_;intro gg cq w4 a4 ag e3 ey;have aq:=(U.o.g.below (by first|exact bA|exact bA.drew|exact kB.drew.alloc nL _|exact (kB.drew.alloc nL _).drew)).grow hp ag (fun b hb=>by have:=(aD (HO.o af kB) b hb).1;omega);have z7:w4.cell? ⟨B,7,none⟩=some (.slice am G.length an):=aq.b 7 (by decide);have f7:=aq.f0 7;refine hK.out _ _ ?_ (fun hHeld=>?_)
       ·(try dsimp only);exact aw.o _ (by first|exact aq.a|exact aq.a.below kB.drew)
       clear hK K;try simp only [si]
       refine tq 11 rfl ?_;simp only [si];refine rd 12 rfl fun K hK=>?_
       go_simp;refine hK.out _ _ ?_ (fun hHeld=>?_)
       ·(try dsimp only);exact aw.o _ (by first|exact (aq.set hp 7 (by decide) _).a|exact (aq.set hp 7 (by decide) _).a.below kB.drew)
       clear hK K;try simp only [si]
       refine wpAnyH_done (by kernel_rfl) ?_ _
       (try go_wp2_with fail)
       go_meet;have hS:=U.o.snoc (X:=_) hp (by first|exact bA|exact bA.drew|exact kB.drew.alloc nL _|exact (kB.drew.alloc nL _).drew) a4 ag;rw [<- jj.o] at hS;exact ⟨_,by first|with_reducible exact hS|with_reducible exact hS.below kB.drew⟩
      case false =>
       have HX:He (rI p w af bs m (nA bs m (aN m q)) (.slice (some ⟨be,oe,none⟩) n cap) B (fun o=>(#[.string u.id,.string u.sd,.string u.ty,.bool u.st,.string u.key,.int .i64 u.tm,.slice pa u.np cp,.slice none 0 0,.string u.val,.slice ga u.ng cg]:Array Value)[o]?.getD undef) I ad (.slice am G.length an)):=by unfold He;rw [bq.o,if_neg (by decide)];exact U.o
       clear U bq aw;go_wp2
       go_meet;exact ⟨_,HX.o⟩
     case rest =>
      obtain ⟨fi,hU⟩:=hcut;obtain ⟨Z,hw⟩:∃ Z:World,Z=wc:=⟨_,rfl⟩;subst hw
      have cx:∀ t ∈ ad,t.size<=maxLen:=by
       rw [bq.o];intro t ht;split at ht
       ·rcases List.mem_append.1 ht with ht|ht
        ·exact ed.o t ht
        rw [List.mem_singleton] at ht;subst ht;exact gr
       exact ed.o t ht
      have a2:aH Z I.heap.size fi ad:=hU.o;obtain ⟨ck,cm,ch,i2,_⟩:=a2.sl cx;subst ch;have H:He (rI p w Z bs m (nA bs m (aN m q)) (.slice (some ⟨be,oe,none⟩) n cap) B (fun o=>(#[.string u.id,.string u.sd,.string u.ty,.bool u.st,.string u.key,.int .i64 u.tm,.slice pa u.np cp,.slice none 0 0,.string u.val,.slice ga u.ng cg]:Array Value)[o]?.getD undef) I ad (.slice ck ad.length cm)):=hU
      have HF:He (∀ W',Kb (w.heap.size+1) Z W'->bR p w W' bs m (nA bs m (aN m q))->pT p w bs m q E n A (.returned (.agg #[.string u.id,.string u.sd,.string u.ty,.bool u.st,.string u.key,.int .i64 u.tm,.slice pa u.np cp,.slice ck ad.length cm,.string u.val,.slice ga u.ng cg])) W'):=fun W' hK hD=>by
       have he:YN bs m q E n l={ u with na:=ad.length,Av:=aG ad }:=by
        unfold YN;rw [<- kn.o,<- kt.o,<- Hk.o,<- j5.o,<- gq.o,<- io.o]
       have dm:=H.o.k;have hE:=de.o W' ga cg (hK.row (dm.row ae.o (Nat.lt_succ_self B)) (by omega)) (hK.row (dm.row ak.o (Nat.lt_succ_self B)) (by omega));have hS:=(aH.sls (hK.row a2 (by have:=H.o.lo;omega)) cx).2;refine ⟨_,pa,cp,ck,cm,ga,cg,⟨l,?_,rfl⟩,?_,?_,?_,?_,hD⟩
       ·rw [<- Hk.o,<- HL.o,<- hl.o];exact a3.o
       ·rw [he]
       ·rw [he];exact ⟨hE.hid,hE.hsd,hE.hty,hE.hkey,hE.hval,hE.hp,hS,hE.hg⟩
       ·rw [he];exact ⟨by show YB pa u.np _;rw [ft.o];exact iS ae.o (by omega),iS a2 (by have:=H.o.lo;omega),iS ak.o (by omega)⟩
       rw [he];refine ⟨?_,?_,?_,fun b h1 h2=>?_⟩
       ·show bU W' w.heap.size (.slice pa u.np cp) u.np u.Pv
        rw [ft.o,j7.o];exact aH.tt (OK (hK.row (dm.row ae.o (Nat.lt_succ_self B)) (by omega)) (by omega))
       ·exact aH.tt (OK (hK.row a2 (by have:=H.o.lo;omega)) (by have:=H.o.lo;omega))
       ·exact OK (hK.row (dm.row ak.o (Nat.lt_succ_self B)) (by omega)) (by omega)
       have h3:=(aD ae.o b (by rw [<- ft.o];exact h1)).2;have h4:=(aD a2 b h2).1;omega
      have b0:Z.cell? ⟨B,0,none⟩=some (.string u.id):=H.o.g.b 0 (by decide);have b1:Z.cell? ⟨B,1,none⟩=some (.string u.sd):=H.o.g.b 1 (by decide);have b2:Z.cell? ⟨B,2,none⟩=some (.string u.ty):=H.o.g.b 2 (by decide);have b3:Z.cell? ⟨B,3,none⟩=some (.bool u.st):=H.o.g.b 3 (by decide);have b4:Z.cell? ⟨B,4,none⟩=some (.string u.key):=H.o.g.b 4 (by decide);have b5:Z.cell? ⟨B,5,none⟩=some (.int .i64 u.tm):=H.o.g.b 5 (by decide);have b6:Z.cell? ⟨B,6,none⟩=some (.slice pa u.np cp):=H.o.g.b 6 (by decide);have b7:Z.cell? ⟨B,7,none⟩=some (.slice ck ad.length cm):=H.o.g.b 7 (by decide);have b8:Z.cell? ⟨B,8,none⟩=some (.string u.val):=H.o.g.b 8 (by decide);have b9:Z.cell? ⟨B,9,none⟩=some (.slice ga u.ng cg):=H.o.g.b 9 (by decide);obtain ⟨v0,z0⟩:=H.o.g.a.z 0 (by decide);obtain ⟨v1,z1⟩:=H.o.g.a.z 1 (by decide);obtain ⟨v2,z2⟩:=H.o.g.a.z 2 (by decide);obtain ⟨v3,z3⟩:=H.o.g.a.z 3 (by decide);obtain ⟨v4,z4⟩:=H.o.g.a.z 4 (by decide);obtain ⟨v5,z5⟩:=H.o.g.a.z 5 (by decide);obtain ⟨v6,z6⟩:=H.o.g.a.z 6 (by decide);obtain ⟨v7,z7⟩:=H.o.g.a.z 7 (by decide);obtain ⟨v8,z8⟩:=H.o.g.a.z 8 (by decide);obtain ⟨v9,z9⟩:=H.o.g.a.z 9 (by decide);have f1:=H.o.g.a.f1;have cj:=H.o.g.a.dw;have HD:He (bR p w Z bs m (nA bs m (aN m q))):=cj;clear hU cx a2 i2 a5 N Hf bu bp ae ak a3 bq bg U aw de H cj;go_wp2
      refine bodyPost_ret (v:=.agg #[.string u.id,.string u.sd,.string u.ty,.bool u.st,.string u.key,.int .i64 u.tm,.slice pa u.np cp,.slice ck ad.length cm,.string u.val,.slice ga u.ng cg]) (by simp [results,results37,go_sem,z0,z1,z2,z3,z4,z5,z6,z7,z8,z9]) rfl (HF.o _ (Kb.fill10 (w.heap.size+1) Z _ _ _ _ _ _ _ _ _ _) ?_)
      (repeat (refine bR.own ?_ (by first|exact nL|exact Nat.le_add_right _ _) hp _ _))
      exact HD.o
end Go.Proofs.YtpfeegcdlikegaaGreat
