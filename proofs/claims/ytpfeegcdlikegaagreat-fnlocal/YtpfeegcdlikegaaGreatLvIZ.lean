import Derived.Test.YtpfeegcdlikegaaGreatEaIZ
import Derived.Test.YtpfeegcdlikegaaGreatSrtOZ
set_option maxHeartbeats 16000000
set_option maxRecDepth 100000
namespace Go.Proofs.YtpfeegcdlikegaaGreat
open Go.RowKit Go.Maps Go.ChangeMaps Go.Proofs.Tryz
variable {b n cg mb:Nat}{F:aE->Value}{ga oc op:Option Addr}{M:Nat->ByteArray}{L:Nat->Int}
abbrev sD:aE:=⟨bJ,aJ,aJ⟩
abbrev tI:aE:=⟨aX,aJ,aJ⟩
theorem IG {c:Nat}(w:World)(O:fE w mb c F)(hc:F sD=.pointer oc)(hp:F tI=.pointer op) :
  Calls prog 31 #[.map (some mb)] w fun e w'=>e=.returned (.agg #[.pointer oc,.pointer op])/\Below w.heap.size w w':=by
 have I:∀ o,Below w.heap.size w (w.alloc o):=fun o=>bA
 have N:EJ sD:=⟨by decide,by decide⟩;have J:EJ tI:=⟨by decide,by decide⟩
 have U:He (∀ W,Below w.heap.size w W->(Instr.lookup 56 (.map (some mb)) (.agg #[.string bJ,.string aJ]) false).run prog W=.ok (.pointer oc) W/\(Instr.lookup 56 (.map (some mb)) (.agg #[.string aX,.string aJ]) false).run prog W=.ok (.pointer op) W):=fun W Y=>by
  have Z:=lV (O.below Y) N;have h2:=lV (O.below Y) J;rw [hc] at Z;rw [hp] at h2;exact ⟨Z,h2⟩
 obtain ⟨H,u⟩:∃ H,H=w.alloc (.cells #[.pointer none,.pointer none] 74):=⟨_,rfl⟩;have G:Below w.heap.size w H:=by rw [u];exact I _
 have c0:H.cell? ⟨w.heap.size,0,none⟩=some (.pointer none):=by rw [u];exact kA rfl
 have c1:H.cell? ⟨w.heap.size,1,none⟩=some (.pointer none):=by rw [u];exact kA rfl
 have f0:∀ o,H.frozen? ⟨w.heap.size,o,none⟩=false:=fun o=>by rw [u];exact kF rfl
 obtain ⟨l0,m0⟩:=U.o H G;obtain ⟨l1,m1⟩:=U.o H.drew G.drew;clear O hc hp U
 go_enter func31,ntmps31
 go_wp2_with fail
 rw [<- u];clear u
 go_region
 all_goals
  go_wp2
  refine bodyPost_ret (v:=.agg #[.pointer oc,.pointer op]) (by simp [results,results31,go_sem,c0,c1]) rfl ⟨rfl,?_⟩
  first|exact (G.setCell nL _).setCell nL _|exact ((G.setCell nL _).setCell nL _).drew|exact (G.drew.setCell nL _).setCell nL _
def UZ (M:Nat->ByteArray)(L:Nat->Int)(n:Nat)(s:ByteArray)(z:Int):Int:=(gV M L s n).getD z
theorem IN {o:Nat}(s:ByteArray)(z:Int)(w:World)(hb:b<w.heap.size)(N:w.cell? ⟨b,o+9,none⟩=some (.slice ga n cg))(J:uJ M n)(hn:n<=50)(h:gN w ga n cg M L) :
  Calls prog 72 #[.agg #[.pointer oc,.pointer (some ⟨b,o,none⟩)],.string s,.int .i64 z] w fun e w'=>e=.returned (.int .i64 (UZ M L n s z))/\Below w.heap.size w w':=by
 have u:∀ o,Below w.heap.size w (w.alloc o):=fun o=>bA
 have c9:(w.alloc (.cells #[.pointer oc,.pointer (some ⟨b,o,none⟩)] 74)).cell? ⟨b,o+9,none⟩=some (.slice ga n cg):=((u _).cell (by exact hb)).trans N;have O:b≠w.heap.size:=by omega
 have I:He (∀ W,Below w.heap.size w W->Calls prog 125 #[.slice ga n cg,.string s] W fun e w'=>e=.returned (fQ (gV M L s n))/\Below W.heap.size W w'):=fun W U=>(MR s W J (by omega) (h.below U)).mono fun e w' ⟨Y,Z⟩=>⟨Y,Z.below⟩
 have H:He (UZ M L n s z=(gV M L s n).getD z):=rfl;clear h J N
 cases ho:gV M L s n with
 | none =>
  rw [ho] at I H
  go_enter func72,ntmps72
  go_wp2_with fail
  refine (I.o _ (u _)).mono ?_;rintro e w1 ⟨rfl,G⟩;unfold fQ;simp only [Option.getD_none,Option.isSome_none];go_wp2
  go_ret
  exact ⟨aA H.o.symm,(u _).trans (G.mono (by simp))⟩
 | some v =>
  rw [ho] at I H
  go_enter func72,ntmps72
  go_wp2_with fail
  refine (I.o _ (u _)).mono ?_;rintro e w1 ⟨rfl,G⟩;unfold fQ;simp only [Option.getD_some,Option.isSome_some];go_wp2
  go_ret;exact ⟨aA H.o.symm,(u _).trans (G.mono (by simp))⟩
theorem IF {o:Nat}{ev:Ev}(u:ByteArray)(w:World)(hb:b<w.heap.size)(hc:w.cell? ⟨b,o+9,none⟩=some (.slice ga ev.ng cg))(hS:uJ ev.M ev.ng)(hn:ev.ng<=50)(h:gN w ga ev.ng cg ev.M ev.L) :
  Calls prog 32 #[.agg #[.pointer oc,.pointer (some ⟨b,o,none⟩)],.string u] w fun e w'=>e=.returned (.int .i64 (BX ev u))/\Below w.heap.size w w':=by
 have af:∀ o,Below w.heap.size w (w.alloc o):=fun o=>bA
 obtain ⟨G,N⟩:∃ G,G=w.alloc (.cells #[.pointer oc,.pointer (some ⟨b,o,none⟩)] 74):=⟨_,rfl⟩;have H:Below w.heap.size w G:=by rw [N];exact af _
 have U:∀ i,G.cell? ⟨w.heap.size,i,none⟩=(#[.pointer oc,.pointer (some ⟨b,o,none⟩)]:Array Value)[i]?:=fun i=>by rw [N];exact kA rfl
 have O:w.heap.size<G.heap.size:=by rw [N];simp
 have x0:=U 0;have x1:=U 1;have HG:He (∀ W s z,Below w.heap.size w W->Calls prog 72 #[.agg #[.pointer oc,.pointer (some ⟨b,o,none⟩)],.string s,.int .i64 z] W fun e w'=>e=.returned (.int .i64 (UZ ev.M ev.L ev.ng s z))/\Below W.heap.size W w'):=fun W s z J=>IN s z W (nT hb J.size) ((J.cell (by exact hb)).trans hc) hS hn (h.below J)
 have Hv:He (BX ev u=UZ ev.M ev.L ev.ng u (UZ ev.M ev.L ev.ng ⟨#[42,100,101,102,97,117,108,116]⟩ 0)):=by
  unfold He BX UZ;cases gV ev.M ev.L u ev.ng <;> rfl
 have ae:Below G.heap.size G G:=kB;clear h hS hc U;generalize BX ev u=vv at *;have H1:He (∀ W,Below G.heap.size G W->Calls prog 72 #[.agg #[.pointer oc,.pointer (some ⟨b,o,none⟩)],.string ⟨#[42,100,101,102,97,117,108,116]⟩,.int .i64 0] W fun e w'=>e=.returned (.int .i64 (UZ ev.M ev.L ev.ng ⟨#[42,100,101,102,97,117,108,116]⟩ 0))/\Below G.heap.size G w'):=fun W J=>(HG.o W _ _ (H.trans (J.mono H.size))).mono fun e w' ⟨Z,h2⟩=>⟨Z,J.trans (h2.mono J.size)⟩
 generalize UZ ev.M ev.L ev.ng ⟨#[42,100,101,102,97,117,108,116]⟩ 0=zd at *;have H2:He (∀ W,Below G.heap.size G W->Calls prog 72 #[.agg #[.pointer oc,.pointer (some ⟨b,o,none⟩)],.string u,.int .i64 zd] W fun e w'=>e=.returned (.int .i64 vv)/\Below G.heap.size G w'):=fun W J=>(HG.o W u zd (H.trans (J.mono H.size))).mono fun e w' ⟨Z,h2⟩=>⟨by rw [Hv.o];exact Z,J.trans (h2.mono J.size)⟩
 clear HG Hv
 go_enter func32,ntmps32
 go_wp2_with fail
 rw [<- N];clear N;have y0:G.cell? ⟨w.heap.size,0,none⟩=some (.pointer oc):=x0;have y1:G.cell? ⟨w.heap.size,1,none⟩=some (.pointer (some ⟨b,o,none⟩)):=x1;clear x0 x1
 go_region_held3 (fun W=>W.cell? ⟨w.heap.size,0,none⟩=some (.pointer oc)/\W.cell? ⟨w.heap.size,1,none⟩=some (.pointer (some ⟨b,o,none⟩)))
  (first|(with_reducible exact ⟨y0,y1⟩)|go_keep)
  (first
   | (go_at_call_of 72 u;refine (H2.o _ (by with_reducible (repeat refine .drew ?_);exact Y)).mono ?_;rintro e w3 ⟨rfl,I⟩;have r0:=(I.cell (by exact O)).trans y0;have r1:=(I.cell (by exact O)).trans y1)
   | (go_at_call 72;refine (H1.o _ (by with_reducible (repeat refine .drew ?_);exact ae)).mono ?_;rintro e w2 ⟨rfl,Y⟩;have q0:=(Y.cell (by exact O)).trans y0;have q1:=(Y.cell (by exact O)).trans y1))
 all_goals
  go_wp2
  go_ret;exact ⟨rfl,H.trans (Below.mono (by first|exact I|exact I.drew|exact I.drew.drew) H.size)⟩
theorem AD (u:ByteArray)(w:World) :
  Calls prog 32 #[.agg #[.pointer none,.pointer none],.string u] w fun e w'=>e=.returned (.int .i64 0)/\Below w.heap.size w w':=by
 have G:∀ o,Below w.heap.size w (w.alloc o):=fun o=>bA
 have I:∀ W,Calls prog 73 #[.agg #[.pointer none,.pointer none],.string u] W fun e w'=>e=.returned (.bool false)/\Below W.heap.size W w':=fun W=>by
  go_enter func73,ntmps73
  go_wp2
  go_ret;exact ⟨rfl,bA⟩
 go_enter func32,ntmps32
 go_wp2_with fail
 refine (I _).mono ?_;rintro e w1 ⟨rfl,H⟩;go_wp2
 go_ret;exact ⟨rfl,(G _).trans (H.mono (by simp))⟩
theorem IX {o:Nat}(sd u:ByteArray)(w:World)(hb:b<w.heap.size)(Y:w.cell? ⟨b,o+1,none⟩=some (.string sd)) :
  Calls prog 32 #[.agg #[.pointer (some ⟨b,o,none⟩),.pointer none],.string u] w fun e w'=>e=.returned (.int .i64 (if (sd.toList == u.toList)=true then 100 else 0))/\Below w.heap.size w w':=by
 have G:∀ o,Below w.heap.size w (w.alloc o):=fun o=>bA
 cases hq:(sd.toList == u.toList)
 all_goals
  have J:∀ W,Below w.heap.size w W->Calls prog 73 #[.agg #[.pointer (some ⟨b,o,none⟩),.pointer none],.string u] W fun e w'=>e=.returned (.bool (sd.toList == u.toList))/\Below W.heap.size W w':=fun W N=>by
   have H:b<W.heap.size:=nT hb N.size;have Z:(W.alloc (.cells #[.pointer (some ⟨b,o,none⟩),.pointer none] 74)).cell? ⟨b,o+1,none⟩=some (.string sd):=(((Below.refl W.heap.size W).alloc nL _).cell (by exact H)).trans ((N.cell (by exact hb)).trans Y);have U:b≠W.heap.size:=by omega
   go_enter func73,ntmps73
   go_wp2
   go_ret;exact ⟨aC (by first|rfl|exact hq.symm|rw [hq]),bA⟩
  have O:He (_):=J;clear J
  go_enter func32,ntmps32
  go_wp2_with fail
  refine (O.o _ (G _)).mono ?_;rintro e w1 ⟨rfl,I⟩;rw [hq];go_wp2
  go_ret;exact ⟨rfl,(G _).trans (I.mono (by simp))⟩
variable {w w':World}{o:dI}{x:aE}
def EI (w:World)(v:Option Addr)(x:Option Ev):Prop:=(x=none/\v=none)\/∃ ev b off,x=some ev/\v=some ⟨b,off,none⟩/\b<w.heap.size/\mT w b off ev
theorem EI.below {v:Option Addr}{x:Option Ev}(h:EI w v x)(hb:Below w.heap.size w w'):EI w' v x:=by
 rcases h with h|⟨ev,b,off,H,I,u,G⟩
 ·exact Or.inl h
 exact Or.inr ⟨ev,b,off,H,I,nT u hb.size,G.below hb u⟩
structure oT (w:World)(oc op:Option Addr)(o:dI):Prop where
 c:EI w oc (o bJ aJ)
 p:EI w op (o aX aJ)
 asc:∀ p,o aX aJ=some p->uJ p.M p.ng/\p.ng<=50
theorem oT.below (h:oT w oc op o)(hb:Below w.heap.size w w'):oT w' oc op o:=⟨h.c.below hb,h.p.below hb,h.asc⟩
theorem UK (u:ByteArray)(w:World)(h:oT w oc op o) :
  Calls prog 32 #[.agg #[.pointer oc,.pointer op],.string u] w fun e w'=>e=.returned (.int .i64 (dL o u))/\Below w.heap.size w w':=by
 unfold dL;rcases h.p with ⟨H,rfl⟩|⟨p,b,off,H,rfl,hb,pa,cp,aa,ca,ga,cg,J,G⟩
 ·rw [H]
  rcases h.c with ⟨I,rfl⟩|⟨c,b,off,I,rfl,hb,pa,cp,aa,ca,ga,cg,J,G⟩
  ·rw [I]
   exact AD u w
  rw [I];exact IX _ u w hb J.c1
 rw [H];exact IF u w hb J.c9 (h.asc p H).1 (h.asc p H).2 G.hg
theorem PB (oc:Option Addr)(s:ByteArray)(z:Int)(w:World) :
  Calls prog 72 #[.agg #[.pointer oc,.pointer none],.string s,.int .i64 z] w fun e w'=>e=.returned (.int .i64 z)/\Below w.heap.size w w':=by
 go_enter func72,ntmps72
 go_wp2
 go_ret;exact ⟨rfl,bA⟩
theorem VB (s:ByteArray)(z:Int)(w:World)(h:oT w oc op o) :
  Calls prog 72 #[.agg #[.pointer oc,.pointer op],.string s,.int .i64 z] w fun e w'=>e=.returned (.int .i64 (VL o s z))/\Below w.heap.size w w':=by
 unfold VL;rcases h.p with ⟨u,rfl⟩|⟨p,b,off,u,rfl,hb,pa,cp,aa,ca,ga,cg,H,G⟩
 ·rw [u]
  exact PB oc s z w
 rw [u];exact IN s z w hb H.c9 (h.asc p u).1 (h.asc p u).2 G.hg
theorem a00 (t:ByteArray)(w:World)(h:oT w oc op o) :
  Calls prog 162 #[.agg #[.pointer oc,.pointer op],.string t] w fun e w'=>e=.returned (.int .i64 (DE o t))/\Below w.heap.size w w':=by
 have H:He (DE o t=if bH t || sP t || (sW t && (o aX aJ).isSome) then 50 else 0):=rfl;have u:∀ o,Below w.heap.size w (w.alloc o):=fun o=>bA
 generalize DE o t=d at *;cases hB:bH t <;> cases hK:sP t <;> cases hS:sW t
 all_goals
  rw [hB,hK,hS] at H;unfold bH at hB;unfold sP at hK;unfold sW at hS;rcases h.p with ⟨G,rfl⟩|⟨p,b,off,G,rfl,-,-⟩
  all_goals
   rw [G] at H;clear h G
   go_enter func162,ntmps162
   go_wp2
   go_ret;exact ⟨aA (by rw [H.o];rfl),u _⟩
def fV (w:World)(F:aE->Value)(o:dI)(x:aE):Prop:=∃ v,F x=.pointer v/\EI w v (o x.ty x.key)
theorem fV.below (h:fV w F o x)(hb:Below w.heap.size w w'):fV w' F o x:=by
 obtain ⟨v,u,G⟩:=h;exact ⟨v,u,G.below hb⟩
theorem UQ {c:Nat}(u:ByteArray)(hu:u.size<=maxLen)(w:World)(hM:fE w mb c F)(hs:fV w F o ⟨dK,u,aJ⟩) :
  Calls prog 136 #[.map (some mb),.string u] w fun e w'=>e=.returned (.string (memO o u))/\Below w.heap.size w w':=by
 obtain ⟨v,hv,J⟩:=hs
 have Y:He (∀ W,Below w.heap.size w W->(Instr.lookup 56 (.map (some mb)) (.agg #[.string dK,.string u]) false).run prog W=.ok (.pointer v) W):=fun W hW=>by
  have:=lV (hM.below hW) (k:=⟨dK,u,aJ⟩) ⟨by show dK.size<=maxLen;decide,hu⟩;rw [hv] at this;exact this
 have I:He (memO o u=match o dK u with|some m=>m.val|none=>rX):=rfl;have HS:He (Calls prog 26 #[.string u] w fun e w'=>e=.returned (.agg #[.string dK,.string u])/\Below w.heap.size w w'):=mA u w;clear hM hv;generalize memO o u=vv at *;rcases J with ⟨H,rfl⟩|⟨m,b,off,H,rfl,hb,pa,cp,aa,ca,ga,cg,Z,N⟩
 ·have O:He (vv=rX):=by unfold He;rw [I.o,H]
  clear I H
  go_enter func136,ntmps136
  go_wp2_with fail
  refine HS.o.mono ?_;rintro e w1 ⟨rfl,G⟩;have U:=Y.o w1 G;go_wp2
  go_ret;exact ⟨by rw [O.o];rfl,G⟩
 have O:He (vv=m.val):=by unfold He;rw [I.o,H]
 have c8:=Z.c8;clear I H Z N
 go_enter func136,ntmps136
 go_wp2_with fail
 refine HS.o.mono ?_;rintro e w1 ⟨rfl,G⟩;have U:=Y.o w1 G;have d8:=(G.cell (by exact hb)).trans c8;go_wp2
 go_ret;exact ⟨by rw [O.o];rfl,G⟩
theorem YZ (t s:ByteArray)(u:s=⟨#[42]⟩ ++ t)(w:World)(h:oT w oc op o) :
  Calls prog 72 #[.agg #[.pointer oc,.pointer op],.string s,.int .i64 (DE o t)] w fun e w'=>e=.returned (.int .i64 (gA o t))/\Below w.heap.size w w':=by
 have:=VB s (DE o t) w h;unfold gA;rw [<- u];exact this
theorem YY (ev:Ev)(t s:ByteArray)(u:s=⟨#[35]⟩ ++ ev.ty)(G:t=if ev.st then sU else rL)(w:World)(h:oT w oc op o) :
  Calls prog 72 #[.agg #[.pointer oc,.pointer op],.string s,.int .i64 (gA o t)] w fun e w'=>e=.returned (.int .i64 (BV o ev))/\Below w.heap.size w w':=by
 have:=VB s (gA o t) w h;unfold BV;rw [<- u,<- G];exact this
theorem UW (t:ByteArray)(ht:t.size<=1000)(w:World)(h:oT w oc op o) :
  Calls prog 140 #[.agg #[.pointer oc,.pointer op],.string t] w fun e w'=>e=.returned (.int .i64 (gA o t))/\Below w.heap.size w w':=by
 have ae:∀ o,Below w.heap.size w (w.alloc o):=fun o=>bA
 obtain ⟨u,H⟩:∃ u,u=w.alloc (.cells #[.pointer oc,.pointer op] 74):=⟨_,rfl⟩;have G:Below w.heap.size w u:=by rw [H];exact ae _
 have J:w.heap.size<u.heap.size:=by rw [H];simp
 have y0:u.cell? ⟨w.heap.size,0,none⟩=some (.pointer oc):=by rw [H];exact kA rfl
 have y1:u.cell? ⟨w.heap.size,1,none⟩=some (.pointer op):=by rw [H];exact kA rfl
 have H1:He (∀ W,Below u.heap.size u W->Calls prog 162 #[.agg #[.pointer oc,.pointer op],.string t] W fun e w'=>e=.returned (.int .i64 (DE o t))/\Below u.heap.size u w'):=fun W N=>(a00 t W (h.below (G.trans (N.mono G.size)))).mono fun e w' ⟨Y,Z⟩=>⟨Y,N.trans (Z.mono N.size)⟩
 have U:∀ W,Below w.heap.size w W->Calls prog 72 #[.agg #[.pointer oc,.pointer op],.string (⟨#[42]⟩ ++ t),.int .i64 (DE o t)] W fun e w'=>e=.returned (.int .i64 (gA o t))/\Below W.heap.size W w':=by
  intro W N;have q:=YZ (o:=o) t (⟨#[42]⟩ ++ t) rfl W (h.below N);exact q
 have H2:He (∀ W,Below u.heap.size u W->Calls prog 72 #[.agg #[.pointer oc,.pointer op],.string (⟨#[42]⟩ ++ t),.int .i64 (DE o t)] W fun e w'=>e=.returned (.int .i64 (gA o t))/\Below u.heap.size u w'):=fun W N=>(U W (G.trans (N.mono G.size))).mono fun e w' ⟨Y,Z⟩=>⟨Y,N.trans (Z.mono N.size)⟩
 have ad:Below u.heap.size u u:=kB;clear h U;generalize gA o t=v at *;generalize DE o t=d at *;have ag:¬ (9223372036854775807<(⟨#[42]⟩:ByteArray).size+t.size):=by have:(⟨#[42]⟩:ByteArray).size=1:=rfl;omega
 have aj:(⟨#[42]⟩:ByteArray).size+t.size<=9223372036854775807:=by have:(⟨#[42]⟩:ByteArray).size=1:=rfl;omega
 have am:¬ (9223372036854775807<1+t.size):=by omega
 have ak:1+t.size<=9223372036854775807:=by omega
 go_enter func140,ntmps140
 go_wp2_with fail
 rw [<- H];clear H
 go_region_held3 (fun W=>W.cell? ⟨w.heap.size,0,none⟩=some (.pointer oc)/\W.cell? ⟨w.heap.size,1,none⟩=some (.pointer op))
  (first|(with_reducible exact ⟨y0,y1⟩)|go_keep)
  (first
   | (go_at_call 72;refine (H2.o _ (by with_reducible (repeat refine .drew ?_);exact O)).mono ?_;rintro e w3 ⟨rfl,I⟩;have r0:=(I.cell (by exact J)).trans y0;have r1:=(I.cell (by exact J)).trans y1)
   | (go_at_call 162;refine (H1.o _ (by with_reducible (repeat refine .drew ?_);exact ad)).mono ?_;rintro e w2 ⟨rfl,O⟩;have q0:=(O.cell (by exact J)).trans y0;have q1:=(O.cell (by exact J)).trans y1))
 all_goals
  go_wp2
  go_ret;exact ⟨rfl,G.trans (Below.mono (by first|exact I|exact I.drew|exact I.drew.drew) G.size)⟩
theorem ab0 (ev:Ev)(pa:Option Addr)(cp:Nat)(aa:Option Addr)(ca:Nat)(ga:Option Addr)(cg:Nat)(ht:ev.ty.size<=1000)(w:World)(h:oT w oc op o) :
  Calls prog 142 #[.agg #[.pointer oc,.pointer op],ev.val' pa cp aa ca ga cg] w fun e w'=>e=.returned (.int .i64 (BV o ev))/\Below w.heap.size w w':=by
 have aj:∀ o o2,Below w.heap.size w ((w.alloc o).alloc o2):=fun o o2=>bA.alloc (by simp) _
 obtain ⟨u,G⟩:∃ u,u=(w.alloc (.cells #[.pointer oc,.pointer op] 74)).alloc (.cells #[.string ev.id,.string ev.sd,.string ev.ty,.bool ev.st,.string ev.key,.int .i64 ev.tm,.slice pa ev.np cp,.slice aa ev.na ca,.string ev.val,.slice ga ev.ng cg] 30):=⟨_,rfl⟩;have H:Below w.heap.size w u:=by rw [G];exact aj _ _
 have N:w.heap.size<u.heap.size:=by rw [G];simp;omega
 have Y:w.heap.size+1<u.heap.size:=by rw [G];simp
 have Z:Below (w.heap.size+1) (w.alloc (.cells #[.pointer oc,.pointer op] 74)) u:=by rw [G];exact kB.alloc (by simp) _
 have y0:u.cell? ⟨w.heap.size,0,none⟩=some (.pointer oc):=aK Z 0;have y1:u.cell? ⟨w.heap.size,1,none⟩=some (.pointer op):=aK Z 1;have y2:u.cell? ⟨w.heap.size+1,2,none⟩=some (.string ev.ty):=by rw [G];exact kA (by simp)
 have y3:u.cell? ⟨w.heap.size+1,3,none⟩=some (.bool ev.st):=by rw [G];exact kA (by simp)
 have ah:Below u.heap.size u u:=kB;cases hst:ev.st
 all_goals
  obtain ⟨t,J⟩:∃ t:ByteArray,t=(if ev.st then sU else rL):=⟨_,rfl⟩;have ai:t.size<=1000:=by rw [J,hst];decide
  have H1:He (∀ W,Below u.heap.size u W->Calls prog 140 #[.agg #[.pointer oc,.pointer op],.string t] W fun e w'=>e=.returned (.int .i64 (gA o t))/\Below u.heap.size u w'):=fun W U=>(UW t ai W (h.below (H.trans (U.mono H.size)))).mono fun e w' ⟨h1,h2⟩=>⟨h1,U.trans (h2.mono U.size)⟩
  have ab:∀ W,Below w.heap.size w W->Calls prog 72 #[.agg #[.pointer oc,.pointer op],.string (⟨#[35]⟩ ++ ev.ty),.int .i64 (gA o t)] W fun e w'=>e=.returned (.int .i64 (BV o ev))/\Below W.heap.size W w':=by
   intro W U;have q:=YY (o:=o) ev t (⟨#[35]⟩ ++ ev.ty) rfl J W (h.below U);exact q
  have H2:He (∀ W,Below u.heap.size u W->Calls prog 72 #[.agg #[.pointer oc,.pointer op],.string (⟨#[35]⟩ ++ ev.ty),.int .i64 (gA o t)] W fun e w'=>e=.returned (.int .i64 (BV o ev))/\Below u.heap.size u w'):=fun W U=>(ab W (H.trans (U.mono H.size))).mono fun e w' ⟨h1,h2⟩=>⟨h1,U.trans (h2.mono U.size)⟩
  clear h ab;rw [hst] at J;simp only [if_true,Bool.false_eq_true,if_false] at J;subst J;generalize BV o ev=v at *;generalize hd:gA o _=d at *;rw [hst] at y3 G;have an:¬ (9223372036854775807<(⟨#[35]⟩:ByteArray).size+ev.ty.size):=by have:(⟨#[35]⟩:ByteArray).size=1:=rfl;omega
  have au:(⟨#[35]⟩:ByteArray).size+ev.ty.size<=9223372036854775807:=by have:(⟨#[35]⟩:ByteArray).size=1:=rfl;omega
  have ax:¬ (9223372036854775807<1+ev.ty.size):=by omega
  have aw:1+ev.ty.size<=9223372036854775807:=by omega
  go_enter func142,ntmps142
  go_wp2_with fail
  rw [<- G];clear G
  go_region_held3 (fun W=>W.cell? ⟨w.heap.size,0,none⟩=some (.pointer oc)/\W.cell? ⟨w.heap.size,1,none⟩=some (.pointer op)/\W.cell? ⟨w.heap.size+1,2,none⟩=some (.string ev.ty))
   (first|(with_reducible exact ⟨y0,y1,y2⟩)|go_keep)
   (first
    | (go_at_call 72;refine (H2.o _ (by with_reducible (repeat refine .drew ?_);exact O)).mono ?_;rintro e w3 ⟨rfl,I⟩;have r0:=(I.cell (by exact N)).trans y0;have r1:=(I.cell (by exact N)).trans y1;have r2:=(I.cell (by exact Y)).trans y2)
    | (go_at_call 140;refine (H1.o _ (by with_reducible (repeat refine .drew ?_);exact ah)).mono ?_;rintro e w2 ⟨rfl,O⟩;have q0:=(O.cell (by exact N)).trans y0;have q1:=(O.cell (by exact N)).trans y1;have q2:=(O.cell (by exact Y)).trans y2))
  all_goals
   go_wp2
   go_ret;exact ⟨rfl,H.trans (Below.mono (by first|exact I|exact I.drew|exact I.drew.drew) H.size)⟩
end Go.Proofs.YtpfeegcdlikegaaGreat
namespace Go.Proofs.YtpfeegcdlikegaaGreat
open Go.RowKit Go.Proofs.Tryz
variable {f:Nat->Int × Bool}{i m:Nat}{e:Ev}{o:dI}
def JS (o:dI)(e:Ev):Int:=if dL o e.sd<=dL o e.key then 9 else 0
def rS (o:dI)(e:Ev):Int × Bool:=if dV e then (if (o bJ aJ).isSome then 1 else 0,true) else (0,false)
def pS (o:dI):Int × Bool:=(2,(o bJ aJ).isNone)
def pW (o:dI)(e:Ev):Int × Bool:=if bE e && eZ e then (LP o e,true) else (0,false)
def qW (o:dI)(e:Ev):Int × Bool:=if bE e && bX e.val && (e.sd.toList == e.key.toList) then (if lD (memO o e.key) then 0 else 10,true) else (0,false)
def DU (o:dI)(e:Ev):Int × Bool:=(6,!bG (memO o e.sd))
def tH (o:dI)(e:Ev):Int × Bool:=if bE e && eU e.val then (if bG (memO o e.key) || bH (memO o e.key) then 7 else if dL o e.sd<gA o oI then 8 else 0,true) else (0,false)
def uB (o:dI)(e:Ev):Int × Bool:=if bE e && bH e.val then (if dL o e.sd<gA o jZ then 8 else JS o e,true) else (0,false)
def wI (o:dI)(e:Ev):Int × Bool:=if bE e && bX e.val then (if (bH (memO o e.key) && decide (dL o e.sd<gA o jZ)) || decide (dL o e.sd<gA o tQ) then 8 else JS o e,true) else (0,false)
def NC (o:dI)(e:Ev):Int × Bool:=(8,decide (dL o e.sd<BV o e))
def ME (e:Ev):Int × Bool:=(11,iD e.key && !(e.key.toList == e.sd.toList))
def qZ (o:dI)(e:Ev):Int × Bool:=match o aX aJ with
 | some p=>if aT e then (12,!jU p e (dL o e.sd)) else (0,false)
 | none=>(0,false)
def zQ (o:dI)(e:Ev):Nat->Int × Bool
 | 0=>rS o e
 | 1=>pS o
 | 2=>pW o e
 | 3=>qW o e
 | 4=>DU o e
 | 5=>tH o e
 | 6=>uB o e
 | 7=>wI o e
 | 8=>NC o e
 | 9=>ME e
 | _=>qZ o e
def qQ (f:Nat->Int × Bool):Nat->Nat->Int
 | _,0=>0
 | i,m+1=>if (f i).2 then (f i).1 else qQ f (i+1) m
theorem VV (h:(f i).2=false):qQ f i (m+1)=qQ f (i+1) m:=by rw [qQ,h];rfl
theorem XA (h:(f i).2=true):qQ f i (m+1)=(f i).1:=by rw [qQ,h];rfl
theorem WF (h:e.code=0)(G:bE e=true):e.val.toList=[106,111,105,110]\/e.val.toList=[105,110,118,105,116,101]\/e.val.toList=[108,101,97,118,101]\/e.val.toList=[98,97,110]:=by
 have:=XU h G;unfold uO at this;simp only [Bool.or_eq_true,beq_iff_eq] at this;rcases this with u|u|u|u
 all_goals simp [u]
theorem RV (o:dI)(e:Ev):(if (qZ o e).2 then (qZ o e).1 else 0)=match o aX aJ with
  | some p=>if aT e && !jU p e (dL o e.sd) then 12 else 0
  | none=>0:=by
 unfold qZ;generalize dL o e.sd=z;generalize o aX aJ=q
 cases q with
 | none=>rfl
 | some p=>cases aT e <;> cases jU p e z <;> rfl
theorem ak0 (h:e.code=0):qQ (zQ o e) 0 11=lJ o e:=by
 simp only [qQ,zQ,lJ];unfold rS;cases hcr:dV e
 case true=>simp
 case false =>
  cases hc:(o bJ aJ).isNone
  case true=>simp [pS,hc]
  case false =>
   cases hm:bE e
   case true =>
    rcases WF h hm with u|u|u|u
    ·simp [pS,hc,pW,hm,eZ,u]
    ·simp [pS,hc,pW,qW,DU,tH,LF,hm,eZ,bX,eU,bH,u]
    ·cases hs:e.sd.toList == e.key.toList
     ·simp [pS,hc,pW,qW,DU,tH,uB,wI,LF,hm,eZ,bX,eU,u,hs,JS]
      have hb:bH e.val=false:=by unfold bH;rw [u];decide
      cases bG (memO o e.sd) <;> simp [hb]
      cases bH (memO o e.key) <;> by_cases G:dL o e.sd<gA o jZ <;> by_cases H:dL o e.sd<gA o tQ <;> simp [G,H]
     simp [pS,hc,pW,qW,hm,eZ,bX,u,hs]
    have hb:bH e.val=true:=by unfold bH;rw [u];decide
    simp [pS,hc,pW,qW,DU,tH,uB,LF,hm,eZ,bX,eU,hb,u,JS]
   case false =>
    rw [RV];simp [pS,hc,pW,qW,DU,tH,uB,wI,NC,ME,VC,hm] <;> rfl
end Go.Proofs.YtpfeegcdlikegaaGreat
namespace Go.Proofs.YtpfeegcdlikegaaGreat
open Go.RowKit Go.Maps Go.ChangeMaps Go.Proofs.Tryz
variable {w w':World}{h ca cg cp mb:Nat}{F:aE->Value}{aa ga oc op pa:Option Addr}{o:dI}{e:Ev}
structure Hr (w:World)(h mb c:Nat)(F:aE->Value)(oc op:Option Addr)(o:dI)(e:Ev)(pa:Option Addr)(cp:Nat)(aa:Option Addr)(ca:Nat)(ga:Option Addr)(cg:Nat):Prop where
 lt:h<w.heap.size
 ev:eP w h 0 e pa cp aa ca ga cg
 c10:w.cell? ⟨h,10,none⟩=some (.map (some mb))
 c11:w.cell? ⟨h,11,none⟩=some (.pointer oc)
 c12:w.cell? ⟨h,12,none⟩=some (.pointer op)
 c13:w.cell? ⟨h,13,none⟩=some (.int .i64 (dL o e.sd))
 ok:cI w e pa cp aa ca ga cg
 map:fE w mb c F
 lev:oT w oc op o
 code:e.code=0
 sd:dV e=false->fV w F o ⟨dK,e.sd,aJ⟩
 key:bE e=true->fV w F o ⟨dK,e.key,aJ⟩
 rul:bE e=true->eZ e=true->fV w F o ⟨lB,aJ,aJ⟩
theorem Hr.below {c:Nat}(H:Hr w h mb c F oc op o e pa cp aa ca ga cg)(hb:Below w.heap.size w w'):Hr w' h mb c F oc op o e pa cp aa ca ga cg :=
 ⟨nT H.lt hb.size,H.ev.below hb H.lt,(hb.cell (by exact H.lt)).trans H.c10,(hb.cell (by exact H.lt)).trans H.c11,(hb.cell (by exact H.lt)).trans H.c12,(hb.cell (by exact H.lt)).trans H.c13,H.ok.below hb,H.map.below hb,H.lev.below hb,H.code,fun u=>(H.sd u).below hb,fun u=>(H.key u).below hb,fun u G=>(H.rul u G).below hb⟩
theorem Hr.memK {c:Nat}(H:Hr w h mb c F oc op o e pa cp aa ca ga cg)(J:bE e=true):He (∀ W,Below w.heap.size w W->Calls prog 136 #[.map (some mb),.string e.key] W fun x w'=>x=.returned (.string (memO o e.key))/\Below w.heap.size w w'):=fun W u=>(UQ e.key H.ok.hkey W (H.map.below u) ((H.key J).below u)).mono fun _ _ ⟨G,I⟩=>⟨G,u.trans (I.mono u.size)⟩
theorem Hr.memS {c:Nat}(H:Hr w h mb c F oc op o e pa cp aa ca ga cg)(J:dV e=false):He (∀ W,Below w.heap.size w W->Calls prog 136 #[.map (some mb),.string e.sd] W fun x w'=>x=.returned (.string (memO o e.sd))/\Below w.heap.size w w'):=fun W u=>(UQ e.sd H.ok.hsd W (H.map.below u) ((H.sd J).below u)).mono fun _ _ ⟨G,I⟩=>⟨G,u.trans (I.mono u.size)⟩
abbrev eL (r:Int × Bool):Value:=.tuple #[.int .i64 r.1,.bool r.2]
theorem cT {a:Int}{b:Bool}{r:Int × Bool}(h:r=(a,b)):Ending.returned (.tuple #[.int .i64 a,.bool b])=.returned (eL r):=by rw [h]
theorem RS (e:Ev)(pa:Option Addr)(cp:Nat)(aa:Option Addr)(ca:Nat)(ga:Option Addr)(cg:Nat)(t:ByteArray)(w:World) :
  Calls prog 27 #[e.val' pa cp aa ca ga cg,.string t] w fun x w'=>x=.returned (.bool (bE e && (e.val.toList == t.toList)))/\Below w.heap.size w w':=by
 have u:∀ o,Below w.heap.size w (w.alloc o):=fun o=>bA
 cases hm:bE e
 case false =>
  have G:(e.ty.toList == [109,101,109,98,101,114])=false:=hm;clear hm
  go_enter func27,ntmps27
  go_wp2
  go_ret;exact ⟨rfl,u _⟩
 case true =>
  have G:(e.ty.toList == [109,101,109,98,101,114])=true:=hm;clear hm
  go_enter func27,ntmps27
  go_wp2
  go_ret;exact ⟨rfl,u _⟩
theorem nB (pa:Option Addr)(cp:Nat)(aa:Option Addr)(ca:Nat)(ga:Option Addr)(cg:Nat){t:ByteArray}{b:Bool}(hb:(bE e && (e.val.toList == t.toList))=b)(w:World):He (∀ W,Below w.heap.size w W->Calls prog 27 #[.agg (ec e pa cp aa ca ga cg),.string t] W fun x w'=>x=.returned (.bool b)/\Below w.heap.size w w'):=fun W u=>(RS e pa cp aa ca ga cg t W).mono fun _ _ ⟨G,H⟩=>⟨by rw [G,hb],u.trans (H.mono u.size)⟩
theorem OB (e:Ev):(e.val.toList == (⟨#[106,111,105,110]⟩:ByteArray).toList)=eZ e:=by unfold eZ;rw [ByteArray.toList_eq ⟨#[106,111,105,110]⟩]
theorem rE (e:Ev):(e.val.toList == rX.toList)=bX e.val:=by unfold bX;rw [ByteArray.toList_eq rX]
theorem IW (e:Ev):(e.val.toList == oI.toList)=eU e.val:=by unfold eU;rw [ByteArray.toList_eq oI]
theorem IY (e:Ev):(e.val.toList == jZ.toList)=bH e.val:=by unfold bH;rw [ByteArray.toList_eq jZ]
theorem ZE (u:ByteArray)(w:World)(h:oT w oc op o) :
  Calls prog 73 #[.agg #[.pointer oc,.pointer op],.string u] w fun x w'=>x=.returned (.bool (oB o u))/\Below w.heap.size w w':=by
 have G:∀ o,Below w.heap.size w (w.alloc o):=fun o=>bA
 unfold oB;rcases h.c with ⟨H,rfl⟩|⟨c,b,off,H,rfl,hb,pa,cp,aa,ca,ga,cg,J,I⟩
 ·rw [H]
  clear h H
  go_enter func73,ntmps73
  go_wp2
  go_ret;exact ⟨rfl,G _⟩
 rw [H];have c1:(w.alloc (.cells #[.pointer (some ⟨b,off,none⟩),.pointer op] 74)).cell? ⟨b,off+1,none⟩=some (.string c.sd):=((G _).cell (by exact hb)).trans J.c1;have N:b≠w.heap.size:=by omega
 clear h H J I
 go_enter func73,ntmps73
 go_wp2
 go_ret;exact ⟨rfl,G _⟩
theorem ZW {c:Nat}(w:World)(H:Hr w h mb c F oc op o e pa cp aa ca ga cg)(Y:bE e=true) :
  Calls prog 137 #[.pointer (some ⟨h,0,none⟩)] w fun x w'=>x=.returned (.bool (lD (memO o e.key)))/\Below w.heap.size w w':=by
 have O:w.cell? ⟨h,4,none⟩=some (.string e.key):=H.ev.c4;have I:w.cell? ⟨h,10,none⟩=some (.map (some mb)):=H.c10;have J:=H.lt;have G:Below w.heap.size w w:=kB;have Z:=H.memK Y;clear H;generalize memO o e.key=t at *;have N:He (lD t=(bG t || eU t)):=rfl;cases hj:bG t <;> cases hi:eU t
 all_goals
  rw [hj,hi] at N;unfold bG at hj;unfold eU at hi
  go_enter func137,ntmps137
  go_wp2_with fail
  go_region_held3 (fun W=>W.cell? ⟨h,10,none⟩=some (.map (some mb))/\W.cell? ⟨h,4,none⟩=some (.string e.key)) (first|(with_reducible exact ⟨I,O⟩)|go_keep)
   (first|(go_at_call 136;refine (Z.o _ (by with_reducible first|exact G|exact G.drew|exact G.drew.drew|exact G.drew.drew.drew|exact G.drew.drew.drew.drew|exact G.drew.drew.drew.drew.drew)).mono ?_;rintro x w2 ⟨rfl,u⟩;have U:=(u.cell (by exact J)).trans I;have q4:=(u.cell (by exact J)).trans O))
  all_goals
   go_wp2
   go_ret;exact ⟨aC (by rw [N.o];rfl),(by with_reducible first|exact u|exact u.drew|exact u.drew.drew|exact u.drew.drew.drew|exact u.drew.drew.drew.drew|exact u.drew.drew.drew.drew.drew)⟩
theorem b20 {c:Nat}(w:World)(H:Hr w h mb c F oc op o e pa cp aa ca ga cg)(hm:bE e=true)(hj:eZ e=true) :
  Calls prog 138 #[.pointer (some ⟨h,0,none⟩)] w fun x w'=>x=.returned (.bool (rW o))/\Below w.heap.size w w':=by
 have ag:w.cell? ⟨h,10,none⟩=some (.map (some mb)):=H.c10;have u:Below w.heap.size w w:=kB;obtain ⟨v,O,J⟩:=H.rul hm hj
 have Y:(Instr.lookup 56 (.map (some mb)) (.agg #[.string lB,.string aJ]) false).run prog w=.ok (.pointer v) w:=by
  have:=lV H.map (k:=⟨lB,aJ,aJ⟩) ⟨by show lB.size<=maxLen;decide,by show aJ.size<=maxLen;decide⟩;rw [O] at this;exact this
 unfold rW;clear H O;rcases J with ⟨G,rfl⟩|⟨m,b,off,G,rfl,hb,Z,ah,ae,ad,U,ai,N,I⟩
 ·rw [show o lB aJ=none from G]
  clear G
  go_enter func138,ntmps138
  go_wp2
  go_ret;exact ⟨rfl,u⟩
 rw [show o lB aJ=some m from G];have c8:=N.c8;clear G N I
 go_enter func138,ntmps138
 go_wp2
 go_ret;exact ⟨rfl,u⟩
end Go.Proofs.YtpfeegcdlikegaaGreat
