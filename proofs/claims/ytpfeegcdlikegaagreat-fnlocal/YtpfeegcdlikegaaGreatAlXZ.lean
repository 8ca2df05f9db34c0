import Derived.Test.YtpfeegcdlikegaaGreatAlW
import Derived.Sort.Grow
import Derived.Lib.Walk
import Derived.Laws.StructEq
import Derived.Laws.IdiomCopy
import Derived.Shelf.SlGeneric
import Derived.Shelf.SlSortCmp.NoneTotal
import Derived.Ground.SlsfProg
set_option maxHeartbeats 16000000
set_option maxRecDepth 100000
namespace Go.Proofs.YtpfeegcdlikegaaGreat
open Go.RowKit
variable {E:Nat->Ev}{n ca cg cp sc cap:Nat}{l:List aE}{a aa ga pa sa:Option Addr}
theorem xC (hr:aF E n=true)(I:dY E n l=true):∀ p,iZ E n l aX aJ=some p->p.ng<=50:=fun p hp=>by
 unfold iZ at hp;have H:eF E n l aX aJ<n:=(cJ E (aQ l aX aJ) n).2
 by_cases G:0<=eF E n l aX aJ
 ·rw [if_pos G] at hp
  injection hp with hp
  have hty:=OZ hr I G;have u:aT (E (eF E n l aX aJ).toNat)=true:=by unfold aT;rw [hty,ByteArray.toList_eq];decide
  have:=qA (cL hr (by omega)) u;rw [hp] at this;exact this.1
 rw [if_neg G] at hp;cases hp
theorem WV (e:Ev)(w:World)(h:dW w a n cap E)(hs:dF w sa sc l)(he:cI w e pa cp aa ca ga cg) :
  Calls Tryz.prog 5 #[.agg #[.slice a n cap],.slice sa l.length sc,.agg (ec e pa cp aa ca ga cg)] w fun x w'=>x=.returned (.int .i64 (tP E n l e))/\Below w.heap.size w w':=by
 have U:He (tP E n l e=if e.code=0/\(aF E n && dY E n l)=true then lJ (iZ E n l) e else 99):=rfl;obtain ⟨u,H⟩:∃ u,u=(w.alloc (.cells #[.slice a n cap] 25)).alloc (.cells (ec e pa cp aa ca ga cg) 30):=⟨_,rfl⟩;have G:Below w.heap.size w u:=by rw [H];exact bA.alloc (by simp) _
 have aw:u.heap.size=w.heap.size+2:=by rw [H];simp
 have a2:Below u.heap.size u u:=kB;have aq:He (∀ W,Below u.heap.size u W->∀ i,W.cell? ⟨w.heap.size+1,i,none⟩=((ec e pa cp aa ca ga cg):Array Value)[i]?):=fun W hW i=>(hW.cell (by show w.heap.size+1<u.heap.size;omega)).trans (by rw [H];exact kA (by simp))
 have ab:He (∀ W,Below u.heap.size u W->W.cell? ⟨w.heap.size,0,none⟩=some (.slice a n cap)):=fun W hW=>(hW.cell (by show w.heap.size<u.heap.size;omega)).trans (by rw [H,World.cell?_alloc_past _ _ _ (by simp)];exact kA rfl)
 have ad:He (Calls Tryz.prog 13 #[.agg (ec e pa cp aa ca ga cg)] u fun x w'=>x=.returned (.int .i64 e.code)/\Below u.heap.size u w'):=by
  have I:=he.below G;exact wW e.id e.sd e.ty e.key e.val e.st e.tm pa e.np cp aa e.na ca ga e.ng cg e.Pv e.Av e.M e.L u I.hid I.hsd I.hty I.hkey I.hval I.hp I.ha I.hg
 by_cases hc:e.code=0
 case neg =>
  have Y:He (tP E n l e=99):=by unfold He;rw [U.o,if_neg (fun h1=>hc h1.1)]
  have ay:(e.code != 0)=true:=by simpa using hc
  generalize e.code=cd at *;clear U hc
  go_enter Tryz.func5,Tryz.ntmps5
  go_wp2_with fail
  rw [<- H];clear H;refine ad.o.mono ?_;rintro x w1 ⟨rfl,J⟩;go_wp2
  go_ret;exact ⟨aA Y.o.symm,G.trans (J.mono G.size)⟩
 case pos =>
  have ak:He (Calls Tryz.prog 13 #[.agg (ec e pa cp aa ca ga cg)] u fun x w'=>x=.returned (.int .i64 0)/\Below u.heap.size u w'):=by
   have:=ad.o;rw [hc] at this;exact this
  have Hc:He (e.code=0):=hc;clear ad hc
  go_enter Tryz.func5,Tryz.ntmps5
  go_wp2_with fail
  rw [<- H];clear H;refine ak.o.mono ?_;rintro x w1 ⟨rfl,J⟩;have am:=G.trans (J.mono G.size);have r1:=ab.o _ J
  go_wp2_with fail
  refine (lT _ (h.below am)).mono ?_;rintro x w2 ⟨rfl,aj⟩;have O:=J.trans (aj.mono J.size);have ae:=G.trans (O.mono G.size);clear r1;cases hr:aF E n
  case false =>
   have Y:He (tP E n l e=99):=by unfold He;rw [U.o,hr,if_neg (fun h1=>by cases h1.2)]
   clear U hr;go_wp2
   go_ret;exact ⟨aA Y.o.symm,ae⟩
  case true =>
   have r2:=ab.o _ O
   go_wp2_with fail
   refine (wP _ (h.below ae) (hs.below ae)).mono ?_;rintro x w3 ⟨rfl,ai⟩;have Z:=O.trans (ai.mono O.size);have N:=G.trans (Z.mono G.size);clear r2;cases hf:dY E n l
   case false =>
    have Y:He (tP E n l e=99):=by unfold He;rw [U.o,hf,if_neg (fun h1=>by simp at h1)]
    clear U hf;go_wp2
    go_ret;exact ⟨aA Y.o.symm,N⟩
   case true =>
    have Y:He (tP E n l e=lJ (iZ E n l) e):=by unfold He;rw [U.o,if_pos ⟨Hc.o,by rw [hr,hf];rfl⟩]
    have HA:He (Calls Tryz.prog 16 #[.agg #[.slice a n cap],.slice sa l.length sc,.agg (ec e pa cp aa ca ga cg)] w3 fun x w'=>x=.returned (.int .i64 (lJ (iZ E n l) e))/\Below w3.heap.size w3 w'):=xQ e pa cp aa ca ga cg w3 (rJ (h.below N) (hs.below N)) (xC hr hf) (he.below N) Hc.o;have r3:=ab.o _ Z;have a3:=aq.o _ Z;clear U hr hf h hs he;generalize lJ (iZ E n l) e=vv at *
    go_wp2_with fail
    refine HA.o.mono ?_;rintro x w4 ⟨rfl,an⟩;go_wp2
    go_ret;exact ⟨aA Y.o.symm,N.trans (an.mono N.size)⟩
variable {w w':World}
def iB (w w':World):Prop:=Below w.heap.size w w'/\w.drawn<=w'.drawn
theorem iB.below (h:iB w w'):Below w.heap.size w w':=h.1
theorem iB.refl (w:World):iB w w:=⟨kB,nL⟩
theorem iB.trans {a b c:World}(h:iB a b)(k:iB b c):iB a c:=⟨h.1.trans (k.1.mono h.1.size),nZ h.2 k.2⟩
theorem iB.alloc {a b:World}(h:iB a b)(o:Obj):iB a (b.alloc o):=⟨h.1.alloc h.1.size o,h.2⟩
theorem iB.drew {a b:World}(h:iB a b):iB a b.drew:=⟨h.1.drew,Nat.le_succ_of_le h.2⟩
theorem iB.setCell {a b:World}(h:iB a b){p:Addr}(hp:a.heap.size<=p.block)(u:Value):iB a (b.setCell p u):=⟨h.1.setCell hp u,h.2⟩
theorem iB.eq (h:iB w w'):∃ q os,w'=Sort.grow (w.drewN q) os:=by
 obtain ⟨⟨G,H,u,N,h5⟩,I⟩:=h;refine ⟨w'.drawn - w.drawn,w'.heap.extract w.heap.size w'.heap.size,?_⟩
 have O:w'.heap=w.heap ++ w'.heap.extract w.heap.size w'.heap.size:=by
  apply Array.ext_getElem?;intro i;rw [Array.getElem?_append];split
  ·exact h5 i ‹_›
  rw [Array.getElem?_extract];split
  ·congr 1;omega
  rw [Array.getElem?_eq_none];omega
 have J:w'.drawn=w.drawn+(w'.drawn - w.drawn):=by omega
 obtain ⟨heap,tape,drawn,os,output⟩:=w';simp only [Sort.grow,World.drewN] at *;subst G H u
 congr 1
theorem oK (w:World)(n:Nat)(os:Array Obj):iB w (Sort.grow (w.drewN n) os) :=
 ⟨⟨rfl,rfl,rfl,by simp [Sort.grow],fun k u=>by show (w.heap ++ os)[k]?=_;rw [Array.getElem?_append,if_pos u]⟩,Nat.le_add_right _ _⟩
abbrev cV (e:aE):Value:=.agg #[.string e.ty,.string e.key]
theorem PZ (a b:ByteArray)(w:World) :
  Calls Tryz.prog 124 #[.string a,.string b] w fun e w'=>e=.returned (.int .i64 (cB a b))/\w'=w:=by
 go_enter Tryz.func124,Tryz.ntmps124
 go_wp2
 rw [run_callFunc_extern Tryz.func152 (by kernel_rfl) (by kernel_rfl) (by kernel_rfl) (e:=Extern.BytealgCompare.compare) (by kernel_rfl),Lib.run_compareString];simp only [Result.andThen];rw [Oper.upon_value];go_wp2
 go_ret;exact ⟨rfl,rfl⟩
theorem yW (a b:ByteArray)(w:World) :
  Calls Tryz.prog 71 #[.string a,.string b] w fun e w'=>e=.returned (.int .i64 (cB a b))/\w'=w:=by
 go_enter Tryz.func71,Tryz.ntmps71
 go_wp2_with (go_at_call 124;refine (PZ a b _).mono ?_;rintro e w' ⟨rfl,rfl⟩)
 go_ret;exact ⟨rfl,rfl⟩
def orV (x y:Int):Int:=if x=0 then y else x
theorem WH (b cap:Nat)(x y:Int)(w:World)(I:w.cell? ⟨b,0,none⟩=some (.int .i64 x))(H:w.cell? ⟨b,1,none⟩=some (.int .i64 y)) :
  Calls Tryz.prog 70 #[.slice (some ⟨b,0,none⟩) 2 cap] w fun e w'=>e=.returned (.int .i64 (orV x y))/\w'=w:=by
 by_cases u:x=0
 ·subst u
  by_cases G:y=0
  ·subst G
   go_enter Tryz.func70,Tryz.ntmps70
   go_wp2
   refine wp_loop_rounds 3 ?_;rw [rounds_succ];go_wp2
   rw [rounds_succ];go_wp2
   rw [rounds_succ];go_wp2
   go_ret;exact ⟨rfl,rfl⟩
  go_enter Tryz.func70,Tryz.ntmps70
  go_wp2
  refine wp_loop_rounds 3 ?_;rw [rounds_succ];go_wp2
  rw [rounds_succ];go_wp2
  go_ret;exact ⟨rfl,rfl⟩
 go_enter Tryz.func70,Tryz.ntmps70
 go_wp2
 refine wp_loop_rounds 3 ?_;rw [rounds_succ];go_wp2
 go_ret;exact ⟨aA (by unfold orV;rw [if_neg u]),rfl⟩
theorem vA {u G:Obj}(cs:Array Value)(t:TypeId)(o:Nat):(((w.alloc u).alloc G).alloc (.cells cs t)).drew.cell? ⟨w.heap.size+1+1,o,none⟩=cs[o]?:=by
 show (((w.alloc u).alloc G).alloc (.cells cs t)).cell? _=_
 exact kA (by simp)
theorem AS (x y:aE)(w:World) :
  Calls Tryz.prog 29 #[cV x,cV y] w fun e w'=>e=.returned (.int .i64 (dN x y))/\iB w w':=by
 have u:He (orV (cB x.ty y.ty) (cB x.key y.key)=dN x y):=by unfold He;rw [dN,orV]
 go_enter Tryz.func29,Tryz.ntmps29
 go_wp2_with fail
 go_region_held3 (fun W=>W.cell? ⟨w.heap.size,0,none⟩=some (.string x.ty)/\W.cell? ⟨w.heap.size,1,none⟩=some (.string x.key)/\W.cell? ⟨w.heap.size+1,0,none⟩=some (.string y.ty)/\W.cell? ⟨w.heap.size+1,1,none⟩=some (.string y.key))
  (go_keep)
  (first
   | (go_at_call 71;refine (yW _ _ _).mono ?_;rintro e w' ⟨rfl,rfl⟩)
   | (go_at_call 70;refine (WH _ _ _ _ _ (vA _ _ 0) (vA _ _ 1)).mono ?_;rintro e w' ⟨rfl,rfl⟩))
 all_goals
  go_wp2
  go_ret;exact ⟨aA u.o,((((iB.refl w).alloc _).alloc _).alloc _).drew⟩
theorem BF (x:aE)(w:World) :
  Calls Tryz.prog 96 #[eS x] w fun e w'=>e=.returned (cV x)/\iB w w':=by
 go_enter Tryz.func96,Tryz.ntmps96
 go_wp2
 exact bodyPost_ret (v:=cV x) (by simp [results,Tryz.results96,go_sem]) rfl ⟨rfl,by repeat' (first|exact iB.refl _|(refine iB.alloc ?_ _)|(refine iB.setCell ?_ (by simp) _))⟩
variable {base base':Nat}{v:Value}
def lA (e:aE):List Value:=[.string e.ty,.string e.key]
def aR (l:List aE):List Value:=l.flatMap lA
theorem fG (l:List aE):(aR l).length=l.length * 2:=by
 induction l with
 | nil=>rfl
 | cons x l ih=>simp only [aR,List.flatMap_cons,List.length_append,List.length_cons] at ih ⊢;rw [ih];simp [lA];omega
theorem JF (l k:List aE):aR l ++ aR k=aR (l ++ k):=by simp [aR]
theorem jJ (l:List aE)(i:Nat)(h:i<l.length):(aR l)[i * 2]?=some (.string (aI l i).ty)/\(aR l)[i * 2+1]?=some (.string (aI l i).key):=by
 induction l generalizing i with
 | nil=>exact absurd h (Nat.not_lt_zero _)
 | cons x l ih =>
  cases i with
  | zero=>simp [aR,lA,aI]
  | succ i =>
   have:=ih i (by simpa using h);have u:aR (x :: l)=.string x.ty :: .string x.key :: aR l:=by simp [aR,lA]
   have G:aI (x :: l) (i+1)=aI l i:=by simp [aI]
   rw [u,G,show (i+1) * 2=i * 2+2 by omega];simpa using this
structure SlO (w:World)(a:Option Addr)(cap:Nat)(l:List aE):Prop where
 le:l.length<=cap
 max:cap<=maxLen
 cells:l=[]\/∃ b off,a=some ⟨b,off,none⟩/\b<w.heap.size /\
  (∀ i,i<l.length->w.cell? ⟨b,off+i * 2,none⟩=some (.string (aI l i).ty))/\(∀ i,i<l.length->w.cell? ⟨b,off+i * 2+1,none⟩=some (.string (aI l i).key))
def aY (w:World)(base:Nat)(v:Value)(l:List aE):Prop:=w.ownsRow base 63 2 v l.length (aR l)
theorem aY.below (h:aY w base v l)(hb:Below w.heap.size w w'):aY w' base v l:=by
 obtain ⟨I,G⟩:=h;refine ⟨I,?_⟩;rcases G with G|⟨g,cap,u,J,hg,hh,r⟩
 ·exact Or.inl G
 have H:g<w.heap.size:=(Array.getElem?_eq_some_iff.1 hh).1;exact Or.inr ⟨g,cap,u,J,hg,by rw [hb.block g H];exact hh,r⟩
theorem aY.mono (h:aY w base v l)(hb:base'<=base):aY w base' v l:=by
 obtain ⟨G,H⟩:=h;exact ⟨G,H.imp id fun ⟨g,cap,u,e,hg,r⟩=>⟨g,cap,u,e,nZ hb hg,r⟩⟩
theorem aY.new (w:World)(base:Nat)(hb:base<=w.heap.size):aY (w.alloc (.cells #[] 63)) base (.slice (some ⟨w.heap.size,0,none⟩) 0 0) [] :=
 ⟨rfl,Or.inr ⟨w.heap.size,0,#[],rfl,hb,by show (w.heap.push _)[w.heap.size]?=_;simp,nL,by decide,rfl,rfl⟩⟩
theorem aY.one (w:World)(base:Nat)(hb:base<=w.heap.size)(x:aE):aY (w.alloc (.cells #[.string x.ty,.string x.key] 63)) base (.slice (some ⟨w.heap.size,0,none⟩) 1 1) [x] :=
 ⟨rfl,Or.inr ⟨w.heap.size,1,#[.string x.ty,.string x.key],rfl,hb,by show (w.heap.push _)[w.heap.size]?=_;simp,nL,by decide,rfl,rfl⟩⟩
theorem aY.sl (h:aY w base v l):∃ a cap,v=.slice a l.length cap/\SlO w a cap l:=by
 obtain ⟨h1,U⟩:=h;rcases U with ⟨rfl,G⟩|⟨g,cap,I,rfl,hg,hh,Y,Z,J,N⟩
 ·have:l=[]:=List.eq_nil_of_length_eq_zero G
  subst this;exact ⟨none,0,rfl,⟨nL,by decide,Or.inl rfl⟩⟩
 refine ⟨_,cap,rfl,⟨Y,Z,?_⟩⟩
 by_cases G:l=[]
 ·exact Or.inl G
 have H:g<w.heap.size:=(Array.getElem?_eq_some_iff.1 hh).1
 have u:∀ j,j<l.length * 2->w.cell? ⟨g,0+j,none⟩=(aR l)[j]?:=by
  intro j O;rw [<- N,List.getElem?_take,if_pos O,Nat.zero_add];simp [World.cell?,hh]
 exact Or.inr ⟨g,0,rfl,H,fun i hi=>by rw [u _ (by omega)];exact (jJ l i hi).1,fun i hi=>by rw [Nat.add_assoc,u _ (by omega)];exact (jJ l i hi).2⟩
theorem Tryz.infoSlot:(Tryz.prog.info? 63).map (fun i=>(i.zero,i.size,i.bytes))=some (some (.agg #[.string ByteArray.empty,.string ByteArray.empty]),2,32):=by kernel_rfl
theorem EH (W:World)(x:aE)(t:TypeId)(j:Nat)(u:Value)(h:(lA x)[j]?=some u):(W.alloc (.cells #[.string x.ty,.string x.key] t)).cell? ((⟨W.heap.size,0,none⟩:Addr).add j)=some u:=by
 have H:j<2:=by
  rcases Nat.lt_or_ge j 2 with G|G
  ·exact G
  rw [List.getElem?_eq_none (by simpa [lA] using G)] at h;cases h
 match j,H,h with
 | 0,_,h=>rw [show (⟨W.heap.size,0,none⟩:Addr).add 0=⟨W.heap.size,0,none⟩ from rfl,kA rfl];exact h
 | 1,_,h=>rw [show (⟨W.heap.size,0,none⟩:Addr).add 1=⟨W.heap.size,1,none⟩ from rfl,kA rfl];exact h
theorem PI (x:aE)(u:Value)(h:u ∈ lA x):u.oneCell'=true:=by
 simp only [lA,List.mem_cons,List.not_mem_nil,or_false] at h;rcases h with rfl|rfl <;> rfl
variable {g i m:Nat}{x y:aE}
theorem aY.at (h:aY w base (.slice (some ⟨g,0,none⟩) n cap) l)(hi:i<l.length):w.cell? ⟨g,i * 2,none⟩=some (.string (aI l i).ty)/\w.cell? ⟨g,i * 2+1,none⟩=some (.string (aI l i).key):=by
 obtain ⟨U,O⟩:=h;rcases O with ⟨e,_⟩|⟨Y,G,H,e,hg,hh,Z,hc,I,J⟩
 ·cases e
 injection e with e _ _;injection e with e;injection e with e _ _
 subst e
 have u:∀ j,j<l.length * 2->w.cell? ⟨g,j,none⟩=(aR l)[j]?:=by
  intro j N;rw [<- J,List.getElem?_take,if_pos N];simp [World.cell?,hh]
 exact ⟨by rw [u _ (by omega)];exact (jJ l i hi).1,by rw [u _ (by omega)];exact (jJ l i hi).2⟩
theorem aY.fz (h:aY w base (.slice (some ⟨g,0,none⟩) n cap) l)(o:Nat):w.frozen? ⟨g,o,none⟩=false:=by
 obtain ⟨N,I⟩:=h;rcases I with ⟨e,_⟩|⟨O,u,G,e,hg,hh,U,Y,H,J⟩
 ·cases e
 injection e with e _ _;injection e with e;injection e with e _ _
 subst e;simp [World.frozen?,hh]
theorem DQ (l:List aE)(m:Nat):(aR l).take (m * 2)=aR (l.take m):=by
 induction l generalizing m with
 | nil=>simp [aR]
 | cons x l ih =>
  cases m with
  | zero=>simp [aR]
  | succ m =>
   have u:aR (x :: l)=.string x.ty :: .string x.key :: aR l:=by simp [aR,lA]
   have G:aR (x :: l.take m)=.string x.ty :: .string x.key :: aR (l.take m):=by simp [aR,lA]
   rw [u,List.take_succ_cons,G,show (m+1) * 2=m * 2+2 by omega,List.take_succ_cons,List.take_succ_cons,ih]
theorem aY.take (h:aY w base (.slice (some ⟨g,0,none⟩) n cap) l)(U:m<=l.length):aY w base (.slice (some ⟨g,0,none⟩) m cap) (l.take m):=by
 obtain ⟨Z,N⟩:=h;have e0:(l.take m).length=m:=by rw [List.length_take];omega
 refine ⟨by rw [fG],?_⟩;rcases N with ⟨e,_⟩|⟨g',H,u,e,hg,hh,hn,O,G,I⟩
 ·cases e
 injection e with e Y J;injection e with e;injection e with e _ _
 subst e J;refine Or.inr ⟨g,cap,u,by rw [e0],hg,hh,by omega,O,G,?_⟩;rw [e0,<- DQ,<- I,List.take_take]
 congr 1
 omega
theorem JE (l:List aE)(k:Nat)(z:aE):((aR l).set (k * 2) (.string z.ty)).set (k * 2+1) (.string z.key)=aR (l.set k z):=by
 induction l generalizing k with
 | nil=>simp [aR]
 | cons x l ih =>
  have u:∀ y:aE,∀ r,aR (y :: r)=.string y.ty :: .string y.key :: aR r:=fun y r=>by simp [aR,lA]
  cases k with
  | zero=>rw [List.set_cons_zero,u,u];rfl
  | succ k=>rw [List.set_cons_succ,u,u,show (k+1) * 2=k * 2+2 by omega,List.set_cons_succ,List.set_cons_succ,List.set_cons_succ,List.set_cons_succ,ih]
theorem aY.put (h:aY w base (.slice (some ⟨g,0,none⟩) n cap) l)(u:n=l.length)(k:Nat)(z:aE) :
  aY ((w.setCell ⟨g,k * 2,none⟩ (.string z.ty)).setCell ⟨g,k * 2+1,none⟩ (.string z.key)) base (.slice (some ⟨g,0,none⟩) n cap) (l.set k z):=by
 subst u;unfold aY at h ⊢;rw [List.length_set,<- JE];exact (World.ownsRow.stored (World.ownsRow.stored h (k * 2) (.string z.ty)).1 (k * 2+1) (.string z.key)).1
theorem IQ (x y:aE)(w:World):Sem.run Tryz.prog (Go.binOp BinOp.eql 63 (cV x) (cV y)) w=.ok (Value.bool (dB x y)) w:=by
 have u9:=Tryz.underlying9;have a9:=Tryz.isAgg9;have I:=Tryz.sizeOf9;have u:Tryz.prog.underlying 63=some (.struct (Tryz.prog.fieldsOf 63)):=by kernel_rfl
 have hp:Tryz.prog.stoodInHeld 63=false:=by kernel_rfl
 rw [run_eql_struct,show (10000:Nat)=9999+1 from rfl,run_equalIn_agg w 9999 63 _ _ u hp];simp only [Program.fieldsOf,Tryz.underlying63];go_simp;unfold dB
 by_cases G:x.ty.toList=y.ty.toList <;> by_cases H:x.key.toList=y.key.toList <;> simp [G,H]
theorem ZS (x y:aE)(w:World):Sem.run Tryz.prog (Go.binOp BinOp.neq 63 (cV x) (cV y)) w=.ok (Value.bool (!dB x y)) w:=by
 have h:=IQ x y w;rw [run_eql_struct] at h;rw [run_neq_struct]
 cases hr:(Op.equalIn 10000 63 (cV x) (cV y)).run Tryz.prog w with
 | ok b w' =>
  rw [hr] at h;simp only [Result.andThen,Result.ok.injEq,Value.bool.injEq] at h
  simp [Result.andThen,h.1,h.2]
 | halt _=>rw [hr] at h;cases h
theorem bp0 (w:World)(ty:TypeId)(b o c:Nat)(I:(w.cell? ⟨b,o,none⟩).isSome=true)(H:(w.cell? ⟨b,o+1,none⟩).isSome=true)(J:∀ j,w.frozen? ⟨b,j,none⟩=false) :
  (Builtin.clear_ #[35] ty #[.slice (some ⟨b,o,none⟩) 1 c]).run Tryz.prog w=.ok (.tuple #[]) ((w.setCell ⟨b,o,none⟩ (.string ByteArray.empty)).setCell ⟨b,o+1,none⟩ (.string ByteArray.empty)):=by
 have O:∀ w,(zeroValue 63).run Tryz.prog w=.ok (.agg #[.string ByteArray.empty,.string ByteArray.empty]) w:=fun _=>by kernel_rfl
 have G:=run_storeCells_cells (P:=Tryz.prog) b o [.string ByteArray.empty,.string ByteArray.empty] 0 w (fun j N=>by
  match j,N with
  | 0,_=>exact I
  | 1,_=>exact H) (fun j _=>J _) (fun v u=>by
  simp only [List.mem_cons,List.not_mem_nil,or_false] at u;rcases u with rfl|rfl <;> rfl)
 simp only [Nat.add_zero] at G;have hz:(Builtin.zeroCells (Value.agg #[.string ByteArray.empty,.string ByteArray.empty]).cells 1).toList=[.string ByteArray.empty,.string ByteArray.empty]:=by kernel_rfl
 simp [Builtin.clear_,run_underlying Tryz.underlying35,O,hz,G];rfl
def EK (w:World)(base:Nat)(G:List aE)(e:Ending)(w':World):Prop:=∃ u,e=.returned u/\aY w' base u G/\Below base w w'
theorem VI (h:¬ (x.ty=y.ty/\x.key=y.key)):(x.ty.toList == y.ty.toList && x.key.toList == y.key.toList)=false:=by
 cases hb:(x.ty.toList == y.ty.toList && x.key.toList == y.key.toList)
 ·rfl
 rw [Bool.and_eq_true] at hb;exact absurd ((cN x y).1 (by unfold dB;rw [hb.1,hb.2];rfl)) h
theorem CZ (h:aY w base (.slice (some ⟨g,0,none⟩) n cap) l)(Z:n=l.length)(hl:l.length<=1000)(O:base<=w.heap.size)
  (u:∀ i,i+1<l.length->¬ ((aI l (i+1)).ty=(aI l i).ty/\(aI l (i+1)).key=(aI l i).key)) :
  Calls Tryz.prog 30 #[.slice (some ⟨g,0,none⟩) n cap] w (EK w base l):=by
 by_cases h2:n<2
 ·go_enter Tryz.func30,Tryz.ntmps30
  go_wp2
  go_ret;exact ⟨_,rfl,h,kB⟩
 have ad:n<=1000:=by omega
 have J:He (n=l.length):=Z;have H:He (_):=u;clear u Z
 go_enter Tryz.func30,Tryz.ntmps30
 go_wp2_with fail
 go_loopw [3] (fun I wr=>∃ k:Nat,1<=k/\k<=n/\I=.int .i64 (k:Int)/\Below w.heap.size w wr) (fun I _=>n - (intOf I).toNat)
 case atStart=>exact ⟨1,nL,by omega,rfl,kB⟩
 case round =>
  obtain ⟨k,ab,hk,rfl,hb⟩:=hrel
  by_cases U:k<n
  ·have hr:=h.below hb
   obtain ⟨a1,a2⟩:=hr.at (i:=k) (by rw [<- J.o];exact U);obtain ⟨b1,b2⟩:=hr.at (i:=k - 1) (by rw [<- J.o];omega)
   have Y:¬ ((aI l k).ty=(aI l (k - 1)).ty/\(aI l k).key=(aI l (k - 1)).key):=by
    have:=H.o (k - 1) (by rw [<- J.o];omega);rw [show k - 1+1=k by omega] at this;exact this
   have G:dB (aI l k) (aI l (k - 1))=false:=VI Y;clear Y hr;generalize aI l k=x at *;generalize aI l (k - 1)=y at *;have hq:∀ W:World,Sem.run Tryz.prog (Go.binOp BinOp.eql 63 (.agg #[.string x.ty,.string x.key]) (.agg #[.string y.ty,.string y.key])) W=.ok (Value.bool false) W:=fun W=>by rw [<- G];exact IQ x y W
   clear G
   go_wp2_with fail
   go_quiet (fail)
   have N:Below w.heap.size w (wr.drewN nq):=hb.trans (Dr.below ⟨nq,rfl⟩ _);go_wp2
   go_roundw
   case rel=>exact ⟨k+1,by omega,by omega,by go_num,N⟩
   simp [intOf];omega
  go_wp2
  go_ret;exact ⟨_,rfl,h.below hb,hb.mono O⟩
theorem IE {k0:Nat}(h:aY w base (.slice (some ⟨g,0,none⟩) (k0+2) cap) l)(hn:k0+2=l.length)(ak:1<=k0)(hl:l.length<=1000)(Z:base<=w.heap.size)(hg:base<=g)
  (O:∀ i,i+1<k0->dB (aI l (i+1)) (aI l i)=false) (I:dB (aI l k0) (aI l (k0 - 1))=true) (u:dB (aI l (k0+1)) (aI l k0)=false) :
  Calls Tryz.prog 30 #[.slice (some ⟨g,0,none⟩) (k0+2) cap] w (EK w base ((l.set k0 (aI l (k0+1))).take (k0+1))):=by
 have aw:k0<=1000:=by omega
 have H:He (k0+2=l.length):=hn;have ad:He (_):=O
 have N:He (k0+2<=cap):=by
  rcases h.2 with ⟨e,_⟩|⟨g',ag,am,e,_,_,h3,_⟩
  ·cases e
  injection e with _ _ e3
  subst e3
  show k0+2<=cap
  omega
 have ai:=N.o;clear O hn
 go_enter Tryz.func30,Tryz.ntmps30
 go_wp2_with fail
 go_loopw [3] (fun s3 wr=>∃ k:Nat,1<=k/\k<=k0/\s3=.int .i64 (k:Int)/\Below w.heap.size w wr) (fun s3 _=>k0 - (intOf s3).toNat)
 case atStart=>exact ⟨1,nL,by omega,rfl,kB⟩
 case round =>
  obtain ⟨k,an,hk,rfl,hb⟩:=hrel;have hr:=h.below hb;have G:k<k0+2:=by omega
  by_cases a4:k<k0
  ·obtain ⟨a1,a2⟩:=hr.at (i:=k) (by rw [<- H.o];exact G)
   obtain ⟨b1,b2⟩:=hr.at (i:=k - 1) (by rw [<- H.o];omega)
   have J:dB (aI l k) (aI l (k - 1))=false:=by
    have:=ad.o (k - 1) (by omega);rw [show k - 1+1=k by omega] at this;exact this
   clear hr;generalize aI l k=x at *;generalize aI l (k - 1)=y at *;have hq:∀ W:World,Sem.run Tryz.prog (Go.binOp BinOp.eql 63 (.agg #[.string x.ty,.string x.key]) (.agg #[.string y.ty,.string y.key])) W=.ok (Value.bool false) W:=fun W=>by rw [<- J];exact IQ x y W
   clear J
   go_wp2_with fail
   go_quiet (fail)
   have ab:Below w.heap.size w (wr.drewN nq):=hb.trans (Dr.below ⟨nq,rfl⟩ _);go_wp2
   go_roundw
   case rel=>exact ⟨k+1,by omega,by omega,by go_num,ab⟩
   simp [intOf];omega
  have af:k=k0:=by omega
  subst af;obtain ⟨a1,a2⟩:=hr.at (i:=k) (by rw [<- H.o];exact G);obtain ⟨b1,b2⟩:=hr.at (i:=k - 1) (by rw [<- H.o];omega);obtain ⟨c1,c2⟩:=hr.at (i:=k+1) (by rw [<- H.o];omega);rw [show (k+1) * 2=k * 2+2 by omega] at c1 c2;have c3:wr.cell? ⟨g,k * 2+3,none⟩=some (.string (aI l (k+1)).key):=c2;have Y:=hr.fz
  have U:He (∀ q,aY (((((wr.drewN q).setCell ⟨g,k * 2,none⟩ (.string (aI l (k+1)).ty)).setCell ⟨g,k * 2+1,none⟩ (.string (aI l (k+1)).key)).setCell ⟨g,(k+1) * 2,none⟩ (.string ByteArray.empty)).setCell ⟨g,(k+1) * 2+1,none⟩ (.string ByteArray.empty)) base (.slice (some ⟨g,0,none⟩) (k+1) cap) ((l.set k (aI l (k+1))).take (k+1))):=fun q=>by
   have o1:=(hr.below (Dr.below ⟨q,rfl⟩ _)).put H.o k (aI l (k+1));have o2:=o1.put (by rw [List.length_set];exact H.o) (k+1) ⟨ByteArray.empty,ByteArray.empty,ByteArray.empty⟩;have o3:=o2.take (m:=k+1) (by rw [List.length_set,List.length_set,<- H.o];omega);rw [List.take_set_of_le nL] at o3;exact o3
  have ap:∀ (q:Nat) (ty:TypeId) (c:Nat),(Builtin.clear_ #[35] ty #[.slice (some ⟨g,(k+1) * 2,none⟩) 1 c]).run Tryz.prog (((wr.drewN q).setCell ⟨g,k * 2,none⟩ (.string (aI l (k+1)).ty)).setCell ⟨g,k * 2+1,none⟩ (.string (aI l (k+1)).key))=.ok (.tuple #[]) (((((wr.drewN q).setCell ⟨g,k * 2,none⟩ (.string (aI l (k+1)).ty)).setCell ⟨g,k * 2+1,none⟩ (.string (aI l (k+1)).key)).setCell ⟨g,(k+1) * 2,none⟩ (.string ByteArray.empty)).setCell ⟨g,(k+1) * 2+1,none⟩ (.string ByteArray.empty)):=fun q ty c=>by
   refine bp0 _ ty g ((k+1) * 2) c ?_ ?_ (fun j=>?_)
   ·rw [aB (by omega),aB (by omega),show (k+1) * 2=k * 2+2 by omega]
    show (wr.cell? _).isSome=true
    rw [c1];rfl
   ·rw [aB (by omega),aB (by omega),show (k+1) * 2+1=k * 2+2+1 by omega]
    show (wr.cell? _).isSome=true
    rw [c2];rfl
   rw [World.frozen?_setCell,World.frozen?_setCell];exact Y j
  have hq:∀ W:World,Sem.run Tryz.prog (Go.binOp BinOp.eql 63 (.agg #[.string (aI l k).ty,.string (aI l k).key]) (.agg #[.string (aI l (k - 1)).ty,.string (aI l (k - 1)).key])) W=.ok (Value.bool true) W:=fun W=>by rw [<- I];exact IQ _ _ W
  have ao:∀ W:World,Sem.run Tryz.prog (Go.binOp BinOp.neq 63 (.agg #[.string (aI l (k+1)).ty,.string (aI l (k+1)).key]) (.agg #[.string (aI l k).ty,.string (aI l k).key])) W=.ok (Value.bool true) W:=fun W=>by have:=ZS (aI l (k+1)) (aI l k) W;rw [u] at this;exact this
  clear I u hr h;generalize (l.set k (aI l (k+1))).take (k+1)=l2 at *;generalize aI l (k+1)=z at *;generalize aI l (k - 1)=y at *;generalize aI l k=x at *
  go_wp2_with fail
  go_quiet (fail)
  go_wp2_with fail
  refine wp_loop_rounds 2 ?_;rw [rounds_succ]
  go_wp2_with fail
  go_quiet (fail)
  go_wp2_with fail
  rw [rounds_succ];go_wp2
  go_ret;refine ⟨_,rfl,U.o _,?_⟩
  iterate 4 (refine Below.setCell ?_ (by exact hg) _)
  exact (hb.trans (Dr.below ⟨_,rfl⟩ _)).mono Z
end Go.Proofs.YtpfeegcdlikegaaGreat
namespace Go.Proofs
open Go.Shelf
def Tryz.sortO_ren:Go.Shelf.Ren:=⟨fun|6=>28|15=>69|14=>68|28=>122|29=>123|20=>114|21=>115|22=>116|23=>117|24=>118|25=>119|26=>120|27=>121|46=>147|47=>148|48=>149|49=>150|50=>151|57=>165|n=>n,fun|22=>35|24=>63|25=>70|3=>3|39=>121|0=>0|53=>165|55=>167|4=>4|46=>159|45=>158|50=>94|5=>5|9=>9|66=>179|70=>183|76=>195|77=>196|n=>n,fun|n=>n⟩
theorem Tryz.sortO:Go.Proofs.SlLaysF0.n6 Tryz.prog Tryz.sortO_ren:={
 mixed:=by kernel_rfl
 f6:=⟨Tryz.f28.name,by decide,Tryz.func28.trans (congrArg some (by kernel_rfl))⟩
 f14:=⟨Tryz.f68.name,by decide,Tryz.func68.trans (congrArg some (by kernel_rfl))⟩
 f15:=Tryz.func69.trans (congrArg some (by kernel_rfl))
 f20:=⟨Tryz.f114.name,by decide,Tryz.func114.trans (congrArg some (by kernel_rfl))⟩
 f21:=⟨Tryz.f115.name,by decide,Tryz.func115.trans (congrArg some (by kernel_rfl))⟩
 f22:=⟨Tryz.f116.name,by decide,Tryz.func116.trans (congrArg some (by kernel_rfl))⟩
 f23:=⟨Tryz.f117.name,by decide,Tryz.func117.trans (congrArg some (by kernel_rfl))⟩
 f24:=⟨Tryz.f118.name,by decide,Tryz.func118.trans (congrArg some (by kernel_rfl))⟩
 f25:=⟨Tryz.f119.name,by decide,Tryz.func119.trans (congrArg some (by kernel_rfl))⟩
 f26:=⟨Tryz.f120.name,by decide,Tryz.func120.trans (congrArg some (by kernel_rfl))⟩
 f27:=⟨Tryz.f121.name,by decide,Tryz.func121.trans (congrArg some (by kernel_rfl))⟩
 f28:=Tryz.func122.trans (congrArg some (by kernel_rfl))
 f29:=Tryz.func123.trans (congrArg some (by kernel_rfl))
 f46:=⟨Tryz.f147.name,by decide,Tryz.func147.trans (congrArg some (by kernel_rfl))⟩
 f47:=Tryz.func148.trans (congrArg some (by kernel_rfl))
 f48:=Tryz.func149.trans (congrArg some (by kernel_rfl))
 f49:=⟨Tryz.f150.name,by decide,Tryz.func150.trans (congrArg some (by kernel_rfl))⟩
 f50:=⟨Tryz.f151.name,by decide,Tryz.func151.trans (congrArg some (by kernel_rfl))⟩
 f57:=⟨Tryz.f165.name,by decide,Tryz.func165.trans (congrArg some (by kernel_rfl))⟩
 t0:=Tryz.underlying0
 a0:=Tryz.isAgg0
 z0:=Tryz.sizeOf0
 v0:=Tryz.zeroValue0
 t3:=Tryz.underlying3
 a3:=Tryz.isAgg3
 z3:=Tryz.sizeOf3
 v3:=Tryz.zeroValue3
 t4:=Tryz.underlying4
 a4:=Tryz.isAgg4
 z4:=Tryz.sizeOf4
 v4:=Tryz.zeroValue4
 t5:=Tryz.underlying5
 a5:=Tryz.isAgg5
 z5:=Tryz.sizeOf5
 v5:=Tryz.zeroValue5
 t9:=Tryz.underlying9
 a9:=Tryz.isAgg9
 z9:=Tryz.sizeOf9
 v9:=Tryz.zeroValue9
 t22:=Tryz.underlying35
 a22:=Tryz.isAgg35
 z22:=Tryz.sizeOf35
 v22:=Tryz.zeroValue35
 t25:=Tryz.underlying70
 a25:=Tryz.isAgg70
 z25:=Tryz.sizeOf70
 v25:=Tryz.zeroValue70
 t39:=Tryz.underlying121
 a39:=Tryz.isAgg121
 z39:=Tryz.sizeOf121
 v39:=Tryz.zeroValue121
 t45:=Tryz.underlying158
 a45:=Tryz.isAgg158
 z45:=Tryz.sizeOf158
 v45:=Tryz.zeroValue158
 t46:=Tryz.underlying159
 a46:=Tryz.isAgg159
 z46:=Tryz.sizeOf159
 v46:=Tryz.zeroValue159
 t50:=Tryz.underlying94
 a50:=Tryz.isAgg94
 z50:=Tryz.sizeOf94
 v50:=Tryz.zeroValue94
 t53:=Tryz.underlying165
 a53:=Tryz.isAgg165
 z53:=Tryz.sizeOf165
 v53:=Tryz.zeroValue165
 t55:=Tryz.underlying167
 a55:=Tryz.isAgg167
 z55:=Tryz.sizeOf167
 v55:=Tryz.zeroValue167
 t66:=Tryz.underlying179
 a66:=Tryz.isAgg179
 z66:=Tryz.sizeOf179
 v66:=Tryz.zeroValue179
 t70:=Tryz.underlying183
 a70:=Tryz.isAgg183
 z70:=Tryz.sizeOf183
 v70:=Tryz.zeroValue183
 t76:=Tryz.underlying195
 a76:=Tryz.isAgg195
 z76:=Tryz.sizeOf195
 v76:=Tryz.zeroValue195
 t77:=Tryz.underlying196
 a77:=Tryz.isAgg196
 z77:=Tryz.sizeOf196
 v77:=Tryz.zeroValue196 }
end Go.Proofs
