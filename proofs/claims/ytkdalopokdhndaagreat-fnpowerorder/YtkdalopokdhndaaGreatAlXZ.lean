import Derived.Test.YtkdalopokdhndaaGreatAlW
import Derived.Sort.Grow
import Derived.Lib.Walk
import Derived.Laws.StructEq
import Derived.Laws.IdiomCopy
set_option maxHeartbeats 16000000
set_option maxRecDepth 100000
namespace Go.Proofs.YtkdalopokdhndaaGreat
open Go.RowKit
variable {E:Nat->Ev}{n:Nat}{l:List Ent}
theorem evO_asc (hr:roomTo E n=true)(hf:fitB E n l=true):∀ p,evO E n l tPow tNil=some p->p.ng<=50:=fun p hp=>by
 unfold evO at hp;have hbp:atV E n l tPow tNil<n:=(posV_bd E (findB l tPow tNil) n).2
 by_cases h0:0<=atV E n l tPow tNil
 ·rw [if_pos h0] at hp
  injection hp with hp
  have hty:=at_ty hr hf h0;have hpw:isPow (E (atV E n l tPow tNil).toNat)=true:=by unfold isPow;rw [hty,ByteArray.toList_eq];decide
  have:=gr_asc (room_code hr (by omega)) hpw;rw [hp] at this;exact this.1
 rw [if_neg h0] at hp;cases hp
variable {w w':World}
def Grw (w w':World):Prop:=Below w.heap.size w w'∧w.drawn<=w'.drawn
theorem Grw.below (h:Grw w w'):Below w.heap.size w w':=h.1
theorem Grw.refl (w:World):Grw w w:=⟨kB,nL⟩
theorem Grw.trans {a b c:World}(h:Grw a b)(k:Grw b c):Grw a c:=⟨h.1.trans (k.1.mono h.1.size),nZ h.2 k.2⟩
theorem Grw.alloc {a b:World}(h:Grw a b)(o:Obj):Grw a (b.alloc o):=⟨h.1.alloc h.1.size o,h.2⟩
theorem Grw.drew {a b:World}(h:Grw a b):Grw a b.drew:=⟨h.1.drew,Nat.le_succ_of_le h.2⟩
theorem bcmp_any (a b:ByteArray)(w:World) :
  Calls Tryz.prog 167 #[.string a,.string b] w fun e w'=>e=.returned (.int .i64 (cB a b))∧w'=w:=by
 go_enter Tryz.func167,Tryz.ntmps167
 go_wp2
 rw [run_callFunc_extern Tryz.func211 (by kernel_rfl) (by kernel_rfl) (by kernel_rfl) (e:=Extern.BytealgCompare.compare) (by kernel_rfl),Lib.run_compareString];simp only [Result.andThen];rw [Oper.upon_value];go_wp2
 go_ret;exact ⟨rfl,rfl⟩
theorem scmp_any (a b:ByteArray)(w:World) :
  Calls Tryz.prog 97 #[.string a,.string b] w fun e w'=>e=.returned (.int .i64 (cB a b))∧w'=w:=by
 go_enter Tryz.func97,Tryz.ntmps97
 go_wp2_with (go_at_call 167;refine (bcmp_any a b _).mono ?_;rintro e w' ⟨rfl,rfl⟩)
 go_ret;exact ⟨rfl,rfl⟩
variable {base base':Nat}{v:Value}
def encO (e:Ent):List Value:=[.string e.ty,.string e.key]
def encOL (l:List Ent):List Value:=l.flatMap encO
theorem encOL_app (l k:List Ent):encOL l ++ encOL k=encOL (l ++ k):=by simp [encOL]
theorem encOL_get (l:List Ent)(i:Nat)(h:i<l.length):(encOL l)[i * 2]?=some (.string (eAt l i).ty)∧(encOL l)[i * 2+1]?=some (.string (eAt l i).key):=by
 induction l generalizing i with
 | nil=>exact absurd h (Nat.not_lt_zero _)
 | cons x l ih =>
  cases i with
  | zero=>simp [encOL,encO,eAt]
  | succ i =>
   have:=ih i (by simpa using h);have e1:encOL (x :: l)=.string x.ty :: .string x.key :: encOL l:=by simp [encOL,encO]
   have e2:eAt (x :: l) (i+1)=eAt l i:=by simp [eAt]
   rw [e1,e2,show (i+1) * 2=i * 2+2 by omega];simpa using this
structure SlO (w:World)(a:Option Addr)(cap:Nat)(l:List Ent):Prop where
 le:l.length<=cap
 max:cap<=maxLen
 cells:l=[]∨∃ b off,a=some ⟨b,off,none⟩∧b<w.heap.size ∧
  (∀ i,i<l.length->w.cell? ⟨b,off+i * 2,none⟩=some (.string (eAt l i).ty))∧(∀ i,i<l.length->w.cell? ⟨b,off+i * 2+1,none⟩=some (.string (eAt l i).key))
def OwnO (w:World)(base:Nat)(v:Value)(l:List Ent):Prop:=w.ownsRow base 76 2 v l.length (encOL l)
theorem OwnO.below (h:OwnO w base v l)(hb:Below w.heap.size w w'):OwnO w' base v l:=by
 obtain ⟨h1,h2⟩:=h;refine ⟨h1,?_⟩;rcases h2 with h2|⟨g,cap,cur,hv,hg,hh,r⟩
 ·exact Or.inl h2
 have hlt:g<w.heap.size:=(Array.getElem?_eq_some_iff.1 hh).1;exact Or.inr ⟨g,cap,cur,hv,hg,by rw [hb.block g hlt];exact hh,r⟩
theorem OwnO.mono (h:OwnO w base v l)(hb:base'<=base):OwnO w base' v l:=by
 obtain ⟨h1,h2⟩:=h;exact ⟨h1,h2.imp id fun ⟨g,cap,cur,e,hg,r⟩=>⟨g,cap,cur,e,nZ hb hg,r⟩⟩
theorem OwnO.new (w:World)(base:Nat)(hb:base<=w.heap.size):OwnO (w.alloc (.cells #[] 76)) base (.slice (some ⟨w.heap.size,0,none⟩) 0 0) [] :=
 ⟨rfl,Or.inr ⟨w.heap.size,0,#[],rfl,hb,by show (w.heap.push _)[w.heap.size]?=_;simp,nL,by decide,rfl,rfl⟩⟩
theorem OwnO.sl (h:OwnO w base v l):∃ a cap,v=.slice a l.length cap∧SlO w a cap l:=by
 obtain ⟨h1,h2⟩:=h;rcases h2 with ⟨rfl,h0⟩|⟨g,cap,cur,rfl,hg,hh,hn,hc,hcs,hx⟩
 ·have:l=[]:=List.eq_nil_of_length_eq_zero h0
  subst this;exact ⟨none,0,rfl,⟨nL,by decide,Or.inl rfl⟩⟩
 refine ⟨_,cap,rfl,⟨hn,hc,?_⟩⟩
 by_cases h0:l=[]
 ·exact Or.inl h0
 have hlt:g<w.heap.size:=(Array.getElem?_eq_some_iff.1 hh).1
 have hcell:∀ j,j<l.length * 2->w.cell? ⟨g,0+j,none⟩=(encOL l)[j]?:=by
  intro j hj;rw [<- hx,List.getElem?_take,if_pos hj,Nat.zero_add];simp [World.cell?,hh]
 exact Or.inr ⟨g,0,rfl,hlt,fun i hi=>by rw [hcell _ (by omega)];exact (encOL_get l i hi).1,fun i hi=>by rw [Nat.add_assoc,hcell _ (by omega)];exact (encOL_get l i hi).2⟩
theorem Tryz.infoSlot:(Tryz.prog.info? 76).map (fun i=>(i.zero,i.size,i.bytes))=some (some (.agg #[.string ByteArray.empty,.string ByteArray.empty]),2,32):=by kernel_rfl
theorem encO_cells (W:World)(x:Ent)(t:TypeId)(j:Nat)(u:Value)(h:(encO x)[j]?=some u):(W.alloc (.cells #[.string x.ty,.string x.key] t)).cell? ((⟨W.heap.size,0,none⟩:Addr).add j)=some u:=by
 have hj:j<2:=by
  rcases Nat.lt_or_ge j 2 with h'|h'
  ·exact h'
  rw [List.getElem?_eq_none (by simpa [encO] using h')] at h;cases h
 match j,hj,h with
 | 0,_,h=>rw [show (⟨W.heap.size,0,none⟩:Addr).add 0=⟨W.heap.size,0,none⟩ from rfl,kA rfl];exact h
 | 1,_,h=>rw [show (⟨W.heap.size,0,none⟩:Addr).add 1=⟨W.heap.size,1,none⟩ from rfl,kA rfl];exact h
theorem encO_one (x:Ent)(u:Value)(h:u ∈ encO x):u.oneCell'=true:=by
 simp only [encO,List.mem_cons,List.not_mem_nil,or_false] at h;rcases h with rfl|rfl <;> rfl
theorem OwnO.lt (h:OwnO w base v l)(q:Nat)(hq:v.ownBlock=some q):base<=q:=by
 rcases h.2 with ⟨rfl,_⟩|⟨g,cap,cur,rfl,hg,_⟩
 ·cases hq
 have:g=q:=by simpa [Value.ownBlock] using hq
 omega
theorem OwnO.snoc {k:List Ent}(h:w.ownsRow base 76 2 v (l.length+k.length) (encOL l ++ encOL k)):OwnO w base v (l ++ k):=by
 unfold OwnO;rw [List.length_append,<- encOL_app];exact h
theorem encOL_one (l:List Ent)(u:Value)(h:u ∈ encOL l):u.oneCell'=true:=by
 unfold encOL at h;rw [List.mem_flatMap] at h;obtain ⟨x,_,hx⟩:=h;exact encO_one x u hx
def NdPost (w:World)(e:Ev)(x:Ending)(w':World):Prop:=∃ v,x=.returned v∧OwnO w' w.heap.size v (ndL e)∧Below w.heap.size w w'
theorem one_cellsO (W:World)(x:Ent)(t:TypeId)(j:Nat)(u:Value)(h:(encOL [x])[j]?=some u):(W.alloc (.cells #[.string x.ty,.string x.key] t)).cell? ((⟨W.heap.size,0,none⟩:Addr).add j)=some u:=encO_cells W x t j u (by simpa [encOL] using h)
variable {e:Ev}{S:Nat->ByteArray}{b k ca cg cp:Nat}{row:Option Nat}{aa ga pa:Option Addr}
theorem OwnL.one (w:World)(base:Nat)(hb:base<=w.heap.size)(s:ByteArray):OwnL (w.alloc (.cells #[.string s] 9)) base (.slice (some ⟨w.heap.size,0,none⟩) 1 1) [s] :=
 ⟨rfl,Or.inr ⟨w.heap.size,1,#[.string s],rfl,hb,by show (w.heap.push _)[w.heap.size]?=_;simp,nL,by decide,rfl,rfl⟩⟩
theorem uq_len (e:Ev):(uq e).length<=2∧1<=(uq e).length:=by
 unfold uq;split
 ·simp
 split <;> simp
theorem uq_is {l:List ByteArray}(hs:Srt l)(hm:∀ s,s ∈ l↔∃ i,i<n∧S i=s)(hS:∀ s,(∃ i,i<n∧S i=s)↔s=e.sd∨(isMb e=true∧s=e.key)):l=uq e :=
 srt_unique hs (uq_srt e) fun s=>by rw [hm,hS,uq_mem]
theorem take_more {l:List ByteArray}(hk:k<l.length):(l.take (k+1)).map slM=(l.take k).map slM ++ [slM (getL l k)]:=by
 rw [List.take_add_one,getL_some hk];simp
theorem OwnO.grownX (h:OwnO w base v l)(hg:w.grownBy w' row)(hne:∀ q,v.ownBlock=some q->some q≠row):OwnO w' base v l:=by
 obtain ⟨h1,h2⟩:=h;refine ⟨h1,?_⟩;rcases h2 with h2|⟨g,cap,cur,hv,hg2,hh,r⟩
 ·exact Or.inl h2
 have hlt:g<w.heap.size:=(Array.getElem?_eq_some_iff.1 hh).1;exact Or.inr ⟨g,cap,cur,hv,hg2,by rw [hg.block g hlt (hne g (by rw [hv];rfl))];exact hh,r⟩
theorem OwnL.grownX {l:List ByteArray}(h:OwnL w base v l)(hg:w.grownBy w' row)(hne:∀ q,v.ownBlock=some q->some q≠row):OwnL w' base v l:=by
 obtain ⟨h1,h2⟩:=h;refine ⟨h1,?_⟩;rcases h2 with h2|⟨g,cap,cur,hv,hg2,hh,r⟩
 ·exact Or.inl h2
 have hlt:g<w.heap.size:=(Array.getElem?_eq_some_iff.1 hh).1;exact Or.inr ⟨g,cap,cur,hv,hg2,by rw [hg.block g hlt (hne g (by rw [hv];rfl))];exact hh,r⟩
theorem own_ne {b2:Nat}{v2:Value}{U:List ByteArray}(h:OwnO w b v l)(h2:OwnL w b2 v2 U)(q:Nat)(hq:v2.ownBlock=some q):some q≠v.ownBlock:=fun e=>by
 rcases h.2 with ⟨rfl,_⟩|⟨g,cap,cur,rfl,_,hh,_⟩
 ·cases e
 rcases h2.2 with ⟨rfl,_⟩|⟨g',cap',cur',rfl,_,hh',_⟩
 ·cases hq
 have e1:g'=q:=by simpa [Value.ownBlock] using hq
 have e2:q=g:=by simpa [Value.ownBlock] using e
 subst e1 e2;rw [hh] at hh';injection hh' with hh'
 injection hh' with _ hh' _
 exact absurd hh' (by decide)
def NdRel (w W0:World)(Q:List Ent)(U:List ByteArray)(u v i:Value)(wr:World):Prop:=∃ k:Nat,k<=U.length∧i=.int .i64 (k:Int)∧OwnO wr (w.heap.size+1) v (Q ++ (U.take k).map slM)∧OwnL wr (w.heap.size+1) u U∧Below (w.heap.size+1) W0 wr
theorem ndS_any (e:Ev)(w:World)(he:EvOk w e pa cp aa ca ga cg) :
  Calls Tryz.prog 127 #[e.val' pa cp aa ca ga cg] w (NdPost w e):=by
 obtain ⟨i0,hi,hz0,hz1,hz2⟩:=info_parts Tryz.infoSlot;obtain ⟨j0,hj,hj0,hj1,hj2⟩:=info_parts Tryz.infoString;obtain ⟨W0,hW0⟩:∃ W0,W0=w.alloc (.cells (ec e pa cp aa ca ga cg) 30):=⟨_,rfl⟩;have hb0:Below w.heap.size w W0:=by rw [hW0];exact bA
 have hsz0:W0.heap.size=w.heap.size+1:=by rw [hW0];simp
 have hs0:w.heap.size+1<=W0.heap.size:=by omega
 have HB:Hid (∀ W,Below (w.heap.size+1) W0 W->∀ o,W.cell? ⟨w.heap.size,o,none⟩=((ec e pa cp aa ca ga cg):Array Value)[o]?):=fun W hW=>by subst hW0;exact box_cells hW
 have hbO:Below (w.heap.size+1) W0 (W0.alloc (.cells #[] 76)):=kB.alloc hs0 _;have hoO:OwnO (W0.alloc (.cells #[] 76)) (w.heap.size+1) (.slice (some ⟨W0.heap.size,0,none⟩) 0 0) []:=OwnO.new W0 _ hs0;rw [hsz0] at hoO
 have hEv:Hid (∀ W,Below w.heap.size w W->Calls Tryz.prog 27 #[e.val' pa cp aa ca ga cg] W fun x w'=>x=.returned (.int .i64 e.code)∧Below W.heap.size W w'):=fun W hW =>
  evS_any e.id e.sd e.ty e.key e.val e.st e.tm pa e.np cp aa e.na ca ga e.ng cg e.Pv e.Av e.M e.L _ he.hid he.hsd he.hty he.hkey he.hval (he.hp.below hW) (he.ha.below hW) (he.hg.below hW)
 have HE:Hid (e.sd.size<=maxLen∧e.key.size<=maxLen):=⟨he.hsd,he.hkey⟩;clear he
 go_enter Tryz.func127,Tryz.ntmps127
 go_wp2_with fail
 have hW0':w.alloc (.cells (ec e pa cp aa ca ga cg) 30)=W0:=hW0.symm;rw [hW0'];clear hW0' hW0;have hbwO:=hb0.trans (hbO.mono (by omega));refine (hEv.out _ hbwO).mono ?_;rintro x w1 ⟨rfl,hb1⟩;have hb01:=hbO.trans (hb1.mono (nZ hs0 hbO.size));have hs1:w.heap.size+1<=w1.heap.size:=nZ hs0 hb01.size;have hcl1:=HB.out _ hb01;have hown1:=hoO.below hb1;have hw1:=hb0.trans (hb01.mono (by omega));clear hEv hoO hbO hb1 hbwO
 by_cases hc:e.code=0
 case neg =>
  have hL:Hid (ndL e=[]):=by unfold Hid ndL;rw [if_neg hc]
  have hcb:(e.code != 0)=true:=by simpa using hc
  clear hc;go_wp2
  go_ret;exact ⟨_,rfl,by rw [hL.out];exact hown1.mono (by omega),hw1⟩
 case pos =>
  cases hcr:isCr e
  case true =>
   have hL:Hid (ndL e=[slC]):=by unfold Hid ndL;rw [if_pos hc,hcr];rfl
   have hcr':(e.ty.toList == [99,114,101,97,116,101])=true:=hcr;clear hcr
   go_wp2_with (at_builtin;refine wpList_append_own _ rfl _ _ 35 rfl (w.heap.size+1) 76 i0 (.agg #[.string ByteArray.empty,.string ByteArray.empty]) 2 32 Tryz.underlying35 hi hz0 hz1 hz2 rfl (by decide) _ _ _ rfl (World.ownsRow.alloc hown1 _) ⟨w1.heap.size,0,none⟩ 1 1 (encOL [slC]) rfl rfl (one_cellsO _ _ _) (encOL_one _) (by show (1:Nat)<=maxLen;decide) (by show (1:Nat) * 32<=140737488355328;decide) (by simp;omega) ?_;intro v2 w2 hown2r hgrw2 _;have hown2:OwnO w2 (w.heap.size+1) v2 ([slC]):=OwnO.snoc (l:=[]) (k:=[slC]) hown2r;have hbw2:Below (w.heap.size+1) W0 w2:=(hb01.alloc (by omega) _).grown hgrw2 (by simp;omega) (fun q hq=>hown1.lt q hq);have hclw2:=HB.out _ hbw2;have hsw2:w.heap.size+1<=w2.heap.size:=nZ hs0 hbw2.size;have hclUw2:=HB.out _ (hbw2.alloc hsw2 (.cells #[.string e.sd] 9)))
   go_ret;exact ⟨_,rfl,by rw [hL.out];exact hown2.mono (by omega),hb0.trans (hbw2.mono (by omega))⟩
  case false =>
   have hcr':(e.ty.toList == [99,114,101,97,116,101])=false:=hcr;have HL:Hid (ndL e=slC :: (ndY e ++ (uq e).map slM ++ [slP])):=by unfold Hid ndL;rw [if_pos hc,hcr];rfl
   clear hcr;cases hm:isMb e
   case false =>
    have hm':(e.ty.toList == [109,101,109,98,101,114])=false:=hm;have HY:Hid (ndY e=[]):=by unfold Hid ndY;rw [hm];rfl
    have HU:Hid (∀ s,(∃ i,i<1∧getL [e.sd] i=s)↔s=e.sd∨(isMb e=true∧s=e.key)):=fun s=>by
     rw [hm];constructor
     ·rintro ⟨i,hi,rfl⟩
      have:i=0:=by omega
      subst this;exact Or.inl rfl
     rintro (rfl|⟨h1,_⟩)
     ·exact ⟨0,by decide,rfl⟩
     cases h1
    clear hm
    go_wp2_with (at_builtin;refine wpList_append_own _ rfl _ _ 35 rfl (w.heap.size+1) 76 i0 (.agg #[.string ByteArray.empty,.string ByteArray.empty]) 2 32 Tryz.underlying35 hi hz0 hz1 hz2 rfl (by decide) _ _ _ rfl (World.ownsRow.alloc hown1 _) ⟨w1.heap.size,0,none⟩ 1 1 (encOL [slC]) rfl rfl (one_cellsO _ _ _) (encOL_one _) (by show (1:Nat)<=maxLen;decide) (by show (1:Nat) * 32<=140737488355328;decide) (by simp;omega) ?_;intro v2 w2 hown2r hgrw2 _;have hown2:OwnO w2 (w.heap.size+1) v2 ([slC]):=OwnO.snoc (l:=[]) (k:=[slC]) hown2r;have hbw2:Below (w.heap.size+1) W0 w2:=(hb01.alloc (by omega) _).grown hgrw2 (by simp;omega) (fun q hq=>hown1.lt q hq);have hclw2:=HB.out _ hbw2;have hsw2:w.heap.size+1<=w2.heap.size:=nZ hs0 hbw2.size;have hclUw2:=HB.out _ (hbw2.alloc hsw2 (.cells #[.string e.sd] 9)))
    have hbU:Below (w.heap.size+1) W0 (w2.alloc (.cells #[.string e.sd] 9)):=hbw2.alloc hsw2 _;obtain ⟨ua,uc,hue,hus,-⟩:=(OwnL.one w2 (w.heap.size+1) hsw2 e.sd).sl (fun s hs=>by rw [List.mem_singleton.1 hs];exact HE.out.1);injection hue with hu1 hu2 hu3
    subst hu1 hu3;clear hu2;have hown2u:OwnO (w2.alloc (.cells #[.string e.sd] 9)) (w.heap.size+1) v2 ([slC]):=hown2.below bA;refine (l2s_sl _ (by show (1:Nat)<=1048576;decide) hus).mono ?_;rintro x w5 ⟨v5,l5,rfl,hown5,hsrt5,hmem5,hb5⟩;have hl5:l5=uq e:=uq_is hsrt5 hmem5 HU.out;subst hl5;have hul:=uq_len e;have hb05:=hbU.trans (hb5.mono (nZ hs0 hbU.size));have hs5:w.heap.size+1<=w5.heap.size:=nZ hs0 hb05.size;have hownQ5:=hown2u.below hb5;have hown5':=hown5.mono (nZ hs0 hbU.size);rcases hown5.shape with ⟨rfl,h0⟩|⟨g5,c5,rfl,hg5,hlt5,hn5,hc5⟩
    ·rw [h0] at hul;simp at hul
    have HUE:Hid ([slC] ++ ((uq e).take (uq e).length).map slM ++ [slP]=ndL e):=by unfold Hid;rw [HL.out,HY.out,List.take_length];rfl
    clear hown5 hsrt5 hmem5 hb5 hn5 hc5 hg5 hlt5;generalize uq e=U at *
    go_wp2_with fail
    go_loopw [3,5] (fun v i wr=>NdRel w W0 ([slC]) U (.slice (some ⟨g5,0,none⟩) U.length c5) v i wr) (fun _ i _=>U.length - (intOf i).toNat)
    case atStart=>exact ⟨0,nz,rfl,by simpa using hownQ5,hown5',hb05⟩
    case round =>
     clear hownQ5 hown5';obtain ⟨k,hk,rfl,hownr,hownU,hbr⟩:=hrel;have hsr:w.heap.size+1<=wr.heap.size:=nZ hs0 hbr.size
     have hlen:([slC] ++ (U.take k).map slM).length<=4:=by
      have:(U.take k).length<=2:=by rw [List.length_take];omega
      simp;omega
     by_cases hlt:k<U.length
     ·have hck:wr.cell? ⟨g5,k,none⟩=some (.string (getL U k)):=hownU.cell rfl hlt
      have HT:Hid ((U.take (k+1)).map slM=(U.take k).map slM ++ [slM (getL U k)]):=take_more hlt;have HUU:Hid (∀ (o:Obj) (w3:World),(wr.alloc o).grownBy w3 u3.ownBlock->OwnL w3 (w.heap.size+1) (.slice (some ⟨g5,0,none⟩) U.length c5) U):=fun o w3 hg3=>(hownU.below bA).grownX hg3 (own_ne hownr hownU)
      clear hownU;generalize (U.take k).map slM=T at *;generalize getL U k=s at *
      go_wp2_with (at_builtin;refine wpList_append_own _ rfl _ _ 35 rfl (w.heap.size+1) 76 i0 (.agg #[.string ByteArray.empty,.string ByteArray.empty]) 2 32 Tryz.underlying35 hi hz0 hz1 hz2 rfl (by decide) _ _ _ rfl (World.ownsRow.alloc hownr _) ⟨wr.heap.size,0,none⟩ 1 1 (encOL [slM s]) rfl rfl (one_cellsO _ _ _) (encOL_one _) (by have:=hlen;unfold maxLen;omega) (by have:=hlen;omega) (by simp;omega) ?_;intro vm wm hownmr hgrwm _;have hownm:OwnO wm (w.heap.size+1) vm (([slC] ++ T) ++ [slM s]):=OwnO.snoc (l:=[slC] ++ T) (k:=[slM s]) hownmr;have hbwm:Below (w.heap.size+1) W0 wm:=(hbr.alloc (by omega) _).grown hgrwm (by simp;omega) (fun q hq=>hownr.lt q hq);have hclwm:=HB.out _ hbwm;have hswm:w.heap.size+1<=wm.heap.size:=nZ hs0 hbwm.size)
      go_roundw
      case rel=>first|exact ⟨k+1,by omega,by go_num,by rw [HT.out,<- List.append_assoc];exact hownm,HUU.out _ _ hgrwm,hbwm⟩|((repeat apply Exists.intro);exact ⟨⟨k+1,by omega,by go_num,by rw [HT.out,<- List.append_assoc];exact hownm,HUU.out _ _ hgrwm,hbwm⟩,rfl⟩)
      simp [intOf];omega
     have hke:k=U.length:=by omega
     subst hke;generalize (U.take U.length).map slM=T at *
     go_wp2_with (at_builtin;refine wpList_append_own _ rfl _ _ 35 rfl (w.heap.size+1) 76 i0 (.agg #[.string ByteArray.empty,.string ByteArray.empty]) 2 32 Tryz.underlying35 hi hz0 hz1 hz2 rfl (by decide) _ _ _ rfl (World.ownsRow.alloc hownr _) ⟨wr.heap.size,0,none⟩ 1 1 (encOL [slP]) rfl rfl (one_cellsO _ _ _) (encOL_one _) (by have:=hlen;unfold maxLen;omega) (by have:=hlen;omega) (by simp;omega) ?_;intro vp wp hownpr hgrwp _;have hownp:OwnO wp (w.heap.size+1) vp (([slC] ++ T) ++ [slP]):=OwnO.snoc (l:=[slC] ++ T) (k:=[slP]) hownpr;have hbwp:Below (w.heap.size+1) W0 wp:=(hbr.alloc (by omega) _).grown hgrwp (by simp;omega) (fun q hq=>hownr.lt q hq);have hclwp:=HB.out _ hbwp;have hswp:w.heap.size+1<=wp.heap.size:=nZ hs0 hbwp.size)
     go_ret;exact ⟨_,rfl,by rw [<- HUE.out];exact hownp.mono (by omega),hb0.trans (hbwp.mono (by omega))⟩
   case true =>
    have hm':(e.ty.toList == [109,101,109,98,101,114])=true:=hm
    have HU:Hid (∀ s,(∃ i,i<2∧getL ([e.sd] ++ [e.key]) i=s)↔s=e.sd∨(isMb e=true∧s=e.key)):=fun s=>by
     rw [hm];constructor
     ·rintro ⟨i,hi,rfl⟩
      match i,hi with
      | 0,_=>exact Or.inl rfl
      | 1,_=>exact Or.inr ⟨rfl,rfl⟩
     rintro (rfl|⟨_,rfl⟩)
     ·exact ⟨0,by decide,rfl⟩
     exact ⟨1,by decide,rfl⟩
    cases hjn:isJn e
    case false =>
     have HY:Hid (ndY e=[]):=by unfold Hid ndY;rw [hm,hjn];rfl
     have hjn':(e.val.toList == [106,111,105,110])=false:=hjn;clear hm hjn
     go_wp2_with (first|(at_builtin;(refine wpList_append_own _ rfl _ _ 27 rfl (w.heap.size+1) 9 j0 (.string ByteArray.empty) 1 16 Tryz.underlying27 hj hj0 hj1 hj2 rfl (by decide) _ _ _ rfl (World.ownsRow.alloc (OwnL.one w2 (w.heap.size+1) hsw2 e.sd) _) ⟨w2.heap.size+1,0,none⟩ 1 1 [.string e.key] rfl rfl (fun j u h=>by have:=one_cells (w2.alloc (.cells #[.string e.sd] 9)) (.string e.key) 9 j u h;simpa using this) (one_one _) (by show (2:Nat)<=maxLen;decide) (by show (2:Nat) * 16<=140737488355328;decide) (by simp;omega) ?_;intro vu wu hownur hgru _))|(at_builtin;refine wpList_append_own _ rfl _ _ 35 rfl (w.heap.size+1) 76 i0 (.agg #[.string ByteArray.empty,.string ByteArray.empty]) 2 32 Tryz.underlying35 hi hz0 hz1 hz2 rfl (by decide) _ _ _ rfl (World.ownsRow.alloc hown1 _) ⟨w1.heap.size,0,none⟩ 1 1 (encOL [slC]) rfl rfl (one_cellsO _ _ _) (encOL_one _) (by show (1:Nat)<=maxLen;decide) (by show (1:Nat) * 32<=140737488355328;decide) (by simp;omega) ?_;intro v2 w2 hown2r hgrw2 _;have hown2:OwnO w2 (w.heap.size+1) v2 ([slC]):=OwnO.snoc (l:=[]) (k:=[slC]) hown2r;have hbw2:Below (w.heap.size+1) W0 w2:=(hb01.alloc (by omega) _).grown hgrw2 (by simp;omega) (fun q hq=>hown1.lt q hq);have hclw2:=HB.out _ hbw2;have hsw2:w.heap.size+1<=w2.heap.size:=nZ hs0 hbw2.size;have hclUw2:=HB.out _ (hbw2.alloc hsw2 (.cells #[.string e.sd] 9))))
     have hownu:OwnL wu (w.heap.size+1) vu ([e.sd] ++ [e.key]):=OwnL.snoc hownur;have hbA:Below (w.heap.size+1) W0 ((w2.alloc (.cells #[.string e.sd] 9)).alloc (.cells #[.string e.key] 9)):=(hbw2.alloc hsw2 _).alloc (by simp;omega) _;have hgru2:((w2.alloc (.cells #[.string e.sd] 9)).alloc (.cells #[.string e.key] 9)).grownBy wu (some w2.heap.size):=hgru;have hbU:Below (w.heap.size+1) W0 wu:=hbA.grown hgru2 (by simp;omega) (fun q hq=>by injection hq with hq;omega)
     have hown2u:OwnO wu (w.heap.size+1) v2 ([slC]):=((hown2.below bA).below bA).grownX hgru2 (fun q hq e1=>by
      have h1:q<w2.heap.size:=(World.ownsRow.lt hown2 q hq).2;have h2:q=w2.heap.size:=by injection e1
      omega)
     obtain ⟨ua,uc,hue,hus,-⟩:=hownu.sl (fun s hs=>by
      rcases List.mem_append.1 hs with hs|hs
      ·rw [List.mem_singleton.1 hs];exact HE.out.1
      rw [List.mem_singleton.1 hs];exact HE.out.2)
     subst hue;clear hownur hgru hgru2 hbA;refine (l2s_sl _ (by show (2:Nat)<=1048576;decide) hus).mono ?_;rintro x w5 ⟨v5,l5,rfl,hown5,hsrt5,hmem5,hb5⟩;have hl5:l5=uq e:=uq_is hsrt5 hmem5 HU.out;subst hl5;have hul:=uq_len e;have hb05:=hbU.trans (hb5.mono (nZ hs0 hbU.size));have hs5:w.heap.size+1<=w5.heap.size:=nZ hs0 hb05.size;have hownQ5:=hown2u.below hb5;have hown5':=hown5.mono (nZ hs0 hbU.size);rcases hown5.shape with ⟨rfl,h0⟩|⟨g5,c5,rfl,hg5,hlt5,hn5,hc5⟩
     ·rw [h0] at hul;simp at hul
     have HUE:Hid ([slC] ++ ((uq e).take (uq e).length).map slM ++ [slP]=ndL e):=by unfold Hid;rw [HL.out,HY.out,List.take_length];rfl
     clear hown5 hsrt5 hmem5 hb5 hn5 hc5 hg5 hlt5;generalize uq e=U at *
     go_wp2_with fail
     go_loopw [3,5] (fun v i wr=>NdRel w W0 ([slC]) U (.slice (some ⟨g5,0,none⟩) U.length c5) v i wr) (fun _ i _=>U.length - (intOf i).toNat)
     case atStart=>exact ⟨0,nz,rfl,by simpa using hownQ5,hown5',hb05⟩
     case round =>
      clear hownQ5 hown5';obtain ⟨k,hk,rfl,hownr,hownU,hbr⟩:=hrel;have hsr:w.heap.size+1<=wr.heap.size:=nZ hs0 hbr.size
      have hlen:([slC] ++ (U.take k).map slM).length<=4:=by
       have:(U.take k).length<=2:=by rw [List.length_take];omega
       simp;omega
      by_cases hlt:k<U.length
      ·have hck:wr.cell? ⟨g5,k,none⟩=some (.string (getL U k)):=hownU.cell rfl hlt
       have HT:Hid ((U.take (k+1)).map slM=(U.take k).map slM ++ [slM (getL U k)]):=take_more hlt;have HUU:Hid (∀ (o:Obj) (w3:World),(wr.alloc o).grownBy w3 u3.ownBlock->OwnL w3 (w.heap.size+1) (.slice (some ⟨g5,0,none⟩) U.length c5) U):=fun o w3 hg3=>(hownU.below bA).grownX hg3 (own_ne hownr hownU)
       clear hownU;generalize (U.take k).map slM=T at *;generalize getL U k=s at *
       go_wp2_with (at_builtin;refine wpList_append_own _ rfl _ _ 35 rfl (w.heap.size+1) 76 i0 (.agg #[.string ByteArray.empty,.string ByteArray.empty]) 2 32 Tryz.underlying35 hi hz0 hz1 hz2 rfl (by decide) _ _ _ rfl (World.ownsRow.alloc hownr _) ⟨wr.heap.size,0,none⟩ 1 1 (encOL [slM s]) rfl rfl (one_cellsO _ _ _) (encOL_one _) (by have:=hlen;unfold maxLen;omega) (by have:=hlen;omega) (by simp;omega) ?_;intro vm wm hownmr hgrwm _;have hownm:OwnO wm (w.heap.size+1) vm (([slC] ++ T) ++ [slM s]):=OwnO.snoc (l:=[slC] ++ T) (k:=[slM s]) hownmr;have hbwm:Below (w.heap.size+1) W0 wm:=(hbr.alloc (by omega) _).grown hgrwm (by simp;omega) (fun q hq=>hownr.lt q hq);have hclwm:=HB.out _ hbwm;have hswm:w.heap.size+1<=wm.heap.size:=nZ hs0 hbwm.size)
       go_roundw
       case rel=>first|exact ⟨k+1,by omega,by go_num,by rw [HT.out,<- List.append_assoc];exact hownm,HUU.out _ _ hgrwm,hbwm⟩|((repeat apply Exists.intro);exact ⟨⟨k+1,by omega,by go_num,by rw [HT.out,<- List.append_assoc];exact hownm,HUU.out _ _ hgrwm,hbwm⟩,rfl⟩)
       simp [intOf];omega
      have hke:k=U.length:=by omega
      subst hke;generalize (U.take U.length).map slM=T at *
      go_wp2_with (at_builtin;refine wpList_append_own _ rfl _ _ 35 rfl (w.heap.size+1) 76 i0 (.agg #[.string ByteArray.empty,.string ByteArray.empty]) 2 32 Tryz.underlying35 hi hz0 hz1 hz2 rfl (by decide) _ _ _ rfl (World.ownsRow.alloc hownr _) ⟨wr.heap.size,0,none⟩ 1 1 (encOL [slP]) rfl rfl (one_cellsO _ _ _) (encOL_one _) (by have:=hlen;unfold maxLen;omega) (by have:=hlen;omega) (by simp;omega) ?_;intro vp wp hownpr hgrwp _;have hownp:OwnO wp (w.heap.size+1) vp (([slC] ++ T) ++ [slP]):=OwnO.snoc (l:=[slC] ++ T) (k:=[slP]) hownpr;have hbwp:Below (w.heap.size+1) W0 wp:=(hbr.alloc (by omega) _).grown hgrwp (by simp;omega) (fun q hq=>hownr.lt q hq);have hclwp:=HB.out _ hbwp;have hswp:w.heap.size+1<=wp.heap.size:=nZ hs0 hbwp.size)
      go_ret;exact ⟨_,rfl,by rw [<- HUE.out];exact hownp.mono (by omega),hb0.trans (hbwp.mono (by omega))⟩
    case true =>
     have HY:Hid (ndY e=[slJ]):=by unfold Hid ndY;rw [hm,hjn];rfl
     have hjn':(e.val.toList == [106,111,105,110])=true:=hjn;clear hm hjn
     go_wp2_with (first|(at_builtin;(refine wpList_append_own _ rfl _ _ 27 rfl (w.heap.size+1) 9 j0 (.string ByteArray.empty) 1 16 Tryz.underlying27 hj hj0 hj1 hj2 rfl (by decide) _ _ _ rfl (World.ownsRow.alloc (OwnL.one wj (w.heap.size+1) hswj e.sd) _) ⟨wj.heap.size+1,0,none⟩ 1 1 [.string e.key] rfl rfl (fun j u h=>by have:=one_cells (wj.alloc (.cells #[.string e.sd] 9)) (.string e.key) 9 j u h;simpa using this) (one_one _) (by show (2:Nat)<=maxLen;decide) (by show (2:Nat) * 16<=140737488355328;decide) (by simp;omega) ?_;intro vu wu hownur hgru _))|(at_builtin;refine wpList_append_own _ rfl _ _ 35 rfl (w.heap.size+1) 76 i0 (.agg #[.string ByteArray.empty,.string ByteArray.empty]) 2 32 Tryz.underlying35 hi hz0 hz1 hz2 rfl (by decide) _ _ _ rfl (World.ownsRow.alloc hown2 _) ⟨w2.heap.size,0,none⟩ 1 1 (encOL [slJ]) rfl rfl (one_cellsO _ _ _) (encOL_one _) (by show (2:Nat)<=maxLen;decide) (by show (2:Nat) * 32<=140737488355328;decide) (by simp;omega) ?_;intro vj wj hownjr hgrwj _;have hownj:OwnO wj (w.heap.size+1) vj ([slC,slJ]):=OwnO.snoc (l:=[slC]) (k:=[slJ]) hownjr;have hbwj:Below (w.heap.size+1) W0 wj:=(hbw2.alloc (by omega) _).grown hgrwj (by simp;omega) (fun q hq=>hown2.lt q hq);have hclwj:=HB.out _ hbwj;have hswj:w.heap.size+1<=wj.heap.size:=nZ hs0 hbwj.size;have hclUwj:=HB.out _ (hbwj.alloc hswj (.cells #[.string e.sd] 9)))|(at_builtin;refine wpList_append_own _ rfl _ _ 35 rfl (w.heap.size+1) 76 i0 (.agg #[.string ByteArray.empty,.string ByteArray.empty]) 2 32 Tryz.underlying35 hi hz0 hz1 hz2 rfl (by decide) _ _ _ rfl (World.ownsRow.alloc hown1 _) ⟨w1.heap.size,0,none⟩ 1 1 (encOL [slC]) rfl rfl (one_cellsO _ _ _) (encOL_one _) (by show (1:Nat)<=maxLen;decide) (by show (1:Nat) * 32<=140737488355328;decide) (by simp;omega) ?_;intro v2 w2 hown2r hgrw2 _;have hown2:OwnO w2 (w.heap.size+1) v2 ([slC]):=OwnO.snoc (l:=[]) (k:=[slC]) hown2r;have hbw2:Below (w.heap.size+1) W0 w2:=(hb01.alloc (by omega) _).grown hgrw2 (by simp;omega) (fun q hq=>hown1.lt q hq);have hclw2:=HB.out _ hbw2;have hsw2:w.heap.size+1<=w2.heap.size:=nZ hs0 hbw2.size;have hclUw2:=HB.out _ (hbw2.alloc hsw2 (.cells #[.string e.sd] 9))))
     have hownu:OwnL wu (w.heap.size+1) vu ([e.sd] ++ [e.key]):=OwnL.snoc hownur;have hbA:Below (w.heap.size+1) W0 ((wj.alloc (.cells #[.string e.sd] 9)).alloc (.cells #[.string e.key] 9)):=(hbwj.alloc hswj _).alloc (by simp;omega) _;have hgru2:((wj.alloc (.cells #[.string e.sd] 9)).alloc (.cells #[.string e.key] 9)).grownBy wu (some wj.heap.size):=hgru;have hbU:Below (w.heap.size+1) W0 wu:=hbA.grown hgru2 (by simp;omega) (fun q hq=>by injection hq with hq;omega)
     have hown2u:OwnO wu (w.heap.size+1) vj ([slC,slJ]):=((hownj.below bA).below bA).grownX hgru2 (fun q hq e1=>by
      have h1:q<wj.heap.size:=(World.ownsRow.lt hownj q hq).2;have h2:q=wj.heap.size:=by injection e1
      omega)
     obtain ⟨ua,uc,hue,hus,-⟩:=hownu.sl (fun s hs=>by
      rcases List.mem_append.1 hs with hs|hs
      ·rw [List.mem_singleton.1 hs];exact HE.out.1
      rw [List.mem_singleton.1 hs];exact HE.out.2)
     subst hue;clear hownur hgru hgru2 hbA;refine (l2s_sl _ (by show (2:Nat)<=1048576;decide) hus).mono ?_;rintro x w5 ⟨v5,l5,rfl,hown5,hsrt5,hmem5,hb5⟩;have hl5:l5=uq e:=uq_is hsrt5 hmem5 HU.out;subst hl5;have hul:=uq_len e;have hb05:=hbU.trans (hb5.mono (nZ hs0 hbU.size));have hs5:w.heap.size+1<=w5.heap.size:=nZ hs0 hb05.size;have hownQ5:=hown2u.below hb5;have hown5':=hown5.mono (nZ hs0 hbU.size);rcases hown5.shape with ⟨rfl,h0⟩|⟨g5,c5,rfl,hg5,hlt5,hn5,hc5⟩
     ·rw [h0] at hul;simp at hul
     have HUE:Hid ([slC,slJ] ++ ((uq e).take (uq e).length).map slM ++ [slP]=ndL e):=by unfold Hid;rw [HL.out,HY.out,List.take_length];rfl
     clear hown5 hsrt5 hmem5 hb5 hn5 hc5 hg5 hlt5;generalize uq e=U at *
     go_wp2_with fail
     go_loopw [3,5] (fun v i wr=>NdRel w W0 ([slC,slJ]) U (.slice (some ⟨g5,0,none⟩) U.length c5) v i wr) (fun _ i _=>U.length - (intOf i).toNat)
     case atStart=>exact ⟨0,nz,rfl,by simpa using hownQ5,hown5',hb05⟩
     case round =>
      clear hownQ5 hown5';obtain ⟨k,hk,rfl,hownr,hownU,hbr⟩:=hrel;have hsr:w.heap.size+1<=wr.heap.size:=nZ hs0 hbr.size
      have hlen:([slC,slJ] ++ (U.take k).map slM).length<=4:=by
       have:(U.take k).length<=2:=by rw [List.length_take];omega
       simp;omega
      by_cases hlt:k<U.length
      ·have hck:wr.cell? ⟨g5,k,none⟩=some (.string (getL U k)):=hownU.cell rfl hlt
       have HT:Hid ((U.take (k+1)).map slM=(U.take k).map slM ++ [slM (getL U k)]):=take_more hlt;have HUU:Hid (∀ (o:Obj) (w3:World),(wr.alloc o).grownBy w3 u3.ownBlock->OwnL w3 (w.heap.size+1) (.slice (some ⟨g5,0,none⟩) U.length c5) U):=fun o w3 hg3=>(hownU.below bA).grownX hg3 (own_ne hownr hownU)
       clear hownU;generalize (U.take k).map slM=T at *;generalize getL U k=s at *
       go_wp2_with (at_builtin;refine wpList_append_own _ rfl _ _ 35 rfl (w.heap.size+1) 76 i0 (.agg #[.string ByteArray.empty,.string ByteArray.empty]) 2 32 Tryz.underlying35 hi hz0 hz1 hz2 rfl (by decide) _ _ _ rfl (World.ownsRow.alloc hownr _) ⟨wr.heap.size,0,none⟩ 1 1 (encOL [slM s]) rfl rfl (one_cellsO _ _ _) (encOL_one _) (by have:=hlen;unfold maxLen;omega) (by have:=hlen;omega) (by simp;omega) ?_;intro vm wm hownmr hgrwm _;have hownm:OwnO wm (w.heap.size+1) vm (([slC,slJ] ++ T) ++ [slM s]):=OwnO.snoc (l:=[slC,slJ] ++ T) (k:=[slM s]) hownmr;have hbwm:Below (w.heap.size+1) W0 wm:=(hbr.alloc (by omega) _).grown hgrwm (by simp;omega) (fun q hq=>hownr.lt q hq);have hclwm:=HB.out _ hbwm;have hswm:w.heap.size+1<=wm.heap.size:=nZ hs0 hbwm.size)
       go_roundw
       case rel=>first|exact ⟨k+1,by omega,by go_num,by rw [HT.out,<- List.append_assoc];exact hownm,HUU.out _ _ hgrwm,hbwm⟩|((repeat apply Exists.intro);exact ⟨⟨k+1,by omega,by go_num,by rw [HT.out,<- List.append_assoc];exact hownm,HUU.out _ _ hgrwm,hbwm⟩,rfl⟩)
       simp [intOf];omega
      have hke:k=U.length:=by omega
      subst hke;generalize (U.take U.length).map slM=T at *
      go_wp2_with (at_builtin;refine wpList_append_own _ rfl _ _ 35 rfl (w.heap.size+1) 76 i0 (.agg #[.string ByteArray.empty,.string ByteArray.empty]) 2 32 Tryz.underlying35 hi hz0 hz1 hz2 rfl (by decide) _ _ _ rfl (World.ownsRow.alloc hownr _) ⟨wr.heap.size,0,none⟩ 1 1 (encOL [slP]) rfl rfl (one_cellsO _ _ _) (encOL_one _) (by have:=hlen;unfold maxLen;omega) (by have:=hlen;omega) (by simp;omega) ?_;intro vp wp hownpr hgrwp _;have hownp:OwnO wp (w.heap.size+1) vp (([slC,slJ] ++ T) ++ [slP]):=OwnO.snoc (l:=[slC,slJ] ++ T) (k:=[slP]) hownpr;have hbwp:Below (w.heap.size+1) W0 wp:=(hbr.alloc (by omega) _).grown hgrwp (by simp;omega) (fun q hq=>hownr.lt q hq);have hclwp:=HB.out _ hbwp;have hswp:w.heap.size+1<=wp.heap.size:=nZ hs0 hbwp.size)
      go_ret;exact ⟨_,rfl,by rw [<- HUE.out];exact hownp.mono (by omega),hb0.trans (hbwp.mono (by omega))⟩
end Go.Proofs.YtkdalopokdhndaaGreat
