import Derived.Test.YtkdalopokdhndaaGreatAlW
import Derived.Sort.Grow
import Derived.Lib.Walk
import Derived.Laws.StructEq
import Derived.Laws.IdiomCopy
set_option maxHeartbeats 16000000
set_option maxRecDepth 100000
namespace Go.Proofs.YtkdalopokdhndaaGreat
open Go.RowKit
variable {E:Nat->Ev}{n:Nat}{l:List Ent}
theorem evO_asc (hr:roomTo E n=true)(hf:fitB E n l=true):∀ p,evO E n l tPow tNil=some p->p.ng<=50:=fun p hp=>by
 unfold evO at hp;have hbp:atV E n l tPow tNil<n:=(posV_bd E (findB l tPow tNil) n).2
 by_cases h0:0<=atV E n l tPow tNil
 ·rw [if_pos h0] at hp
  injection hp with hp
  have hty:=at_ty hr hf h0;have hpw:isPow (E (atV E n l tPow tNil).toNat)=true:=by unfold isPow;rw [hty,ByteArray.toList_eq];decide
  have:=gr_asc (room_code hr (by omega)) hpw;rw [hp] at this;exact this.1
 rw [if_neg h0] at hp;cases hp
variable {w w':World}
def Grw (w w':World):Prop:=Below w.heap.size w w'∧w.drawn<=w'.drawn
theorem Grw.refl (w:World):Grw w w:=⟨kB,nL⟩
theorem Grw.trans {a b c:World}(h:Grw a b)(k:Grw b c):Grw a c:=⟨h.1.trans (k.1.mono h.1.size),nZ h.2 k.2⟩
theorem Grw.alloc {a b:World}(h:Grw a b)(o:Obj):Grw a (b.alloc o):=⟨h.1.alloc h.1.size o,h.2⟩
theorem Grw.drew {a b:World}(h:Grw a b):Grw a b.drew:=⟨h.1.drew,Nat.le_succ_of_le h.2⟩
theorem Grw.eq (h:Grw w w'):∃ q os,w'=Sort.grow (w.drewN q) os:=by
 obtain ⟨⟨h1,h2,h3,h4,h5⟩,h6⟩:=h;refine ⟨w'.drawn - w.drawn,w'.heap.extract w.heap.size w'.heap.size,?_⟩
 have e1:w'.heap=w.heap ++ w'.heap.extract w.heap.size w'.heap.size:=by
  apply Array.ext_getElem?;intro i;rw [Array.getElem?_append];split
  ·exact h5 i ‹_›
  rw [Array.getElem?_extract];split
  ·congr 1;omega
  rw [Array.getElem?_eq_none];omega
 have e2:w'.drawn=w.drawn+(w'.drawn - w.drawn):=by omega
 obtain ⟨heap,tape,drawn,os,output⟩:=w';simp only [Sort.grow,World.drewN] at *;subst h1 h2 h3
 congr 1
variable {base base':Nat}{v:Value}
def encO (e:Ent):List Value:=[.string e.ty,.string e.key]
def encOL (l:List Ent):List Value:=l.flatMap encO
theorem encOL_app (l k:List Ent):encOL l ++ encOL k=encOL (l ++ k):=by simp [encOL]
theorem encOL_get (l:List Ent)(i:Nat)(h:i<l.length):(encOL l)[i * 2]?=some (.string (eAt l i).ty)∧(encOL l)[i * 2+1]?=some (.string (eAt l i).key):=by
 induction l generalizing i with
 | nil=>exact absurd h (Nat.not_lt_zero _)
 | cons x l ih =>
  cases i with
  | zero=>simp [encOL,encO,eAt]
  | succ i =>
   have:=ih i (by simpa using h);have e1:encOL (x :: l)=.string x.ty :: .string x.key :: encOL l:=by simp [encOL,encO]
   have e2:eAt (x :: l) (i+1)=eAt l i:=by simp [eAt]
   rw [e1,e2,show (i+1) * 2=i * 2+2 by omega];simpa using this
structure SlO (w:World)(a:Option Addr)(cap:Nat)(l:List Ent):Prop where
 le:l.length<=cap
 max:cap<=maxLen
 cells:l=[]∨∃ b off,a=some ⟨b,off,none⟩∧b<w.heap.size ∧
  (∀ i,i<l.length->w.cell? ⟨b,off+i * 2,none⟩=some (.string (eAt l i).ty))∧(∀ i,i<l.length->w.cell? ⟨b,off+i * 2+1,none⟩=some (.string (eAt l i).key))
def OwnO (w:World)(base:Nat)(v:Value)(l:List Ent):Prop:=w.ownsRow base 76 2 v l.length (encOL l)
theorem OwnO.below (h:OwnO w base v l)(hb:Below w.heap.size w w'):OwnO w' base v l:=by
 obtain ⟨h1,h2⟩:=h;refine ⟨h1,?_⟩;rcases h2 with h2|⟨g,cap,cur,hv,hg,hh,r⟩
 ·exact Or.inl h2
 have hlt:g<w.heap.size:=(Array.getElem?_eq_some_iff.1 hh).1;exact Or.inr ⟨g,cap,cur,hv,hg,by rw [hb.block g hlt];exact hh,r⟩
theorem OwnO.mono (h:OwnO w base v l)(hb:base'<=base):OwnO w base' v l:=by
 obtain ⟨h1,h2⟩:=h;exact ⟨h1,h2.imp id fun ⟨g,cap,cur,e,hg,r⟩=>⟨g,cap,cur,e,nZ hb hg,r⟩⟩
theorem OwnO.new (w:World)(base:Nat)(hb:base<=w.heap.size):OwnO (w.alloc (.cells #[] 76)) base (.slice (some ⟨w.heap.size,0,none⟩) 0 0) [] :=
 ⟨rfl,Or.inr ⟨w.heap.size,0,#[],rfl,hb,by show (w.heap.push _)[w.heap.size]?=_;simp,nL,by decide,rfl,rfl⟩⟩
theorem OwnO.sl (h:OwnO w base v l):∃ a cap,v=.slice a l.length cap∧SlO w a cap l:=by
 obtain ⟨h1,h2⟩:=h;rcases h2 with ⟨rfl,h0⟩|⟨g,cap,cur,rfl,hg,hh,hn,hc,hcs,hx⟩
 ·have:l=[]:=List.eq_nil_of_length_eq_zero h0
  subst this;exact ⟨none,0,rfl,⟨nL,by decide,Or.inl rfl⟩⟩
 refine ⟨_,cap,rfl,⟨hn,hc,?_⟩⟩
 by_cases h0:l=[]
 ·exact Or.inl h0
 have hlt:g<w.heap.size:=(Array.getElem?_eq_some_iff.1 hh).1
 have hcell:∀ j,j<l.length * 2->w.cell? ⟨g,0+j,none⟩=(encOL l)[j]?:=by
  intro j hj;rw [<- hx,List.getElem?_take,if_pos hj,Nat.zero_add];simp [World.cell?,hh]
 exact Or.inr ⟨g,0,rfl,hlt,fun i hi=>by rw [hcell _ (by omega)];exact (encOL_get l i hi).1,fun i hi=>by rw [Nat.add_assoc,hcell _ (by omega)];exact (encOL_get l i hi).2⟩
theorem Tryz.infoSlot:(Tryz.prog.info? 76).map (fun i=>(i.zero,i.size,i.bytes))=some (some (.agg #[.string ByteArray.empty,.string ByteArray.empty]),2,32):=by kernel_rfl
theorem encO_cells (W:World)(x:Ent)(t:TypeId)(j:Nat)(u:Value)(h:(encO x)[j]?=some u):(W.alloc (.cells #[.string x.ty,.string x.key] t)).cell? ((⟨W.heap.size,0,none⟩:Addr).add j)=some u:=by
 have hj:j<2:=by
  rcases Nat.lt_or_ge j 2 with h'|h'
  ·exact h'
  rw [List.getElem?_eq_none (by simpa [encO] using h')] at h;cases h
 match j,hj,h with
 | 0,_,h=>rw [show (⟨W.heap.size,0,none⟩:Addr).add 0=⟨W.heap.size,0,none⟩ from rfl,kA rfl];exact h
 | 1,_,h=>rw [show (⟨W.heap.size,0,none⟩:Addr).add 1=⟨W.heap.size,1,none⟩ from rfl,kA rfl];exact h
theorem encO_one (x:Ent)(u:Value)(h:u ∈ encO x):u.oneCell'=true:=by
 simp only [encO,List.mem_cons,List.not_mem_nil,or_false] at h;rcases h with rfl|rfl <;> rfl
theorem OwnO.lt (h:OwnO w base v l)(q:Nat)(hq:v.ownBlock=some q):base<=q:=by
 rcases h.2 with ⟨rfl,_⟩|⟨g,cap,cur,rfl,hg,_⟩
 ·cases hq
 have:g=q:=by simpa [Value.ownBlock] using hq
 omega
theorem OwnO.snoc {k:List Ent}(h:w.ownsRow base 76 2 v (l.length+k.length) (encOL l ++ encOL k)):OwnO w base v (l ++ k):=by
 unfold OwnO;rw [List.length_append,<- encOL_app];exact h
theorem encOL_one (l:List Ent)(u:Value)(h:u ∈ encOL l):u.oneCell'=true:=by
 unfold encOL at h;rw [List.mem_flatMap] at h;obtain ⟨x,_,hx⟩:=h;exact encO_one x u hx
def NdPost (w:World)(e:Ev)(x:Ending)(w':World):Prop:=∃ v,x=.returned v∧OwnO w' w.heap.size v (ndL e)∧Below w.heap.size w w'
theorem one_cellsO (W:World)(x:Ent)(t:TypeId)(j:Nat)(u:Value)(h:(encOL [x])[j]?=some u):(W.alloc (.cells #[.string x.ty,.string x.key] t)).cell? ((⟨W.heap.size,0,none⟩:Addr).add j)=some u:=encO_cells W x t j u (by simpa [encOL] using h)
end Go.Proofs.YtkdalopokdhndaaGreat
