import Derived.WalkKit
import Derived.WalkSpells
import Derived.WalkLawsBesides
import Derived.Deep.Draws
import Derived.Deep.LoopGhost
import Derived.Deep.QuietTactic
import Derived.BigQuiet
import Derived.Deep.RegionWith
import Derived.OrdersHeld
import Derived.Deep.RegionHeld
import Derived.OwnWalk
import Derived.Test.YtkdalopokdhndaaGreatProg
import Derived.Maps.RangeWalk
import Derived.Deep.AppendLies
import Derived.Lib.BufferWrite
import Derived.Below
set_option maxHeartbeats 16000000
set_option maxRecDepth 100000
namespace Go.Proofs.YtkdalopokdhndaaGreat
open Go.RowKit
variable {B i k m n:Nat}{w w' w1 wr:World}{v:Value}{cs:Array Value}
theorem nL :n<=n:=Nat.le.refl
theorem kB :Below B w w:=Below.refl B w
theorem si:(∀ (α:Type) (xs:List α) (i:Nat) (h:i<xs.toArray.size),xs.toArray[i]=xs[i]'(by simpa using h))∧(∀ (α:Type) (a:α) (l:List α) (h:0<(a :: l).length),(a :: l)[0]=a)∧(∀ (α:Type) (a:α) (l:List α) (i:Nat) (h:i+1<(a :: l).length),(a :: l)[i+1]=l[i]'(Nat.lt_of_succ_lt_succ h))∧(∀ (α:Type) (l:List α) (i:Nat) (a:α),l.toArray.setIfInBounds i a=(l.set i a).toArray)∧(∀ (α:Type) (x:α) (xs:List α) (a:α),(x :: xs).set 0 a=a :: xs)∧(∀ (α:Type) (x:α) (xs:List α) (i:Nat) (a:α),(x :: xs).set (i+1) a=x :: xs.set i a)∧(∀ (t:Array Value) (d:List Deferred) (n:Nat) (v:Value),(Act.mk t d).put (some n) v=Act.mk (t.setIfInBounds n v) d)∧(∀ (a:Act) (v:Value),a.put none v=a) :=
 ⟨fun _ _ _ h=>List.getElem_toArray h,fun _ a l h=>List.getElem_cons_zero a l h,fun _ a l i h=>List.getElem_cons_succ a l i h,fun _ l i a=>List.setIfInBounds_toArray l i a,fun _ _ _ _=>List.set_cons_zero,fun _ _ _ _ _=>List.set_cons_succ,fun _ _ _ _=>rfl,fun _ _=>rfl⟩
theorem tk {P:Program}{ops:Array Oper}{Q:Exit->Act->World->Prop}{md:Region.Mode}{S:World->Prop}{oi:Oper}{fuel:Nat}{listed:Array Bool}{a:Act}(i:Nat)(v:Value)(hi:ops[i]?=some oi)(hy:YieldsIf P ops S oi v a)(h:wpAnyH P md ops Q S fuel (listed.setIfInBounds i true) (a.put oi.dst v) w)
  (hs:Region.noSelect ops=true:=by kernel_rfl) (hf:Region.free md ops listed i=true:=by kernel_rfl) (hr:(Region.ready md ops listed).contains i=true:=by kernel_rfl) (hQ:∀ (c:List PanicEntry) (a:Act) (w:World),Q (Exit.panic c) (a.put oi.dst v) w->Q (Exit.panic c) a w:=by exact fun _ _ _ h=>h) (hS:S w:=by assumption):wpAnyH P md ops Q S (fuel+1) listed a w :=
 wpAnyH_take hi hs hf hr hQ hy hS h
theorem tq {P:Program}{ops:Array Oper}{Q:Exit->Act->World->Prop}{md:Region.Mode}{S:World->Prop}{oi:Oper}{fuel:Nat}{listed:Array Bool}{a:Act}(i:Nat)(hi:ops[i]?=some oi)(h:wpAnyH P md ops Q S fuel (listed.setIfInBounds i true) (a.put oi.dst v) w)(hy:YieldsIf P ops S oi v a:=by refine Or.inl ⟨by rfl,?_⟩;intro w h;(try dsimp only at h);go_simp;try (with_reducible rfl))
  (hs:Region.noSelect ops=true:=by kernel_rfl) (hf:Region.free md ops listed i=true:=by kernel_rfl) (hr:(Region.ready md ops listed).contains i=true:=by kernel_rfl) (hQ:∀ (c:List PanicEntry) (a:Act) (w:World),Q (Exit.panic c) (a.put oi.dst v) w->Q (Exit.panic c) a w:=by exact fun _ _ _ h=>h) (hS:S w:=by assumption):wpAnyH P md ops Q S (fuel+1) listed a w :=
 wpAnyH_take hi hs hf hr hQ hy hS h
theorem bA {o:Obj}:Below w.heap.size w (w.alloc o):=Below.alloc kB nL _
theorem nT (a:n<m)(b:m<=k):n<k:=by omega
theorem nZ (a:n<=m)(b:m<=k):n<=k:=by omega
theorem nz :0<=n:=Nat.zero_le n
theorem kA {c:Array Value}{t:TypeId}(h:n=w.heap.size):(w.alloc (.cells c t)).cell? ⟨n,i,none⟩=c[i]?:=World.cell?_alloc_at c t n i h
theorem kF {c:Array Value}{t:TypeId}(h:n=w.heap.size):(w.alloc (.cells c t)).frozen? ⟨n,i,none⟩=false:=World.frozen?_alloc_at c t n i h
theorem rd {P:Program}{ops:Array Oper}{Q:Exit->Act->World->Prop}{md:Region.Mode}{S:World->Prop}{o:Oper}{fuel:Nat}{listed:Array Bool}{a:Act}(i:Nat)(hi:ops[i]?=some o)(h:∀ (K':Act->World->Prop),Shut (∀ (a:Act) (w:World),S w->(S w->wpAnyH P md ops Q S fuel (listed.setIfInBounds i true) a w)->K' a w)->if Region.wanted o (yielded ops a.tmps)=true then Oper.wp P o a w K' Q else K' (a.put o.dst undef) w)(hr:Region.ready md ops listed=[i]:=by kernel_rfl):wpAnyH P md ops Q S (fuel+1) listed a w :=
 wpAnyH_ready hr (by simp) (AllReadyH.cons hi h AllReadyH.nil)
theorem ret_bool {a b:Bool}(h:a=b):Ending.returned (.bool a)=.returned (.bool b):=by rw [h]
theorem ret_int {k:IntKind}{a b:Int}(h:a=b):Ending.returned (.int k a)=.returned (.int k b):=by rw [h]
theorem ret_str {a b:ByteArray}(h:a=b):Ending.returned (.string a)=.returned (.string b):=by rw [h]
def Dr (w w':World):Prop:=∃ q,w'=w.drewN q
theorem Dr.refl (w:World):Dr w w:=⟨0,rfl⟩
theorem Dr.drewN (h:Dr w w')(n:Nat):Dr w (w'.drewN n):=by
 obtain ⟨q,rfl⟩:=h;exact ⟨q+n,by rw [World.drewN_drewN]⟩
theorem Dr.cell (h:Dr w w')(a:Addr):w'.cell? a=w.cell? a:=by obtain ⟨q,rfl⟩:=h;rfl
theorem Dr.below (h:Dr w w')(B:Nat):Below B w w':=by obtain ⟨q,rfl⟩:=h;exact ⟨rfl,rfl,rfl,nL,fun _ _=>rfl⟩
theorem beq_swap (a b:List UInt8):(a == b)=(b == a):=by
 rw [Bool.eq_iff_iff,beq_iff_eq,beq_iff_eq];exact eq_comm
theorem size_of_nil (s:ByteArray)(h:s.toList=[]):s.size=0:=by
 rw [ByteArray.toList_eq] at h
 show s.data.size=0
 rw [<- Array.length_toList,h];rfl
theorem size_yes_pos (s:ByteArray)(h1:s.toList.isEmpty=false):s.size≠0:=fun h0=>by
 have:s.toList=[]:=by rw [ByteArray.toList_eq];exact List.eq_nil_of_length_eq_zero (by rw [Array.length_toList];exact h0)
 rw [this] at h1;simp at h1
theorem box_cells {t:TypeId}(hb:Below (w.heap.size+1) (w.alloc (.cells cs t)) w1)(o:Nat):w1.cell? ⟨w.heap.size,o,none⟩=cs[o]? :=
 (hb.cell (by exact Nat.lt_succ_self _)).trans (kA rfl)
theorem below_box {o o2:Obj}(hb:Below ((w.alloc o).alloc o2).heap.size ((w.alloc o).alloc o2) w1):Below (w.heap.size+1) (w.alloc o) w1 :=
 (kB.alloc (by simp) _).trans (hb.mono (by simp))
theorem set_same {x:Value}(hv:∃ v,wr.cell? ⟨B,k,none⟩=some v):(wr.setCell ⟨B,k,none⟩ x).cell? ⟨B,k,none⟩=some x:=by
 obtain ⟨v,hv⟩:=hv;exact World.cell?_setCell_same _ _ _ hv
theorem set_far {x:Value}(h:i≠k):(wr.setCell ⟨B,k,none⟩ x).cell? ⟨B,i,none⟩=wr.cell? ⟨B,i,none⟩ :=
 World.cell?_setCell_other _ _ _ _ (fun e=>h (by injection e with _ e2;exact e2.symm))
theorem far_block {C:Nat}{x:Value}(h:B≠C):(wr.setCell ⟨B,k,none⟩ x).cell? ⟨C,i,none⟩=wr.cell? ⟨C,i,none⟩ :=
 World.cell?_setCell_other _ _ _ _ (fun e=>h (by injection e))
def Wr0 (w:World)(lo:Nat)(a:Option Addr)(n:Nat):Prop :=
 n=0∨∃ b off,a=some ⟨b,off,none⟩∧lo<=b∧b<w.heap.size∧∀ i,i<n->(∃ v,w.cell? ⟨b,off+i,none⟩=some v)∧w.frozen? ⟨b,off+i,none⟩=false
variable {a:Option Addr}{cap:Nat}
structure Ent where
 ty:ByteArray
 key:ByteArray
 id:ByteArray
variable {l:List Ent}
def Ent.none:Ent:=⟨ByteArray.empty,ByteArray.empty,ByteArray.empty⟩
def eAt (l:List Ent)(i:Nat):Ent:=l.getD i Ent.none
theorem eAt_get (l:List Ent)(i:Nat)(h:i<l.length):eAt l i=l[i]:=by simp [eAt,List.getD,h]
theorem eAt_mem (l:List Ent)(i:Nat)(h:i<l.length):eAt l i ∈ l:=by rw [eAt_get l i h];exact List.getElem_mem h
def befB (a b:Ent):Bool:=if a.ty.toList == b.ty.toList then Op.bytesLess a.key.toList b.key.toList else Op.bytesLess a.ty.toList b.ty.toList
def samB (a b:Ent):Bool:=a.ty.toList == b.ty.toList && a.key.toList == b.key.toList
def ordTo (l:List Ent):Nat->Bool
 | 0=>true
 | n+1=>ordTo l n && (n == 0 || befB (eAt l (n - 1)) (eAt l n))
theorem ordTo_le (l:List Ent):∀ n k,k<n->ordTo l (k+1)=false->ordTo l n=false
 | 0,_,h,_=>absurd h (Nat.not_lt_zero _)
 | n+1,k,h,e=>by
  by_cases hk:k=n
  ·subst hk;exact e
  unfold ordTo;rw [ordTo_le l n k (by omega) e];rfl
def ordB (l:List Ent):Bool:=ordTo l l.length
def idsTo (l:List Ent):Nat->Bool
 | 0=>true
 | n+1=>idsTo l n && !(eAt l n).id.toList.isEmpty
theorem idsTo_le (l:List Ent):∀ n k,k<n->idsTo l (k+1)=false->idsTo l n=false
 | 0,_,h,_=>absurd h (Nat.not_lt_zero _)
 | n+1,k,h,e=>by
  by_cases hk:k=n
  ·subst hk;exact e
  unfold idsTo;rw [idsTo_le l n k (by omega) e];rfl
def stB (l:List Ent):Bool:=idsTo l l.length && (decide (l.length<=300) && ordB l)
def posI (l:List Ent)(e:Ent):Int:=if l.findIdx (fun x=>samB x e)<l.length then ((l.findIdx (fun x=>samB x e):Nat):Int) else -1
theorem posI_hit (l:List Ent)(e:Ent)(k:Nat)(hk:k<l.length)(h0:∀ i,i<k->samB (eAt l i) e=false)(h1:samB (eAt l k) e=true):posI l e=(k:Int):=by
 have:l.findIdx (fun x=>samB x e)=k:=by
  rw [List.findIdx_eq hk];refine ⟨by rw [<- eAt_get l k hk];exact h1,fun j hj=>?_⟩;rw [<- eAt_get l j (by omega)];simp [h0 j hj]
 rw [posI,this,if_pos hk]
theorem posI_miss (l:List Ent)(e:Ent)(h0:∀ i,i<l.length->samB (eAt l i) e=false):posI l e=-1:=by
 rw [posI,if_neg];intro h
 have:=List.findIdx_getElem (w:=h);rw [<- eAt_get l _ h,h0 _ h] at this;cases this
structure SlE (w:World)(a:Option Addr)(cap:Nat)(l:List Ent):Prop where
 le:l.length<=cap
 max:cap<=maxLen
 size:∀ i,i<l.length->(eAt l i).ty.size<=maxLen∧(eAt l i).key.size<=maxLen∧(eAt l i).id.size<=maxLen
 cells:l=[]∨∃ b off,a=some ⟨b,off,none⟩∧b<w.heap.size ∧
  (∀ i,i<l.length->w.cell? ⟨b,off+i * 3,none⟩=some (.string (eAt l i).ty))∧(∀ i,i<l.length->w.cell? ⟨b,off+i * 3+1,none⟩=some (.string (eAt l i).key))∧(∀ i,i<l.length->w.cell? ⟨b,off+i * 3+2,none⟩=some (.string (eAt l i).id))
theorem SlE.below (h:SlE w a cap l)(hb:Below w.heap.size w w'):SlE w' a cap l:=by
 refine ⟨h.le,h.max,h.size,?_⟩;rcases h.cells with h0|⟨b,off,e,hlt,h1,h2,h3⟩
 ·exact Or.inl h0
 exact Or.inr ⟨b,off,e,nT hlt hb.size,fun i hi=>(hb.cell (by exact hlt)).trans (h1 i hi),fun i hi=>(hb.cell (by exact hlt)).trans (h2 i hi),fun i hi=>(hb.cell (by exact hlt)).trans (h3 i hi)⟩
abbrev entV (e:Ent):Value:=.agg #[.string e.ty,.string e.key,.string e.id]
theorem before_any (a b:Ent)(w:World) :
  Calls Tryz.prog 92 #[entV a,entV b] w fun e w'=>e=.returned (.bool (befB a b))∧Below w.heap.size w w':=by
 cases h:(a.ty.toList == b.ty.toList)
 all_goals
  go_enter Tryz.func92,Tryz.ntmps92
  go_wp2
  go_ret;exact ⟨ret_bool (by simp [befB,h]),bA.alloc (by simp) _⟩
theorem same_any (a b:Ent)(w:World) :
  Calls Tryz.prog 156 #[entV a,entV b] w fun e w'=>e=.returned (.bool (samB a b))∧Below w.heap.size w w':=by
 cases h:(a.ty.toList == b.ty.toList)
 all_goals
  go_enter Tryz.func156,Tryz.ntmps156
  go_wp2
  go_ret;exact ⟨ret_bool (by simp [samB,h]),bA.alloc (by simp) _⟩
theorem inOrder_zero (a:Option Addr)(cap:Nat)(w:World) :
  Calls Tryz.prog 132 #[.slice a 0 cap] w fun e w'=>e=.returned (.bool true)∧w'=w:=by
 go_enter Tryz.func132,Tryz.ntmps132
 go_wp2
 refine wp_loop_rounds 1 ?_;rw [rounds_succ];go_wp2
 go_ret;exact ⟨rfl,rfl⟩
theorem inOrder_any (b off cap:Nat)(l:List Ent)(w:World)(hl0:0<l.length)(hn:l.length<=maxLen)(hb:b<w.heap.size)
  (h1:∀ i,i<l.length->w.cell? ⟨b,off+i * 3,none⟩=some (.string (eAt l i).ty)) (h2:∀ i,i<l.length->w.cell? ⟨b,off+i * 3+1,none⟩=some (.string (eAt l i).key)) (h3:∀ i,i<l.length->w.cell? ⟨b,off+i * 3+2,none⟩=some (.string (eAt l i).id)) :
  Calls Tryz.prog 132 #[.slice (some ⟨b,off,none⟩) l.length cap] w fun e w'=>e=.returned (.bool (ordB l))∧Below w.heap.size w w':=by
 unfold maxLen at hn
 go_enter Tryz.func132,Tryz.ntmps132
 go_wp2
 go_loopw [3] (fun i wr=>∃ k:Nat,k+1<=l.length∧i=.int .i64 ((k:Int)+1)∧Hid (ordTo l (k+1)=true)∧Below w.heap.size w wr) (fun i _=>l.length - (intOf i).toNat)
 case atStart=>exact ⟨0,hl0,rfl,rfl,kB⟩
 case round =>
  obtain ⟨k,hk,rfl,hto,hbel⟩:=hrel
  by_cases hlt:k+1<l.length
  ·have a1:wr.cell? ⟨b,off+k * 3,none⟩=some (.string (eAt l k).ty):=(hbel.cell (by exact hb)).trans (h1 k (by omega))
   have a2:wr.cell? ⟨b,off+k * 3+1,none⟩=some (.string (eAt l k).key):=(hbel.cell (by exact hb)).trans (h2 k (by omega));have a3:wr.cell? ⟨b,off+k * 3+2,none⟩=some (.string (eAt l k).id):=(hbel.cell (by exact hb)).trans (h3 k (by omega));have b1:wr.cell? ⟨b,off+(k+1) * 3,none⟩=some (.string (eAt l (k+1)).ty):=(hbel.cell (by exact hb)).trans (h1 (k+1) (by omega));have b2:wr.cell? ⟨b,off+(k+1) * 3+1,none⟩=some (.string (eAt l (k+1)).key):=(hbel.cell (by exact hb)).trans (h2 (k+1) (by omega));have b3:wr.cell? ⟨b,off+(k+1) * 3+2,none⟩=some (.string (eAt l (k+1)).id):=(hbel.cell (by exact hb)).trans (h3 (k+1) (by omega));have hkl:k<l.length:=by omega
   have ew:IntKind.i64.wrap (k:Int)=(k:Int):=by rw [IntKind.wrap_i64];omega
   cases hB:befB (eAt l k) (eAt l (k+1))
   ·go_wp2_with fail
    go_region_with (go_at_call 92;refine (before_any (eAt l k) (eAt l (k+1)) _).mono ?_;rintro e w1 ⟨rfl,hb1⟩)
    all_goals
     go_wp2
     go_ret;exact ⟨ret_bool (by rw [ordB,ordTo_le l l.length (k+1) hlt (by rw [ordTo,show k+1 - 1=k from rfl,hB];simp)]),Below.trans (by first|exact hbel|exact hbel.drew|exact hbel.drew.drew) (hb1.mono (by exact hbel.size))⟩
   go_wp2_with fail
   go_region_with (go_at_call 92;refine (before_any (eAt l k) (eAt l (k+1)) _).mono ?_;rintro e w1 ⟨rfl,hb1⟩)
   all_goals
    go_wp2
    go_roundw
    case rel=>exact ⟨k+1,by omega,by go_num,by unfold Hid;rw [ordTo,hto.out,show k+1 - 1=k from rfl,hB];simp,Below.trans (by first|exact hbel|exact hbel.drew|exact hbel.drew.drew) (hb1.mono (by exact hbel.size))⟩
    simp [intOf];omega
  go_wp2
  go_ret;exact ⟨ret_bool (by rw [ordB,show l.length=k+1 by omega,hto.out]),hbel⟩
theorem inOrder_sl (w:World)(h:SlE w a cap l) :
  Calls Tryz.prog 132 #[.slice a l.length cap] w fun e w'=>e=.returned (.bool (ordB l))∧Below w.heap.size w w':=by
 rcases h.cells with rfl|⟨b,off,rfl,hb,h1,h2,h3⟩
 ·refine (inOrder_zero a cap w).mono ?_
  rintro e w' ⟨rfl,rfl⟩;exact ⟨rfl,kB⟩
 by_cases h0:0<l.length
 ·exact inOrder_any b off cap l w h0 (nZ h.le h.max) hb h1 h2 h3
 obtain rfl:l=[]:=List.eq_nil_of_length_eq_zero (by omega);refine (inOrder_zero _ cap w).mono ?_;rintro e w' ⟨rfl,rfl⟩;exact ⟨rfl,kB⟩
theorem stateS_any (b off cap:Nat)(l:List Ent)(w:World)(h:SlE w (some ⟨b,off,none⟩) cap l)
  (h3:∀ i,i<l.length->w.cell? ⟨b,off+i * 3+2,none⟩=some (.string (eAt l i).id)) :
  Calls Tryz.prog 71 #[.slice (some ⟨b,off,none⟩) l.length cap] w fun e w'=>e=.returned (.bool (stB l))∧Below w.heap.size w w':=by
 have hn:=nZ h.le h.max;unfold maxLen at hn
 go_enter Tryz.func71,Tryz.ntmps71
 go_wp2
 go_loop [3] (fun i=>∃ k:Nat,k<=l.length∧i=.int .i64 k∧Hid (idsTo l k=true)) (fun i=>l.length - (intOf i).toNat)
 case atStart=>exact ⟨0,nz,rfl,rfl⟩
 case round =>
  obtain ⟨k,hk,rfl,hto⟩:=hrel
  by_cases hlt:k<l.length
  ·have a3:=h3 k hlt
   cases he:(eAt l k).id.toList.isEmpty
   ·go_wp2
    go_round
    case rel=>exact ⟨k+1,by omega,by go_num,by unfold Hid;rw [idsTo,hto.out,he];rfl⟩
    simp [intOf];omega
   go_wp2
   go_ret;exact ⟨ret_bool (by rw [stB,idsTo_le l l.length k hlt (by rw [idsTo,he];simp)];simp),kB⟩
  have hall:idsTo l l.length=true:=by rw [show l.length=k by omega];exact hto.out
  have HA:Hid (idsTo l l.length=true):=hall;clear hall
  by_cases h300:l.length<=300
  ·go_wp2_with (go_at_call 132;refine (inOrder_sl _ h).mono ?_;rintro e w' ⟨rfl,hb1⟩)
   go_ret;exact ⟨ret_bool (by rw [stB,HA.out];simp [h300]),hb1⟩
  go_wp2
  go_ret;exact ⟨ret_bool (by rw [stB];simp [h300]),kB⟩
theorem stateS_zero (a:Option Addr)(cap:Nat)(w:World) :
  Calls Tryz.prog 71 #[.slice a 0 cap] w fun e w'=>e=.returned (.bool true)∧w'=w:=by
 go_enter Tryz.func71,Tryz.ntmps71
 go_wp2
 refine wp_loop_rounds 1 ?_;rw [rounds_succ]
 go_wp2_with (go_at_call 132;refine (inOrder_zero a cap _).mono ?_;rintro e w' ⟨rfl,rfl⟩)
 go_ret;exact ⟨rfl,rfl⟩
theorem stateS_sl (w:World)(h:SlE w a cap l) :
  Calls Tryz.prog 71 #[.slice a l.length cap] w fun e w'=>e=.returned (.bool (stB l))∧Below w.heap.size w w':=by
 rcases h.cells with rfl|⟨b,off,rfl,hb,h1,h2,h3⟩
 ·refine (stateS_zero a cap w).mono ?_
  rintro e w' ⟨rfl,rfl⟩;exact ⟨rfl,kB⟩
 exact stateS_any b off cap l w h h3
theorem at_zero (a:Option Addr)(cap:Nat)(e0:Ent)(w:World) :
  Calls Tryz.prog 93 #[.slice a 0 cap,entV e0] w fun e w'=>e=.returned (.int .i64 (-1))∧Below w.heap.size w w':=by
 go_enter Tryz.func93,Tryz.ntmps93
 go_wp2
 refine wp_loop_rounds 1 ?_;rw [rounds_succ];go_wp2
 go_ret;exact ⟨rfl,bA⟩
theorem at_any (b off cap:Nat)(l:List Ent)(e0:Ent)(w:World)(hn:l.length<=maxLen)(hb:b<w.heap.size)
  (h1:∀ i,i<l.length->w.cell? ⟨b,off+i * 3,none⟩=some (.string (eAt l i).ty)) (h2:∀ i,i<l.length->w.cell? ⟨b,off+i * 3+1,none⟩=some (.string (eAt l i).key)) (h3:∀ i,i<l.length->w.cell? ⟨b,off+i * 3+2,none⟩=some (.string (eAt l i).id)) :
  Calls Tryz.prog 93 #[.slice (some ⟨b,off,none⟩) l.length cap,entV e0] w fun e w'=>e=.returned (.int .i64 (posI l e0))∧Below w.heap.size w w':=by
 unfold maxLen at hn;have hb0:∀ o,Below w.heap.size w (w.alloc o):=fun o=>bA
 go_enter Tryz.func93,Tryz.ntmps93
 go_wp2
 go_loopw [5] (fun i wr=>∃ k:Nat,k<=l.length∧i=.int .i64 k∧Hid (∀ i,i<k->samB (eAt l i) e0=false)∧Below w.heap.size w wr∧(∀ o,wr.cell? ⟨w.heap.size,o,none⟩=(#[.string e0.ty,.string e0.key,.string e0.id]:Array Value)[o]?)∧w.heap.size<wr.heap.size) (fun i _=>l.length - (intOf i).toNat)
 case atStart=>exact ⟨0,nz,rfl,fun i hi=>absurd hi (Nat.not_lt_zero _),hb0 _,fun o=>kA rfl,by simp⟩
 case round =>
  obtain ⟨k,hk,rfl,hto,hbel,hbox,hsz⟩:=hrel
  by_cases hlt:k<l.length
  ·have a1:wr.cell? ⟨b,off+k * 3,none⟩=some (.string (eAt l k).ty):=(hbel.cell (by exact hb)).trans (h1 k hlt)
   have a2:wr.cell? ⟨b,off+k * 3+1,none⟩=some (.string (eAt l k).key):=(hbel.cell (by exact hb)).trans (h2 k hlt);have a3:wr.cell? ⟨b,off+k * 3+2,none⟩=some (.string (eAt l k).id):=(hbel.cell (by exact hb)).trans (h3 k hlt);cases hB:samB (eAt l k) e0
   ·go_wp2_with fail
    go_region_with (go_at_call 156;refine (same_any (eAt l k) e0 _).mono ?_;rintro e w1 ⟨rfl,hb1⟩)
    all_goals
     have hb2:Below wr.heap.size wr w1:=Below.trans (by first|exact kB|exact kB.drew|exact kB.drew.drew) hb1;go_wp2
     go_roundw
     case rel=>exact ⟨k+1,by omega,by go_num,fun i hi=>by (by_cases e:i=k;(subst e;exact hB);exact hto.out i (by omega)),hbel.trans (hb2.mono hbel.size),fun o=>(hb2.cell (by exact hsz)).trans (hbox o),nT hsz hb2.size⟩
     simp [intOf];omega
   go_wp2_with fail
   go_region_with (go_at_call 156;refine (same_any (eAt l k) e0 _).mono ?_;rintro e w1 ⟨rfl,hb1⟩)
   all_goals
    have hb2:Below wr.heap.size wr w1:=Below.trans (by first|exact kB|exact kB.drew|exact kB.drew.drew) hb1;go_wp2
    go_ret;exact ⟨ret_int (posI_hit l e0 k hlt hto.out hB).symm,hbel.trans (hb2.mono hbel.size)⟩
  go_wp2
  go_ret;exact ⟨ret_int (posI_miss l e0 (fun i hi=>hto.out i (by omega))).symm,hbel⟩
theorem at_sl (e0:Ent)(w:World)(h:SlE w a cap l) :
  Calls Tryz.prog 93 #[.slice a l.length cap,entV e0] w fun e w'=>e=.returned (.int .i64 (posI l e0))∧Below w.heap.size w w':=by
 rcases h.cells with rfl|⟨b,off,rfl,hb,h1,h2,h3⟩
 ·exact at_zero a cap e0 w
 exact at_any b off cap l e0 w (nZ h.le h.max) hb h1 h2 h3
theorem blwG {w w':World}(h:Below w.heap.size w w')(row:Option Nat):w.grownBy w' row:=⟨h.os,h.tape,h.output,h.size,fun i hi _=>h.block i hi⟩
def nxB (bs:Nat->Nat)(m q:Nat):Nat:=if q<m then bs q else 0
def nxQ (m q:Nat):Nat:=if q<m then q+1 else q
def BytesF (w:World)(p:Nat)(a:Option Addr)(m:Nat)(bs:Nat->Nat):Prop :=
 m=0∨∃ b off,a=some ⟨b,off,none⟩∧b<p∧∀ i,i<m->w.cell? ⟨b,off+i,none⟩=some (.int .u8 (bs i:Int))
structure RdF (w:World)(p:Nat)(bs:Nat->Nat)(m q:Nat):Prop where
 lt:p<w.heap.size
 m1:m<=1000
 q1:q<=2000
 b1:∀ i,i<m->bs i<256
 cells:∃ a cap,w.cell? ⟨p,0,none⟩=some (.slice a m cap)∧w.cell? ⟨p,1,none⟩=some (.int .i64 ((q:Nat):Int))∧BytesF w p a m bs
 frz:w.frozen? ⟨p,1,none⟩=false
theorem RdF.nx {w:World}{p:Nat}{bs:Nat->Nat}{m q:Nat}(h:RdF w p bs m q):nxB bs m q<256:=by
 unfold nxB;split
 ·rename_i hq;exact h.b1 q hq
 decide
theorem RdF.below {w w':World}{p:Nat}{bs:Nat->Nat}{m q:Nat}(h:RdF w p bs m q)(hb:Below w.heap.size w w'):RdF w' p bs m q:=by
 obtain ⟨hlt,h1,h2,h3,⟨a,cap,c0,c1,hB⟩,hf⟩:=h;refine ⟨nT hlt hb.size,h1,h2,h3,⟨a,cap,(hb.cell (by exact hlt)).trans c0,(hb.cell (by exact hlt)).trans c1,?_⟩,(hb.frozen (by exact hlt)).trans hf⟩;exact hB.imp id fun ⟨b,off,e,hne,hx⟩=>⟨b,off,e,hne,fun i hi=>(hb.cell (by exact Nat.lt_trans hne hlt)).trans (hx i hi)⟩
theorem RdF.grown {w w':World}{p:Nat}{bs:Nat->Nat}{m q:Nat}{row:Option Nat}(h:RdF w p bs m q)(hg:w.grownBy w' row)(hr:∀ b,row=some b->p<b):RdF w' p bs m q:=by
 obtain ⟨hlt,h1,h2,h3,⟨a,cap,c0,c1,hB⟩,hf⟩:=h;have hk:∀ b,b<=p->w'.heap[b]?=w.heap[b]?:=fun b hb=>hg.block b (by omega) (fun e=>by have:=hr b e.symm;omega)
 have hc:∀ b o,b<=p->w'.cell? ⟨b,o,none⟩=w.cell? ⟨b,o,none⟩:=fun b o hb=>World.cell?_of_block (a:=⟨b,o,none⟩) (hk b hb)
 have hz:w'.frozen? ⟨p,1,none⟩=w.frozen? ⟨p,1,none⟩:=hg.frozen_far ⟨p,1,none⟩ hlt (fun e=>by have:=hr p e.symm;omega);refine ⟨nT hlt hg.size,h1,h2,h3,⟨a,cap,(hc p 0 nL).trans c0,(hc p 1 nL).trans c1,?_⟩,hz.trans hf⟩;exact hB.imp id fun ⟨b,off,e,hne,hx⟩=>⟨b,off,e,hne,fun i hi=>(hc b _ (by omega)).trans (hx i hi)⟩
def DwF (p:Nat)(w w':World)(bs:Nat->Nat)(m q:Nat):Prop:=RdF w' p bs m q∧w.grownBy w' (some p)
section
variable {p:Nat} {w w1 w2:World} {bs:Nat->Nat} {m q q':Nat}
theorem DwF.below (h:DwF p w w1 bs m q)(hb:Below w1.heap.size w1 w2):DwF p w w2 bs m q:=⟨h.1.below hb,h.2.andThen (blwG hb none) (fun j hj=>by cases hj)⟩
theorem DwF.trans (h:DwF p w w1 bs m q)(h':DwF p w1 w2 bs m q'):DwF p w w2 bs m q':=⟨h'.1,h.2.andThen h'.2 (fun _ hj=>Or.inr hj)⟩
theorem DwF.refl (h:RdF w p bs m q):DwF p w w bs m q:=⟨h,World.grownBy.refl _ _⟩
theorem DwF.size (h:DwF p w w1 bs m q):w.heap.size<=w1.heap.size:=h.2.size
theorem DwF.grow {row:Option Nat}(h:DwF p w w1 bs m q)(hg:w1.grownBy w2 row)(hr:∀ b,row=some b->w.heap.size<=b)(hp:p<w.heap.size):DwF p w w2 bs m q :=
 ⟨h.1.grown hg (fun b hb=>nT hp (hr b hb)),h.2.andThen hg (fun j hj=>Or.inl (hr j hj))⟩
theorem DwF.own (h:DwF p w w1 bs m q){b:Nat}(hb:w.heap.size<=b)(hp:p<w.heap.size)(j:Nat)(x:Value):DwF p w (w1.setCell ⟨b,j,none⟩ x) bs m q :=
 h.grow (Lib.grownBy_setCell w1 b j x) (fun q hq=>by injection hq with hq;omega) hp
theorem DwF.of_below (hw:RdF w p bs m q)(hb:Below w.heap.size w w1)(h:DwF p w1 w2 bs m q'):DwF p w w2 bs m q':=(DwF.refl hw).below hb |>.trans h
end
def NxF (p:Nat)(w:World)(bs:Nat->Nat)(m q:Nat)(e:Ending)(w':World):Prop:=e=.returned (.int .i64 ((nxB bs m q:Nat):Int))∧DwF p w w' bs m (nxQ m q)
theorem nextF (p:Nat){bs:Nat->Nat}{m q:Nat}(w:World)(h:RdF w p bs m q):Calls Tryz.prog 56 #[.pointer (some ⟨p,0,none⟩)] w (NxF p w bs m q):=by
 have HR:Hid (RdF w p bs m q):=h;obtain ⟨hlt,hm1,hq1,hb1,⟨a,cap,c0,c1,hB⟩,hf⟩:=h
 by_cases hqm:q<m
 ·rcases hB with h0|⟨b,off,rfl,hne,hx⟩
  ·omega
  have hcx:=hx q hqm;have hx2:=hb1 q hqm
  have Hfin:Hid (∀ W,Below w.heap.size w W->DwF p w (W.setCell ⟨p,1,none⟩ (.int .i64 ((q:Int)+1))) bs m (q+1)):=fun W hW=>by
   refine ⟨⟨by have:=nT hlt hW.size;simpa [World.setCell] using this,hm1,by omega,hb1,⟨some ⟨b,off,none⟩,cap,by rw [set_far (by omega)];exact (hW.cell (by exact hlt)).trans c0,set_same ⟨_,(hW.cell (by exact hlt)).trans c1⟩,Or.inr ⟨b,off,rfl,hne,fun i hi=>?_⟩⟩,by rw [World.frozen?_setCell];exact (hW.frozen (by exact hlt)).trans hf⟩,(blwG hW (some p)).andThen (Lib.grownBy_setCell W p 1 _) (fun j hj=>Or.inr hj)⟩;rw [far_block (by omega)];exact (hW.cell (by exact Nat.lt_trans hne hlt)).trans (hx i hi)
  have HX:Hid (nxB bs m q=bs q∧nxQ m q=q+1):=⟨if_pos hqm,if_pos hqm⟩;clear hx hb1;unfold NxF;rw [HX.out.1,HX.out.2];generalize bs q=x at *
  go_enter Tryz.func56,Tryz.ntmps56
  go_wp2
  go_region
  go_wp2
  go_region
  go_wp2
  go_ret;exact ⟨rfl,(Hfin.out w kB).below (by first|exact kB.drew|exact kB.drew.drew)⟩
 have HX:Hid (nxB bs m q=0∧nxQ m q=q):=⟨if_neg hqm,if_neg hqm⟩;unfold NxF;rw [HX.out.1,HX.out.2]
 go_enter Tryz.func56,Tryz.ntmps56
 go_wp2
 go_region
 go_wp2
 go_ret;exact ⟨rfl,(DwF.refl HR.out).below kB.drew⟩
theorem leftF (p:Nat){bs:Nat->Nat}{m q:Nat}(w:World)(h:RdF w p bs m q):Calls Tryz.prog 120 #[.pointer (some ⟨p,0,none⟩)] w (fun e w'=>e=.returned (.int .i64 ((m:Int) - (q:Int)))∧Below w.heap.size w w'):=by
 obtain ⟨hlt,hm1,hq1,hb1,⟨a,cap,c0,c1,hB⟩,hf⟩:=h
 go_enter Tryz.func120,Tryz.ntmps120
 go_wp2
 first
  | (go_ret;exact ⟨rfl,kB⟩)
  | (go_region;go_wp2;go_ret;exact ⟨rfl,by first|exact kB|exact kB.drew⟩)
def BytesV (w:World)(a:Option Addr)(n:Nat)(bs:Nat->Nat):Prop :=
 n=0∨∃ b off,a=some ⟨b,off,none⟩∧b<w.heap.size∧∀ i,i<n->w.cell? ⟨b,off+i,none⟩=some (.int .u8 (bs i:Int))
def rdN (n:Nat):Nat:=if 1000<n then 1000 else n
def OpF (w:World)(bs:Nat->Nat)(n:Nat)(e:Ending)(w':World):Prop:=∃ p,e=.returned (.pointer (some ⟨p,0,none⟩))∧RdF w' p bs (rdN n) 0∧w.heap.size<=p∧Below w.heap.size w w'
theorem bytesF_new {w:World}{a:Option Addr}{n m cap:Nat}{bs:Nat->Nat}{t:TypeId}(h:BytesV w a n bs)(hb:∀ i,i<n->bs i<256)(hm:m<=1000)(hn:m<=n):RdF (w.alloc (.cells #[.slice a m cap,.int .i64 0] t)) w.heap.size bs m 0:=by
 refine ⟨by simp,hm,nz,fun i hi=>hb i (by omega),⟨a,cap,kA rfl,kA rfl,?_⟩,kF rfl⟩;have hb:Below w.heap.size w (w.alloc (.cells #[.slice a m cap,.int .i64 0] t)):=bA;rcases h with h0|⟨b,off,e,hbl,hx⟩
 ·exact Or.inl (by omega)
 exact Or.inr ⟨b,off,e,hbl,fun i hi=>(hb.cell (by exact hbl)).trans (hx i (by omega))⟩
theorem openF {a:Option Addr}{n cap:Nat}{bs:Nat->Nat}(w:World)(hle:n<=cap)(hmax:cap<=maxLen)(h:BytesV w a n bs)(hb1:∀ i,i<n->bs i<256):Calls Tryz.prog 26 #[.slice a n cap] w (OpF w bs n):=by
 have hb:∀ o,Below w.heap.size w (w.alloc o):=fun o=>bA
 unfold maxLen at hmax
 by_cases hn:1000<n
 ·have Hn:Hid (RdF (w.alloc (.cells #[.slice a 1000 cap,.int .i64 0] 112)) w.heap.size bs (rdN n) 0):=by unfold Hid rdN;rw [if_pos hn];exact bytesF_new h hb1 nL (by omega)
  clear h hb1
  go_enter Tryz.func26,Tryz.ntmps26
  go_wp2
  go_ret;exact ⟨_,rfl,Hn.out,nL,hb _⟩
 have Hn:Hid (RdF (w.alloc (.cells #[.slice a n cap,.int .i64 0] 112)) w.heap.size bs (rdN n) 0):=by unfold Hid rdN;rw [if_neg hn];exact bytesF_new h hb1 (by omega) nL
 clear h hb1
 go_enter Tryz.func26,Tryz.ntmps26
 go_wp2
 go_ret;exact ⟨_,rfl,Hn.out,nL,hb _⟩
variable {M S:Nat->ByteArray}
structure SlS (w:World)(a:Option Addr)(n cap:Nat)(S:Nat->ByteArray):Prop where
 le:n<=cap
 max:cap<=maxLen
 size:∀ i,i<n->(S i).size<=maxLen
 cells:n=0∨∃ b off,a=some ⟨b,off,none⟩∧b<w.heap.size∧∀ i,i<n->w.cell? ⟨b,off+i,none⟩=some (.string (S i))
theorem SlS.below (h:SlS w a n cap S)(hb:Below w.heap.size w w'):SlS w' a n cap S :=
 ⟨h.le,h.max,h.size,h.cells.imp id fun ⟨b,off,e,hlt,hc⟩=>⟨b,off,e,nT hlt hb.size,fun i hi=>(hb.cell (by exact hlt)).trans (hc i hi)⟩⟩
structure SlG (w:World)(a:Option Addr)(n cap:Nat)(M:Nat->ByteArray)(L:Nat->Int):Prop where
 le:n<=cap
 max:cap<=maxLen
 size:∀ i,i<n->(M i).size<=maxLen
 cells:n=0∨∃ b off,a=some ⟨b,off,none⟩∧b<w.heap.size∧(∀ i,i<n->w.cell? ⟨b,off+i * 2,none⟩=some (.string (M i)))∧∀ i,i<n->w.cell? ⟨b,off+i * 2+1,none⟩=some (.int .i64 (L i))
theorem SlG.below {L:Nat->Int}(h:SlG w a n cap M L)(hb:Below w.heap.size w w'):SlG w' a n cap M L :=
 ⟨h.le,h.max,h.size,h.cells.imp id fun ⟨b,off,e,hlt,hc,hl⟩=>⟨b,off,e,nT hlt hb.size,fun i hi=>(hb.cell (by exact hlt)).trans (hc i hi),fun i hi=>(hb.cell (by exact hlt)).trans (hl i hi)⟩⟩
abbrev evV (id sd ty key val:ByteArray)(st:Bool)(tm:Int)(pa:Option Addr)(np cp:Nat)(aa:Option Addr)(na ca:Nat)(ga:Option Addr)(ng cg:Nat):Value :=
 .agg #[.string id,.string sd,.string ty,.bool st,.string key,.int .i64 tm,.slice pa np cp,.slice aa na ca,.string val,.slice ga ng cg]
def wbB (c:Int):Bool :=
 (decide (97<=c) && decide (c<=122)) || (decide (65<=c) && decide (c<=90)) || (decide (48<=c) && decide (c<=57)) ||
  (c == 95) || (c == 46) || (c == 64) || (c == 36) || (c == 47) || (c == 43)
def bts (s:ByteArray):List Int:=s.data.toList.map fun c=>(c.toNat:Int)
theorem bts_len (s:ByteArray):(bts s).length=s.size:=by rw [bts,List.length_map];rfl
def isW (s:ByteArray):Bool:=(bts s).all wbB && decide (1<=s.size) && decide (s.size<=40)
theorem bts_get (s:ByteArray)(k:Nat)(h:k<s.size):(bts s)[k]'(by rw [bts_len];exact h)=(s[k].toNat:Int):=by
 simp [bts];rfl
theorem all_take_succ (s:ByteArray)(k:Nat)(h:k<s.size):((bts s).take (k+1)).all wbB=(((bts s).take k).all wbB && wbB (s[k].toNat:Int)):=by
 have h':k<(bts s).length:=by rw [bts_len];exact h
 rw [List.take_succ_eq_append_getElem h',List.all_append,bts_get s k h];simp
theorem isW_of_take (s:ByteArray)(k:Nat)(h:k<s.size)(hw:wbB (s[k].toNat:Int)=false):isW s=false:=by
 have h':k<(bts s).length:=by rw [bts_len];exact h
 have:(bts s).all wbB=false:=by
  rw [List.all_eq_false];exact ⟨(bts s)[k],List.getElem_mem h',by rw [bts_get s k h,hw];simp⟩
 simp [isW,this]
theorem isW_of_all (s:ByteArray)(h:(bts s).all wbB=true):isW s=(decide (1<=s.size) && decide (s.size<=40)):=by
 simp [isW,h]
def hasB (S:Nat->ByteArray):Nat->ByteArray->Bool
 | 0,_=>false
 | n+1,s=>hasB S n s || (S n).toList == s.toList
theorem hasB_of (S:Nat->ByteArray)(s:ByteArray):∀ n k,k<n->((S k).toList == s.toList)=true->hasB S n s=true
 | 0,_,h,_=>absurd h (Nat.not_lt_zero _)
 | n+1,k,h,e=>by
  by_cases hk:k=n
  ·subst hk;simp [hasB,e]
  simp [hasB,hasB_of S s n k (by omega) e]
def cntW (S:Nat->ByteArray):Nat->Nat
 | 0=>0
 | n+1=>cntW S n+if isW (S n) then 1 else 0
theorem cntW_le (S:Nat->ByteArray):∀ n,cntW S n<=n
 | 0=>nL
 | n+1=>by have:=cntW_le S n;unfold cntW;split <;> omega
def allW (S:Nat->ByteArray):Nat->Bool
 | 0=>true
 | n+1=>allW S n && isW (S n)
theorem cntW_all (S:Nat->ByteArray):∀ n,(((cntW S n:Nat):Int) == (n:Int))=allW S n
 | 0=>rfl
 | n+1=>by
  have ih:=cntW_all S n;have hle:=cntW_le S n;unfold cntW allW;rw [<- ih];cases h:isW (S n)
  ·simp only [Bool.and_false,Bool.false_eq_true,if_false];rw [beq_eq_false_iff_ne];omega
  simp only [Bool.and_true,if_true];rw [Bool.eq_iff_iff];simp
def refsTo (S:Nat->ByteArray)(id:ByteArray):Nat->Bool
 | 0=>true
 | n+1=>refsTo S id n && (isW (S n) && (!((S n).toList == id.toList) && !hasB S n (S n)))
def refs2To (S:Nat->ByteArray)(id:ByteArray):Nat->Bool
 | 0=>true
 | n+1=>refs2To S id n && (!((S n).toList == id.toList) && !hasB S n (S n))
theorem refsTo_eq (S:Nat->ByteArray)(id:ByteArray):∀ n,refsTo S id n=(allW S n && refs2To S id n)
 | 0=>rfl
 | n+1=>by
  unfold refsTo allW refs2To;rw [refsTo_eq S id n];cases allW S n <;> cases refs2To S id n <;> cases isW (S n) <;> rfl
theorem refsTo_le (S:Nat->ByteArray)(id:ByteArray):∀ n k,k<n->refsTo S id (k+1)=false->refsTo S id n=false
 | 0,_,h,_=>absurd h (Nat.not_lt_zero _)
 | n+1,k,h,e=>by
  by_cases hk:k=n
  ·subst hk;exact e
  unfold refsTo;rw [refsTo_le S id n k (by omega) e];rfl
theorem refs2To_le (S:Nat->ByteArray)(id:ByteArray):∀ n k,k<n->refs2To S id (k+1)=false->refs2To S id n=false
 | 0,_,h,_=>absurd h (Nat.not_lt_zero _)
 | n+1,k,h,e=>by
  by_cases hk:k=n
  ·subst hk;exact e
  unfold refs2To;rw [refs2To_le S id n k (by omega) e];rfl
def refsB (S:Nat->ByteArray)(n:Nat)(id:ByteArray):Bool:=decide (n<=10) && refsTo S id n
end Go.Proofs.YtkdalopokdhndaaGreat
