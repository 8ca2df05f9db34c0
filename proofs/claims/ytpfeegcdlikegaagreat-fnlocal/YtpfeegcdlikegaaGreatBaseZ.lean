import Derived.WalkKit
import Derived.WalkSpells
import Derived.WalkLawsBesides
import Derived.Deep.Draws
import Derived.Deep.LoopGhost
import Derived.Deep.QuietTactic
import Derived.BigQuiet
import Derived.Deep.RegionWith
import Derived.OrdersHeld
import Derived.Deep.RegionHeld
import Derived.OwnWalk
import Derived.Test.YtpfeegcdlikegaaGreatProg
import Derived.Maps.RangeWalk
import Derived.Deep.AppendLies
import Derived.Lib.BufferWrite
import Derived.Below
import Derived.Lib.Join
import Derived.Lib.ItoaNum
set_option maxHeartbeats 16000000
set_option maxRecDepth 100000
namespace Go.Proofs.YtpfeegcdlikegaaGreat
open Go.RowKit Go.Proofs.Tryz
def He (p:Prop):Prop:=p
theorem He.o {p:Prop}(h:He p):p:=h
variable {B i k m n:Nat}{w w' w1 wr:World}{ops:Array Oper}{v:Value}{cs:Array Value}
theorem nL :n<=n:=Nat.le.refl
theorem kB :Below B w w:=Below.refl B w
theorem si:(∀ (α:Type) (xs:List α) (i:Nat) (h:i<xs.toArray.size),xs.toArray[i]=xs[i]'(by simpa using h))/\(∀ (α:Type) (a:α) (l:List α) (h:0<(a :: l).length),(a :: l)[0]=a)/\(∀ (α:Type) (a:α) (l:List α) (i:Nat) (h:i+1<(a :: l).length),(a :: l)[i+1]=l[i]'(Nat.lt_of_succ_lt_succ h))/\(∀ (α:Type) (l:List α) (i:Nat) (a:α),l.toArray.setIfInBounds i a=(l.set i a).toArray)/\(∀ (α:Type) (x:α) (xs:List α) (a:α),(x :: xs).set 0 a=a :: xs)/\(∀ (α:Type) (x:α) (xs:List α) (i:Nat) (a:α),(x :: xs).set (i+1) a=x :: xs.set i a)/\(∀ (t:Array Value) (d:List Deferred) (n:Nat) (v:Value),(Act.mk t d).put (some n) v=Act.mk (t.setIfInBounds n v) d)/\(∀ (a:Act) (v:Value),a.put none v=a) :=
 ⟨fun _ _ _ h=>List.getElem_toArray h,fun _ a l h=>List.getElem_cons_zero a l h,fun _ a l i h=>List.getElem_cons_succ a l i h,fun _ l i a=>List.setIfInBounds_toArray l i a,fun _ _ _ _=>List.set_cons_zero,fun _ _ _ _ _=>List.set_cons_succ,fun _ _ _ _=>rfl,fun _ _=>rfl⟩
theorem tk {P:Program}{Q:Exit->Act->World->Prop}{G:Region.Mode}{S:World->Prop}{u:Oper}{fuel:Nat}{listed:Array Bool}{a:Act}(i:Nat)(v:Value)(hi:ops[i]?=some u)(I:YieldsIf P ops S u v a)(h:wpAnyH P G ops Q S fuel (listed.setIfInBounds i true) (a.put u.dst v) w)
  (H:Region.noSelect ops=true:=by kernel_rfl) (J:Region.free G ops listed i=true:=by kernel_rfl) (hr:(Region.ready G ops listed).contains i=true:=by kernel_rfl) (O:∀ (c:List PanicEntry) (a:Act) (w:World),Q (Exit.panic c) (a.put u.dst v) w->Q (Exit.panic c) a w:=by exact fun _ _ _ h=>h) (N:S w:=by assumption):wpAnyH P G ops Q S (fuel+1) listed a w :=
 wpAnyH_take hi H J hr O I N h
theorem tq {P:Program}{Q:Exit->Act->World->Prop}{G:Region.Mode}{S:World->Prop}{u:Oper}{fuel:Nat}{listed:Array Bool}{a:Act}(i:Nat)(hi:ops[i]?=some u)(h:wpAnyH P G ops Q S fuel (listed.setIfInBounds i true) (a.put u.dst v) w)(I:YieldsIf P ops S u v a:=by refine Or.inl ⟨by rfl,?_⟩;intro w h;(try dsimp only at h);go_simp;try (with_reducible rfl))
  (H:Region.noSelect ops=true:=by kernel_rfl) (J:Region.free G ops listed i=true:=by kernel_rfl) (hr:(Region.ready G ops listed).contains i=true:=by kernel_rfl) (O:∀ (c:List PanicEntry) (a:Act) (w:World),Q (Exit.panic c) (a.put u.dst v) w->Q (Exit.panic c) a w:=by exact fun _ _ _ h=>h) (N:S w:=by assumption):wpAnyH P G ops Q S (fuel+1) listed a w :=
 wpAnyH_take hi H J hr O I N h
theorem bA {o:Obj}:Below w.heap.size w (w.alloc o):=Below.alloc kB nL _
theorem nT (a:n<m)(b:m<=k):n<k:=by omega
theorem nZ (a:n<=m)(b:m<=k):n<=k:=by omega
theorem nz :0<=n:=Nat.zero_le n
theorem kA {c:Array Value}{t:TypeId}(h:n=w.heap.size):(w.alloc (.cells c t)).cell? ⟨n,i,none⟩=c[i]?:=World.cell?_alloc_at c t n i h
theorem kF {c:Array Value}{t:TypeId}(h:n=w.heap.size):(w.alloc (.cells c t)).frozen? ⟨n,i,none⟩=false:=World.frozen?_alloc_at c t n i h
theorem rd {P:Program}{Q:Exit->Act->World->Prop}{G:Region.Mode}{S:World->Prop}{o:Oper}{fuel:Nat}{listed:Array Bool}{a:Act}(i:Nat)(hi:ops[i]?=some o)(h:∀ (u:Act->World->Prop),Shut (∀ (a:Act) (w:World),S w->(S w->wpAnyH P G ops Q S fuel (listed.setIfInBounds i true) a w)->u a w)->if Region.wanted o (yielded ops a.tmps)=true then Oper.wp P o a w u Q else u (a.put o.dst undef) w)(hr:Region.ready G ops listed=[i]:=by kernel_rfl):wpAnyH P G ops Q S (fuel+1) listed a w :=
 wpAnyH_ready hr (by simp) (AllReadyH.cons hi h AllReadyH.nil)
theorem aC {a b:Bool}(h:a=b):Ending.returned (.bool a)=.returned (.bool b):=by rw [h]
theorem aA {k:IntKind}{a b:Int}(h:a=b):Ending.returned (.int k a)=.returned (.int k b):=by rw [h]
theorem kI {a b:ByteArray}(h:a=b):Ending.returned (.string a)=.returned (.string b):=by rw [h]
def Dr (w w':World):Prop:=∃ q,w'=w.drewN q
theorem Dr.refl (w:World):Dr w w:=⟨0,rfl⟩
theorem Dr.drewN (h:Dr w w')(n:Nat):Dr w (w'.drewN n):=by
 obtain ⟨q,rfl⟩:=h;exact ⟨q+n,by rw [World.drewN_drewN]⟩
theorem Dr.cell (h:Dr w w')(a:Addr):w'.cell? a=w.cell? a:=by obtain ⟨q,rfl⟩:=h;rfl
theorem Dr.below (h:Dr w w')(B:Nat):Below B w w':=by obtain ⟨q,rfl⟩:=h;exact ⟨rfl,rfl,rfl,nL,fun _ _=>rfl⟩
theorem gX (a b:List UInt8):(a == b)=(b == a):=by
 rw [Bool.eq_iff_iff,beq_iff_eq,beq_iff_eq];exact eq_comm
theorem qO (s:ByteArray)(h:s.toList=[]):s.size=0:=by
 rw [ByteArray.toList_eq] at h
 show s.data.size=0
 rw [<- Array.length_toList,h];rfl
theorem oE (s:ByteArray)(u:s.toList.isEmpty=false):s.size≠0:=fun G=>by
 have:s.toList=[]:=by rw [ByteArray.toList_eq];exact List.eq_nil_of_length_eq_zero (by rw [Array.length_toList];exact G)
 rw [this] at u;simp at u
theorem aK {t:TypeId}(hb:Below (w.heap.size+1) (w.alloc (.cells cs t)) w1)(o:Nat):w1.cell? ⟨w.heap.size,o,none⟩=cs[o]? :=
 (hb.cell (by exact Nat.lt_succ_self _)).trans (kA rfl)
theorem gK {o u:Obj}(hb:Below ((w.alloc o).alloc u).heap.size ((w.alloc o).alloc u) w1):Below (w.heap.size+1) (w.alloc o) w1 :=
 (kB.alloc (by simp) _).trans (hb.mono (by simp))
theorem aZ {x:Value}(u:∃ v,wr.cell? ⟨B,k,none⟩=some v):(wr.setCell ⟨B,k,none⟩ x).cell? ⟨B,k,none⟩=some x:=by
 obtain ⟨v,u⟩:=u;exact World.cell?_setCell_same _ _ _ u
theorem aB {x:Value}(h:i≠k):(wr.setCell ⟨B,k,none⟩ x).cell? ⟨B,i,none⟩=wr.cell? ⟨B,i,none⟩ :=
 World.cell?_setCell_other _ _ _ _ (fun e=>h (by injection e with _ u;exact u.symm))
theorem fJ {C:Nat}{x:Value}(h:B≠C):(wr.setCell ⟨B,k,none⟩ x).cell? ⟨C,i,none⟩=wr.cell? ⟨C,i,none⟩ :=
 World.cell?_setCell_other _ _ _ _ (fun e=>h (by injection e))
def Wr0 (w:World)(lo:Nat)(a:Option Addr)(n:Nat):Prop :=
 n=0\/∃ b off,a=some ⟨b,off,none⟩/\lo<=b/\b<w.heap.size/\∀ i,i<n->(∃ v,w.cell? ⟨b,off+i,none⟩=some v)/\w.frozen? ⟨b,off+i,none⟩=false
variable {a:Option Addr}{cap:Nat}
structure aE where
 ty:ByteArray
 key:ByteArray
 id:ByteArray
variable {l:List aE}
def aE.none:aE:=⟨ByteArray.empty,ByteArray.empty,ByteArray.empty⟩
def aI (l:List aE)(i:Nat):aE:=l.getD i aE.none
theorem bP (l:List aE)(i:Nat)(h:i<l.length):aI l i=l[i]:=by simp [aI,List.getD,h]
theorem fW (l:List aE)(i:Nat)(h:i<l.length):aI l i ∈ l:=by rw [bP l i h];exact List.getElem_mem h
def cO (a b:aE):Bool:=if a.ty.toList == b.ty.toList then Op.bytesLess a.key.toList b.key.toList else Op.bytesLess a.ty.toList b.ty.toList
def dB (a b:aE):Bool:=a.ty.toList == b.ty.toList && a.key.toList == b.key.toList
def jC (l:List aE):Nat->Bool
 | 0=>true
 | n+1=>jC l n && (n == 0 || cO (aI l (n - 1)) (aI l n))
theorem sF (l:List aE):∀ n k,k<n->jC l (k+1)=false->jC l n=false
 | 0,_,h,_=>absurd h (Nat.not_lt_zero _)
 | n+1,k,h,e=>by
  by_cases u:k=n
  ·subst u;exact e
  unfold jC;rw [sF l n k (by omega) e];rfl
def oZ (l:List aE):Bool:=jC l l.length
def dS (l:List aE):Nat->Bool
 | 0=>true
 | n+1=>dS l n && !(aI l n).id.toList.isEmpty
theorem sE (l:List aE):∀ n k,k<n->dS l (k+1)=false->dS l n=false
 | 0,_,h,_=>absurd h (Nat.not_lt_zero _)
 | n+1,k,h,e=>by
  by_cases u:k=n
  ·subst u;exact e
  unfold dS;rw [sE l n k (by omega) e];rfl
def qV (l:List aE):Bool:=dS l l.length && (decide (l.length<=300) && oZ l)
def jI (l:List aE)(e:aE):Int:=if l.findIdx (fun x=>dB x e)<l.length then ((l.findIdx (fun x=>dB x e):Nat):Int) else -1
theorem OX (l:List aE)(e:aE)(k:Nat)(u:k<l.length)(G:∀ i,i<k->dB (aI l i) e=false)(H:dB (aI l k) e=true):jI l e=(k:Int):=by
 have:l.findIdx (fun x=>dB x e)=k:=by
  rw [List.findIdx_eq u];refine ⟨by rw [<- bP l k u];exact H,fun j I=>?_⟩;rw [<- bP l j (by omega)];simp [G j I]
 rw [jI,this,if_pos u]
theorem KW (l:List aE)(e:aE)(u:∀ i,i<l.length->dB (aI l i) e=false):jI l e=-1:=by
 rw [jI,if_neg];intro h
 have:=List.findIdx_getElem (w:=h);rw [<- bP l _ h,u _ h] at this;cases this
structure dF (w:World)(a:Option Addr)(cap:Nat)(l:List aE):Prop where
 le:l.length<=cap
 max:cap<=maxLen
 size:∀ i,i<l.length->(aI l i).ty.size<=maxLen/\(aI l i).key.size<=maxLen/\(aI l i).id.size<=maxLen
 cells:l=[]\/∃ b off,a=some ⟨b,off,none⟩/\b<w.heap.size /\
  (∀ i,i<l.length->w.cell? ⟨b,off+i * 3,none⟩=some (.string (aI l i).ty))/\(∀ i,i<l.length->w.cell? ⟨b,off+i * 3+1,none⟩=some (.string (aI l i).key))/\(∀ i,i<l.length->w.cell? ⟨b,off+i * 3+2,none⟩=some (.string (aI l i).id))
theorem dF.below (h:dF w a cap l)(hb:Below w.heap.size w w'):dF w' a cap l:=by
 refine ⟨h.le,h.max,h.size,?_⟩;rcases h.cells with H|⟨b,off,e,u,I,J,G⟩
 ·exact Or.inl H
 exact Or.inr ⟨b,off,e,nT u hb.size,fun i hi=>(hb.cell (by exact u)).trans (I i hi),fun i hi=>(hb.cell (by exact u)).trans (J i hi),fun i hi=>(hb.cell (by exact u)).trans (G i hi)⟩
abbrev eS (e:aE):Value:=.agg #[.string e.ty,.string e.key,.string e.id]
theorem kN (a b:aE)(w:World) :
  Calls prog 66 #[eS a,eS b] w fun e w'=>e=.returned (.bool (cO a b))/\Below w.heap.size w w':=by
 cases h:(a.ty.toList == b.ty.toList)
 all_goals
  go_enter func66,ntmps66
  go_wp2
  go_ret;exact ⟨aC (by simp [cO,h]),bA.alloc (by simp) _⟩
theorem AP (a b:aE)(w:World) :
  Calls prog 113 #[eS a,eS b] w fun e w'=>e=.returned (.bool (dB a b))/\Below w.heap.size w w':=by
 cases h:(a.ty.toList == b.ty.toList)
 all_goals
  go_enter func113,ntmps113
  go_wp2
  go_ret;exact ⟨aC (by simp [dB,h]),bA.alloc (by simp) _⟩
theorem kE (a:Option Addr)(cap:Nat)(w:World) :
  Calls prog 89 #[.slice a 0 cap] w fun e w'=>e=.returned (.bool true)/\w'=w:=by
 go_enter func89,ntmps89
 go_wp2
 refine wp_loop_rounds 1 ?_;rw [rounds_succ];go_wp2
 go_ret;exact ⟨rfl,rfl⟩
theorem zB (b off cap:Nat)(l:List aE)(w:World)(I:0<l.length)(Z:l.length<=maxLen)(hb:b<w.heap.size)
  (O:∀ i,i<l.length->w.cell? ⟨b,off+i * 3,none⟩=some (.string (aI l i).ty)) (U:∀ i,i<l.length->w.cell? ⟨b,off+i * 3+1,none⟩=some (.string (aI l i).key)) (N:∀ i,i<l.length->w.cell? ⟨b,off+i * 3+2,none⟩=some (.string (aI l i).id)) :
  Calls prog 89 #[.slice (some ⟨b,off,none⟩) l.length cap] w fun e w'=>e=.returned (.bool (oZ l))/\Below w.heap.size w w':=by
 unfold maxLen at Z
 go_enter func89,ntmps89
 go_wp2
 go_loopw [3] (fun i wr=>∃ k:Nat,k+1<=l.length/\i=.int .i64 ((k:Int)+1)/\He (jC l (k+1)=true)/\Below w.heap.size w wr) (fun i _=>l.length - (intOf i).toNat)
 case atStart=>exact ⟨0,I,rfl,rfl,kB⟩
 case round =>
  obtain ⟨k,hk,rfl,H,u⟩:=hrel
  by_cases J:k+1<l.length
  ·have a1:wr.cell? ⟨b,off+k * 3,none⟩=some (.string (aI l k).ty):=(u.cell (by exact hb)).trans (O k (by omega))
   have a2:wr.cell? ⟨b,off+k * 3+1,none⟩=some (.string (aI l k).key):=(u.cell (by exact hb)).trans (U k (by omega));have a3:wr.cell? ⟨b,off+k * 3+2,none⟩=some (.string (aI l k).id):=(u.cell (by exact hb)).trans (N k (by omega));have b1:wr.cell? ⟨b,off+(k+1) * 3,none⟩=some (.string (aI l (k+1)).ty):=(u.cell (by exact hb)).trans (O (k+1) (by omega));have b2:wr.cell? ⟨b,off+(k+1) * 3+1,none⟩=some (.string (aI l (k+1)).key):=(u.cell (by exact hb)).trans (U (k+1) (by omega));have b3:wr.cell? ⟨b,off+(k+1) * 3+2,none⟩=some (.string (aI l (k+1)).id):=(u.cell (by exact hb)).trans (N (k+1) (by omega));have Y:k<l.length:=by omega
   have ew:IntKind.i64.wrap (k:Int)=(k:Int):=by rw [IntKind.wrap_i64];omega
   cases hB:cO (aI l k) (aI l (k+1))
   ·go_wp2_with fail
    go_region_with (go_at_call 66;refine (kN (aI l k) (aI l (k+1)) _).mono ?_;rintro e w1 ⟨rfl,G⟩)
    all_goals
     go_wp2
     go_ret;exact ⟨aC (by rw [oZ,sF l l.length (k+1) J (by rw [jC,show k+1 - 1=k from rfl,hB];simp)]),Below.trans (by first|exact u|exact u.drew|exact u.drew.drew) (G.mono (by exact u.size))⟩
   go_wp2_with fail
   go_region_with (go_at_call 66;refine (kN (aI l k) (aI l (k+1)) _).mono ?_;rintro e w1 ⟨rfl,G⟩)
   all_goals
    go_wp2
    go_roundw
    case rel=>exact ⟨k+1,by omega,by go_num,by unfold He;rw [jC,H.o,show k+1 - 1=k from rfl,hB];simp,Below.trans (by first|exact u|exact u.drew|exact u.drew.drew) (G.mono (by exact u.size))⟩
    simp [intOf];omega
  go_wp2
  go_ret;exact ⟨aC (by rw [oZ,show l.length=k+1 by omega,H.o]),u⟩
theorem CF (w:World)(h:dF w a cap l) :
  Calls prog 89 #[.slice a l.length cap] w fun e w'=>e=.returned (.bool (oZ l))/\Below w.heap.size w w':=by
 rcases h.cells with rfl|⟨b,off,rfl,hb,G,I,H⟩
 ·refine (kE a cap w).mono ?_
  rintro e w' ⟨rfl,rfl⟩;exact ⟨rfl,kB⟩
 by_cases u:0<l.length
 ·exact zB b off cap l w u (nZ h.le h.max) hb G I H
 obtain rfl:l=[]:=List.eq_nil_of_length_eq_zero (by omega);refine (kE _ cap w).mono ?_;rintro e w' ⟨rfl,rfl⟩;exact ⟨rfl,kB⟩
theorem FE (b off cap:Nat)(l:List aE)(w:World)(h:dF w (some ⟨b,off,none⟩) cap l)
  (N:∀ i,i<l.length->w.cell? ⟨b,off+i * 3+2,none⟩=some (.string (aI l i).id)) :
  Calls prog 45 #[.slice (some ⟨b,off,none⟩) l.length cap] w fun e w'=>e=.returned (.bool (qV l))/\Below w.heap.size w w':=by
 have O:=nZ h.le h.max;unfold maxLen at O
 go_enter func45,ntmps45
 go_wp2
 go_loop [3] (fun i=>∃ k:Nat,k<=l.length/\i=.int .i64 k/\He (dS l k=true)) (fun i=>l.length - (intOf i).toNat)
 case atStart=>exact ⟨0,nz,rfl,rfl⟩
 case round =>
  obtain ⟨k,Y,rfl,H⟩:=hrel
  by_cases I:k<l.length
  ·have Z:=N k I
   cases he:(aI l k).id.toList.isEmpty
   ·go_wp2
    go_round
    case rel=>exact ⟨k+1,by omega,by go_num,by unfold He;rw [dS,H.o,he];rfl⟩
    simp [intOf];omega
   go_wp2
   go_ret;exact ⟨aC (by rw [qV,sE l l.length k I (by rw [dS,he];simp)];simp),kB⟩
  have G:dS l l.length=true:=by rw [show l.length=k by omega];exact H.o
  have U:He (dS l l.length=true):=G;clear G
  by_cases u:l.length<=300
  ·go_wp2_with (go_at_call 89;refine (CF _ h).mono ?_;rintro e w' ⟨rfl,J⟩)
   go_ret;exact ⟨aC (by rw [qV,U.o];simp [u]),J⟩
  go_wp2
  go_ret;exact ⟨aC (by rw [qV];simp [u]),kB⟩
theorem qS (a:Option Addr)(cap:Nat)(w:World) :
  Calls prog 45 #[.slice a 0 cap] w fun e w'=>e=.returned (.bool true)/\w'=w:=by
 go_enter func45,ntmps45
 go_wp2
 refine wp_loop_rounds 1 ?_;rw [rounds_succ]
 go_wp2_with (go_at_call 89;refine (kE a cap _).mono ?_;rintro e w' ⟨rfl,rfl⟩)
 go_ret;exact ⟨rfl,rfl⟩
theorem pN (w:World)(h:dF w a cap l) :
  Calls prog 45 #[.slice a l.length cap] w fun e w'=>e=.returned (.bool (qV l))/\Below w.heap.size w w':=by
 rcases h.cells with rfl|⟨b,off,rfl,hb,G,H,u⟩
 ·refine (qS a cap w).mono ?_
  rintro e w' ⟨rfl,rfl⟩;exact ⟨rfl,kB⟩
 exact FE b off cap l w h u
theorem SE (a:Option Addr)(cap:Nat)(e0:aE)(w:World) :
  Calls prog 67 #[.slice a 0 cap,eS e0] w fun e w'=>e=.returned (.int .i64 (-1))/\Below w.heap.size w w':=by
 go_enter func67,ntmps67
 go_wp2
 refine wp_loop_rounds 1 ?_;rw [rounds_succ];go_wp2
 go_ret;exact ⟨rfl,bA⟩
theorem WS (b off cap:Nat)(l:List aE)(e0:aE)(w:World)(hn:l.length<=maxLen)(hb:b<w.heap.size)
  (Z:∀ i,i<l.length->w.cell? ⟨b,off+i * 3,none⟩=some (.string (aI l i).ty)) (h2:∀ i,i<l.length->w.cell? ⟨b,off+i * 3+1,none⟩=some (.string (aI l i).key)) (Y:∀ i,i<l.length->w.cell? ⟨b,off+i * 3+2,none⟩=some (.string (aI l i).id)) :
  Calls prog 67 #[.slice (some ⟨b,off,none⟩) l.length cap,eS e0] w fun e w'=>e=.returned (.int .i64 (jI l e0))/\Below w.heap.size w w':=by
 unfold maxLen at hn;have U:∀ o,Below w.heap.size w (w.alloc o):=fun o=>bA
 go_enter func67,ntmps67
 go_wp2
 go_loopw [5] (fun i wr=>∃ k:Nat,k<=l.length/\i=.int .i64 k/\He (∀ i,i<k->dB (aI l i) e0=false)/\Below w.heap.size w wr/\(∀ o,wr.cell? ⟨w.heap.size,o,none⟩=(#[.string e0.ty,.string e0.key,.string e0.id]:Array Value)[o]?)/\w.heap.size<wr.heap.size) (fun i _=>l.length - (intOf i).toNat)
 case atStart=>exact ⟨0,nz,rfl,fun i hi=>absurd hi (Nat.not_lt_zero _),U _,fun o=>kA rfl,by simp⟩
 case round =>
  obtain ⟨k,hk,rfl,I,u,O,N⟩:=hrel
  by_cases H:k<l.length
  ·have a1:wr.cell? ⟨b,off+k * 3,none⟩=some (.string (aI l k).ty):=(u.cell (by exact hb)).trans (Z k H)
   have a2:wr.cell? ⟨b,off+k * 3+1,none⟩=some (.string (aI l k).key):=(u.cell (by exact hb)).trans (h2 k H);have a3:wr.cell? ⟨b,off+k * 3+2,none⟩=some (.string (aI l k).id):=(u.cell (by exact hb)).trans (Y k H);cases hB:dB (aI l k) e0
   ·go_wp2_with fail
    go_region_with (go_at_call 113;refine (AP (aI l k) e0 _).mono ?_;rintro e w1 ⟨rfl,J⟩)
    all_goals
     have G:Below wr.heap.size wr w1:=Below.trans (by first|exact kB|exact kB.drew|exact kB.drew.drew) J;go_wp2
     go_roundw
     case rel=>exact ⟨k+1,by omega,by go_num,fun i hi=>by (by_cases e:i=k;(subst e;exact hB);exact I.o i (by omega)),u.trans (G.mono u.size),fun o=>(G.cell (by exact N)).trans (O o),nT N G.size⟩
     simp [intOf];omega
   go_wp2_with fail
   go_region_with (go_at_call 113;refine (AP (aI l k) e0 _).mono ?_;rintro e w1 ⟨rfl,J⟩)
   all_goals
    have G:Below wr.heap.size wr w1:=Below.trans (by first|exact kB|exact kB.drew|exact kB.drew.drew) J;go_wp2
    go_ret;exact ⟨aA (OX l e0 k H I.o hB).symm,u.trans (G.mono u.size)⟩
  go_wp2
  go_ret;exact ⟨aA (KW l e0 (fun i hi=>I.o i (by omega))).symm,u⟩
theorem VH (e0:aE)(w:World)(h:dF w a cap l) :
  Calls prog 67 #[.slice a l.length cap,eS e0] w fun e w'=>e=.returned (.int .i64 (jI l e0))/\Below w.heap.size w w':=by
 rcases h.cells with rfl|⟨b,off,rfl,hb,u,H,G⟩
 ·exact SE a cap e0 w
 exact WS b off cap l e0 w (nZ h.le h.max) hb u H G
theorem RR {w w':World}(h:Below w.heap.size w w')(row:Option Nat):w.grownBy w' row:=⟨h.os,h.tape,h.output,h.size,fun i hi _=>h.block i hi⟩
def eD (bs:Nat->Nat)(m q:Nat):Nat:=if q<m then bs q else 0
def aN (m q:Nat):Nat:=if q<m then q+1 else q
def WX (w:World)(p:Nat)(a:Option Addr)(m:Nat)(bs:Nat->Nat):Prop :=
 m=0\/∃ b off,a=some ⟨b,off,none⟩/\b<p/\∀ i,i<m->w.cell? ⟨b,off+i,none⟩=some (.int .u8 (bs i:Int))
structure nI (w:World)(p:Nat)(bs:Nat->Nat)(m q:Nat):Prop where
 lt:p<w.heap.size
 m1:m<=1000
 q1:q<=2000
 b1:∀ i,i<m->bs i<256
 cells:∃ a cap,w.cell? ⟨p,0,none⟩=some (.slice a m cap)/\w.cell? ⟨p,1,none⟩=some (.int .i64 ((q:Nat):Int))/\WX w p a m bs
 frz:w.frozen? ⟨p,1,none⟩=false
theorem nI.nx {w:World}{p:Nat}{bs:Nat->Nat}{m q:Nat}(h:nI w p bs m q):eD bs m q<256:=by
 unfold eD;split
 ·rename_i hq;exact h.b1 q hq
 decide
theorem nI.below {w w':World}{p:Nat}{bs:Nat->Nat}{m q:Nat}(h:nI w p bs m q)(hb:Below w.heap.size w w'):nI w' p bs m q:=by
 obtain ⟨u,N,O,I,⟨a,cap,c0,c1,hB⟩,J⟩:=h;refine ⟨nT u hb.size,N,O,I,⟨a,cap,(hb.cell (by exact u)).trans c0,(hb.cell (by exact u)).trans c1,?_⟩,(hb.frozen (by exact u)).trans J⟩;exact hB.imp id fun ⟨b,off,e,G,H⟩=>⟨b,off,e,G,fun i hi=>(hb.cell (by exact Nat.lt_trans G u)).trans (H i hi)⟩
theorem nI.grown {w w':World}{p:Nat}{bs:Nat->Nat}{m q:Nat}{row:Option Nat}(h:nI w p bs m q)(hg:w.grownBy w' row)(hr:∀ b,row=some b->p<b):nI w' p bs m q:=by
 obtain ⟨u,U,Y,J,⟨a,cap,c0,c1,hB⟩,N⟩:=h;have O:∀ b,b<=p->w'.heap[b]?=w.heap[b]?:=fun b hb=>hg.block b (by omega) (fun e=>by have:=hr b e.symm;omega)
 have H:∀ b o,b<=p->w'.cell? ⟨b,o,none⟩=w.cell? ⟨b,o,none⟩:=fun b o hb=>World.cell?_of_block (a:=⟨b,o,none⟩) (O b hb)
 have hz:w'.frozen? ⟨p,1,none⟩=w.frozen? ⟨p,1,none⟩:=hg.frozen_far ⟨p,1,none⟩ u (fun e=>by have:=hr p e.symm;omega);refine ⟨nT u hg.size,U,Y,J,⟨a,cap,(H p 0 nL).trans c0,(H p 1 nL).trans c1,?_⟩,hz.trans N⟩;exact hB.imp id fun ⟨b,off,e,G,I⟩=>⟨b,off,e,G,fun i hi=>(H b _ (by omega)).trans (I i hi)⟩
def bR (p:Nat)(w w':World)(bs:Nat->Nat)(m q:Nat):Prop:=nI w' p bs m q/\w.grownBy w' (some p)
section
variable {p:Nat} {w w1 w2:World} {bs:Nat->Nat} {m q q':Nat}
theorem bR.below (h:bR p w w1 bs m q)(hb:Below w1.heap.size w1 w2):bR p w w2 bs m q:=⟨h.1.below hb,h.2.andThen (RR hb none) (fun j u=>by cases u)⟩
theorem bR.trans (h:bR p w w1 bs m q)(u:bR p w1 w2 bs m q'):bR p w w2 bs m q':=⟨u.1,h.2.andThen u.2 (fun _ G=>Or.inr G)⟩
theorem bR.refl (h:nI w p bs m q):bR p w w bs m q:=⟨h,World.grownBy.refl _ _⟩
theorem bR.size (h:bR p w w1 bs m q):w.heap.size<=w1.heap.size:=h.2.size
theorem bR.grow {row:Option Nat}(h:bR p w w1 bs m q)(hg:w1.grownBy w2 row)(hr:∀ b,row=some b->w.heap.size<=b)(hp:p<w.heap.size):bR p w w2 bs m q :=
 ⟨h.1.grown hg (fun b hb=>nT hp (hr b hb)),h.2.andThen hg (fun j u=>Or.inl (hr j u))⟩
theorem bR.own (h:bR p w w1 bs m q){b:Nat}(hb:w.heap.size<=b)(hp:p<w.heap.size)(j:Nat)(x:Value):bR p w (w1.setCell ⟨b,j,none⟩ x) bs m q :=
 h.grow (Lib.grownBy_setCell w1 b j x) (fun q hq=>by injection hq with hq;omega) hp
theorem bR.of_below (u:nI w p bs m q)(hb:Below w.heap.size w w1)(h:bR p w1 w2 bs m q'):bR p w w2 bs m q':=(bR.refl u).below hb |>.trans h
end
def NxF (p:Nat)(w:World)(bs:Nat->Nat)(m q:Nat)(e:Ending)(w':World):Prop:=e=.returned (.int .i64 ((eD bs m q:Nat):Int))/\bR p w w' bs m (aN m q)
theorem iC (p:Nat){bs:Nat->Nat}{m q:Nat}(w:World)(h:nI w p bs m q):Calls prog 34 #[.pointer (some ⟨p,0,none⟩)] w (NxF p w bs m q):=by
 have HR:He (nI w p bs m q):=h;obtain ⟨G,Y,Z,H,⟨a,cap,c0,c1,hB⟩,hf⟩:=h
 by_cases u:q<m
 ·rcases hB with h0|⟨b,off,rfl,N,U⟩
  ·omega
  have af:=U q u;have ab:=H q u
  have J:He (∀ W,Below w.heap.size w W->bR p w (W.setCell ⟨p,1,none⟩ (.int .i64 ((q:Int)+1))) bs m (q+1)):=fun W I=>by
   refine ⟨⟨by have:=nT G I.size;simpa [World.setCell] using this,Y,by omega,H,⟨some ⟨b,off,none⟩,cap,by rw [aB (by omega)];exact (I.cell (by exact G)).trans c0,aZ ⟨_,(I.cell (by exact G)).trans c1⟩,Or.inr ⟨b,off,rfl,N,fun i hi=>?_⟩⟩,by rw [World.frozen?_setCell];exact (I.frozen (by exact G)).trans hf⟩,(RR I (some p)).andThen (Lib.grownBy_setCell W p 1 _) (fun j hj=>Or.inr hj)⟩;rw [fJ (by omega)];exact (I.cell (by exact Nat.lt_trans N G)).trans (U i hi)
  have O:He (eD bs m q=bs q/\aN m q=q+1):=⟨if_pos u,if_pos u⟩;clear U H;unfold NxF;rw [O.o.1,O.o.2];generalize bs q=x at *
  go_enter func34,ntmps34
  go_wp2
  go_region
  go_wp2
  go_region
  go_wp2
  go_ret;exact ⟨rfl,(J.o w kB).below (by first|exact kB.drew|exact kB.drew.drew)⟩
 have O:He (eD bs m q=0/\aN m q=q):=⟨if_neg u,if_neg u⟩;unfold NxF;rw [O.o.1,O.o.2]
 go_enter func34,ntmps34
 go_wp2
 go_region
 go_wp2
 go_ret;exact ⟨rfl,(bR.refl HR.o).below kB.drew⟩
theorem UI (p:Nat){bs:Nat->Nat}{m q:Nat}(w:World)(h:nI w p bs m q):Calls prog 75 #[.pointer (some ⟨p,0,none⟩)] w (fun e w'=>e=.returned (.int .i64 ((m:Int) - (q:Int)))/\Below w.heap.size w w'):=by
 obtain ⟨I,G,u,H,⟨a,cap,c0,c1,hB⟩,J⟩:=h
 go_enter func75,ntmps75
 go_wp2
 first
  | (go_ret;exact ⟨rfl,kB⟩)
  | (go_region;go_wp2;go_ret;exact ⟨rfl,by first|exact kB|exact kB.drew⟩)
def rN (w:World)(a:Option Addr)(n:Nat)(bs:Nat->Nat):Prop :=
 n=0\/∃ b off,a=some ⟨b,off,none⟩/\b<w.heap.size/\∀ i,i<n->w.cell? ⟨b,off+i,none⟩=some (.int .u8 (bs i:Int))
def rdN (n:Nat):Nat:=if 1000<n then 1000 else n
def OpF (w:World)(bs:Nat->Nat)(n:Nat)(e:Ending)(w':World):Prop:=∃ p,e=.returned (.pointer (some ⟨p,0,none⟩))/\nI w' p bs (rdN n) 0/\w.heap.size<=p/\Below w.heap.size w w'
theorem tO {w:World}{a:Option Addr}{n m cap:Nat}{bs:Nat->Nat}{t:TypeId}(h:rN w a n bs)(hb:∀ i,i<n->bs i<256)(H:m<=1000)(J:m<=n):nI (w.alloc (.cells #[.slice a m cap,.int .i64 0] t)) w.heap.size bs m 0:=by
 refine ⟨by simp,H,nz,fun i hi=>hb i (by omega),⟨a,cap,kA rfl,kA rfl,?_⟩,kF rfl⟩;have hb:Below w.heap.size w (w.alloc (.cells #[.slice a m cap,.int .i64 0] t)):=bA;rcases h with I|⟨b,off,e,u,G⟩
 ·exact Or.inl (by omega)
 exact Or.inr ⟨b,off,e,u,fun i hi=>(hb.cell (by exact u)).trans (G i (by omega))⟩
theorem ZC {a:Option Addr}{n cap:Nat}{bs:Nat->Nat}(w:World)(J:n<=cap)(G:cap<=maxLen)(h:rN w a n bs)(u:∀ i,i<n->bs i<256):Calls prog 12 #[.slice a n cap] w (OpF w bs n):=by
 have hb:∀ o,Below w.heap.size w (w.alloc o):=fun o=>bA
 unfold maxLen at G
 by_cases I:1000<n
 ·have H:He (nI (w.alloc (.cells #[.slice a 1000 cap,.int .i64 0] 85)) w.heap.size bs (rdN n) 0):=by unfold He rdN;rw [if_pos I];exact tO h u nL (by omega)
  clear h u
  go_enter func12,ntmps12
  go_wp2
  go_ret;exact ⟨_,rfl,H.o,nL,hb _⟩
 have H:He (nI (w.alloc (.cells #[.slice a n cap,.int .i64 0] 85)) w.heap.size bs (rdN n) 0):=by unfold He rdN;rw [if_neg I];exact tO h u (by omega) nL
 clear h u
 go_enter func12,ntmps12
 go_wp2
 go_ret;exact ⟨_,rfl,H.o,nL,hb _⟩
variable {M S:Nat->ByteArray}{L:Nat->Int}
structure dE (w:World)(a:Option Addr)(n cap:Nat)(S:Nat->ByteArray):Prop where
 le:n<=cap
 max:cap<=maxLen
 size:∀ i,i<n->(S i).size<=maxLen
 cells:n=0\/∃ b off,a=some ⟨b,off,none⟩/\b<w.heap.size/\∀ i,i<n->w.cell? ⟨b,off+i,none⟩=some (.string (S i))
theorem dE.below (h:dE w a n cap S)(hb:Below w.heap.size w w'):dE w' a n cap S :=
 ⟨h.le,h.max,h.size,h.cells.imp id fun ⟨b,off,e,u,G⟩=>⟨b,off,e,nT u hb.size,fun i hi=>(hb.cell (by exact u)).trans (G i hi)⟩⟩
structure gN (w:World)(a:Option Addr)(n cap:Nat)(M:Nat->ByteArray)(L:Nat->Int):Prop where
 le:n<=cap
 max:cap<=maxLen
 size:∀ i,i<n->(M i).size<=maxLen
 cells:n=0\/∃ b off,a=some ⟨b,off,none⟩/\b<w.heap.size/\(∀ i,i<n->w.cell? ⟨b,off+i * 2,none⟩=some (.string (M i)))/\∀ i,i<n->w.cell? ⟨b,off+i * 2+1,none⟩=some (.int .i64 (L i))
theorem gN.below (h:gN w a n cap M L)(hb:Below w.heap.size w w'):gN w' a n cap M L :=
 ⟨h.le,h.max,h.size,h.cells.imp id fun ⟨b,off,e,u,G,H⟩=>⟨b,off,e,nT u hb.size,fun i hi=>(hb.cell (by exact u)).trans (G i hi),fun i hi=>(hb.cell (by exact u)).trans (H i hi)⟩⟩
abbrev DA (id sd ty key val:ByteArray)(st:Bool)(tm:Int)(pa:Option Addr)(np cp:Nat)(aa:Option Addr)(na ca:Nat)(ga:Option Addr)(ng cg:Nat):Value :=
 .agg #[.string id,.string sd,.string ty,.bool st,.string key,.int .i64 tm,.slice pa np cp,.slice aa na ca,.string val,.slice ga ng cg]
def BP (c:Int):Bool :=
 (decide (97<=c) && decide (c<=122)) || (decide (65<=c) && decide (c<=90)) || (decide (48<=c) && decide (c<=57)) ||
  (c == 95) || (c == 46) || (c == 64) || (c == 36) || (c == 47) || (c == 43)
def uK (s:ByteArray):List Int:=s.data.toList.map fun c=>(c.toNat:Int)
theorem kS (s:ByteArray):(uK s).length=s.size:=by rw [uK,List.length_map];rfl
def cU (s:ByteArray):Bool:=(uK s).all BP && decide (1<=s.size) && decide (s.size<=40)
theorem wV (s:ByteArray)(k:Nat)(h:k<s.size):(uK s)[k]'(by rw [kS];exact h)=(s[k].toNat:Int):=by
 simp [uK];rfl
theorem nG (s:ByteArray)(k:Nat)(h:k<s.size):((uK s).take (k+1)).all BP=(((uK s).take k).all BP && BP (s[k].toNat:Int)):=by
 have u:k<(uK s).length:=by rw [kS];exact h
 rw [List.take_succ_eq_append_getElem u,List.all_append,wV s k h];simp
theorem qR (s:ByteArray)(k:Nat)(h:k<s.size)(u:BP (s[k].toNat:Int)=false):cU s=false:=by
 have G:k<(uK s).length:=by rw [kS];exact h
 have:(uK s).all BP=false:=by
  rw [List.all_eq_false];exact ⟨(uK s)[k],List.getElem_mem G,by rw [wV s k h,u];simp⟩
 simp [cU,this]
theorem sT (s:ByteArray)(h:(uK s).all BP=true):cU s=(decide (1<=s.size) && decide (s.size<=40)):=by
 simp [cU,h]
def bD (S:Nat->ByteArray):Nat->ByteArray->Bool
 | 0,_=>false
 | n+1,s=>bD S n s || (S n).toList == s.toList
theorem yG (S:Nat->ByteArray)(s:ByteArray):∀ n k,k<n->((S k).toList == s.toList)=true->bD S n s=true
 | 0,_,h,_=>absurd h (Nat.not_lt_zero _)
 | n+1,k,h,e=>by
  by_cases u:k=n
  ·subst u;simp [bD,e]
  simp [bD,yG S s n k (by omega) e]
def pX (S:Nat->ByteArray):Nat->Nat
 | 0=>0
 | n+1=>pX S n+if cU (S n) then 1 else 0
theorem xY (S:Nat->ByteArray):∀ n,pX S n<=n
 | 0=>nL
 | n+1=>by have:=xY S n;unfold pX;split <;> omega
def uE (S:Nat->ByteArray):Nat->Bool
 | 0=>true
 | n+1=>uE S n && cU (S n)
theorem AO (S:Nat->ByteArray):∀ n,(((pX S n:Nat):Int) == (n:Int))=uE S n
 | 0=>rfl
 | n+1=>by
  have G:=AO S n;have u:=xY S n;unfold pX uE;rw [<- G];cases h:cU (S n)
  ·simp only [Bool.and_false,Bool.false_eq_true,if_false];rw [beq_eq_false_iff_ne];omega
  simp only [Bool.and_true,if_true];rw [Bool.eq_iff_iff];simp
def fM (S:Nat->ByteArray)(id:ByteArray):Nat->Bool
 | 0=>true
 | n+1=>fM S id n && (cU (S n) && (!((S n).toList == id.toList) && !bD S n (S n)))
def fN (S:Nat->ByteArray)(id:ByteArray):Nat->Bool
 | 0=>true
 | n+1=>fN S id n && (!((S n).toList == id.toList) && !bD S n (S n))
theorem jH (S:Nat->ByteArray)(id:ByteArray):∀ n,fM S id n=(uE S n && fN S id n)
 | 0=>rfl
 | n+1=>by
  unfold fM uE fN;rw [jH S id n];cases uE S n <;> cases fN S id n <;> cases cU (S n) <;> rfl
theorem mS (S:Nat->ByteArray)(id:ByteArray):∀ n k,k<n->fM S id (k+1)=false->fM S id n=false
 | 0,_,h,_=>absurd h (Nat.not_lt_zero _)
 | n+1,k,h,e=>by
  by_cases u:k=n
  ·subst u;exact e
  unfold fM;rw [mS S id n k (by omega) e];rfl
theorem nW (S:Nat->ByteArray)(id:ByteArray):∀ n k,k<n->fN S id (k+1)=false->fN S id n=false
 | 0,_,h,_=>absurd h (Nat.not_lt_zero _)
 | n+1,k,h,e=>by
  by_cases u:k=n
  ·subst u;exact e
  unfold fN;rw [nW S id n k (by omega) e];rfl
def cG (S:Nat->ByteArray)(n:Nat)(id:ByteArray):Bool:=decide (n<=10) && fM S id n
def zL (s:ByteArray):Bool:=(uK s).head? == some 42 || (uK s).head? == some 35
def gF (s:ByteArray):ByteArray:=if zL s then s.extract 1 s.size else s
def lU (s:ByteArray):Bool:=cU (gF s)
theorem QA (s:ByteArray)(h:0<s.size):(uK s).head?=some (s[0].toNat:Int):=by
 have u:0<(uK s).length:=by rw [kS];exact h
 rw [List.head?_eq_getElem?,List.getElem?_eq_getElem u,wV s 0 h]
theorem LI (s:ByteArray)(h:s.size=0):(uK s).head?=none:=by
 rw [List.head?_eq_none_iff];exact List.eq_nil_of_length_eq_zero (by rw [kS];exact h)
theorem vZ (s:ByteArray)(h:0<s.size):zL s=(((s[0].toNat:Int) == 42) || ((s[0].toNat:Int) == 35)):=by
 simp [zL,QA s h]
theorem ED (s:ByteArray)(h:s.size=0):zL s=false:=by
 simp [zL,LI s h]
def fX (M:Nat->ByteArray)(L:Nat->Int):Nat->Bool
 | 0=>true
 | n+1=>fX M L n && (lU (M n) && (!decide (L n < -1000000) && (!decide (1000000<L n) && (n == 0 || Op.bytesLess (M (n - 1)).toList (M n).toList))))
theorem eX (M:Nat->ByteArray)(L:Nat->Int):∀ n k,k<n->fX M L (k+1)=false->fX M L n=false
 | 0,_,h,_=>absurd h (Nat.not_lt_zero _)
 | n+1,k,h,e=>by
  by_cases u:k=n
  ·subst u;exact e
  unfold fX;rw [eX M L n k (by omega) e];rfl
def rC (M:Nat->ByteArray)(L:Nat->Int)(n:Nat):Bool:=fX M L n && decide (n<=50)
def uO (v:ByteArray):Bool:=v.toList == [106,111,105,110] || (v.toList == [105,110,118,105,116,101] || (v.toList == [108,101,97,118,101] || v.toList == [98,97,110]))
def zF (v:ByteArray):Bool:=v.toList == [112,117,98,108,105,99] || v.toList == [105,110,118,105,116,101]
def kT (ty key val:ByteArray)(st:Bool)(np na ng:Nat)(M:Nat->ByteArray)(L:Nat->Int):Bool :=
 if ty.toList == [99,114,101,97,116,101] then st && key.toList.isEmpty && ng == 0 && np == 0 && na == 0 && val.toList.isEmpty
 else if ty.toList == [109,101,109,98,101,114] then st && !key.toList.isEmpty && ng == 0 && uO val
 else if ty.toList == [106,111,105,110,95,114,117,108,101,115] then st && key.toList.isEmpty && ng == 0 && zF val
 else if ty.toList == [112,111,119,101,114] then st && key.toList.isEmpty && val.toList.isEmpty && rC M L ng
 else ng == 0 && (val.toList.isEmpty || cU val)
def bF (id sd ty key val:ByteArray)(st:Bool)(tm:Int)(np na ng:Nat)(Pv Av M:Nat->ByteArray)(L:Nat->Int):Int :=
 if cU id=false\/cU sd=false\/cU ty=false then 1
 else if key.toList.isEmpty=false/\(st=false\/cU key=false) then 2
 else if tm<0\/1000000000000<tm then 3
 else if cG Pv np id=false\/cG Av na id=false then 4
 else if kT ty key val st np na ng M L=false then 5
 else 0
end Go.Proofs.YtpfeegcdlikegaaGreat
namespace Go.Proofs.YtpfeegcdlikegaaGreat
def fH (S:Nat->ByteArray)(u:ByteArray):Nat->ByteArray
 | 0=>ByteArray.empty
 | k+1=>if k=0 then S 0 else fH S u k ++ u ++ S k
theorem mY (S : Nat -> ByteArray) (u : ByteArray) : ∀ {n k : Nat}, k <= n -> (fH S u k).size <= (fH S u n).size
  | 0, k, h => by have : k = 0 := by omega
                  subst this; exact nL
  | n + 1, k, h => by
    by_cases e : k = n + 1
    · subst e; exact nL
    · refine nZ (mY S u (n := n) (by omega)) ?_
      by_cases G : n = 0
      · subst G; simp [fH]
      · rw [fH, if_neg G, ByteArray.size_append, ByteArray.size_append]; omega
end Go.Proofs.YtpfeegcdlikegaaGreat
