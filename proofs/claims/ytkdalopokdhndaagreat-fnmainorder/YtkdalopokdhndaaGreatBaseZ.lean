import Derived.WalkKit
import Derived.WalkSpells
import Derived.WalkLawsBesides
import Derived.Deep.Draws
import Derived.Deep.LoopGhost
import Derived.Deep.QuietTactic
import Derived.BigQuiet
import Derived.Deep.RegionWith
import Derived.OrdersHeld
import Derived.Deep.RegionHeld
import Derived.Test.YtkdalopokdhndaaGreatProg
import Derived.OwnWalk
import Derived.Deep.AppendLies
import Derived.Maps.OwnSet
import Derived.Below
set_option maxHeartbeats 16000000
set_option maxRecDepth 100000
namespace Go.Proofs.YtkdalopokdhndaaGreat
open Go.RowKit
variable {B i k m n:Nat}{w w' w1 wr:World}{v:Value}{cs:Array Value}
theorem nL :n<=n:=Nat.le.refl
theorem kB :Below B w w:=Below.refl B w
theorem si:(∀ (α:Type) (xs:List α) (i:Nat) (h:i<xs.toArray.size),xs.toArray[i]=xs[i]'(by simpa using h))∧(∀ (α:Type) (a:α) (l:List α) (h:0<(a :: l).length),(a :: l)[0]=a)∧(∀ (α:Type) (a:α) (l:List α) (i:Nat) (h:i+1<(a :: l).length),(a :: l)[i+1]=l[i]'(Nat.lt_of_succ_lt_succ h))∧(∀ (α:Type) (l:List α) (i:Nat) (a:α),l.toArray.setIfInBounds i a=(l.set i a).toArray)∧(∀ (α:Type) (x:α) (xs:List α) (a:α),(x :: xs).set 0 a=a :: xs)∧(∀ (α:Type) (x:α) (xs:List α) (i:Nat) (a:α),(x :: xs).set (i+1) a=x :: xs.set i a)∧(∀ (t:Array Value) (d:List Deferred) (n:Nat) (v:Value),(Act.mk t d).put (some n) v=Act.mk (t.setIfInBounds n v) d)∧(∀ (a:Act) (v:Value),a.put none v=a) :=
 ⟨fun _ _ _ h=>List.getElem_toArray h,fun _ a l h=>List.getElem_cons_zero a l h,fun _ a l i h=>List.getElem_cons_succ a l i h,fun _ l i a=>List.setIfInBounds_toArray l i a,fun _ _ _ _=>List.set_cons_zero,fun _ _ _ _ _=>List.set_cons_succ,fun _ _ _ _=>rfl,fun _ _=>rfl⟩
theorem tk {P:Program}{ops:Array Oper}{Q:Exit->Act->World->Prop}{md:Region.Mode}{S:World->Prop}{oi:Oper}{fuel:Nat}{listed:Array Bool}{a:Act}(i:Nat)(v:Value)(hi:ops[i]?=some oi)(hy:YieldsIf P ops S oi v a)(h:wpAnyH P md ops Q S fuel (listed.setIfInBounds i true) (a.put oi.dst v) w)
  (hs:Region.noSelect ops=true:=by kernel_rfl) (hf:Region.free md ops listed i=true:=by kernel_rfl) (hr:(Region.ready md ops listed).contains i=true:=by kernel_rfl) (hQ:∀ (c:List PanicEntry) (a:Act) (w:World),Q (Exit.panic c) (a.put oi.dst v) w->Q (Exit.panic c) a w:=by exact fun _ _ _ h=>h) (hS:S w:=by assumption):wpAnyH P md ops Q S (fuel+1) listed a w :=
 wpAnyH_take hi hs hf hr hQ hy hS h
theorem tq {P:Program}{ops:Array Oper}{Q:Exit->Act->World->Prop}{md:Region.Mode}{S:World->Prop}{oi:Oper}{fuel:Nat}{listed:Array Bool}{a:Act}(i:Nat)(hi:ops[i]?=some oi)(h:wpAnyH P md ops Q S fuel (listed.setIfInBounds i true) (a.put oi.dst v) w)(hy:YieldsIf P ops S oi v a:=by refine Or.inl ⟨by rfl,?_⟩;intro w h;(try dsimp only at h);go_simp;try (with_reducible rfl))
  (hs:Region.noSelect ops=true:=by kernel_rfl) (hf:Region.free md ops listed i=true:=by kernel_rfl) (hr:(Region.ready md ops listed).contains i=true:=by kernel_rfl) (hQ:∀ (c:List PanicEntry) (a:Act) (w:World),Q (Exit.panic c) (a.put oi.dst v) w->Q (Exit.panic c) a w:=by exact fun _ _ _ h=>h) (hS:S w:=by assumption):wpAnyH P md ops Q S (fuel+1) listed a w :=
 wpAnyH_take hi hs hf hr hQ hy hS h
theorem bA {o:Obj}:Below w.heap.size w (w.alloc o):=Below.alloc kB nL _
theorem nT (a:n<m)(b:m<=k):n<k:=by omega
theorem nZ (a:n<=m)(b:m<=k):n<=k:=by omega
theorem nz :0<=n:=Nat.zero_le n
theorem kA {c:Array Value}{t:TypeId}(h:n=w.heap.size):(w.alloc (.cells c t)).cell? ⟨n,i,none⟩=c[i]?:=World.cell?_alloc_at c t n i h
theorem kF {c:Array Value}{t:TypeId}(h:n=w.heap.size):(w.alloc (.cells c t)).frozen? ⟨n,i,none⟩=false:=World.frozen?_alloc_at c t n i h
theorem rd {P:Program}{ops:Array Oper}{Q:Exit->Act->World->Prop}{md:Region.Mode}{S:World->Prop}{o:Oper}{fuel:Nat}{listed:Array Bool}{a:Act}(i:Nat)(hi:ops[i]?=some o)(h:∀ (K':Act->World->Prop),Shut (∀ (a:Act) (w:World),S w->(S w->wpAnyH P md ops Q S fuel (listed.setIfInBounds i true) a w)->K' a w)->if Region.wanted o (yielded ops a.tmps)=true then Oper.wp P o a w K' Q else K' (a.put o.dst undef) w)(hr:Region.ready md ops listed=[i]:=by kernel_rfl):wpAnyH P md ops Q S (fuel+1) listed a w :=
 wpAnyH_ready hr (by simp) (AllReadyH.cons hi h AllReadyH.nil)
theorem ret_bool {a b:Bool}(h:a=b):Ending.returned (.bool a)=.returned (.bool b):=by rw [h]
theorem ret_int {k:IntKind}{a b:Int}(h:a=b):Ending.returned (.int k a)=.returned (.int k b):=by rw [h]
theorem ret_str {a b:ByteArray}(h:a=b):Ending.returned (.string a)=.returned (.string b):=by rw [h]
def Dr (w w':World):Prop:=∃ q,w'=w.drewN q
theorem Dr.refl (w:World):Dr w w:=⟨0,rfl⟩
theorem Dr.drewN (h:Dr w w')(n:Nat):Dr w (w'.drewN n):=by
 obtain ⟨q,rfl⟩:=h;exact ⟨q+n,by rw [World.drewN_drewN]⟩
theorem Dr.cell (h:Dr w w')(a:Addr):w'.cell? a=w.cell? a:=by obtain ⟨q,rfl⟩:=h;rfl
theorem Dr.below (h:Dr w w')(B:Nat):Below B w w':=by obtain ⟨q,rfl⟩:=h;exact ⟨rfl,rfl,rfl,nL,fun _ _=>rfl⟩
theorem beq_swap (a b:List UInt8):(a == b)=(b == a):=by
 rw [Bool.eq_iff_iff,beq_iff_eq,beq_iff_eq];exact eq_comm
theorem size_of_nil (s:ByteArray)(h:s.toList=[]):s.size=0:=by
 rw [ByteArray.toList_eq] at h
 show s.data.size=0
 rw [<- Array.length_toList,h];rfl
theorem size_yes_pos (s:ByteArray)(h1:s.toList.isEmpty=false):s.size≠0:=fun h0=>by
 have:s.toList=[]:=by rw [ByteArray.toList_eq];exact List.eq_nil_of_length_eq_zero (by rw [Array.length_toList];exact h0)
 rw [this] at h1;simp at h1
theorem box_cells {t:TypeId}(hb:Below (w.heap.size+1) (w.alloc (.cells cs t)) w1)(o:Nat):w1.cell? ⟨w.heap.size,o,none⟩=cs[o]? :=
 (hb.cell (by exact Nat.lt_succ_self _)).trans (kA rfl)
theorem below_box {o o2:Obj}(hb:Below ((w.alloc o).alloc o2).heap.size ((w.alloc o).alloc o2) w1):Below (w.heap.size+1) (w.alloc o) w1 :=
 (kB.alloc (by simp) _).trans (hb.mono (by simp))
theorem set_same {x:Value}(hv:∃ v,wr.cell? ⟨B,k,none⟩=some v):(wr.setCell ⟨B,k,none⟩ x).cell? ⟨B,k,none⟩=some x:=by
 obtain ⟨v,hv⟩:=hv;exact World.cell?_setCell_same _ _ _ hv
theorem set_far {x:Value}(h:i≠k):(wr.setCell ⟨B,k,none⟩ x).cell? ⟨B,i,none⟩=wr.cell? ⟨B,i,none⟩ :=
 World.cell?_setCell_other _ _ _ _ (fun e=>h (by injection e with _ e2;exact e2.symm))
theorem far_block {C:Nat}{x:Value}(h:B≠C):(wr.setCell ⟨B,k,none⟩ x).cell? ⟨C,i,none⟩=wr.cell? ⟨C,i,none⟩ :=
 World.cell?_setCell_other _ _ _ _ (fun e=>h (by injection e))
variable {a:Option Addr}{o cap:Nat}{X:Nat->Int}{rn:Nat->Nat}
structure SlI (w:World)(a:Option Addr)(n cap:Nat)(X:Nat->Int):Prop where
 le:n<=cap
 max:cap<=maxLen
 cells:n=0∨∃ b off,a=some ⟨b,off,none⟩∧b<w.heap.size∧∀ i,i<n->w.cell? ⟨b,off+i,none⟩=some (.int .i64 (X i))
theorem SlI.below (h:SlI w a n cap X)(hb:Below w.heap.size w w'):SlI w' a n cap X :=
 ⟨h.le,h.max,h.cells.imp id fun ⟨b,off,e,hlt,hc⟩=>⟨b,off,e,nT hlt hb.size,fun i hi=>(hb.cell (by exact hlt)).trans (hc i hi)⟩⟩
def RowAt (w:World)(B o n:Nat)(X:Nat->Int):Prop:=∃ ra rc,w.cell? ⟨B,o,none⟩=some (.slice ra n rc)∧SlI w ra n rc X
theorem RowAt.below (h:RowAt w B o n X)(hb:Below w.heap.size w w')(hlt:B<w.heap.size):RowAt w' B o n X:=by
 obtain ⟨ra,rc,h1,h2⟩:=h;exact ⟨ra,rc,(hb.cell (by exact hlt)).trans h1,h2.below hb⟩
structure SlL (w:World)(a:Option Addr)(n cap:Nat)(rn:Nat->Nat)(X:Nat->Nat->Int):Prop where
 le:n<=cap
 max:cap<=maxLen
 cells:n=0∨∃ b off,a=some ⟨b,off,none⟩∧b<w.heap.size∧∀ i,i<n->RowAt w b (off+i) (rn i) (X i)
theorem SlL.below {X:Nat->Nat->Int}(h:SlL w a n cap rn X)(hb:Below w.heap.size w w'):SlL w' a n cap rn X :=
 ⟨h.le,h.max,h.cells.imp id fun ⟨b,off,e,hlt,hc⟩=>⟨b,off,e,nT hlt hb.size,fun i hi=>(hc i hi).below hb hlt⟩⟩
variable {base:Nat}{xs:List Value}
theorem Tryz.infoIntO:(Tryz.prog.info? 3).map (fun i=>(i.zero,i.size,i.bytes))=some (some (.int .i64 0),1,8):=by kernel_rfl
theorem ownsRow_blwI {e size:Nat}(h:w.ownsRow base e size v n xs)(hb:Below w.heap.size w w'):w'.ownsRow base e size v n xs:=by
 obtain ⟨h1,h2⟩:=h;refine ⟨h1,?_⟩;rcases h2 with h2|⟨g,cap,cur,hv,hg,hh,r⟩
 ·exact Or.inl h2
 have hlt:g<w.heap.size:=by
  rcases Nat.lt_or_ge g w.heap.size with h'|h'
  ·exact h'
  rw [Array.getElem?_eq_none h'] at hh;cases hh
 exact Or.inr ⟨g,cap,cur,hv,hg,by rw [hb.block g hlt];exact hh,r⟩
def ints (X:Nat->Int)(n:Nat):List Value:=(List.range n).map fun i=>.int .i64 (X i)
theorem ints_len (X:Nat->Int)(n:Nat):(ints X n).length=n:=by simp [ints]
theorem ints_get (X:Nat->Int)(n i:Nat)(h:i<n):(ints X n)[i]?=some (.int .i64 (X i)):=by simp [ints,h]
theorem ints_snoc (X:Nat->Int)(n:Nat):ints X n ++ [.int .i64 (X n)]=ints X (n+1):=by simp [ints,List.range_succ]
def OwnI (w:World)(base:Nat)(v:Value)(n:Nat)(X:Nat->Int):Prop:=w.ownsRow base 3 1 v n (ints X n)
theorem OwnI.below (h:OwnI w base v n X)(hb:Below w.heap.size w w'):OwnI w' base v n X:=ownsRow_blwI h hb
theorem OwnI.snoc {x:Int}(h:w.ownsRow base 3 1 v (n+1) (ints X n ++ [.int .i64 x]))(hx:x=X n):OwnI w base v (n+1) X:=by
 subst hx;rw [ints_snoc] at h;exact h
theorem OwnI.nil (w:World)(base:Nat)(X:Nat->Int):OwnI w base (.slice none 0 0) 0 X:=⟨rfl,Or.inl ⟨rfl,rfl⟩⟩
theorem OwnI.made (w:World)(base m:Nat)(cs:Array Value)(hm:m<=maxLen)(hc:cs.size=m)(hb:base<=w.heap.size)(X:Nat->Int):OwnI (w.alloc (.cells cs 3)) base (.slice (some ⟨w.heap.size,0,none⟩) 0 m) 0 X :=
 ⟨rfl,Or.inr ⟨w.heap.size,m,cs,rfl,hb,by show (w.heap.push _)[w.heap.size]?=_;simp,nz,hm,by rw [hc,Nat.mul_one],by simp [ints]⟩⟩
theorem OwnI.cells (h:OwnI w base v n X) :
  (v=.slice none 0 0∧n=0)∨∃ g cap,v=.slice (some ⟨g,0,none⟩) n cap∧base<=g∧g<w.heap.size∧n<=cap∧cap<=maxLen∧∀ i,i<n->w.cell? ⟨g,0+i,none⟩=some (.int .i64 (X i)):=by
 obtain ⟨h1,h2⟩:=h;rcases h2 with ⟨rfl,h0⟩|⟨g,cap,cur,rfl,hg,hh,hn,hc,hcs,hx⟩
 ·exact Or.inl ⟨rfl,h0⟩
 have hlt:g<w.heap.size:=by
  rcases Nat.lt_or_ge g w.heap.size with h'|h'
  ·exact h'
  rw [Array.getElem?_eq_none h'] at hh;cases hh
 refine Or.inr ⟨g,cap,rfl,hg,hlt,hn,hc,fun j hj=>?_⟩;rw [<- ints_get X n j hj,<- hx,List.getElem?_take,if_pos (by omega),Nat.zero_add];simp [World.cell?,hh]
theorem OwnI.sl (h:OwnI w base v n X):∃ a cap,v=.slice a n cap∧SlI w a n cap X:=by
 rcases h.cells with ⟨rfl,rfl⟩|⟨g,cap,rfl,hg,hlt,hn,hc,hx⟩
 ·exact ⟨none,0,rfl,⟨nL,by decide,Or.inl rfl⟩⟩
 exact ⟨_,cap,rfl,⟨hn,hc,Or.inr ⟨g,0,rfl,hlt,hx⟩⟩⟩
theorem one_cellsI (w1:World)(x:Value)(t:TypeId)(j:Nat)(u:Value)(h:[x][j]?=some u):(w1.alloc (.cells #[x] t)).cell? ((⟨w1.heap.size,0,none⟩:Addr).add j)=some u:=by
 have hj:j<1:=by
  rcases Nat.lt_or_ge j 1 with h'|h'
  ·exact h'
  rw [List.getElem?_eq_none (by simpa using h')] at h;cases h
 match j,hj,h with
 | 0,_,h=>rw [show (⟨w1.heap.size,0,none⟩:Addr).add 0=⟨w1.heap.size,0,none⟩ from rfl,kA rfl];exact h
theorem one_oneI (x:Int)(u:Value)(h:u ∈ [Value.int .i64 x]):u.oneCell'=true:=by
 simp only [List.mem_cons,List.not_mem_nil,or_false] at h;subst h;rfl
variable {M S:Nat->ByteArray}
structure SlS (w:World)(a:Option Addr)(n cap:Nat)(S:Nat->ByteArray):Prop where
 le:n<=cap
 max:cap<=maxLen
 size:∀ i,i<n->(S i).size<=maxLen
 cells:n=0∨∃ b off,a=some ⟨b,off,none⟩∧b<w.heap.size∧∀ i,i<n->w.cell? ⟨b,off+i,none⟩=some (.string (S i))
theorem SlS.below (h:SlS w a n cap S)(hb:Below w.heap.size w w'):SlS w' a n cap S :=
 ⟨h.le,h.max,h.size,h.cells.imp id fun ⟨b,off,e,hlt,hc⟩=>⟨b,off,e,nT hlt hb.size,fun i hi=>(hb.cell (by exact hlt)).trans (hc i hi)⟩⟩
structure SlG (w:World)(a:Option Addr)(n cap:Nat)(M:Nat->ByteArray)(L:Nat->Int):Prop where
 le:n<=cap
 max:cap<=maxLen
 size:∀ i,i<n->(M i).size<=maxLen
 cells:n=0∨∃ b off,a=some ⟨b,off,none⟩∧b<w.heap.size∧(∀ i,i<n->w.cell? ⟨b,off+i * 2,none⟩=some (.string (M i)))∧∀ i,i<n->w.cell? ⟨b,off+i * 2+1,none⟩=some (.int .i64 (L i))
theorem SlG.below {L:Nat->Int}(h:SlG w a n cap M L)(hb:Below w.heap.size w w'):SlG w' a n cap M L :=
 ⟨h.le,h.max,h.size,h.cells.imp id fun ⟨b,off,e,hlt,hc,hl⟩=>⟨b,off,e,nT hlt hb.size,fun i hi=>(hb.cell (by exact hlt)).trans (hc i hi),fun i hi=>(hb.cell (by exact hlt)).trans (hl i hi)⟩⟩
abbrev evV (id sd ty key val:ByteArray)(st:Bool)(tm:Int)(pa:Option Addr)(np cp:Nat)(aa:Option Addr)(na ca:Nat)(ga:Option Addr)(ng cg:Nat):Value :=
 .agg #[.string id,.string sd,.string ty,.bool st,.string key,.int .i64 tm,.slice pa np cp,.slice aa na ca,.string val,.slice ga ng cg]
end Go.Proofs.YtkdalopokdhndaaGreat
namespace Go.Proofs.YtkdalopokdhndaaGreat
open Go.RowKit Go.Maps Go.ChangeMaps
variable {s:ByteArray}{w w':World}{j m n:Nat}{Kn:ByteArray->Bool}{V:ByteArray->Int}
theorem lawStr:Keyed Tryz.prog 9:=string_keyed Tryz.underlying9
theorem zeroInt (w:World):(zeroValue 3).run Tryz.prog w=.ok (.int .i64 0) w:=by kernel_rfl
abbrev keyL (s:ByteArray):Lit:=.string s.data.toList
theorem keyL_ne {t:ByteArray}(h:s≠t):keyL s≠keyL t:=fun e=>h (by
 injection e with e
 obtain ⟨s⟩:=s;obtain ⟨t⟩:=t
 exact congrArg _ (Array.toList_inj.1 e))
def MapAt (w:World)(m n:Nat)(Kn:ByteArray->Bool)(V:ByteArray->Int):Prop :=
 ∃ D:DataW Unit,w.ownsMap Tryz.prog 9 (plainElem Tryz.prog 3) m n D∧∀ s:ByteArray,has D (keyL s)=Kn s∧(Kn s=true->D.atKey (keyL s) (.lit (.int .i64 0))=.lit (.int .i64 (V s)))
theorem MapAt.lt (h:MapAt w m n Kn V):m<w.heap.size:=by
 obtain ⟨D,h,_⟩:=h;exact h.lt
theorem MapAt.kept (h:MapAt w m n Kn V)(hb:w'.heap[m]?=w.heap[m]?):MapAt w' m n Kn V:=by
 obtain ⟨D,⟨es,clock,h1,r⟩,h2⟩:=h;exact ⟨D,⟨es,clock,hb.trans h1,r⟩,h2⟩
theorem MapAt.below (h:MapAt w m n Kn V)(hb:Below w.heap.size w w'):MapAt w' m n Kn V:=h.kept (hb.block m h.lt)
theorem MapAt.set {C:Nat}(h:MapAt w m n Kn V)(hC:m≠C)(x:Value):MapAt (w.setCell ⟨C,j,none⟩ x) m n Kn V:=by
 obtain ⟨D,h1,h2⟩:=h;exact ⟨D,h1.setCell (by exact hC) _,h2⟩
theorem MapAt.made (w:World):MapAt (w.alloc (.map #[] 0)) w.heap.size 0 (fun _=>false) (fun _=>0) :=
 ⟨.map [],World.ownsMap_made w _ _ _,fun s=>⟨rfl,fun h=>by cases h⟩⟩
theorem MapAt.congr {Kn':ByteArray->Bool}{V':ByteArray->Int}(h:MapAt w m n Kn V)(hK:∀ s,Kn s=Kn' s)(hV:∀ s,Kn' s=true->V s=V' s):MapAt w m n Kn' V':=by
 obtain ⟨D,h1,h2⟩:=h;refine ⟨D,h1,fun s=>⟨(h2 s).1.trans (hK s),fun hs=>?_⟩⟩;rw [(h2 s).2 ((hK s).trans hs),hV s hs]
theorem mapAt_put {D:DataW Unit}{k:ByteArray}{x:Int}(hD:IsMap D)
  (hown:w.ownsMap Tryz.prog 9 (plainElem Tryz.prog 3) m (n+1) (D.put (keyL k) (.lit (.int .i64 x))))
  (h2:∀ s:ByteArray,has D (keyL s)=Kn s∧(Kn s=true->D.atKey (keyL s) (.lit (.int .i64 0))=.lit (.int .i64 (V s)))) :
  MapAt w m (n+1) (fun s=>decide (s=k) || Kn s) (fun s=>if s=k then x else V s):=by
 refine ⟨_,hown,fun s=>?_⟩
 by_cases e:s=k
 ·subst e
  exact ⟨by rw [has_put_same hD (k:=keyL s) trivial];simp,fun _=>by rw [atKey_put_same hD (k:=keyL s) trivial];simp⟩
 refine ⟨by rw [has_put_other (keyL_ne e),(h2 s).1];simp [e],fun hs=>?_⟩;have hs':Kn s=true:=by simpa [e] using hs
 rw [atKey_put_other (keyL_ne e),(h2 s).2 hs'];simp [e]
def allTo (Kn:ByteArray->Bool)(S:Nat->ByteArray):Nat->Bool
 | 0=>true
 | n+1=>allTo Kn S n && Kn (S n)
theorem allTo_le (Kn:ByteArray->Bool)(S:Nat->ByteArray):∀ n k,k<n->Kn (S k)=false->allTo Kn S n=false
 | 0,_,h,_=>absurd h (Nat.not_lt_zero _)
 | n+1,k,h,e=>by
  unfold allTo
  by_cases hk:k=n
  ·subst hk;rw [e];simp
  rw [allTo_le Kn S n k (by omega) e];rfl
def FindPost (w:World)(Kn:ByteArray->Bool)(V:ByteArray->Int)(S:Nat->ByteArray)(k:Nat)(e:Ending)(w':World):Prop :=
 Below w.heap.size w w'∧((allTo Kn S k=true∧∃ v,e=.returned (.tuple #[v,.bool true])∧OwnI w' w.heap.size v k (fun i=>V (S i)))∨(allTo Kn S k=false∧e=.returned (.tuple #[.slice none 0 0,.bool false])))
theorem make_find (n:Nat)(h:n * 8<=140737488351232)(W:World) :
  (Instr.makeSlice 93 (.int .i64 0) (.int .i64 (n:Int))).run Tryz.prog W=.ok (.slice (some ⟨W.heap.size,0,none⟩) 0 n) (W.alloc (.cells (madeCells #[.int .i64 0] n) 3)):=by
 obtain ⟨i0,hi,hz0,hz1,hz2⟩:=info_parts Tryz.infoIntO
 have:=run_make (P:=Tryz.prog) W 93 3 i0 (.int .i64 0) Tryz.underlying93 hi hz0 .i64 .i64 0 (n:Int) (by omega) (by omega) (by rw [hz2];omega) (by omega);rw [this,hz1];simp [Value.cells]
variable {k cap:Nat}{S:Nat->ByteArray}{a:Option Addr}
theorem find_zero (m:Nat)(Kn:ByteArray->Bool)(V:ByteArray->Int)(S:Nat->ByteArray)(a:Option Addr)(cap:Nat)(w:World) :
  Calls Tryz.prog 80 #[.map (some m),.slice a 0 cap] w (FindPost w Kn V S 0):=by
 have hmk:=make_find 0 (by decide) w;simp only [Int.ofNat_zero] at hmk
 go_enter Tryz.func80,Tryz.ntmps80
 go_wp2
 clear hmk;refine wp_loop_rounds 1 ?_;rw [rounds_succ];go_wp2
 refine bodyPost_ret (v:=.tuple #[.slice (some ⟨w.heap.size,0,none⟩) 0 0,.bool true]) (by simp [results,Tryz.results80,go_sem]) rfl ⟨bA,Or.inl ⟨rfl,_,rfl,OwnI.made w _ 0 _ (by decide) (size_madeCells _ _) nL _⟩⟩
theorem find_any (m n:Nat)(Kn:ByteArray->Bool)(V:ByteArray->Int)(S:Nat->ByteArray)(b off k cap:Nat)(w:World)(hm:MapAt w m n Kn V)(hk:k<=1048576)(hb:b<w.heap.size)
  (hs:∀ i,i<k->(S i).size<=maxLen) (hc:∀ i,i<k->w.cell? ⟨b,off+i,none⟩=some (.string (S i))) :
  Calls Tryz.prog 80 #[.map (some m),.slice (some ⟨b,off,none⟩) k cap] w (FindPost w Kn V S k):=by
 obtain ⟨i0,hi,hz0,hz1,hz2⟩:=info_parts Tryz.infoIntO;have hmk:=make_find k (by omega) w
 go_enter Tryz.func80,Tryz.ntmps80
 go_wp2
 clear hmk
 go_loopw [6,16] (fun v i wr=>∃ j:Nat,j<=k∧i=.int .i64 j∧Hid (allTo Kn S j=true)∧OwnI wr w.heap.size v j (fun i=>V (S i))∧Below w.heap.size w wr) (fun _ i _=>k - (intOf i).toNat)
 case atStart=>exact ⟨0,nz,rfl,rfl,OwnI.made w _ k _ (by unfold maxLen;omega) (size_madeCells _ _) nL _,bA⟩
 case round =>
  obtain ⟨j,hj,rfl,hall,hown,hbel⟩:=hrel
  by_cases hlt:j<k
  ·obtain ⟨D,hD,hK⟩:=hm.below hbel
   have hck:wr.cell? ⟨b,off+j,none⟩=some (.string (S j)):=(hbel.cell (by exact hb)).trans (hc j hlt);have hkey:keyOf Tryz.prog 9 (.string (S j))=some (.string (S j).data.toList):=Go.WideMaps.keyOf_string_mk Tryz.underlying9 (hs j hlt);have hhas:has D (.string (S j).data.toList)=Kn (S j):=(hK (S j)).1;have hat0:Hid (Kn (S j)=true->D.atKey (.string (S j).data.toList) (.lit (.int .i64 0))=.lit (.int .i64 (V (S j)))):=(hK (S j)).2;have hm1:j+1<=maxLen:=by unfold maxLen;omega
   have hm2:(j+1) * 8<=140737488355328:=by omega
   have hag:∀ q,u6.ownBlock=some q->w.heap.size<=q:=fun q hq=>(World.ownsRow.lt hown q hq).1
   have hm3:∀ o,w.heap.size<=(wr.alloc o).heap.size:=fun o=>by have:=hbel.size;simp;omega
   clear hK;cases hkn:Kn (S j)
   ·rw [hkn] at hhas
    have hv:Hid (allTo Kn S k=false):=allTo_le Kn S k j hlt hkn
    go_wp2_with (at_lookup;refine wpList_lookup_own_ok_int _ rfl _ _ 59 rfl 9 3 .i64 lawStr Tryz.underlying59 Tryz.underlying3 (zeroInt _) m n D rfl hD _ _ rfl hkey ?_;intro c hat hwc;rw [hhas])
    refine bodyPost_ret (v:=.tuple #[.slice none 0 0,.bool false]) (by simp [results,Tryz.results80,go_sem]) rfl ⟨hbel,Or.inr ⟨hv.out,rfl⟩⟩
   rw [hkn] at hhas;have hall2:Hid (allTo Kn S (j+1)=true):=by unfold Hid allTo;rw [hall.out,hkn];rfl
   have hat1:=hat0.out hkn
   go_wp2_with (first
    | (at_lookup;refine wpList_lookup_own_ok_int _ rfl _ _ 59 rfl 9 3 .i64 lawStr Tryz.underlying59 Tryz.underlying3 (zeroInt _) m n D rfl hD _ _ rfl hkey ?_;intro c hat hwc;rw [hhas];have hcv:Hid (c=V (S j)):=by (have:=hat.symm.trans hat1;simpa [Hid] using this))
    | (at_builtin;refine wpList_append_own _ rfl _ _ 93 rfl w.heap.size 3 i0 (.int .i64 0) 1 8 Tryz.underlying93 hi hz0 hz1 hz2 rfl (by decide) _ _ _ rfl (World.ownsRow.alloc hown _) ⟨wr.heap.size,0,none⟩ 1 1 [.int .i64 c] rfl rfl (one_cellsI _ _ _) (one_oneI _) hm1 hm2 (hm3 _) ?_;intro v2 w2 hown2 hgrow2 _))
   go_roundw
   case rel=>exact ⟨j+1,by omega,by go_num,hall2,OwnI.snoc hown2 hcv.out,(hbel.alloc hbel.size _).grown hgrow2 (hm3 _) hag⟩
   simp [intOf];omega
  have hjk:j=k:=by omega
  subst hjk;go_wp2
  refine bodyPost_ret (v:=.tuple #[u6,.bool true]) (by simp [results,Tryz.results80,go_sem]) rfl ⟨hbel,Or.inl ⟨hall.out,_,rfl,hown⟩⟩
theorem find_sl (w:World)(hm:MapAt w m n Kn V)(hk:k<=1048576)(hs:SlS w a k cap S) :
  Calls Tryz.prog 80 #[.map (some m),.slice a k cap] w (FindPost w Kn V S k):=by
 rcases hs.cells with rfl|⟨b,off,rfl,hb,hc⟩
 ·exact find_zero m Kn V S a cap w
 exact find_any m n Kn V S b off k cap w hm hk hb hs.size hc
theorem knows_sl (w:World)(hm:MapAt w m n Kn V)(hk:k<=1048576)(hs:SlS w a k cap S) :
  Calls Tryz.prog 134 #[.map (some m),.slice a k cap] w fun e w'=>e=.returned (.bool (allTo Kn S k))∧Below w.heap.size w w':=by
 go_enter Tryz.func134,Tryz.ntmps134
 go_wp2_with fail
 refine (find_sl w hm hk hs).mono ?_;rintro e w1 ⟨hb1,hpost⟩;rcases hpost with ⟨ht,v,rfl,_⟩|⟨hf,rfl⟩
 ·have hv:Hid (true=allTo Kn S k):=ht.symm
  clear ht;go_wp2
  go_ret;exact ⟨ret_bool hv.out,hb1⟩
 have hv:Hid (false=allTo Kn S k):=hf.symm;clear hf;go_wp2
 go_ret;exact ⟨ret_bool hv.out,hb1⟩
end Go.Proofs.YtkdalopokdhndaaGreat
namespace Go.Proofs.YtkdalopokdhndaaGreat
open Go.RowKit
def wbB (c:Int):Bool :=
 (decide (97<=c) && decide (c<=122)) || (decide (65<=c) && decide (c<=90)) || (decide (48<=c) && decide (c<=57)) ||
  (c == 95) || (c == 46) || (c == 64) || (c == 36) || (c == 47) || (c == 43)
def bts (s:ByteArray):List Int:=s.data.toList.map fun c=>(c.toNat:Int)
theorem bts_len (s:ByteArray):(bts s).length=s.size:=by rw [bts,List.length_map];rfl
def isW (s:ByteArray):Bool:=(bts s).all wbB && decide (1<=s.size) && decide (s.size<=40)
theorem bts_get (s:ByteArray)(k:Nat)(h:k<s.size):(bts s)[k]'(by rw [bts_len];exact h)=(s[k].toNat:Int):=by
 simp [bts];rfl
theorem all_take_succ (s:ByteArray)(k:Nat)(h:k<s.size):((bts s).take (k+1)).all wbB=(((bts s).take k).all wbB && wbB (s[k].toNat:Int)):=by
 have h':k<(bts s).length:=by rw [bts_len];exact h
 rw [List.take_succ_eq_append_getElem h',List.all_append,bts_get s k h];simp
theorem isW_of_take (s:ByteArray)(k:Nat)(h:k<s.size)(hw:wbB (s[k].toNat:Int)=false):isW s=false:=by
 have h':k<(bts s).length:=by rw [bts_len];exact h
 have:(bts s).all wbB=false:=by
  rw [List.all_eq_false];exact ⟨(bts s)[k],List.getElem_mem h',by rw [bts_get s k h,hw];simp⟩
 simp [isW,this]
theorem isW_of_all (s:ByteArray)(h:(bts s).all wbB=true):isW s=(decide (1<=s.size) && decide (s.size<=40)):=by
 simp [isW,h]
def hasB (S:Nat->ByteArray):Nat->ByteArray->Bool
 | 0,_=>false
 | n+1,s=>hasB S n s || (S n).toList == s.toList
theorem hasB_of (S:Nat->ByteArray)(s:ByteArray):∀ n k,k<n->((S k).toList == s.toList)=true->hasB S n s=true
 | 0,_,h,_=>absurd h (Nat.not_lt_zero _)
 | n+1,k,h,e=>by
  by_cases hk:k=n
  ·subst hk;simp [hasB,e]
  simp [hasB,hasB_of S s n k (by omega) e]
def cntW (S:Nat->ByteArray):Nat->Nat
 | 0=>0
 | n+1=>cntW S n+if isW (S n) then 1 else 0
theorem cntW_le (S:Nat->ByteArray):∀ n,cntW S n<=n
 | 0=>nL
 | n+1=>by have:=cntW_le S n;unfold cntW;split <;> omega
def allW (S:Nat->ByteArray):Nat->Bool
 | 0=>true
 | n+1=>allW S n && isW (S n)
theorem cntW_all (S:Nat->ByteArray):∀ n,(((cntW S n:Nat):Int) == (n:Int))=allW S n
 | 0=>rfl
 | n+1=>by
  have ih:=cntW_all S n;have hle:=cntW_le S n;unfold cntW allW;rw [<- ih];cases h:isW (S n)
  ·simp only [Bool.and_false,Bool.false_eq_true,if_false];rw [beq_eq_false_iff_ne];omega
  simp only [Bool.and_true,if_true];rw [Bool.eq_iff_iff];simp
def refsTo (S:Nat->ByteArray)(id:ByteArray):Nat->Bool
 | 0=>true
 | n+1=>refsTo S id n && (isW (S n) && (!((S n).toList == id.toList) && !hasB S n (S n)))
def refs2To (S:Nat->ByteArray)(id:ByteArray):Nat->Bool
 | 0=>true
 | n+1=>refs2To S id n && (!((S n).toList == id.toList) && !hasB S n (S n))
theorem refsTo_eq (S:Nat->ByteArray)(id:ByteArray):∀ n,refsTo S id n=(allW S n && refs2To S id n)
 | 0=>rfl
 | n+1=>by
  unfold refsTo allW refs2To;rw [refsTo_eq S id n];cases allW S n <;> cases refs2To S id n <;> cases isW (S n) <;> rfl
theorem refsTo_le (S:Nat->ByteArray)(id:ByteArray):∀ n k,k<n->refsTo S id (k+1)=false->refsTo S id n=false
 | 0,_,h,_=>absurd h (Nat.not_lt_zero _)
 | n+1,k,h,e=>by
  by_cases hk:k=n
  ·subst hk;exact e
  unfold refsTo;rw [refsTo_le S id n k (by omega) e];rfl
theorem refs2To_le (S:Nat->ByteArray)(id:ByteArray):∀ n k,k<n->refs2To S id (k+1)=false->refs2To S id n=false
 | 0,_,h,_=>absurd h (Nat.not_lt_zero _)
 | n+1,k,h,e=>by
  by_cases hk:k=n
  ·subst hk;exact e
  unfold refs2To;rw [refs2To_le S id n k (by omega) e];rfl
def refsB (S:Nat->ByteArray)(n:Nat)(id:ByteArray):Bool:=decide (n<=10) && refsTo S id n
def starB (s:ByteArray):Bool:=(bts s).head? == some 42 || (bts s).head? == some 35
def bareS (s:ByteArray):ByteArray:=if starB s then s.extract 1 s.size else s
def nameB (s:ByteArray):Bool:=isW (bareS s)
theorem bts_head (s:ByteArray)(h:0<s.size):(bts s).head?=some (s[0].toNat:Int):=by
 have h':0<(bts s).length:=by rw [bts_len];exact h
 rw [List.head?_eq_getElem?,List.getElem?_eq_getElem h',bts_get s 0 h]
theorem bts_head0 (s:ByteArray)(h:s.size=0):(bts s).head?=none:=by
 rw [List.head?_eq_none_iff];exact List.eq_nil_of_length_eq_zero (by rw [bts_len];exact h)
theorem starB_pos (s:ByteArray)(h:0<s.size):starB s=(((s[0].toNat:Int) == 42) || ((s[0].toNat:Int) == 35)):=by
 simp [starB,bts_head s h]
theorem starB_zero (s:ByteArray)(h:s.size=0):starB s=false:=by
 simp [starB,bts_head0 s h]
def grTo (M:Nat->ByteArray)(L:Nat->Int):Nat->Bool
 | 0=>true
 | n+1=>grTo M L n && (nameB (M n) && (!decide (L n < -1000000) && (!decide (1000000<L n) && (n == 0 || Op.bytesLess (M (n - 1)).toList (M n).toList))))
theorem grTo_le (M:Nat->ByteArray)(L:Nat->Int):∀ n k,k<n->grTo M L (k+1)=false->grTo M L n=false
 | 0,_,h,_=>absurd h (Nat.not_lt_zero _)
 | n+1,k,h,e=>by
  by_cases hk:k=n
  ·subst hk;exact e
  unfold grTo;rw [grTo_le M L n k (by omega) e];rfl
def grB (M:Nat->ByteArray)(L:Nat->Int)(n:Nat):Bool:=grTo M L n && decide (n<=50)
def memB (v:ByteArray):Bool:=v.toList == [106,111,105,110] || (v.toList == [105,110,118,105,116,101] || (v.toList == [108,101,97,118,101] || v.toList == [98,97,110]))
def rulB (v:ByteArray):Bool:=v.toList == [112,117,98,108,105,99] || v.toList == [105,110,118,105,116,101]
def ctB (ty key val:ByteArray)(st:Bool)(np na ng:Nat)(M:Nat->ByteArray)(L:Nat->Int):Bool :=
 if ty.toList == [99,114,101,97,116,101] then st && key.toList.isEmpty && ng == 0 && np == 0 && na == 0 && val.toList.isEmpty
 else if ty.toList == [109,101,109,98,101,114] then st && !key.toList.isEmpty && ng == 0 && memB val
 else if ty.toList == [106,111,105,110,95,114,117,108,101,115] then st && key.toList.isEmpty && ng == 0 && rulB val
 else if ty.toList == [112,111,119,101,114] then st && key.toList.isEmpty && val.toList.isEmpty && grB M L ng
 else ng == 0 && (val.toList.isEmpty || isW val)
def evCode (id sd ty key val:ByteArray)(st:Bool)(tm:Int)(np na ng:Nat)(Pv Av M:Nat->ByteArray)(L:Nat->Int):Int :=
 if isW id=false∨isW sd=false∨isW ty=false then 1
 else if key.toList.isEmpty=false∧(st=false∨isW key=false) then 2
 else if tm<0∨1000000000000<tm then 3
 else if refsB Pv np id=false∨refsB Av na id=false then 4
 else if ctB ty key val st np na ng M L=false then 5
 else 0
end Go.Proofs.YtkdalopokdhndaaGreat
