import Derived.Test.YtpfeegcdlikegaaGreatBaseZ
import Derived.Lib.ItoaLen
set_option maxHeartbeats 16000000
set_option maxRecDepth 100000
namespace Go.Proofs.YtpfeegcdlikegaaGreat
variable {na:Nat}{M:Nat->ByteArray}{L:Nat->Int}
structure Bds (id sd ty key val:ByteArray)(tm:Int)(np na ng:Nat)(Pv Av M:Nat->ByteArray)(L:Nat->Int):Prop where
 hid:id.size<=40
 hsd:sd.size<=40
 hty:ty.size<=40
 hkey:key.size<=40
 hval:val.size<=40
 t0:0<=tm
 t1:tm<=1000000000000
 hnp:np<=10
 hna:na<=10
 hng:ng<=50
 p:∀ i,i<np->(Pv i).size<=40
 a:∀ i,i<na->(Av i).size<=40
 m:∀ i,i<ng->(M i).size<=41
 l0:∀ i,i<ng->-1000000<=L i
 l1:∀ i,i<ng->L i<=1000000
theorem fT {s:ByteArray}(h:cU s=true):s.size<=40:=by
 simp only [cU,Bool.and_eq_true,decide_eq_true_eq] at h;exact h.2
theorem qJ (s:ByteArray):s.size=s.toList.length:=by
 rw [ByteArray.toList_eq,Array.length_toList];rfl
theorem yX {s:ByteArray}{l:List UInt8}(h:(s.toList == l)=true):s.size=l.length:=by
 rw [qJ,eq_of_beq h]
theorem jX {s:ByteArray}(h:s.toList.isEmpty=true):s.size=0:=by
 rw [qJ,List.isEmpty_iff.1 h];rfl
theorem lS (S:Nat->ByteArray)(id:ByteArray):∀ n,fM S id n=true->∀ i,i<n->(S i).size<=40
 | 0,_,i,hi=>absurd hi (Nat.not_lt_zero _)
 | n+1,h,i,hi=>by
  unfold fM at h;simp only [Bool.and_eq_true] at h
  by_cases e:i=n
  ·subst e;exact fT h.2.1
  exact lS S id n h.1 i (by omega)
theorem LE (s:ByteArray):s.size<=(gF s).size+1:=by
 unfold gF;split
 ·rw [ByteArray.size_extract];omega
 omega
theorem vI (M:Nat->ByteArray)(L:Nat->Int):∀ n,fX M L n=true->∀ i,i<n->(M i).size<=41/\-1000000<=L i/\L i<=1000000
 | 0,_,i,hi=>absurd hi (Nat.not_lt_zero _)
 | n+1,h,i,hi=>by
  unfold fX at h;simp only [Bool.and_eq_true,Bool.not_eq_true',decide_eq_false_iff_not] at h
  by_cases e:i=n
  ·subst e
   refine ⟨?_,by omega,by omega⟩
   have:=fT h.2.1
   have:=LE (M i);omega
  exact vI M L n h.1 i (by omega)
theorem JB {v:ByteArray}(h:uO v=true):v.size<=40:=by
 simp only [uO,Bool.or_eq_true] at h;rcases h with h|h|h|h <;> (rw [yX h];decide)
theorem LD {v:ByteArray}(h:zF v=true):v.size<=40:=by
 simp only [zF,Bool.or_eq_true] at h;rcases h with h|h <;> (rw [yX h];decide)
theorem WK {ty key val:ByteArray}{st:Bool}{np ng:Nat}(h:kT ty key val st np na ng M L=true) :
  val.size<=40/\ng<=50/\∀ i,i<ng->(M i).size<=41/\-1000000<=L i/\L i<=1000000:=by
 unfold kT at h;split at h
 ·simp only [Bool.and_eq_true,beq_iff_eq] at h
  have u:ng=0:=h.1.1.1.2;subst u;exact ⟨by rw [jX h.2];decide,by decide,fun i hi=>absurd hi (Nat.not_lt_zero _)⟩
 split at h
 ·simp only [Bool.and_eq_true,beq_iff_eq] at h
  have u:ng=0:=h.1.2;subst u;exact ⟨JB h.2,by decide,fun i hi=>absurd hi (Nat.not_lt_zero _)⟩
 split at h
 ·simp only [Bool.and_eq_true,beq_iff_eq] at h
  have u:ng=0:=h.1.2;subst u;exact ⟨LD h.2,by decide,fun i hi=>absurd hi (Nat.not_lt_zero _)⟩
 split at h
 ·simp only [Bool.and_eq_true,rC,decide_eq_true_eq] at h
  exact ⟨by rw [jX h.1.2];decide,h.2.2,vI M L ng h.2.1⟩
 simp only [Bool.and_eq_true,Bool.or_eq_true,beq_iff_eq] at h;have u:ng=0:=h.1;subst u;refine ⟨?_,by decide,fun i hi=>absurd hi (Nat.not_lt_zero _)⟩;rcases h.2 with h|h
 ·rw [jX h];decide
 exact fT h
theorem DG {id sd ty key val:ByteArray}{st:Bool}{tm:Int}{np ng:Nat}{Pv Av:Nat->ByteArray}
  (h:bF id sd ty key val st tm np na ng Pv Av M L=0):Bds id sd ty key val tm np na ng Pv Av M L:=by
 unfold bF at h;split at h
 ·cases h
 rename_i h1;split at h
 ·cases h
 rename_i h2;split at h
 ·cases h
 rename_i h3;split at h
 ·cases h
 rename_i h4;split at h
 ·cases h
 rename_i h5;have w1:cU id=true:=by simpa using fun e=>h1 (Or.inl e)
 have w2:cU sd=true:=by simpa using fun e=>h1 (Or.inr (Or.inl e))
 have w3:cU ty=true:=by simpa using fun e=>h1 (Or.inr (Or.inr e))
 have r1:cG Pv np id=true:=by simpa using fun e=>h4 (Or.inl e)
 have u:cG Av na id=true:=by simpa using fun e=>h4 (Or.inr e)
 have c:=WK (by simpa using h5);simp only [cG,Bool.and_eq_true,decide_eq_true_eq] at r1 u;refine ⟨fT w1,fT w2,fT w3,?_,c.1,by omega,by omega,r1.1,u.1,c.2.1,lS _ _ _ r1.2,lS _ _ _ u.2,fun i hi=>(c.2.2 i hi).1,fun i hi=>(c.2.2 i hi).2.1,fun i hi=>(c.2.2 i hi).2.2⟩;cases hk:key.toList.isEmpty
 ·exact fT (by simpa using fun e=>h2 ⟨hk,Or.inr e⟩)
 rw [jX hk];decide
end Go.Proofs.YtpfeegcdlikegaaGreat
namespace Go.Proofs.YtpfeegcdlikegaaGreat
open Go.RowKit
variable {w w':World}{n base size:Nat}{v:Value}{xs:List Value}{S:Nat->ByteArray}
theorem Tryz.infoString:(Tryz.prog.info? 9).map (fun i=>(i.zero,i.size,i.bytes))=some (some (.string ByteArray.empty),1,16):=by kernel_rfl
theorem eK {e:Nat}(h:w.ownsRow base e size v n xs)(hb:Below w.heap.size w w'):w'.ownsRow base e size v n xs:=by
 obtain ⟨J,H⟩:=h;refine ⟨J,?_⟩;rcases H with H|⟨g,cap,u,N,hg,hh,r⟩
 ·exact Or.inl H
 have I:g<w.heap.size:=by
  rcases Nat.lt_or_ge g w.heap.size with G|G
  ·exact G
  rw [Array.getElem?_eq_none G] at hh;cases hh
 exact Or.inr ⟨g,cap,u,N,hg,by rw [hb.block g I];exact hh,r⟩
def dT (S:Nat->ByteArray)(n:Nat):List Value:=(List.range n).map fun i=>.string (S i)
theorem dZ (S:Nat->ByteArray)(n:Nat):(dT S n).length=n:=by simp [dT]
theorem gT (S:Nat->ByteArray)(n i:Nat)(h:i<n):(dT S n)[i]?=some (.string (S i)):=by simp [dT,h]
theorem KD (S:Nat->ByteArray)(n:Nat):dT S n ++ [.string (S n)]=dT S (n+1):=by simp [dT,List.range_succ]
def bU (w:World)(base:Nat)(v:Value)(n:Nat)(S:Nat->ByteArray):Prop:=w.ownsRow base 9 1 v n (dT S n)
theorem bU.below (h:bU w base v n S)(hb:Below w.heap.size w w'):bU w' base v n S:=eK h hb
theorem bU.snoc {x:ByteArray}(h:w.ownsRow base 9 1 v (n+1) (dT S n ++ [.string x]))(u:x=S n):bU w base v (n+1) S:=by
 subst u;rw [KD] at h;exact h
theorem bU.new (w:World)(base:Nat)(hb:base<=w.heap.size)(S:Nat->ByteArray):bU (w.alloc (.cells #[] 9)) base (.slice (some ⟨w.heap.size,0,none⟩) 0 0) 0 S :=
 ⟨rfl,Or.inr ⟨w.heap.size,0,#[],rfl,hb,by show (w.heap.push _)[w.heap.size]?=_;simp,nL,by decide,rfl,rfl⟩⟩
theorem bU.cells (h:bU w base v n S) :
  (v=.slice none 0 0/\n=0)\/∃ g cap,v=.slice (some ⟨g,0,none⟩) n cap/\base<=g/\g<w.heap.size/\n<=cap/\cap<=maxLen/\∀ i,i<n->w.cell? ⟨g,0+i,none⟩=some (.string (S i)):=by
 obtain ⟨h1,U⟩:=h;rcases U with ⟨rfl,O⟩|⟨g,cap,H,rfl,hg,hh,Y,Z,I,J⟩
 ·exact Or.inl ⟨rfl,O⟩
 have G:g<w.heap.size:=by
  rcases Nat.lt_or_ge g w.heap.size with u|u
  ·exact u
  rw [Array.getElem?_eq_none u] at hh;cases hh
 refine Or.inr ⟨g,cap,rfl,hg,G,Y,Z,fun j N=>?_⟩;rw [<- gT S n j N,<- J,List.getElem?_take,if_pos (by omega),Nat.zero_add];simp [World.cell?,hh]
theorem bU.sl (h:bU w base v n S)(G:∀ i,i<n->(S i).size<=maxLen) :
  ∃ a cap,v=.slice a n cap/\dE w a n cap S:=by
 rcases h.cells with ⟨rfl,rfl⟩|⟨g,cap,rfl,hg,u,I,J,H⟩
 ·exact ⟨none,0,rfl,⟨nL,by decide,G,Or.inl rfl⟩⟩
 exact ⟨_,cap,rfl,⟨I,J,G,Or.inr ⟨g,0,rfl,u,H⟩⟩⟩
theorem aV (w1:World)(x:Value)(t:TypeId)(j:Nat)(u:Value)(h:[x][j]?=some u):(w1.alloc (.cells #[x] t)).cell? ((⟨w1.heap.size,0,none⟩:Addr).add j)=some u:=by
 have H:j<1:=by
  rcases Nat.lt_or_ge j 1 with G|G
  ·exact G
  rw [List.getElem?_eq_none (by simpa using G)] at h;cases h
 match j,H,h with
 | 0,_,h=>rw [show (⟨w1.heap.size,0,none⟩:Addr).add 0=⟨w1.heap.size,0,none⟩ from rfl,kA rfl];exact h
theorem bL (x:ByteArray)(u:Value)(h:u ∈ [Value.string x]):u.oneCell'=true:=by
 simp only [List.mem_cons,List.not_mem_nil,or_false] at h;subst h;rfl
variable {M:Nat->ByteArray}{L:Nat->Int}
theorem Tryz.infoGrant:(Tryz.prog.info? 127).map (fun i=>(i.zero,i.size,i.bytes))=some (some (.agg #[.string ByteArray.empty,.int .i64 0]),2,24):=by kernel_rfl
def eQ (M:Nat->ByteArray)(L:Nat->Int)(n:Nat):List Value:=(List.range n).flatMap fun i=>[.string (M i),.int .i64 (L i)]
theorem iN (M:Nat->ByteArray)(L:Nat->Int)(n:Nat):eQ M L n ++ [.string (M n),.int .i64 (L n)]=eQ M L (n+1):=by simp [eQ,List.range_succ]
theorem gU (M:Nat->ByteArray)(L:Nat->Int)(n:Nat):(eQ M L n).length=n * 2:=by
 induction n with
 | zero=>rfl
 | succ n ih=>rw [<- iN,List.length_append,ih];simp;omega
theorem gQ (M:Nat->ByteArray)(L:Nat->Int):∀ n i,i<n->(eQ M L n)[i * 2]?=some (.string (M i))/\(eQ M L n)[i * 2+1]?=some (.int .i64 (L i))
 | 0,_,h=>absurd h (Nat.not_lt_zero _)
 | n+1,i,h=>by
  rw [<- iN]
  by_cases e:i=n
  ·subst e
   rw [List.getElem?_append_right (by rw [gU];omega),List.getElem?_append_right (by rw [gU];omega),gU];simp
  have:=gQ M L n i (by omega);rw [List.getElem?_append_left (by rw [gU];omega),List.getElem?_append_left (by rw [gU];omega)];exact this
def bV (w:World)(base:Nat)(v:Value)(n:Nat)(M:Nat->ByteArray)(L:Nat->Int):Prop:=w.ownsRow base 127 2 v n (eQ M L n)
theorem bV.below (h:bV w base v n M L)(hb:Below w.heap.size w w'):bV w' base v n M L:=eK h hb
theorem bV.snoc {x:ByteArray}{z:Int}(h:w.ownsRow base 127 2 v (n+1) (eQ M L n ++ [.string x,.int .i64 z]))(u:x=M n)(hz:z=L n):bV w base v (n+1) M L:=by
 subst u hz;rw [iN] at h;exact h
theorem bV.nil (w:World)(base:Nat)(M:Nat->ByteArray)(L:Nat->Int):bV w base (.slice none 0 0) 0 M L:=⟨rfl,Or.inl ⟨rfl,rfl⟩⟩
theorem bV.new (w:World)(base:Nat)(hb:base<=w.heap.size)(M:Nat->ByteArray)(L:Nat->Int):bV (w.alloc (.cells #[] 127)) base (.slice (some ⟨w.heap.size,0,none⟩) 0 0) 0 M L :=
 ⟨rfl,Or.inr ⟨w.heap.size,0,#[],rfl,hb,by show (w.heap.push _)[w.heap.size]?=_;simp,nL,by decide,rfl,rfl⟩⟩
def SlW (w:World)(base:Nat)(a:Option Addr)(n sz:Nat):Prop :=
 n=0\/∃ b off,a=some ⟨b,off,none⟩/\base<=b/\b<w.heap.size/\∀ i,i<n * sz->(∃ v,w.cell? ⟨b,off+i,none⟩=some v)/\w.frozen? ⟨b,off+i,none⟩=false
theorem cX {e:Nat}(h:w.ownsRow base e size v n xs) :
  (v=.slice none 0 0/\n=0)\/∃ g cap,v=.slice (some ⟨g,0,none⟩) n cap/\base<=g/\g<w.heap.size/\n<=cap/\cap<=maxLen/\(∀ j,j<n * size->w.cell? ⟨g,0+j,none⟩=xs[j]?)/\∀ j,w.frozen? ⟨g,j,none⟩=false:=by
 obtain ⟨h1,U⟩:=h;rcases U with ⟨rfl,O⟩|⟨g,cap,H,rfl,hg,hh,Y,Z,I,J⟩
 ·exact Or.inl ⟨rfl,O⟩
 have G:g<w.heap.size:=by
  rcases Nat.lt_or_ge g w.heap.size with u|u
  ·exact u
  rw [Array.getElem?_eq_none u] at hh;cases hh
 refine Or.inr ⟨g,cap,rfl,hg,G,Y,Z,fun j N=>?_,fun j=>?_⟩
 ·rw [<- J,List.getElem?_take,if_pos N,Nat.zero_add]
  simp [World.cell?,hh]
 simp [World.frozen?,hh]
theorem bU.slw (h:bU w base v n S)(G:∀ i,i<n->(S i).size<=maxLen) :
  ∃ a cap,v=.slice a n cap/\dE w a n cap S/\SlW w base a n 1:=by
 rcases cX h with ⟨rfl,rfl⟩|⟨g,cap,rfl,hg,u,J,N,H,I⟩
 ·exact ⟨none,0,rfl,⟨nL,by decide,G,Or.inl rfl⟩,Or.inl rfl⟩
 refine ⟨_,cap,rfl,⟨J,N,G,Or.inr ⟨g,0,rfl,u,fun i hi=>?_⟩⟩,Or.inr ⟨g,0,rfl,hg,u,fun i hi=>⟨?_,I _⟩⟩⟩
 ·rw [H _ (by omega)];exact gT S n i hi
 exact ⟨_,(H i hi).trans (List.getElem?_eq_getElem (by rw [dZ];omega))⟩
end Go.Proofs.YtpfeegcdlikegaaGreat
