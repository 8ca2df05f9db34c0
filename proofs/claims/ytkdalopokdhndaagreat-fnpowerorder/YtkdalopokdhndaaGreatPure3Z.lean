import Derived.Test.YtkdalopokdhndaaGreatBaseZ
import Derived.Lib.Join
import Derived.Lib.ItoaNum
import Derived.Lib.ItoaLen
set_option maxHeartbeats 16000000
set_option maxRecDepth 100000
namespace Go.Proofs.YtkdalopokdhndaaGreat
open Go.RowKit
def starB (s:ByteArray):Bool:=(bts s).head? == some 42 || (bts s).head? == some 35
def bareS (s:ByteArray):ByteArray:=if starB s then s.extract 1 s.size else s
def nameB (s:ByteArray):Bool:=isW (bareS s)
theorem bts_head (s:ByteArray)(h:0<s.size):(bts s).head?=some (s[0].toNat:Int):=by
 have h':0<(bts s).length:=by rw [bts_len];exact h
 rw [List.head?_eq_getElem?,List.getElem?_eq_getElem h',bts_get s 0 h]
theorem bts_head0 (s:ByteArray)(h:s.size=0):(bts s).head?=none:=by
 rw [List.head?_eq_none_iff];exact List.eq_nil_of_length_eq_zero (by rw [bts_len];exact h)
theorem starB_pos (s:ByteArray)(h:0<s.size):starB s=(((s[0].toNat:Int) == 42) || ((s[0].toNat:Int) == 35)):=by
 simp [starB,bts_head s h]
theorem starB_zero (s:ByteArray)(h:s.size=0):starB s=false:=by
 simp [starB,bts_head0 s h]
def grTo (M:Nat->ByteArray)(L:Nat->Int):Nat->Bool
 | 0=>true
 | n+1=>grTo M L n && (nameB (M n) && (!decide (L n < -1000000) && (!decide (1000000<L n) && (n == 0 || Op.bytesLess (M (n - 1)).toList (M n).toList))))
theorem grTo_le (M:Nat->ByteArray)(L:Nat->Int):∀ n k,k<n->grTo M L (k+1)=false->grTo M L n=false
 | 0,_,h,_=>absurd h (Nat.not_lt_zero _)
 | n+1,k,h,e=>by
  by_cases hk:k=n
  ·subst hk;exact e
  unfold grTo;rw [grTo_le M L n k (by omega) e];rfl
def grB (M:Nat->ByteArray)(L:Nat->Int)(n:Nat):Bool:=grTo M L n && decide (n<=50)
def memB (v:ByteArray):Bool:=v.toList == [106,111,105,110] || (v.toList == [105,110,118,105,116,101] || (v.toList == [108,101,97,118,101] || v.toList == [98,97,110]))
def rulB (v:ByteArray):Bool:=v.toList == [112,117,98,108,105,99] || v.toList == [105,110,118,105,116,101]
def ctB (ty key val:ByteArray)(st:Bool)(np na ng:Nat)(M:Nat->ByteArray)(L:Nat->Int):Bool :=
 if ty.toList == [99,114,101,97,116,101] then st && key.toList.isEmpty && ng == 0 && np == 0 && na == 0 && val.toList.isEmpty
 else if ty.toList == [109,101,109,98,101,114] then st && !key.toList.isEmpty && ng == 0 && memB val
 else if ty.toList == [106,111,105,110,95,114,117,108,101,115] then st && key.toList.isEmpty && ng == 0 && rulB val
 else if ty.toList == [112,111,119,101,114] then st && key.toList.isEmpty && val.toList.isEmpty && grB M L ng
 else ng == 0 && (val.toList.isEmpty || isW val)
def evCode (id sd ty key val:ByteArray)(st:Bool)(tm:Int)(np na ng:Nat)(Pv Av M:Nat->ByteArray)(L:Nat->Int):Int :=
 if isW id=false∨isW sd=false∨isW ty=false then 1
 else if key.toList.isEmpty=false∧(st=false∨isW key=false) then 2
 else if tm<0∨1000000000000<tm then 3
 else if refsB Pv np id=false∨refsB Av na id=false then 4
 else if ctB ty key val st np na ng M L=false then 5
 else 0
end Go.Proofs.YtkdalopokdhndaaGreat
namespace Go.Proofs.YtkdalopokdhndaaGreat
def joinB (S:Nat->ByteArray)(sep:ByteArray):Nat->ByteArray
 | 0=>ByteArray.empty
 | k+1=>if k=0 then S 0 else joinB S sep k ++ sep ++ S k
theorem joinB_size_le (S : Nat -> ByteArray) (sep : ByteArray) : ∀ {n k : Nat}, k <= n -> (joinB S sep k).size <= (joinB S sep n).size
  | 0, k, h => by have : k = 0 := by omega
                  subst this; exact nL
  | n + 1, k, h => by
    by_cases e : k = n + 1
    · subst e; exact nL
    · refine nZ (joinB_size_le S sep (n := n) (by omega)) ?_
      by_cases h0 : n = 0
      · subst h0; simp [joinB]
      · rw [joinB, if_neg h0, ByteArray.size_append, ByteArray.size_append]; omega
variable {s:ByteArray}{na:Nat}{M:Nat->ByteArray}
structure Bds (id sd ty key val:ByteArray)(tm:Int)(np na ng:Nat)(Pv Av M:Nat->ByteArray)(L:Nat->Int):Prop where
 hid:id.size<=40
 hsd:sd.size<=40
 hty:ty.size<=40
 hkey:key.size<=40
 hval:val.size<=40
 t0:0<=tm
 t1:tm<=1000000000000
 hnp:np<=10
 hna:na<=10
 hng:ng<=50
 p:∀ i,i<np->(Pv i).size<=40
 a:∀ i,i<na->(Av i).size<=40
 m:∀ i,i<ng->(M i).size<=41
 l0:∀ i,i<ng->-1000000<=L i
 l1:∀ i,i<ng->L i<=1000000
theorem isW_size (h:isW s=true):s.size<=40:=by
 simp only [isW,Bool.and_eq_true,decide_eq_true_eq] at h;exact h.2
theorem size_list (s:ByteArray):s.size=s.toList.length:=by
 rw [ByteArray.toList_eq,Array.length_toList];rfl
theorem size_beq {l:List UInt8}(h:(s.toList == l)=true):s.size=l.length:=by
 rw [size_list,eq_of_beq h]
theorem size_empty (h:s.toList.isEmpty=true):s.size=0:=by
 rw [size_list,List.isEmpty_iff.1 h];rfl
theorem refsTo_size (S:Nat->ByteArray)(id:ByteArray):∀ n,refsTo S id n=true->∀ i,i<n->(S i).size<=40
 | 0,_,i,hi=>absurd hi (Nat.not_lt_zero _)
 | n+1,h,i,hi=>by
  unfold refsTo at h;simp only [Bool.and_eq_true] at h
  by_cases e:i=n
  ·subst e;exact isW_size h.2.1
  exact refsTo_size S id n h.1 i (by omega)
theorem bare_size (s:ByteArray):s.size<=(bareS s).size+1:=by
 unfold bareS;split
 ·rw [ByteArray.size_extract];omega
 omega
theorem grTo_size (M:Nat->ByteArray)(L:Nat->Int):∀ n,grTo M L n=true->∀ i,i<n->(M i).size<=41∧-1000000<=L i∧L i<=1000000
 | 0,_,i,hi=>absurd hi (Nat.not_lt_zero _)
 | n+1,h,i,hi=>by
  unfold grTo at h;simp only [Bool.and_eq_true,Bool.not_eq_true',decide_eq_false_iff_not] at h
  by_cases e:i=n
  ·subst e
   refine ⟨?_,by omega,by omega⟩
   have:=isW_size h.2.1
   have:=bare_size (M i);omega
  exact grTo_size M L n h.1 i (by omega)
theorem memB_size {v:ByteArray}(h:memB v=true):v.size<=40:=by
 simp only [memB,Bool.or_eq_true] at h;rcases h with h|h|h|h <;> (rw [size_beq h];decide)
theorem rulB_size {v:ByteArray}(h:rulB v=true):v.size<=40:=by
 simp only [rulB,Bool.or_eq_true] at h;rcases h with h|h <;> (rw [size_beq h];decide)
theorem ct_bds {ty key val:ByteArray}{st:Bool}{np ng:Nat}{L:Nat->Int}(h:ctB ty key val st np na ng M L=true) :
  val.size<=40∧ng<=50∧∀ i,i<ng->(M i).size<=41∧-1000000<=L i∧L i<=1000000:=by
 unfold ctB at h;split at h
 ·simp only [Bool.and_eq_true,beq_iff_eq] at h
  have h0:ng=0:=h.1.1.1.2;subst h0;exact ⟨by rw [size_empty h.2];decide,by decide,fun i hi=>absurd hi (Nat.not_lt_zero _)⟩
 split at h
 ·simp only [Bool.and_eq_true,beq_iff_eq] at h
  have h0:ng=0:=h.1.2;subst h0;exact ⟨memB_size h.2,by decide,fun i hi=>absurd hi (Nat.not_lt_zero _)⟩
 split at h
 ·simp only [Bool.and_eq_true,beq_iff_eq] at h
  have h0:ng=0:=h.1.2;subst h0;exact ⟨rulB_size h.2,by decide,fun i hi=>absurd hi (Nat.not_lt_zero _)⟩
 split at h
 ·simp only [Bool.and_eq_true,grB,decide_eq_true_eq] at h
  exact ⟨by rw [size_empty h.1.2];decide,h.2.2,grTo_size M L ng h.2.1⟩
 simp only [Bool.and_eq_true,Bool.or_eq_true,beq_iff_eq] at h;have h0:ng=0:=h.1;subst h0;refine ⟨?_,by decide,fun i hi=>absurd hi (Nat.not_lt_zero _)⟩;rcases h.2 with h|h
 ·rw [size_empty h];decide
 exact isW_size h
theorem evCode_bds {id sd ty key val:ByteArray}{st:Bool}{tm:Int}{np ng:Nat}{Pv Av:Nat->ByteArray}{L:Nat->Int}
  (h:evCode id sd ty key val st tm np na ng Pv Av M L=0):Bds id sd ty key val tm np na ng Pv Av M L:=by
 unfold evCode at h;split at h
 ·cases h
 rename_i h1;split at h
 ·cases h
 rename_i h2;split at h
 ·cases h
 rename_i h3;split at h
 ·cases h
 rename_i h4;split at h
 ·cases h
 rename_i h5;have w1:isW id=true:=by simpa using fun e=>h1 (Or.inl e)
 have w2:isW sd=true:=by simpa using fun e=>h1 (Or.inr (Or.inl e))
 have w3:isW ty=true:=by simpa using fun e=>h1 (Or.inr (Or.inr e))
 have r1:refsB Pv np id=true:=by simpa using fun e=>h4 (Or.inl e)
 have r2:refsB Av na id=true:=by simpa using fun e=>h4 (Or.inr e)
 have c:=ct_bds (by simpa using h5);simp only [refsB,Bool.and_eq_true,decide_eq_true_eq] at r1 r2;refine ⟨isW_size w1,isW_size w2,isW_size w3,?_,c.1,by omega,by omega,r1.1,r2.1,c.2.1,refsTo_size _ _ _ r1.2,refsTo_size _ _ _ r2.2,fun i hi=>(c.2.2 i hi).1,fun i hi=>(c.2.2 i hi).2.1,fun i hi=>(c.2.2 i hi).2.2⟩;cases hk:key.toList.isEmpty
 ·exact isW_size (by simpa using fun e=>h2 ⟨hk,Or.inr e⟩)
 rw [size_empty hk];decide
end Go.Proofs.YtkdalopokdhndaaGreat
namespace Go.Proofs.YtkdalopokdhndaaGreat
open Go.RowKit
variable {w w':World}{n base size:Nat}{v:Value}{xs:List Value}{S:Nat->ByteArray}{x:ByteArray}
theorem Tryz.infoString:(Tryz.prog.info? 9).map (fun i=>(i.zero,i.size,i.bytes))=some (some (.string ByteArray.empty),1,16):=by kernel_rfl
theorem ownsRow_blw {e:Nat}(h:w.ownsRow base e size v n xs)(hb:Below w.heap.size w w'):w'.ownsRow base e size v n xs:=by
 obtain ⟨h1,h2⟩:=h;refine ⟨h1,?_⟩;rcases h2 with h2|⟨g,cap,cur,hv,hg,hh,r⟩
 ·exact Or.inl h2
 have hlt:g<w.heap.size:=by
  rcases Nat.lt_or_ge g w.heap.size with h'|h'
  ·exact h'
  rw [Array.getElem?_eq_none h'] at hh;cases hh
 exact Or.inr ⟨g,cap,cur,hv,hg,by rw [hb.block g hlt];exact hh,r⟩
def strs (S:Nat->ByteArray)(n:Nat):List Value:=(List.range n).map fun i=>.string (S i)
theorem strs_len (S:Nat->ByteArray)(n:Nat):(strs S n).length=n:=by simp [strs]
theorem strs_get (S:Nat->ByteArray)(n i:Nat)(h:i<n):(strs S n)[i]?=some (.string (S i)):=by simp [strs,h]
theorem strs_snoc (S:Nat->ByteArray)(n:Nat):strs S n ++ [.string (S n)]=strs S (n+1):=by simp [strs,List.range_succ]
def OwnT (w:World)(base:Nat)(v:Value)(n:Nat)(S:Nat->ByteArray):Prop:=w.ownsRow base 9 1 v n (strs S n)
theorem OwnT.below (h:OwnT w base v n S)(hb:Below w.heap.size w w'):OwnT w' base v n S:=ownsRow_blw h hb
theorem OwnT.snoc (h:w.ownsRow base 9 1 v (n+1) (strs S n ++ [.string x]))(hx:x=S n):OwnT w base v (n+1) S:=by
 subst hx;rw [strs_snoc] at h;exact h
theorem OwnT.nil (w:World)(base:Nat)(S:Nat->ByteArray):OwnT w base (.slice none 0 0) 0 S:=⟨rfl,Or.inl ⟨rfl,rfl⟩⟩
theorem OwnT.new (w:World)(base:Nat)(hb:base<=w.heap.size)(S:Nat->ByteArray):OwnT (w.alloc (.cells #[] 9)) base (.slice (some ⟨w.heap.size,0,none⟩) 0 0) 0 S :=
 ⟨rfl,Or.inr ⟨w.heap.size,0,#[],rfl,hb,by show (w.heap.push _)[w.heap.size]?=_;simp,nL,by decide,rfl,rfl⟩⟩
theorem OwnT.cells (h:OwnT w base v n S) :
  (v=.slice none 0 0∧n=0)∨∃ g cap,v=.slice (some ⟨g,0,none⟩) n cap∧base<=g∧g<w.heap.size∧n<=cap∧cap<=maxLen∧∀ i,i<n->w.cell? ⟨g,0+i,none⟩=some (.string (S i)):=by
 obtain ⟨h1,h2⟩:=h;rcases h2 with ⟨rfl,h0⟩|⟨g,cap,cur,rfl,hg,hh,hn,hc,hcs,hx⟩
 ·exact Or.inl ⟨rfl,h0⟩
 have hlt:g<w.heap.size:=by
  rcases Nat.lt_or_ge g w.heap.size with h'|h'
  ·exact h'
  rw [Array.getElem?_eq_none h'] at hh;cases hh
 refine Or.inr ⟨g,cap,rfl,hg,hlt,hn,hc,fun j hj=>?_⟩;rw [<- strs_get S n j hj,<- hx,List.getElem?_take,if_pos (by omega),Nat.zero_add];simp [World.cell?,hh]
theorem OwnT.sl (h:OwnT w base v n S)(hs:∀ i,i<n->(S i).size<=maxLen) :
  ∃ a cap,v=.slice a n cap∧SlS w a n cap S:=by
 rcases h.cells with ⟨rfl,rfl⟩|⟨g,cap,rfl,hg,hlt,hn,hc,hx⟩
 ·exact ⟨none,0,rfl,⟨nL,by decide,hs,Or.inl rfl⟩⟩
 exact ⟨_,cap,rfl,⟨hn,hc,hs,Or.inr ⟨g,0,rfl,hlt,hx⟩⟩⟩
theorem one_cells (w1:World)(x:Value)(t:TypeId)(j:Nat)(u:Value)(h:[x][j]?=some u):(w1.alloc (.cells #[x] t)).cell? ((⟨w1.heap.size,0,none⟩:Addr).add j)=some u:=by
 have hj:j<1:=by
  rcases Nat.lt_or_ge j 1 with h'|h'
  ·exact h'
  rw [List.getElem?_eq_none (by simpa using h')] at h;cases h
 match j,hj,h with
 | 0,_,h=>rw [show (⟨w1.heap.size,0,none⟩:Addr).add 0=⟨w1.heap.size,0,none⟩ from rfl,kA rfl];exact h
theorem one_one (x:ByteArray)(u:Value)(h:u ∈ [Value.string x]):u.oneCell'=true:=by
 simp only [List.mem_cons,List.not_mem_nil,or_false] at h;subst h;rfl
variable {M:Nat->ByteArray}
theorem Tryz.infoGrant:(Tryz.prog.info? 166).map (fun i=>(i.zero,i.size,i.bytes))=some (some (.agg #[.string ByteArray.empty,.int .i64 0]),2,24):=by kernel_rfl
def encG (M:Nat->ByteArray)(L:Nat->Int)(n:Nat):List Value:=(List.range n).flatMap fun i=>[.string (M i),.int .i64 (L i)]
theorem encG_snoc (M:Nat->ByteArray)(L:Nat->Int)(n:Nat):encG M L n ++ [.string (M n),.int .i64 (L n)]=encG M L (n+1):=by simp [encG,List.range_succ]
theorem encG_len (M:Nat->ByteArray)(L:Nat->Int)(n:Nat):(encG M L n).length=n * 2:=by
 induction n with
 | zero=>rfl
 | succ n ih=>rw [<- encG_snoc,List.length_append,ih];simp;omega
theorem encG_get (M:Nat->ByteArray)(L:Nat->Int):∀ n i,i<n->(encG M L n)[i * 2]?=some (.string (M i))∧(encG M L n)[i * 2+1]?=some (.int .i64 (L i))
 | 0,_,h=>absurd h (Nat.not_lt_zero _)
 | n+1,i,h=>by
  rw [<- encG_snoc]
  by_cases e:i=n
  ·subst e
   rw [List.getElem?_append_right (by rw [encG_len];omega),List.getElem?_append_right (by rw [encG_len];omega),encG_len];simp
  have:=encG_get M L n i (by omega);rw [List.getElem?_append_left (by rw [encG_len];omega),List.getElem?_append_left (by rw [encG_len];omega)];exact this
def OwnG (w:World)(base:Nat)(v:Value)(n:Nat)(M:Nat->ByteArray)(L:Nat->Int):Prop:=w.ownsRow base 166 2 v n (encG M L n)
theorem OwnG.below {L:Nat->Int}(h:OwnG w base v n M L)(hb:Below w.heap.size w w'):OwnG w' base v n M L:=ownsRow_blw h hb
theorem OwnG.snoc {L:Nat->Int}{z:Int}(h:w.ownsRow base 166 2 v (n+1) (encG M L n ++ [.string x,.int .i64 z]))(hx:x=M n)(hz:z=L n):OwnG w base v (n+1) M L:=by
 subst hx hz;rw [encG_snoc] at h;exact h
theorem OwnG.nil (w:World)(base:Nat)(M:Nat->ByteArray)(L:Nat->Int):OwnG w base (.slice none 0 0) 0 M L:=⟨rfl,Or.inl ⟨rfl,rfl⟩⟩
theorem OwnG.new (w:World)(base:Nat)(hb:base<=w.heap.size)(M:Nat->ByteArray)(L:Nat->Int):OwnG (w.alloc (.cells #[] 166)) base (.slice (some ⟨w.heap.size,0,none⟩) 0 0) 0 M L :=
 ⟨rfl,Or.inr ⟨w.heap.size,0,#[],rfl,hb,by show (w.heap.push _)[w.heap.size]?=_;simp,nL,by decide,rfl,rfl⟩⟩
def SlW (w:World)(base:Nat)(a:Option Addr)(n sz:Nat):Prop :=
 n=0∨∃ b off,a=some ⟨b,off,none⟩∧base<=b∧b<w.heap.size∧∀ i,i<n * sz->(∃ v,w.cell? ⟨b,off+i,none⟩=some v)∧w.frozen? ⟨b,off+i,none⟩=false
theorem row_cells {e:Nat}(h:w.ownsRow base e size v n xs) :
  (v=.slice none 0 0∧n=0)∨∃ g cap,v=.slice (some ⟨g,0,none⟩) n cap∧base<=g∧g<w.heap.size∧n<=cap∧cap<=maxLen∧(∀ j,j<n * size->w.cell? ⟨g,0+j,none⟩=xs[j]?)∧∀ j,w.frozen? ⟨g,j,none⟩=false:=by
 obtain ⟨h1,h2⟩:=h;rcases h2 with ⟨rfl,h0⟩|⟨g,cap,cur,rfl,hg,hh,hn,hc,hcs,hx⟩
 ·exact Or.inl ⟨rfl,h0⟩
 have hlt:g<w.heap.size:=by
  rcases Nat.lt_or_ge g w.heap.size with h'|h'
  ·exact h'
  rw [Array.getElem?_eq_none h'] at hh;cases hh
 refine Or.inr ⟨g,cap,rfl,hg,hlt,hn,hc,fun j hj=>?_,fun j=>?_⟩
 ·rw [<- hx,List.getElem?_take,if_pos hj,Nat.zero_add]
  simp [World.cell?,hh]
 simp [World.frozen?,hh]
theorem OwnT.slw (h:OwnT w base v n S)(hs:∀ i,i<n->(S i).size<=maxLen) :
  ∃ a cap,v=.slice a n cap∧SlS w a n cap S∧SlW w base a n 1:=by
 rcases row_cells h with ⟨rfl,rfl⟩|⟨g,cap,rfl,hg,hlt,hn,hc,hx,hf⟩
 ·exact ⟨none,0,rfl,⟨nL,by decide,hs,Or.inl rfl⟩,Or.inl rfl⟩
 refine ⟨_,cap,rfl,⟨hn,hc,hs,Or.inr ⟨g,0,rfl,hlt,fun i hi=>?_⟩⟩,Or.inr ⟨g,0,rfl,hg,hlt,fun i hi=>⟨?_,hf _⟩⟩⟩
 ·rw [hx _ (by omega)];exact strs_get S n i hi
 exact ⟨_,(hx i hi).trans (List.getElem?_eq_getElem (by rw [strs_len];omega))⟩
end Go.Proofs.YtkdalopokdhndaaGreat
