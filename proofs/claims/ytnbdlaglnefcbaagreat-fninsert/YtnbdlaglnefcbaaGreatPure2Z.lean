import Derived.Test.YtnbdlaglnefcbaaGreatBaseZ
import Derived.Lib.Join
import Derived.Lib.ItoaNum
import Derived.Lib.ItoaLen
namespace Go.Proofs.YtnbdlaglnefcbaaGreat
open Go.RowKit
def hasB (S:Nat->ByteArray):Nat->ByteArray->Bool
 | 0,_=>false
 | n+1,s=>hasB S n s || (S n).toList == s.toList
theorem hasB_of (S:Nat->ByteArray)(s:ByteArray):∀ n k,k<n->((S k).toList == s.toList)=true->hasB S n s=true
 | 0,_,h,_=>absurd h (Nat.not_lt_zero _)
 | n+1,k,h,e=>by
  by_cases hk:k=n
  ·subst hk;simp [hasB,e]
  ·simp [hasB,hasB_of S s n k (by omega) e]
def cntW (S:Nat->ByteArray):Nat->Nat
 | 0=>0
 | n+1=>cntW S n+if isW (S n) then 1 else 0
theorem cntW_le (S:Nat->ByteArray):∀ n,cntW S n<=n
 | 0=>Nat.le_refl _
 | n+1=>by have:=cntW_le S n;unfold cntW;split <;> omega
def allW (S:Nat->ByteArray):Nat->Bool
 | 0=>true
 | n+1=>allW S n && isW (S n)
theorem cntW_all (S:Nat->ByteArray):∀ n,(((cntW S n:Nat):Int) == (n:Int))=allW S n
 | 0=>rfl
 | n+1=>by
  have ih:=cntW_all S n
  have hle:=cntW_le S n
  unfold cntW allW
  rw [<- ih]
  cases h:isW (S n)
  ·simp only [Bool.and_false,Bool.false_eq_true,if_false];rw [beq_eq_false_iff_ne];omega
  ·simp only [Bool.and_true,if_true];rw [Bool.eq_iff_iff];simp
def refsTo (S:Nat->ByteArray)(id:ByteArray):Nat->Bool
 | 0=>true
 | n+1=>refsTo S id n && (isW (S n) && (!((S n).toList == id.toList) && !hasB S n (S n)))
def refs2To (S:Nat->ByteArray)(id:ByteArray):Nat->Bool
 | 0=>true
 | n+1=>refs2To S id n && (!((S n).toList == id.toList) && !hasB S n (S n))
theorem refsTo_eq (S:Nat->ByteArray)(id:ByteArray):∀ n,refsTo S id n=(allW S n && refs2To S id n)
 | 0=>rfl
 | n+1=>by
  unfold refsTo allW refs2To
  rw [refsTo_eq S id n]
  cases allW S n <;> cases refs2To S id n <;> cases isW (S n) <;> rfl
theorem refsTo_le (S:Nat->ByteArray)(id:ByteArray):∀ n k,k<n->refsTo S id (k+1)=false->refsTo S id n=false
 | 0,_,h,_=>absurd h (Nat.not_lt_zero _)
 | n+1,k,h,e=>by
  by_cases hk:k=n
  ·subst hk;exact e
  ·unfold refsTo;rw [refsTo_le S id n k (by omega) e];rfl
theorem refs2To_le (S:Nat->ByteArray)(id:ByteArray):∀ n k,k<n->refs2To S id (k+1)=false->refs2To S id n=false
 | 0,_,h,_=>absurd h (Nat.not_lt_zero _)
 | n+1,k,h,e=>by
  by_cases hk:k=n
  ·subst hk;exact e
  ·unfold refs2To;rw [refs2To_le S id n k (by omega) e];rfl
def refsB (S:Nat->ByteArray)(n:Nat)(id:ByteArray):Bool:=decide (n<=10) && refsTo S id n
def starB (s:ByteArray):Bool:=(bts s).head? == some 42 || (bts s).head? == some 35
def bareS (s:ByteArray):ByteArray:=if starB s then s.extract 1 s.size else s
def nameB (s:ByteArray):Bool:=isW (bareS s)
theorem bts_head (s:ByteArray)(h:0<s.size):(bts s).head?=some (s[0].toNat:Int):=by
 have h':0<(bts s).length:=by rw [bts_len];exact h
 rw [List.head?_eq_getElem?,List.getElem?_eq_getElem h',bts_get s 0 h]
theorem bts_head0 (s:ByteArray)(h:s.size=0):(bts s).head?=none:=by
 rw [List.head?_eq_none_iff];exact List.eq_nil_of_length_eq_zero (by rw [bts_len];exact h)
theorem starB_pos (s:ByteArray)(h:0<s.size):starB s=(((s[0].toNat:Int) == 42) || ((s[0].toNat:Int) == 35)):=by
 simp [starB,bts_head s h]
theorem starB_zero (s:ByteArray)(h:s.size=0):starB s=false:=by
 simp [starB,bts_head0 s h]
def grTo (M:Nat->ByteArray)(L:Nat->Int):Nat->Bool
 | 0=>true
 | n+1=>grTo M L n && (nameB (M n) && (!decide (L n < -1000000) && (!decide (1000000<L n) && (n == 0 || Op.bytesLess (M (n - 1)).toList (M n).toList))))
theorem grTo_le (M:Nat->ByteArray)(L:Nat->Int):∀ n k,k<n->grTo M L (k+1)=false->grTo M L n=false
 | 0,_,h,_=>absurd h (Nat.not_lt_zero _)
 | n+1,k,h,e=>by
  by_cases hk:k=n
  ·subst hk;exact e
  ·unfold grTo;rw [grTo_le M L n k (by omega) e];rfl
def grB (M:Nat->ByteArray)(L:Nat->Int)(n:Nat):Bool:=grTo M L n && decide (n<=50)
def memB (v:ByteArray):Bool:=v.toList == [106,111,105,110] || (v.toList == [105,110,118,105,116,101] || (v.toList == [108,101,97,118,101] || v.toList == [98,97,110]))
def rulB (v:ByteArray):Bool:=v.toList == [112,117,98,108,105,99] || v.toList == [105,110,118,105,116,101]
def ctB (ty key val:ByteArray)(st:Bool)(np na ng:Nat)(M:Nat->ByteArray)(L:Nat->Int):Bool :=
 if ty.toList == [99,114,101,97,116,101] then st && key.toList.isEmpty && ng == 0 && np == 0 && na == 0 && val.toList.isEmpty
 else if ty.toList == [109,101,109,98,101,114] then st && !key.toList.isEmpty && ng == 0 && memB val
 else if ty.toList == [106,111,105,110,95,114,117,108,101,115] then st && key.toList.isEmpty && ng == 0 && rulB val
 else if ty.toList == [112,111,119,101,114] then st && key.toList.isEmpty && val.toList.isEmpty && grB M L ng
 else ng == 0 && (val.toList.isEmpty || isW val)
def evCode (id sd ty key val:ByteArray)(st:Bool)(tm:Int)(np na ng:Nat)(Pv Av M:Nat->ByteArray)(L:Nat->Int):Int :=
 if isW id=false∨isW sd=false∨isW ty=false then 1
 else if key.toList.isEmpty=false∧(st=false∨isW key=false) then 2
 else if tm<0∨1000000000000<tm then 3
 else if refsB Pv np id=false∨refsB Av na id=false then 4
 else if ctB ty key val st np na ng M L=false then 5
 else 0
end Go.Proofs.YtnbdlaglnefcbaaGreat
namespace Go.Proofs.YtnbdlaglnefcbaaGreat
def joinB (S:Nat->ByteArray)(sep:ByteArray):Nat->ByteArray
 | 0=>ByteArray.empty
 | k+1=>if k=0 then S 0 else joinB S sep k ++ sep ++ S k
theorem joinB_size_le (S : Nat -> ByteArray) (sep : ByteArray) : ∀ {n k : Nat}, k <= n -> (joinB S sep k).size <= (joinB S sep n).size
  | 0, k, h => by have : k = 0 := by omega
                  subst this; exact Nat.le_refl _
  | n + 1, k, h => by
    by_cases e : k = n + 1
    · subst e; exact Nat.le_refl _
    · refine Nat.le_trans (joinB_size_le S sep (n := n) (by omega)) ?_
      by_cases h0 : n = 0
      · subst h0; simp [joinB]
      · rw [joinB, if_neg h0, ByteArray.size_append, ByteArray.size_append]; omega
theorem isW_size {s:ByteArray}(h:isW s=true):s.size<=40:=by
 simp only [isW,Bool.and_eq_true,decide_eq_true_eq] at h;exact h.2
theorem size_list (s:ByteArray):s.size=s.toList.length:=by
 rw [ByteArray.toList_eq,Array.length_toList];rfl
end Go.Proofs.YtnbdlaglnefcbaaGreat
namespace Go.Proofs.YtnbdlaglnefcbaaGreat
open Go.RowKit
theorem Tryz.infoString:(Tryz.prog.info? 9).map (fun i=>(i.zero,i.size,i.bytes))=some (some (.string ByteArray.empty),1,16):=by kernel_rfl
theorem ownsRow_blw {w w':World}{base e size n:Nat}{v:Value}{xs:List Value}(h:w.ownsRow base e size v n xs)(hb:Below w.heap.size w w'):w'.ownsRow base e size v n xs:=by
 obtain ⟨h1,h2⟩:=h
 refine ⟨h1,?_⟩
 rcases h2 with h2|⟨g,cap,cur,hv,hg,hh,r⟩
 ·exact Or.inl h2
 ·have hlt:g<w.heap.size:=by
   rcases Nat.lt_or_ge g w.heap.size with h'|h'
   ·exact h'
   ·rw [Array.getElem?_eq_none h'] at hh;cases hh
  exact Or.inr ⟨g,cap,cur,hv,hg,by rw [hb.block g hlt];exact hh,r⟩
def strs (S:Nat->ByteArray)(n:Nat):List Value:=(List.range n).map fun i=>.string (S i)
theorem strs_len (S:Nat->ByteArray)(n:Nat):(strs S n).length=n:=by simp [strs]
theorem strs_get (S:Nat->ByteArray)(n i:Nat)(h:i<n):(strs S n)[i]?=some (.string (S i)):=by simp [strs,h]
theorem strs_snoc (S:Nat->ByteArray)(n:Nat):strs S n ++ [.string (S n)]=strs S (n+1):=by simp [strs,List.range_succ]
def OwnT (w:World)(base:Nat)(v:Value)(n:Nat)(S:Nat->ByteArray):Prop:=w.ownsRow base 9 1 v n (strs S n)
theorem OwnT.below {w w':World}{base n:Nat}{v:Value}{S:Nat->ByteArray}(h:OwnT w base v n S)(hb:Below w.heap.size w w'):OwnT w' base v n S:=ownsRow_blw h hb
theorem OwnT.snoc {w:World}{base n:Nat}{v:Value}{S:Nat->ByteArray}{x:ByteArray}(h:w.ownsRow base 9 1 v (n+1) (strs S n ++ [.string x]))(hx:x=S n):OwnT w base v (n+1) S:=by
 subst hx;rw [strs_snoc] at h;exact h
theorem OwnT.new (w:World)(base:Nat)(hb:base<=w.heap.size)(S:Nat->ByteArray):OwnT (w.alloc (.cells #[] 9)) base (.slice (some ⟨w.heap.size,0,none⟩) 0 0) 0 S :=
 ⟨rfl,Or.inr ⟨w.heap.size,0,#[],rfl,hb,by show (w.heap.push _)[w.heap.size]?=_;simp,Nat.le_refl _,by decide,rfl,rfl⟩⟩
theorem OwnT.cells {w:World}{base n:Nat}{v:Value}{S:Nat->ByteArray}(h:OwnT w base v n S) :
  (v=.slice none 0 0∧n=0)∨∃ g cap,v=.slice (some ⟨g,0,none⟩) n cap∧base<=g∧g<w.heap.size∧n<=cap∧cap<=maxLen∧∀ i,i<n->w.cell? ⟨g,0+i,none⟩=some (.string (S i)):=by
 obtain ⟨h1,h2⟩:=h
 rcases h2 with ⟨rfl,h0⟩|⟨g,cap,cur,rfl,hg,hh,hn,hc,hcs,hx⟩
 ·exact Or.inl ⟨rfl,h0⟩
 ·have hlt:g<w.heap.size:=by
   rcases Nat.lt_or_ge g w.heap.size with h'|h'
   ·exact h'
   ·rw [Array.getElem?_eq_none h'] at hh;cases hh
  refine Or.inr ⟨g,cap,rfl,hg,hlt,hn,hc,fun j hj=>?_⟩
  rw [<- strs_get S n j hj,<- hx,List.getElem?_take,if_pos (by omega),Nat.zero_add]
  simp [World.cell?,hh]
theorem OwnT.sl {w:World}{base n:Nat}{v:Value}{S:Nat->ByteArray}(h:OwnT w base v n S)(hs:∀ i,i<n->(S i).size<=maxLen) :
  ∃ a cap,v=.slice a n cap∧SlS w a n cap S:=by
 rcases h.cells with ⟨rfl,rfl⟩|⟨g,cap,rfl,hg,hlt,hn,hc,hx⟩
 ·exact ⟨none,0,rfl,⟨Nat.le_refl _,by decide,hs,Or.inl rfl⟩⟩
 ·exact ⟨_,cap,rfl,⟨hn,hc,hs,Or.inr ⟨g,0,rfl,hlt,hx⟩⟩⟩
theorem one_cells (w1:World)(x:Value)(t:TypeId)(j:Nat)(u:Value)(h:[x][j]?=some u):(w1.alloc (.cells #[x] t)).cell? ((⟨w1.heap.size,0,none⟩:Addr).add j)=some u:=by
 have hj:j<1:=by
  rcases Nat.lt_or_ge j 1 with h'|h'
  ·exact h'
  ·rw [List.getElem?_eq_none (by simpa using h')] at h;cases h
 match j,hj,h with
 | 0,_,h=>rw [show (⟨w1.heap.size,0,none⟩:Addr).add 0=⟨w1.heap.size,0,none⟩ from rfl,World.cell?_alloc_at _ _ _ _ rfl];exact h
theorem one_one (x:ByteArray)(u:Value)(h:u ∈ [Value.string x]):u.oneCell'=true:=by
 simp only [List.mem_cons,List.not_mem_nil,or_false] at h
 subst h;rfl
theorem Tryz.infoGrant:(Tryz.prog.info? 54).map (fun i=>(i.zero,i.size,i.bytes))=some (some (.agg #[.string ByteArray.empty,.int .i64 0]),2,24):=by kernel_rfl
def encG (M:Nat->ByteArray)(L:Nat->Int)(n:Nat):List Value:=(List.range n).flatMap fun i=>[.string (M i),.int .i64 (L i)]
theorem encG_snoc (M:Nat->ByteArray)(L:Nat->Int)(n:Nat):encG M L n ++ [.string (M n),.int .i64 (L n)]=encG M L (n+1):=by simp [encG,List.range_succ]
theorem encG_len (M:Nat->ByteArray)(L:Nat->Int)(n:Nat):(encG M L n).length=n * 2:=by
 induction n with
 | zero=>rfl
 | succ n ih=>rw [<- encG_snoc,List.length_append,ih];simp;omega
theorem encG_get (M:Nat->ByteArray)(L:Nat->Int):∀ n i,i<n->(encG M L n)[i * 2]?=some (.string (M i))∧(encG M L n)[i * 2+1]?=some (.int .i64 (L i))
 | 0,_,h=>absurd h (Nat.not_lt_zero _)
 | n+1,i,h=>by
  rw [<- encG_snoc]
  by_cases e:i=n
  ·subst e
   rw [List.getElem?_append_right (by rw [encG_len];omega),List.getElem?_append_right (by rw [encG_len];omega),encG_len]
   simp
  ·have:=encG_get M L n i (by omega)
   rw [List.getElem?_append_left (by rw [encG_len];omega),List.getElem?_append_left (by rw [encG_len];omega)]
   exact this
def OwnG (w:World)(base:Nat)(v:Value)(n:Nat)(M:Nat->ByteArray)(L:Nat->Int):Prop:=w.ownsRow base 54 2 v n (encG M L n)
theorem OwnG.below {w w':World}{base n:Nat}{v:Value}{M:Nat->ByteArray}{L:Nat->Int}(h:OwnG w base v n M L)(hb:Below w.heap.size w w'):OwnG w' base v n M L:=ownsRow_blw h hb
theorem OwnG.snoc {w:World}{base n:Nat}{v:Value}{M:Nat->ByteArray}{L:Nat->Int}{x:ByteArray}{z:Int}(h:w.ownsRow base 54 2 v (n+1) (encG M L n ++ [.string x,.int .i64 z]))(hx:x=M n)(hz:z=L n):OwnG w base v (n+1) M L:=by
 subst hx hz;rw [encG_snoc] at h;exact h
theorem OwnG.nil (w:World)(base:Nat)(M:Nat->ByteArray)(L:Nat->Int):OwnG w base (.slice none 0 0) 0 M L:=⟨rfl,Or.inl ⟨rfl,rfl⟩⟩
theorem OwnG.new (w:World)(base:Nat)(hb:base<=w.heap.size)(M:Nat->ByteArray)(L:Nat->Int):OwnG (w.alloc (.cells #[] 54)) base (.slice (some ⟨w.heap.size,0,none⟩) 0 0) 0 M L :=
 ⟨rfl,Or.inr ⟨w.heap.size,0,#[],rfl,hb,by show (w.heap.push _)[w.heap.size]?=_;simp,Nat.le_refl _,by decide,rfl,rfl⟩⟩
def SlW (w:World)(base:Nat)(a:Option Addr)(n sz:Nat):Prop :=
 n=0∨∃ b off,a=some ⟨b,off,none⟩∧base<=b∧b<w.heap.size∧∀ i,i<n * sz->(∃ v,w.cell? ⟨b,off+i,none⟩=some v)∧w.frozen? ⟨b,off+i,none⟩=false
theorem SlW.below {w w':World}{base n sz:Nat}{a:Option Addr}(h:SlW w base a n sz)(hb:Below w.heap.size w w'):SlW w' base a n sz :=
 h.imp id fun ⟨b,off,e,h1,h2,hc⟩=>⟨b,off,e,h1,Nat.lt_of_lt_of_le h2 hb.size,fun i hi=>by
  obtain ⟨⟨v,hv⟩,hf⟩:=hc i hi
  exact ⟨⟨v,(hb.cell (by exact h2)).trans hv⟩,(hb.frozen (by exact h2)).trans hf⟩⟩
theorem row_cells {w:World}{base e size n:Nat}{v:Value}{xs:List Value}(h:w.ownsRow base e size v n xs) :
  (v=.slice none 0 0∧n=0)∨∃ g cap,v=.slice (some ⟨g,0,none⟩) n cap∧base<=g∧g<w.heap.size∧n<=cap∧cap<=maxLen∧(∀ j,j<n * size->w.cell? ⟨g,0+j,none⟩=xs[j]?)∧∀ j,w.frozen? ⟨g,j,none⟩=false:=by
 obtain ⟨h1,h2⟩:=h
 rcases h2 with ⟨rfl,h0⟩|⟨g,cap,cur,rfl,hg,hh,hn,hc,hcs,hx⟩
 ·exact Or.inl ⟨rfl,h0⟩
 ·have hlt:g<w.heap.size:=by
   rcases Nat.lt_or_ge g w.heap.size with h'|h'
   ·exact h'
   ·rw [Array.getElem?_eq_none h'] at hh;cases hh
  refine Or.inr ⟨g,cap,rfl,hg,hlt,hn,hc,fun j hj=>?_,fun j=>?_⟩
  ·rw [<- hx,List.getElem?_take,if_pos hj,Nat.zero_add]
   simp [World.cell?,hh]
  ·simp [World.frozen?,hh]
theorem OwnG.sl {w:World}{base n:Nat}{v:Value}{M:Nat->ByteArray}{L:Nat->Int}(h:OwnG w base v n M L)(hs:∀ i,i<n->(M i).size<=maxLen) :
  ∃ a cap,v=.slice a n cap∧SlG w a n cap M L∧SlW w base a n 2:=by
 have hlen:(encG M L n).length=n * 2:=encG_len M L n
 rcases row_cells h with ⟨rfl,rfl⟩|⟨g,cap,rfl,hg,hlt,hn,hc,hx,hf⟩
 ·exact ⟨none,0,rfl,⟨Nat.le_refl _,by decide,hs,Or.inl rfl⟩,Or.inl rfl⟩
 ·refine ⟨_,cap,rfl,⟨hn,hc,hs,Or.inr ⟨g,0,rfl,hlt,fun i hi=>?_,fun i hi=>?_⟩⟩,Or.inr ⟨g,0,rfl,hg,hlt,fun i hi=>⟨?_,hf _⟩⟩⟩
  ·rw [hx _ (by omega)];exact (encG_get M L n i hi).1
  ·rw [Nat.add_assoc,hx _ (by omega)];exact (encG_get M L n i hi).2
  ·exact ⟨_,(hx i hi).trans (List.getElem?_eq_getElem (by rw [hlen];exact hi))⟩
theorem OwnT.slw {w:World}{base n:Nat}{v:Value}{S:Nat->ByteArray}(h:OwnT w base v n S)(hs:∀ i,i<n->(S i).size<=maxLen) :
  ∃ a cap,v=.slice a n cap∧SlS w a n cap S∧SlW w base a n 1:=by
 rcases row_cells h with ⟨rfl,rfl⟩|⟨g,cap,rfl,hg,hlt,hn,hc,hx,hf⟩
 ·exact ⟨none,0,rfl,⟨Nat.le_refl _,by decide,hs,Or.inl rfl⟩,Or.inl rfl⟩
 ·refine ⟨_,cap,rfl,⟨hn,hc,hs,Or.inr ⟨g,0,rfl,hlt,fun i hi=>?_⟩⟩,Or.inr ⟨g,0,rfl,hg,hlt,fun i hi=>⟨?_,hf _⟩⟩⟩
  ·rw [hx _ (by omega)];exact strs_get S n i hi
  ·exact ⟨_,(hx i hi).trans (List.getElem?_eq_getElem (by rw [strs_len];omega))⟩
end Go.Proofs.YtnbdlaglnefcbaaGreat
