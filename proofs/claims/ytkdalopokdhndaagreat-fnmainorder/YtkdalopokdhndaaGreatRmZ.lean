import Derived.Test.YtkdalopokdhndaaGreatBaseZ
set_option maxHeartbeats 16000000
set_option maxRecDepth 100000
namespace Go.Proofs.YtkdalopokdhndaaGreat
open Go.RowKit
variable {w w':World}{a aa ga pa:Option Addr}{B b k n o ca cg cp cap:Nat}
structure Ev where
 id:ByteArray
 sd:ByteArray
 ty:ByteArray
 key:ByteArray
 val:ByteArray
 st:Bool
 tm:Int
 np:Nat
 na:Nat
 ng:Nat
 Pv:Nat->ByteArray
 Av:Nat->ByteArray
 M:Nat->ByteArray
 L:Nat->Int
variable {e:Ev}{E:Nat->Ev}
def Ev.code (e:Ev):Int:=evCode e.id e.sd e.ty e.key e.val e.st e.tm e.np e.na e.ng e.Pv e.Av e.M e.L
abbrev ec (e:Ev)(p:Option Addr)(c:Nat)(a:Option Addr)(d:Nat)(g:Option Addr)(f:Nat):Array Value:=#[.string e.id,.string e.sd,.string e.ty,.bool e.st,.string e.key,.int .i64 e.tm,.slice p e.np c,.slice a e.na d,.string e.val,.slice g e.ng f]
abbrev Ev.val' (e:Ev)(pa:Option Addr)(cp:Nat)(aa:Option Addr)(ca:Nat)(ga:Option Addr)(cg:Nat):Value :=
 evV e.id e.sd e.ty e.key e.val e.st e.tm pa e.np cp aa e.na ca ga e.ng cg
structure EvOk (w:World)(e:Ev)(pa:Option Addr)(cp:Nat)(aa:Option Addr)(ca:Nat)(ga:Option Addr)(cg:Nat):Prop where
 hid:e.id.size<=maxLen
 hsd:e.sd.size<=maxLen
 hty:e.ty.size<=maxLen
 hkey:e.key.size<=maxLen
 hval:e.val.size<=maxLen
 hp:SlS w pa e.np cp e.Pv
 ha:SlS w aa e.na ca e.Av
 hg:SlG w ga e.ng cg e.M e.L
theorem EvOk.below (h:EvOk w e pa cp aa ca ga cg)(hb:Below w.heap.size w w'):EvOk w' e pa cp aa ca ga cg :=
 ⟨h.hid,h.hsd,h.hty,h.hkey,h.hval,h.hp.below hb,h.ha.below hb,h.hg.below hb⟩
structure EvCells (w:World)(b o:Nat)(e:Ev)(pa:Option Addr)(cp:Nat)(aa:Option Addr)(ca:Nat)(ga:Option Addr)(cg:Nat):Prop where
 c0:w.cell? ⟨b,o,none⟩=some (.string e.id)
 c1:w.cell? ⟨b,o+1,none⟩=some (.string e.sd)
 c2:w.cell? ⟨b,o+2,none⟩=some (.string e.ty)
 c3:w.cell? ⟨b,o+3,none⟩=some (.bool e.st)
 c4:w.cell? ⟨b,o+4,none⟩=some (.string e.key)
 c5:w.cell? ⟨b,o+5,none⟩=some (.int .i64 e.tm)
 c6:w.cell? ⟨b,o+6,none⟩=some (.slice pa e.np cp)
 c7:w.cell? ⟨b,o+7,none⟩=some (.slice aa e.na ca)
 c8:w.cell? ⟨b,o+8,none⟩=some (.string e.val)
 c9:w.cell? ⟨b,o+9,none⟩=some (.slice ga e.ng cg)
theorem EvCells.below (h:EvCells w b o e pa cp aa ca ga cg)(hb:Below B w w')(hlt:b<B):EvCells w' b o e pa cp aa ca ga cg :=
 ⟨(hb.cell (by exact hlt)).trans h.c0,(hb.cell (by exact hlt)).trans h.c1,(hb.cell (by exact hlt)).trans h.c2,(hb.cell (by exact hlt)).trans h.c3,(hb.cell (by exact hlt)).trans h.c4,(hb.cell (by exact hlt)).trans h.c5,(hb.cell (by exact hlt)).trans h.c6,(hb.cell (by exact hlt)).trans h.c7,(hb.cell (by exact hlt)).trans h.c8,(hb.cell (by exact hlt)).trans h.c9⟩
def EvAt (w:World)(b o:Nat)(e:Ev):Prop:=∃ pa cp aa ca ga cg,EvCells w b o e pa cp aa ca ga cg∧EvOk w e pa cp aa ca ga cg
theorem EvAt.below (h:EvAt w b o e)(hb:Below w.heap.size w w')(hlt:b<w.heap.size):EvAt w' b o e:=by
 obtain ⟨pa,cp,aa,ca,ga,cg,h1,h2⟩:=h;exact ⟨pa,cp,aa,ca,ga,cg,h1.below hb hlt,h2.below hb⟩
structure SlV (w:World)(a:Option Addr)(n cap:Nat)(E:Nat->Ev):Prop where
 le:n<=cap
 max:cap<=maxLen
 cells:n=0∨∃ b off,a=some ⟨b,off,none⟩∧b<w.heap.size∧∀ i,i<n->EvAt w b (off+i * 10) (E i)
theorem SlV.below (h:SlV w a n cap E)(hb:Below w.heap.size w w'):SlV w' a n cap E:=by
 refine ⟨h.le,h.max,?_⟩;rcases h.cells with h0|⟨b,off,e,hlt,hc⟩
 ·exact Or.inl h0
 exact Or.inr ⟨b,off,e,nT hlt hb.size,fun i hi=>(hc i hi).below hb hlt⟩
theorem SlV.take (h:SlV w a n cap E)(hk:k<=n):SlV w a k cap E:=by
 refine ⟨nZ hk h.le,h.max,?_⟩;rcases h.cells with h0|⟨b,off,e,hlt,hc⟩
 ·exact Or.inl (by omega)
 exact Or.inr ⟨b,off,e,hlt,fun i hi=>hc i (by omega)⟩
def posV (E:Nat->Ev):Nat->ByteArray->Int
 | 0,_=>-1
 | n+1,s=>if 0<=posV E n s then posV E n s else if (E n).id.toList == s.toList then (n:Int) else -1
theorem posV_bd (E:Nat->Ev)(s:ByteArray):∀ n,-1<=posV E n s∧posV E n s<n
 | 0=>by simp [posV]
 | n+1=>by
  have:=posV_bd E s n;unfold posV;split
  ·omega
  split <;> omega
theorem posV_miss (E:Nat->Ev)(s:ByteArray):∀ n,(∀ i,i<n->((E i).id.toList == s.toList)=false)->posV E n s=-1
 | 0,_=>rfl
 | n+1,h=>by
  unfold posV;rw [posV_miss E s n (fun i hi=>h i (by omega)),if_neg (by omega),h n (by omega)];simp
theorem posV_stay (E : Nat -> Ev) (s : ByteArray) (k : Nat) (hk : 0 <= posV E k s) : ∀ n, k <= n -> posV E n s = posV E k s
  | 0, h => by have : k = 0 := by omega
               subst this; rfl
  | n + 1, h => by
    by_cases e : k = n + 1
    · subst e; rfl
    · have := posV_stay E s k hk n (by omega)
      rw [posV, this, if_pos hk]
theorem posV_hit (E:Nat->Ev)(s:ByteArray)(n k:Nat)(hk:k<n)(h0:∀ i,i<k->((E i).id.toList == s.toList)=false)(h1:((E k).id.toList == s.toList)=true):posV E n s=(k:Int):=by
 have e:posV E (k+1) s=(k:Int):=by rw [posV,posV_miss E s k h0,if_neg (by omega),h1];simp
 rw [posV_stay E s (k+1) (by omega) n (by omega),e]
def thereTo (E:Nat->Ev)(n:Nat)(S:Nat->ByteArray):Nat->Bool
 | 0=>true
 | m+1=>thereTo E n S m && decide (0<=posV E n (S m))
theorem thereTo_le (E:Nat->Ev)(n:Nat)(S:Nat->ByteArray):∀ m k,k<m->thereTo E n S (k+1)=false->thereTo E n S m=false
 | 0,_,h,_=>absurd h (Nat.not_lt_zero _)
 | m+1,k,h,e=>by
  by_cases hk:k=m
  ·subst hk;exact e
  unfold thereTo;rw [thereTo_le E n S m k (by omega) e];rfl
def thereB (E:Nat->Ev)(n:Nat)(S:Nat->ByteArray)(m:Nat):Bool:=decide (m<=300) && thereTo E n S m
def insCode (E:Nat->Ev)(n:Nat)(e:Ev):Int :=
 if e.code≠0 then e.code
 else if 0<=posV E n e.id then 6
 else if thereB E n e.Pv e.np=false∨thereB E n e.Av e.na=false then 7
 else if n=0∧(e.ty.toList == [99,114,101,97,116,101])=false then 8
 else if 0<n∧((e.ty.toList == [99,114,101,97,116,101])=true∨e.np=0∨e.na=0) then 8
 else if 300<=n then 9
 else 0
def roomTo (E:Nat->Ev):Nat->Bool
 | 0=>true
 | n+1=>roomTo E n && decide (insCode E n (E n)=0)
theorem roomTo_le (E:Nat->Ev):∀ n k,k<n->roomTo E (k+1)=false->roomTo E n=false
 | 0,_,h,_=>absurd h (Nat.not_lt_zero _)
 | n+1,k,h,e=>by
  by_cases hk:k=n
  ·subst hk;exact e
  unfold roomTo;rw [roomTo_le E n k (by omega) e];rfl
end Go.Proofs.YtkdalopokdhndaaGreat
namespace Go.Proofs.YtkdalopokdhndaaGreat
open Go.RowKit Go.Maps Go.ChangeMaps
variable {Kn:ByteArray->Bool}{size:Nat}{e:Ev}
def begB (size:Nat)(e:Ev):Bool :=
 if size=0 then e.ty.toList == [99,114,101,97,116,101] else !(e.ty.toList == [99,114,101,97,116,101]) && (decide (0<e.np) && decide (0<e.na))
def insC (Kn:ByteArray->Bool)(size:Nat)(e:Ev):Int :=
 if e.code≠0 then e.code
 else if Kn e.id=true then 6
 else if allTo Kn e.Pv e.np=false∨allTo Kn e.Av e.na=false then 7
 else if begB size e=false then 8
 else if 300<=size then 9
 else 0
theorem insC1 (h:e.code≠0):insC Kn size e=e.code:=by rw [insC,if_pos h]
theorem insC6 (h:e.code=0)(h6:Kn e.id=true):insC Kn size e=6:=by rw [insC,if_neg (by simp [h]),if_pos h6]
theorem insC7 (h:e.code=0)(h6:Kn e.id=false)(h7:allTo Kn e.Pv e.np=false∨allTo Kn e.Av e.na=false):insC Kn size e=7:=by
 rw [insC,if_neg (by simp [h]),if_neg (by simp [h6]),if_pos h7]
theorem insC8 (h:e.code=0)(h6:Kn e.id=false)(h7:allTo Kn e.Pv e.np=true)(h7':allTo Kn e.Av e.na=true)(h8:begB size e=false):insC Kn size e=8:=by
 rw [insC,if_neg (by simp [h]),if_neg (by simp [h6]),if_neg (by simp [h7,h7']),if_pos h8]
theorem insC9 (h:e.code=0)(h6:Kn e.id=false)(h7:allTo Kn e.Pv e.np=true)(h7':allTo Kn e.Av e.na=true)(h8:begB size e=true)(h9:300<=size):insC Kn size e=9:=by
 rw [insC,if_neg (by simp [h]),if_neg (by simp [h6]),if_neg (by simp [h7,h7']),if_neg (by simp [h8]),if_pos h9]
theorem insC0 (h:e.code=0)(h6:Kn e.id=false)(h7:allTo Kn e.Pv e.np=true)(h7':allTo Kn e.Av e.na=true)(h8:begB size e=true)(h9:¬ 300<=size):insC Kn size e=0:=by
 rw [insC,if_neg (by simp [h]),if_neg (by simp [h6]),if_neg (by simp [h7,h7']),if_neg (by simp [h8]),if_neg h9]
theorem code_refs (h:e.code=0):e.np<=10∧e.na<=10:=by
 unfold Ev.code evCode at h;split at h;· cases h
 split at h;· cases h
 split at h;· cases h
 split at h;· cases h
 rename_i h4;constructor
 ·rcases Nat.lt_or_ge 10 e.np with h'|h'
  ·exact absurd (Or.inl (by unfold refsB;rw [decide_eq_false (by omega)];rfl)) h4
  exact h'
 rcases Nat.lt_or_ge 10 e.na with h'|h'
 ·exact absurd (Or.inr (by unfold refsB;rw [decide_eq_false (by omega)];rfl)) h4
 exact h'
abbrev evCs (e:Ev)(pa:Option Addr)(cp:Nat)(aa:Option Addr)(ca:Nat)(ga:Option Addr)(cg:Nat):Array Value :=
 (ec e pa cp aa ca ga cg)
theorem beg_any (size:Nat)(e:Ev)(pa:Option Addr)(cp:Nat)(aa:Option Addr)(ca:Nat)(ga:Option Addr)(cg:Nat)(w:World)(hp:e.np<=10) :
  Calls Tryz.prog 135 #[.int .i64 size,e.val' pa cp aa ca ga cg] w fun x w'=>x=.returned (.bool (begB size e))∧Below w.heap.size w w':=by
 have hb0:∀ o,Below w.heap.size w (w.alloc o):=fun o=>bA
 by_cases h0:size=0
 ·subst h0
  have hv:Hid ((e.ty.toList == [99,114,101,97,116,101])=begB 0 e):=rfl
  go_enter Tryz.func135,Tryz.ntmps135
  go_wp2
  go_ret;exact ⟨ret_bool hv.out,hb0 _⟩
 have hv:Hid (begB size e=(!(e.ty.toList == [99,114,101,97,116,101]) && (decide (0<e.np) && decide (0<e.na)))):=by unfold Hid begB;rw [if_neg h0]
 cases ht:(e.ty.toList == [99,114,101,97,116,101])
 ·by_cases hpp:0<e.np
  ·have hv2:Hid (decide (0<e.na)=begB size e):=by unfold Hid;rw [hv.out,ht,decide_eq_true hpp];rfl
   go_enter Tryz.func135,Tryz.ntmps135
   go_wp2
   go_ret;exact ⟨ret_bool hv2.out,hb0 _⟩
  have hv2:Hid (false=begB size e):=by unfold Hid;rw [hv.out,ht,decide_eq_false hpp];rfl
  have hnp:e.np=0:=by omega
  go_enter Tryz.func135,Tryz.ntmps135
  go_wp2
  go_ret;exact ⟨ret_bool hv2.out,hb0 _⟩
 have hv2:Hid (false=begB size e):=by unfold Hid;rw [hv.out,ht];rfl
 go_enter Tryz.func135,Tryz.ntmps135
 go_wp2
 go_ret;exact ⟨ret_bool hv2.out,hb0 _⟩
end Go.Proofs.YtkdalopokdhndaaGreat
namespace Go.Proofs.YtkdalopokdhndaaGreat
open Go.RowKit
theorem wordByte_any (c:Int)(w:World) :
  Calls Tryz.prog 130 #[.int .u8 c] w fun e w'=>e=.returned (.bool (wbB c))∧w'=w:=by
 go_enter Tryz.func130,Tryz.ntmps130
 go_wp2
 all_goals (go_ret;exact ⟨ret_bool (by rw [Bool.eq_iff_iff];simp [wbB] <;> omega),rfl⟩)
theorem word_any (s:ByteArray)(w:World)(hs:s.size<=maxLen) :
  Calls Tryz.prog 67 #[.string s] w fun e w'=>e=.returned (.bool (isW s))∧w'=w:=by
 unfold maxLen at hs
 go_enter Tryz.func67,Tryz.ntmps67
 go_wp2
 go_loop [3] (fun i=>∃ k:Nat,k<=s.size∧i=.int .i64 k∧Hid (((bts s).take k).all wbB=true)) (fun i=>s.size - (intOf i).toNat)
 case atStart=>exact ⟨0,nz,rfl,rfl⟩
 case round =>
  obtain ⟨k,hk,rfl,hall⟩:=hrel
  by_cases hlt:k<s.size
  ·go_wp2_with (go_at_call 130;refine (wordByte_any _ _).mono ?_;rintro e w' ⟨rfl,rfl⟩)
   ·go_ret
    refine ⟨ret_bool ?_,rfl⟩;rw [isW_of_take s k hlt (by simpa using (by assumption:(!wbB (s[k].toNat:Int))=true))]
   go_round
   case rel=>exact ⟨k+1,by omega,by go_num,by unfold Hid;rw [all_take_succ s k hlt,hall.out];simpa using (by assumption:(!wbB (s[k].toNat:Int))=false)⟩
   simp [intOf];omega
  go_wp2
  all_goals
   go_ret;refine ⟨ret_bool ?_,rfl⟩;rw [isW_of_all s (by rw [<- List.take_of_length_le (show (bts s).length<=k by rw [bts_len];omega)];exact hall.out)];rw [Bool.eq_iff_iff];simp <;> omega
theorem has_any (b off n cap:Nat)(S:Nat->ByteArray)(s:ByteArray)(w:World)(hn:n<=maxLen)
  (hc:∀ i,i<n->w.cell? ⟨b,off+i,none⟩=some (.string (S i))) :
  Calls Tryz.prog 105 #[.slice (some ⟨b,off,none⟩) n cap,.string s] w fun e w'=>e=.returned (.bool (hasB S n s))∧w'=w:=by
 unfold maxLen at hn
 go_enter Tryz.func105,Tryz.ntmps105
 go_wp2
 go_loop [5] (fun i=>∃ k:Nat,k<=n∧i=.int .i64 k∧Hid (hasB S k s=false)) (fun i=>n - (intOf i).toNat)
 case atStart=>exact ⟨0,nz,rfl,rfl⟩
 case round =>
  obtain ⟨k,hk,rfl,hall⟩:=hrel
  by_cases hlt:k<n
  ·have hck:=hc k hlt
   go_wp2
   ·go_ret
    exact ⟨ret_bool (hasB_of S s n k hlt (by assumption)).symm,rfl⟩
   go_round
   case rel=>exact ⟨k+1,by omega,by go_num,by unfold Hid hasB;rw [hall.out];simpa using (by assumption:((S k).toList == s.toList)=false)⟩
   simp [intOf];omega
  go_wp2
  go_ret;refine ⟨ret_bool ?_,rfl⟩;rw [show n=k by omega,hall.out]
theorem refsS_any (b off n cap:Nat)(S:Nat->ByteArray)(id:ByteArray)(w:World)(hn:n<=cap)(hcap:cap<=maxLen)
  (hs:∀ i,i<n->(S i).size<=maxLen)
  (hc:∀ i,i<n->w.cell? ⟨b,off+i,none⟩=some (.string (S i))) :
  Calls Tryz.prog 68 #[.slice (some ⟨b,off,none⟩) n cap,.string id] w fun e w'=>e=.returned (.bool (refsB S n id))∧Dr w w':=by
 have hcap2:=hcap;unfold maxLen at hcap2
 by_cases h10:n<=10
 ·go_enter Tryz.func68,Tryz.ntmps68
  go_wp2
  go_loopw [5] (fun i wr=>∃ k:Nat,k<=n∧i=.int .i64 k∧Hid (refsTo S id k=true)∧Dr w wr) (fun i _=>n - (intOf i).toNat)
  case atStart=>exact ⟨0,nz,rfl,rfl,Dr.refl _⟩
  case round =>
   obtain ⟨k,hk,rfl,hall,hdr⟩:=hrel;have hcr:∀ i,i<n->wr.cell? ⟨b,off+i,none⟩=some (.string (S i)):=fun i hi=>(hdr.cell _).trans (hc i hi)
   by_cases hlt:k<n
   ·have hck:=hcr k hlt
    have hlen:=hs k hlt;cases h1:isW (S k)
    ·go_wp2_with fail
     go_quiet ((go_at_call 67;exact Calls.quiet_of_same (word_any _ _ hlen)))
     go_wp2
     go_ret;exact ⟨ret_bool (by rw [refsB,refsTo_le S id n k hlt (by unfold refsTo;rw [h1];simp)];simp),hdr.drewN _⟩
    cases h2:((S k).toList == id.toList)
    ·cases h3:hasB S k (S k)
     ·go_wp2_with fail
      go_quiet ((first|(go_at_call 67;exact Calls.quiet_of_same (word_any _ _ hlen))|(go_at_call 105;exact Calls.quiet_of_same (has_any b off k cap S _ _ (by omega) (fun i hi=>hcr i (by omega))))))
      go_wp2
      go_roundw
      case rel=>exact ⟨k+1,by omega,by go_num,by unfold Hid refsTo;rw [hall.out,h1,h2,h3];rfl,hdr.drewN _⟩
      simp [intOf];omega
     go_wp2_with fail
     go_quiet ((first|(go_at_call 67;exact Calls.quiet_of_same (word_any _ _ hlen))|(go_at_call 105;exact Calls.quiet_of_same (has_any b off k cap S _ _ (by omega) (fun i hi=>hcr i (by omega))))))
     go_wp2
     go_ret;exact ⟨ret_bool (by rw [refsB,refsTo_le S id n k hlt (by unfold refsTo;rw [h3];simp)];simp),hdr.drewN _⟩
    go_wp2_with fail
    go_quiet ((go_at_call 67;exact Calls.quiet_of_same (word_any _ _ hlen)))
    go_wp2
    go_ret;exact ⟨ret_bool (by rw [refsB,refsTo_le S id n k hlt (by unfold refsTo;rw [h2];simp)];simp),hdr.drewN _⟩
   go_wp2
   go_ret;refine ⟨ret_bool ?_,hdr⟩;rw [refsB,show n=k by omega,hall.out];simp;omega
 go_enter Tryz.func68,Tryz.ntmps68
 go_wp2
 go_ret;exact ⟨ret_bool (by simp [refsB,h10]),Dr.refl _⟩
theorem bare_yes (s:ByteArray)(h:0<s.size)(h1:(s[0].toNat:Int)=42∨((s[0].toNat:Int) == 42)=true∨((s[0].toNat:Int) == 35)=true):bareS s=s.extract 1 s.size:=by
 rw [bareS,starB_pos s h,if_pos];simp only [Bool.or_eq_true];rcases h1 with h1|h1|h1
 ·exact Or.inl (by simpa using h1)
 ·exact Or.inl h1
 exact Or.inr h1
theorem bare_no (s:ByteArray)(h:0<s.size)(h1:((s[0].toNat:Int) == 42)=false∧((s[0].toNat:Int) == 35)=false):bareS s=s:=by
 rw [bareS,starB_pos s h,h1.1,h1.2];simp
theorem bare_zero (s:ByteArray)(h:s.size=0):bareS s=s:=by
 rw [bareS,starB_zero s h];simp
theorem nameS_any (s:ByteArray)(w:World)(hs:s.size<=maxLen) :
  Calls Tryz.prog 192 #[.string s] w fun e w'=>e=.returned (.bool (nameB s))∧w'=w:=by
 have hs2:=hs;unfold maxLen at hs2;have hex:(s.extract 1 s.size).size<=maxLen:=by rw [ByteArray.size_extract];unfold maxLen;omega
 go_enter Tryz.func192,Tryz.ntmps192
 go_wp2_with fail
 ·refine (word_any _ _ hex).mono ?_
  rintro e w' ⟨rfl,rfl⟩;go_wp2
  go_ret;exact ⟨ret_bool (by rw [nameB,bare_yes s (by assumption) (Or.inl (by assumption))]),rfl⟩
 ·refine (word_any _ _ hex).mono ?_
  rintro e w' ⟨rfl,rfl⟩;go_wp2
  go_ret;exact ⟨ret_bool (by rw [nameB,bare_yes s (by assumption) (Or.inr (by assumption))]),rfl⟩
 ·refine (word_any _ _ hs).mono ?_
  rintro e w' ⟨rfl,rfl⟩;go_wp2
  go_ret;exact ⟨ret_bool (by rw [nameB,bare_no s (by assumption) (by assumption)]),rfl⟩
 refine (word_any _ _ hs).mono ?_;rintro e w' ⟨rfl,rfl⟩;have h0:¬ 0<s.size:=by assumption
 go_wp2
 go_ret;exact ⟨ret_bool (by rw [nameB,bare_zero s (by omega)]),rfl⟩
theorem grS_any (b off n cap:Nat)(M:Nat->ByteArray)(L:Nat->Int)(w:World)(hn:n<=maxLen)
  (hs:∀ i,i<n->(M i).size<=maxLen)
  (hc:∀ i,i<n->w.cell? ⟨b,off+i * 2,none⟩=some (.string (M i)))
  (hl:∀ i,i<n->w.cell? ⟨b,off+i * 2+1,none⟩=some (.int .i64 (L i))) :
  Calls Tryz.prog 131 #[.slice (some ⟨b,off,none⟩) n cap] w fun e w'=>e=.returned (.bool (grB M L n))∧Dr w w':=by
 unfold maxLen at hn
 go_enter Tryz.func131,Tryz.ntmps131
 go_wp2
 go_loopw [3] (fun i wr=>∃ k:Nat,k<=n∧i=.int .i64 k∧Hid (grTo M L k=true)∧Dr w wr) (fun i _=>n - (intOf i).toNat)
 case atStart=>exact ⟨0,nz,rfl,rfl,Dr.refl _⟩
 case round =>
  obtain ⟨k,hk,rfl,hto,hdr⟩:=hrel
  by_cases hlt:k<n
  ·have hck:wr.cell? ⟨b,off+k * 2,none⟩=some (.string (M k)):=(hdr.cell _).trans (hc k hlt)
   have hlk:wr.cell? ⟨b,off+k * 2+1,none⟩=some (.int .i64 (L k)):=(hdr.cell _).trans (hl k hlt);have hlen:=hs k hlt;cases hnm:nameB (M k)
   ·go_wp2_with (go_at_call 192;refine (nameS_any _ _ hlen).mono ?_;rintro e w' ⟨rfl,rfl⟩)
    go_ret;exact ⟨ret_bool (by rw [grB,grTo_le M L n k hlt (by rw [grTo,hnm];simp)];simp),hdr⟩
   by_cases h1:L k < -1000000
   ·go_wp2_with (go_at_call 192;refine (nameS_any _ _ hlen).mono ?_;rintro e w' ⟨rfl,rfl⟩)
    go_ret;exact ⟨ret_bool (by rw [grB,grTo_le M L n k hlt (by rw [grTo];simp [h1])];simp),hdr⟩
   by_cases h2:1000000<L k
   ·go_wp2_with (go_at_call 192;refine (nameS_any _ _ hlen).mono ?_;rintro e w' ⟨rfl,rfl⟩)
    go_ret;exact ⟨ret_bool (by rw [grB,grTo_le M L n k hlt (by rw [grTo];simp [h2])];simp),hdr⟩
   by_cases h0:k=0
   ·have hk0:decide (0<k)=false:=by simp;omega
    have H0:Hid (k=0):=h0;clear h0
    go_wp2_with (go_at_call 192;refine (nameS_any _ _ hlen).mono ?_;rintro e w' ⟨rfl,rfl⟩)
    go_quiet (fail)
    go_wp2
    go_roundw
    case rel=>exact ⟨k+1,by omega,by go_num,by unfold Hid;rw [grTo,hto.out,hnm,H0.out];simp;rw [H0.out] at h1 h2;omega,hdr.drewN _⟩
    simp [intOf];omega
   obtain ⟨j,rfl⟩:∃ j,k=j+1:=⟨k - 1,by omega⟩;have hcp:wr.cell? ⟨b,off+j * 2,none⟩=some (.string (M j)):=(hdr.cell _).trans (hc j (by omega));cases hL:Op.bytesLess (M j).toList (M (j+1)).toList
   ·go_wp2_with (go_at_call 192;refine (nameS_any _ _ hlen).mono ?_;rintro e w' ⟨rfl,rfl⟩)
    go_quiet (fail)
    go_wp2
    go_ret;exact ⟨ret_bool (by rw [grB,grTo_le M L n (j+1) hlt (by rw [grTo,show j+1 - 1=j from rfl,hL];simp)];simp),hdr.drewN _⟩
   go_wp2_with (go_at_call 192;refine (nameS_any _ _ hlen).mono ?_;rintro e w' ⟨rfl,rfl⟩)
   go_quiet (fail)
   go_wp2
   go_roundw
   case rel=>exact ⟨j+1+1,by omega,by go_num,by unfold Hid;rw [grTo,hto.out,hnm,show j+1 - 1=j from rfl,hL];simp;omega,hdr.drewN _⟩
   simp [intOf];omega
  go_wp2
  go_ret;refine ⟨ret_bool ?_,hdr⟩;rw [grB,show n=k by omega,hto.out];simp only [Bool.true_and,decide_eq_decide];omega
variable {a:Option Addr}{n cap:Nat}{S:Nat->ByteArray}
theorem refsS_zero (a:Option Addr)(cap:Nat)(id:ByteArray)(w:World) :
  Calls Tryz.prog 68 #[.slice a 0 cap,.string id] w fun e w'=>e=.returned (.bool true)∧w'=w:=by
 go_enter Tryz.func68,Tryz.ntmps68
 go_wp2
 refine wp_loop_rounds 1 ?_;rw [rounds_succ];go_wp2
 go_ret;exact ⟨rfl,rfl⟩
theorem grS_zero (a:Option Addr)(cap:Nat)(w:World) :
  Calls Tryz.prog 131 #[.slice a 0 cap] w fun e w'=>e=.returned (.bool true)∧w'=w:=by
 go_enter Tryz.func131,Tryz.ntmps131
 go_wp2
 refine wp_loop_rounds 1 ?_;rw [rounds_succ];go_wp2
 go_ret;exact ⟨rfl,rfl⟩
theorem refsS_sl (id:ByteArray)(w:World)(h:SlS w a n cap S) :
  Calls Tryz.prog 68 #[.slice a n cap,.string id] w fun e w'=>e=.returned (.bool (refsB S n id))∧Dr w w':=by
 rcases h.cells with rfl|⟨b,off,rfl,hb,hc⟩
 ·refine (refsS_zero a cap id w).mono ?_
  rintro e w' ⟨rfl,rfl⟩;exact ⟨rfl,Dr.refl _⟩
 exact refsS_any b off n cap S id w h.le h.max h.size hc
theorem grS_sl {M:Nat->ByteArray}{L:Nat->Int}(w:World)(h:SlG w a n cap M L) :
  Calls Tryz.prog 131 #[.slice a n cap] w fun e w'=>e=.returned (.bool (grB M L n))∧Dr w w':=by
 rcases h.cells with rfl|⟨b,off,rfl,hb,hc,hl⟩
 ·refine (grS_zero a cap w).mono ?_
  rintro e w' ⟨rfl,rfl⟩;exact ⟨rfl,Dr.refl _⟩
 exact grS_any b off n cap M L w (nZ h.le h.max) h.size hc hl
def litJoin:ByteArray:=⟨#[106,111,105,110]⟩
def litInvite:ByteArray:=⟨#[105,110,118,105,116,101]⟩
def litLeave:ByteArray:=⟨#[108,101,97,118,101]⟩
def litBan:ByteArray:=⟨#[98,97,110]⟩
def litPublic:ByteArray:=⟨#[112,117,98,108,105,99]⟩
theorem memB_has (v:ByteArray):hasB (fun i=>[litJoin,litInvite,litLeave,litBan].getD i ByteArray.empty) 4 v=memB v:=by
 simp only [hasB,memB,List.getD,litJoin,litInvite,litLeave,litBan];rw [beq_swap v.toList [106,111,105,110],beq_swap v.toList [105,110,118,105,116,101],beq_swap v.toList [108,101,97,118,101],beq_swap v.toList [98,97,110]];simp [ByteArray.toList_eq,Bool.or_assoc]
theorem rulB_has (v:ByteArray):hasB (fun i=>[litPublic,litInvite].getD i ByteArray.empty) 2 v=rulB v:=by
 simp only [hasB,rulB,List.getD,litPublic,litInvite];rw [beq_swap v.toList [112,117,98,108,105,99],beq_swap v.toList [105,110,118,105,116,101]];simp [ByteArray.toList_eq]
theorem has_mem (W:World)(v:ByteArray)(blk:Nat)(hblk:blk=W.heap.size) :
  Calls Tryz.prog 105 #[.slice (some ⟨blk,0,none⟩) 4 4,.string v] (W.alloc (.cells #[.string ⟨#[106,111,105,110]⟩,.string ⟨#[105,110,118,105,116,101]⟩,.string ⟨#[108,101,97,118,101]⟩,.string ⟨#[98,97,110]⟩] 9)) fun e w' =>
   e=.returned (.bool (memB v))∧w'=W.alloc (.cells #[.string ⟨#[106,111,105,110]⟩,.string ⟨#[105,110,118,105,116,101]⟩,.string ⟨#[108,101,97,118,101]⟩,.string ⟨#[98,97,110]⟩] 9):=by
 rw [<- memB_has];refine has_any blk 0 4 4 _ v _ (by decide) (fun i hi=>?_);rw [Nat.zero_add,kA hblk]
 match i,hi with
 | 0,_=>rfl
 | 1,_=>rfl
 | 2,_=>rfl
 | 3,_=>rfl
theorem has_rul (W:World)(v:ByteArray)(blk:Nat)(hblk:blk=W.heap.size) :
  Calls Tryz.prog 105 #[.slice (some ⟨blk,0,none⟩) 2 2,.string v] (W.alloc (.cells #[.string ⟨#[112,117,98,108,105,99]⟩,.string ⟨#[105,110,118,105,116,101]⟩] 9)) fun e w' =>
   e=.returned (.bool (rulB v))∧w'=W.alloc (.cells #[.string ⟨#[112,117,98,108,105,99]⟩,.string ⟨#[105,110,118,105,116,101]⟩] 9):=by
 rw [<- rulB_has];refine has_any blk 0 2 2 _ v _ (by decide) (fun i hi=>?_);rw [Nat.zero_add,kA hblk]
 match i,hi with
 | 0,_=>rfl
 | 1,_=>rfl
section
variable (id sd ty key val:ByteArray) (st:Bool) (tm:Int) (pa:Option Addr) (np cp:Nat) (aa:Option Addr) (na ca:Nat) (ga:Option Addr) (ng cg:Nat) (M:Nat->ByteArray) (L:Nat->Int) (w:World)
theorem contS_create (h1:(ty.toList == [99,114,101,97,116,101])=true) :
  Calls Tryz.prog 69 #[evV id sd ty key val st tm pa np cp aa na ca ga ng cg] w fun e w' =>
   e=.returned (.bool (ctB ty key val st np na ng M L))∧Below w.heap.size w w':=by
 go_enter Tryz.func69,Tryz.ntmps69
 go_wp2
 all_goals (go_ret;exact ⟨ret_bool (by simp [ctB, *]),bA⟩)
theorem contS_member (h1:(ty.toList == [99,114,101,97,116,101])=false)(h2:(ty.toList == [109,101,109,98,101,114])=true) :
  Calls Tryz.prog 69 #[evV id sd ty key val st tm pa np cp aa na ca ga ng cg] w fun e w' =>
   e=.returned (.bool (ctB ty key val st np na ng M L))∧Below w.heap.size w w':=by
 go_enter Tryz.func69,Tryz.ntmps69
 go_wp2_with (go_at_call 105;refine (has_mem _ val _ (by simp)).mono ?_;rintro e w' ⟨rfl,rfl⟩)
 all_goals (go_ret;exact ⟨ret_bool (by simp [ctB, *]),by first|exact bA|exact bA.alloc (by simp) _⟩)
theorem contS_rules (h1:(ty.toList == [99,114,101,97,116,101])=false)(h2:(ty.toList == [109,101,109,98,101,114])=false)(h3:(ty.toList == [106,111,105,110,95,114,117,108,101,115])=true) :
  Calls Tryz.prog 69 #[evV id sd ty key val st tm pa np cp aa na ca ga ng cg] w fun e w' =>
   e=.returned (.bool (ctB ty key val st np na ng M L))∧Below w.heap.size w w':=by
 go_enter Tryz.func69,Tryz.ntmps69
 go_wp2_with (go_at_call 105;refine (has_rul _ val _ (by simp)).mono ?_;rintro e w' ⟨rfl,rfl⟩)
 all_goals (go_ret;exact ⟨ret_bool (by simp [ctB, *]),by first|exact bA|exact bA.alloc (by simp) _⟩)
theorem contS_power (h1:(ty.toList == [99,114,101,97,116,101])=false)(h2:(ty.toList == [109,101,109,98,101,114])=false)(h3:(ty.toList == [106,111,105,110,95,114,117,108,101,115])=false)
  (h4:(ty.toList == [112,111,119,101,114])=true) (hg:SlG w ga ng cg M L) :
  Calls Tryz.prog 69 #[evV id sd ty key val st tm pa np cp aa na ca ga ng cg] w fun e w' =>
   e=.returned (.bool (ctB ty key val st np na ng M L))∧Below w.heap.size w w':=by
 go_enter Tryz.func69,Tryz.ntmps69
 go_wp2_with (go_at_call 131;refine (grS_sl _ (hg.below bA)).mono ?_;rintro e w' ⟨rfl,hdr⟩)
 all_goals (go_ret;exact ⟨ret_bool (by simp [ctB, *]),by first|exact bA|exact bA.trans (hdr.below _)⟩)
theorem contS_other (h1:(ty.toList == [99,114,101,97,116,101])=false)(h2:(ty.toList == [109,101,109,98,101,114])=false)(h3:(ty.toList == [106,111,105,110,95,114,117,108,101,115])=false)
  (h4:(ty.toList == [112,111,119,101,114])=false) (hv:val.size<=maxLen) :
  Calls Tryz.prog 69 #[evV id sd ty key val st tm pa np cp aa na ca ga ng cg] w fun e w' =>
   e=.returned (.bool (ctB ty key val st np na ng M L))∧Below w.heap.size w w':=by
 go_enter Tryz.func69,Tryz.ntmps69
 go_wp2_with (go_at_call 67;refine (word_any _ _ hv).mono ?_;rintro e w' ⟨rfl,rfl⟩)
 all_goals (go_ret;exact ⟨ret_bool (by simp [ctB, *]),bA⟩)
theorem contS_any (hv:val.size<=maxLen)(hg:SlG w ga ng cg M L) :
  Calls Tryz.prog 69 #[evV id sd ty key val st tm pa np cp aa na ca ga ng cg] w fun e w' =>
   e=.returned (.bool (ctB ty key val st np na ng M L))∧Below w.heap.size w w':=by
 cases h1:(ty.toList == [99,114,101,97,116,101])
 ·cases h2:(ty.toList == [109,101,109,98,101,114])
  ·cases h3:(ty.toList == [106,111,105,110,95,114,117,108,101,115])
   ·cases h4:(ty.toList == [112,111,119,101,114])
    ·exact contS_other id sd ty key val st tm pa np cp aa na ca ga ng cg M L w h1 h2 h3 h4 hv
    exact contS_power id sd ty key val st tm pa np cp aa na ca ga ng cg M L w h1 h2 h3 h4 hg
   exact contS_rules id sd ty key val st tm pa np cp aa na ca ga ng cg M L w h1 h2 h3
  exact contS_member id sd ty key val st tm pa np cp aa na ca ga ng cg M L w h1 h2
 exact contS_create id sd ty key val st tm pa np cp aa na ca ga ng cg M L w h1
end
theorem index_any (b off n cap:Nat)(S:Nat->ByteArray)(s:ByteArray)(w:World)(hn:n<=maxLen)
  (hc:∀ i,i<n->w.cell? ⟨b,off+i,none⟩=some (.string (S i))) :
  Calls Tryz.prog 194 #[.slice (some ⟨b,off,none⟩) n cap,.string s] w fun e w' =>
   ∃ r:Int,e=.returned (.int .i64 r)∧Hid (decide (0<=r)=hasB S n s)∧w'=w:=by
 unfold maxLen at hn
 go_enter Tryz.func194,Tryz.ntmps194
 go_wp2
 go_loop [8] (fun i=>∃ k:Nat,k<=n∧i=.int .i64 k∧Hid (hasB S k s=false)) (fun i=>n - (intOf i).toNat)
 case atStart=>exact ⟨0,nz,rfl,rfl⟩
 case round =>
  obtain ⟨k,hk,rfl,hall⟩:=hrel
  by_cases hlt:k<n
  ·have hck:=hc k hlt
   go_wp2
   ·go_ret
    have hE:(s.toList == (S k).toList)=true:=by assumption
    exact ⟨_,rfl,by unfold Hid;rw [hasB_of S s n k hlt (by rw [beq_swap];exact hE)];simp;try omega,rfl⟩
   go_round
   have hE:(s.toList == (S k).toList)=false:=by assumption
   case rel=>exact ⟨k+1,by omega,by go_num,by unfold Hid hasB;rw [hall.out,beq_swap];simpa using hE⟩
   simp [intOf];omega
  go_wp2
  go_ret;refine ⟨_,rfl,?_,rfl⟩;unfold Hid;rw [show n=k by omega,hall.out];rfl
theorem contains_any (b off n cap:Nat)(S:Nat->ByteArray)(s:ByteArray)(w:World)(hn:n<=maxLen)
  (hc:∀ i,i<n->w.cell? ⟨b,off+i,none⟩=some (.string (S i))) :
  Calls Tryz.prog 137 #[.slice (some ⟨b,off,none⟩) n cap,.string s] w fun e w'=>e=.returned (.bool (hasB S n s))∧w'=w:=by
 go_enter Tryz.func137,Tryz.ntmps137
 go_wp2_with (go_at_call 194;refine (index_any b off n cap S s _ hn hc).mono ?_;rintro e w' ⟨r,rfl,hr,rfl⟩)
 go_ret;exact ⟨ret_bool hr.out,rfl⟩
theorem inWord_any (c:Int)(w:World) :
  Calls Tryz.prog 193 #[.int .u8 c] w fun e w'=>e=.returned (.bool (wbB c))∧w'=w:=by
 go_enter Tryz.func193,Tryz.ntmps193
 go_wp2
 all_goals (go_ret;refine ⟨ret_bool ?_,rfl⟩;(try simp only [beq_eq_false_iff_ne,ne_eq,beq_iff_eq] at *);rw [Bool.eq_iff_iff];simp [wbB] <;> omega)
end Go.Proofs.YtkdalopokdhndaaGreat
