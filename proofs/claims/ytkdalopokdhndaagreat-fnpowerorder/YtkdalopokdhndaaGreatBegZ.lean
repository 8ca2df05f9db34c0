import Derived.Test.YtkdalopokdhndaaGreatOwnLZ
set_option maxHeartbeats 16000000
set_option maxRecDepth 100000
namespace Go.Proofs.YtkdalopokdhndaaGreat
open Go.RowKit Go.Maps Go.ChangeMaps
variable {Kn:ByteArray->Bool}{size:Nat}{e:Ev}
def begB (size:Nat)(e:Ev):Bool :=
 if size=0 then e.ty.toList == [99,114,101,97,116,101] else !(e.ty.toList == [99,114,101,97,116,101]) && (decide (0<e.np) && decide (0<e.na))
def insC (Kn:ByteArray->Bool)(size:Nat)(e:Ev):Int :=
 if e.code≠0 then e.code
 else if Kn e.id=true then 6
 else if allTo Kn e.Pv e.np=false∨allTo Kn e.Av e.na=false then 7
 else if begB size e=false then 8
 else if 300<=size then 9
 else 0
theorem insC1 (h:e.code≠0):insC Kn size e=e.code:=by rw [insC,if_pos h]
theorem insC6 (h:e.code=0)(h6:Kn e.id=true):insC Kn size e=6:=by rw [insC,if_neg (by simp [h]),if_pos h6]
theorem insC7 (h:e.code=0)(h6:Kn e.id=false)(h7:allTo Kn e.Pv e.np=false∨allTo Kn e.Av e.na=false):insC Kn size e=7:=by
 rw [insC,if_neg (by simp [h]),if_neg (by simp [h6]),if_pos h7]
theorem insC8 (h:e.code=0)(h6:Kn e.id=false)(h7:allTo Kn e.Pv e.np=true)(h7':allTo Kn e.Av e.na=true)(h8:begB size e=false):insC Kn size e=8:=by
 rw [insC,if_neg (by simp [h]),if_neg (by simp [h6]),if_neg (by simp [h7,h7']),if_pos h8]
theorem insC9 (h:e.code=0)(h6:Kn e.id=false)(h7:allTo Kn e.Pv e.np=true)(h7':allTo Kn e.Av e.na=true)(h8:begB size e=true)(h9:300<=size):insC Kn size e=9:=by
 rw [insC,if_neg (by simp [h]),if_neg (by simp [h6]),if_neg (by simp [h7,h7']),if_neg (by simp [h8]),if_pos h9]
theorem insC0 (h:e.code=0)(h6:Kn e.id=false)(h7:allTo Kn e.Pv e.np=true)(h7':allTo Kn e.Av e.na=true)(h8:begB size e=true)(h9:¬ 300<=size):insC Kn size e=0:=by
 rw [insC,if_neg (by simp [h]),if_neg (by simp [h6]),if_neg (by simp [h7,h7']),if_neg (by simp [h8]),if_neg h9]
theorem code_refs (h:e.code=0):e.np<=10∧e.na<=10:=by
 unfold Ev.code evCode at h;split at h;· cases h
 split at h;· cases h
 split at h;· cases h
 split at h;· cases h
 rename_i h4;constructor
 ·rcases Nat.lt_or_ge 10 e.np with h'|h'
  ·exact absurd (Or.inl (by unfold refsB;rw [decide_eq_false (by omega)];rfl)) h4
  exact h'
 rcases Nat.lt_or_ge 10 e.na with h'|h'
 ·exact absurd (Or.inr (by unfold refsB;rw [decide_eq_false (by omega)];rfl)) h4
 exact h'
abbrev evCs (e:Ev)(pa:Option Addr)(cp:Nat)(aa:Option Addr)(ca:Nat)(ga:Option Addr)(cg:Nat):Array Value :=
 (ec e pa cp aa ca ga cg)
theorem beg_any (size:Nat)(e:Ev)(pa:Option Addr)(cp:Nat)(aa:Option Addr)(ca:Nat)(ga:Option Addr)(cg:Nat)(w:World)(hp:e.np<=10) :
  Calls Tryz.prog 135 #[.int .i64 size,e.val' pa cp aa ca ga cg] w fun x w'=>x=.returned (.bool (begB size e))∧Below w.heap.size w w':=by
 have hb0:∀ o,Below w.heap.size w (w.alloc o):=fun o=>bA
 by_cases h0:size=0
 ·subst h0
  have hv:Hid ((e.ty.toList == [99,114,101,97,116,101])=begB 0 e):=rfl
  go_enter Tryz.func135,Tryz.ntmps135
  go_wp2
  go_ret;exact ⟨ret_bool hv.out,hb0 _⟩
 have hv:Hid (begB size e=(!(e.ty.toList == [99,114,101,97,116,101]) && (decide (0<e.np) && decide (0<e.na)))):=by unfold Hid begB;rw [if_neg h0]
 cases ht:(e.ty.toList == [99,114,101,97,116,101])
 ·by_cases hpp:0<e.np
  ·have hv2:Hid (decide (0<e.na)=begB size e):=by unfold Hid;rw [hv.out,ht,decide_eq_true hpp];rfl
   go_enter Tryz.func135,Tryz.ntmps135
   go_wp2
   go_ret;exact ⟨ret_bool hv2.out,hb0 _⟩
  have hv2:Hid (false=begB size e):=by unfold Hid;rw [hv.out,ht,decide_eq_false hpp];rfl
  have hnp:e.np=0:=by omega
  go_enter Tryz.func135,Tryz.ntmps135
  go_wp2
  go_ret;exact ⟨ret_bool hv2.out,hb0 _⟩
 have hv2:Hid (false=begB size e):=by unfold Hid;rw [hv.out,ht];rfl
 go_enter Tryz.func135,Tryz.ntmps135
 go_wp2
 go_ret;exact ⟨ret_bool hv2.out,hb0 _⟩
end Go.Proofs.YtkdalopokdhndaaGreat
namespace Go.Proofs.YtkdalopokdhndaaGreat
open Go.RowKit
theorem wordByte_any (c:Int)(w:World) :
  Calls Tryz.prog 130 #[.int .u8 c] w fun e w'=>e=.returned (.bool (wbB c))∧w'=w:=by
 go_enter Tryz.func130,Tryz.ntmps130
 go_wp2
 all_goals (go_ret;exact ⟨ret_bool (by rw [Bool.eq_iff_iff];simp [wbB] <;> omega),rfl⟩)
theorem word_any (s:ByteArray)(w:World)(hs:s.size<=maxLen) :
  Calls Tryz.prog 67 #[.string s] w fun e w'=>e=.returned (.bool (isW s))∧w'=w:=by
 unfold maxLen at hs
 go_enter Tryz.func67,Tryz.ntmps67
 go_wp2
 go_loop [3] (fun i=>∃ k:Nat,k<=s.size∧i=.int .i64 k∧Hid (((bts s).take k).all wbB=true)) (fun i=>s.size - (intOf i).toNat)
 case atStart=>exact ⟨0,nz,rfl,rfl⟩
 case round =>
  obtain ⟨k,hk,rfl,hall⟩:=hrel
  by_cases hlt:k<s.size
  ·go_wp2_with (go_at_call 130;refine (wordByte_any _ _).mono ?_;rintro e w' ⟨rfl,rfl⟩)
   ·go_ret
    refine ⟨ret_bool ?_,rfl⟩;rw [isW_of_take s k hlt (by simpa using (by assumption:(!wbB (s[k].toNat:Int))=true))]
   go_round
   case rel=>exact ⟨k+1,by omega,by go_num,by unfold Hid;rw [all_take_succ s k hlt,hall.out];simpa using (by assumption:(!wbB (s[k].toNat:Int))=false)⟩
   simp [intOf];omega
  go_wp2
  all_goals
   go_ret;refine ⟨ret_bool ?_,rfl⟩;rw [isW_of_all s (by rw [<- List.take_of_length_le (show (bts s).length<=k by rw [bts_len];omega)];exact hall.out)];rw [Bool.eq_iff_iff];simp <;> omega
theorem has_any (b off n cap:Nat)(S:Nat->ByteArray)(s:ByteArray)(w:World)(hn:n<=maxLen)
  (hc:∀ i,i<n->w.cell? ⟨b,off+i,none⟩=some (.string (S i))) :
  Calls Tryz.prog 105 #[.slice (some ⟨b,off,none⟩) n cap,.string s] w fun e w'=>e=.returned (.bool (hasB S n s))∧w'=w:=by
 unfold maxLen at hn
 go_enter Tryz.func105,Tryz.ntmps105
 go_wp2
 go_loop [5] (fun i=>∃ k:Nat,k<=n∧i=.int .i64 k∧Hid (hasB S k s=false)) (fun i=>n - (intOf i).toNat)
 case atStart=>exact ⟨0,nz,rfl,rfl⟩
 case round =>
  obtain ⟨k,hk,rfl,hall⟩:=hrel
  by_cases hlt:k<n
  ·have hck:=hc k hlt
   go_wp2
   ·go_ret
    exact ⟨ret_bool (hasB_of S s n k hlt (by assumption)).symm,rfl⟩
   go_round
   case rel=>exact ⟨k+1,by omega,by go_num,by unfold Hid hasB;rw [hall.out];simpa using (by assumption:((S k).toList == s.toList)=false)⟩
   simp [intOf];omega
  go_wp2
  go_ret;refine ⟨ret_bool ?_,rfl⟩;rw [show n=k by omega,hall.out]
theorem refsS_any (b off n cap:Nat)(S:Nat->ByteArray)(id:ByteArray)(w:World)(hn:n<=cap)(hcap:cap<=maxLen)
  (hs:∀ i,i<n->(S i).size<=maxLen)
  (hc:∀ i,i<n->w.cell? ⟨b,off+i,none⟩=some (.string (S i))) :
  Calls Tryz.prog 68 #[.slice (some ⟨b,off,none⟩) n cap,.string id] w fun e w'=>e=.returned (.bool (refsB S n id))∧Dr w w':=by
 have hcap2:=hcap;unfold maxLen at hcap2
 by_cases h10:n<=10
 ·go_enter Tryz.func68,Tryz.ntmps68
  go_wp2
  go_loopw [5] (fun i wr=>∃ k:Nat,k<=n∧i=.int .i64 k∧Hid (refsTo S id k=true)∧Dr w wr) (fun i _=>n - (intOf i).toNat)
  case atStart=>exact ⟨0,nz,rfl,rfl,Dr.refl _⟩
  case round =>
   obtain ⟨k,hk,rfl,hall,hdr⟩:=hrel;have hcr:∀ i,i<n->wr.cell? ⟨b,off+i,none⟩=some (.string (S i)):=fun i hi=>(hdr.cell _).trans (hc i hi)
   by_cases hlt:k<n
   ·have hck:=hcr k hlt
    have hlen:=hs k hlt;cases h1:isW (S k)
    ·go_wp2_with fail
     go_quiet ((go_at_call 67;exact Calls.quiet_of_same (word_any _ _ hlen)))
     go_wp2
     go_ret;exact ⟨ret_bool (by rw [refsB,refsTo_le S id n k hlt (by unfold refsTo;rw [h1];simp)];simp),hdr.drewN _⟩
    cases h2:((S k).toList == id.toList)
    ·cases h3:hasB S k (S k)
     ·go_wp2_with fail
      go_quiet ((first|(go_at_call 67;exact Calls.quiet_of_same (word_any _ _ hlen))|(go_at_call 105;exact Calls.quiet_of_same (has_any b off k cap S _ _ (by omega) (fun i hi=>hcr i (by omega))))))
      go_wp2
      go_roundw
      case rel=>exact ⟨k+1,by omega,by go_num,by unfold Hid refsTo;rw [hall.out,h1,h2,h3];rfl,hdr.drewN _⟩
      simp [intOf];omega
     go_wp2_with fail
     go_quiet ((first|(go_at_call 67;exact Calls.quiet_of_same (word_any _ _ hlen))|(go_at_call 105;exact Calls.quiet_of_same (has_any b off k cap S _ _ (by omega) (fun i hi=>hcr i (by omega))))))
     go_wp2
     go_ret;exact ⟨ret_bool (by rw [refsB,refsTo_le S id n k hlt (by unfold refsTo;rw [h3];simp)];simp),hdr.drewN _⟩
    go_wp2_with fail
    go_quiet ((go_at_call 67;exact Calls.quiet_of_same (word_any _ _ hlen)))
    go_wp2
    go_ret;exact ⟨ret_bool (by rw [refsB,refsTo_le S id n k hlt (by unfold refsTo;rw [h2];simp)];simp),hdr.drewN _⟩
   go_wp2
   go_ret;refine ⟨ret_bool ?_,hdr⟩;rw [refsB,show n=k by omega,hall.out];simp;omega
 go_enter Tryz.func68,Tryz.ntmps68
 go_wp2
 go_ret;exact ⟨ret_bool (by simp [refsB,h10]),Dr.refl _⟩
theorem bare_yes (s:ByteArray)(h:0<s.size)(h1:(s[0].toNat:Int)=42∨((s[0].toNat:Int) == 42)=true∨((s[0].toNat:Int) == 35)=true):bareS s=s.extract 1 s.size:=by
 rw [bareS,starB_pos s h,if_pos];simp only [Bool.or_eq_true];rcases h1 with h1|h1|h1
 ·exact Or.inl (by simpa using h1)
 ·exact Or.inl h1
 exact Or.inr h1
theorem bare_no (s:ByteArray)(h:0<s.size)(h1:((s[0].toNat:Int) == 42)=false∧((s[0].toNat:Int) == 35)=false):bareS s=s:=by
 rw [bareS,starB_pos s h,h1.1,h1.2];simp
theorem bare_zero (s:ByteArray)(h:s.size=0):bareS s=s:=by
 rw [bareS,starB_zero s h];simp
theorem nameS_any (s:ByteArray)(w:World)(hs:s.size<=maxLen) :
  Calls Tryz.prog 192 #[.string s] w fun e w'=>e=.returned (.bool (nameB s))∧w'=w:=by
 have hs2:=hs;unfold maxLen at hs2;have hex:(s.extract 1 s.size).size<=maxLen:=by rw [ByteArray.size_extract];unfold maxLen;omega
 go_enter Tryz.func192,Tryz.ntmps192
 go_wp2_with fail
 ·refine (word_any _ _ hex).mono ?_
  rintro e w' ⟨rfl,rfl⟩;go_wp2
  go_ret;exact ⟨ret_bool (by rw [nameB,bare_yes s (by assumption) (Or.inl (by assumption))]),rfl⟩
 ·refine (word_any _ _ hex).mono ?_
  rintro e w' ⟨rfl,rfl⟩;go_wp2
  go_ret;exact ⟨ret_bool (by rw [nameB,bare_yes s (by assumption) (Or.inr (by assumption))]),rfl⟩
 ·refine (word_any _ _ hs).mono ?_
  rintro e w' ⟨rfl,rfl⟩;go_wp2
  go_ret;exact ⟨ret_bool (by rw [nameB,bare_no s (by assumption) (by assumption)]),rfl⟩
 refine (word_any _ _ hs).mono ?_;rintro e w' ⟨rfl,rfl⟩;have h0:¬ 0<s.size:=by assumption
 go_wp2
 go_ret;exact ⟨ret_bool (by rw [nameB,bare_zero s (by omega)]),rfl⟩
theorem grS_any (b off n cap:Nat)(M:Nat->ByteArray)(L:Nat->Int)(w:World)(hn:n<=maxLen)
  (hs:∀ i,i<n->(M i).size<=maxLen)
  (hc:∀ i,i<n->w.cell? ⟨b,off+i * 2,none⟩=some (.string (M i)))
  (hl:∀ i,i<n->w.cell? ⟨b,off+i * 2+1,none⟩=some (.int .i64 (L i))) :
  Calls Tryz.prog 131 #[.slice (some ⟨b,off,none⟩) n cap] w fun e w'=>e=.returned (.bool (grB M L n))∧Dr w w':=by
 unfold maxLen at hn
 go_enter Tryz.func131,Tryz.ntmps131
 go_wp2
 go_loopw [3] (fun i wr=>∃ k:Nat,k<=n∧i=.int .i64 k∧Hid (grTo M L k=true)∧Dr w wr) (fun i _=>n - (intOf i).toNat)
 case atStart=>exact ⟨0,nz,rfl,rfl,Dr.refl _⟩
 case round =>
  obtain ⟨k,hk,rfl,hto,hdr⟩:=hrel
  by_cases hlt:k<n
  ·have hck:wr.cell? ⟨b,off+k * 2,none⟩=some (.string (M k)):=(hdr.cell _).trans (hc k hlt)
   have hlk:wr.cell? ⟨b,off+k * 2+1,none⟩=some (.int .i64 (L k)):=(hdr.cell _).trans (hl k hlt);have hlen:=hs k hlt;cases hnm:nameB (M k)
   ·go_wp2_with (go_at_call 192;refine (nameS_any _ _ hlen).mono ?_;rintro e w' ⟨rfl,rfl⟩)
    go_ret;exact ⟨ret_bool (by rw [grB,grTo_le M L n k hlt (by rw [grTo,hnm];simp)];simp),hdr⟩
   by_cases h1:L k < -1000000
   ·go_wp2_with (go_at_call 192;refine (nameS_any _ _ hlen).mono ?_;rintro e w' ⟨rfl,rfl⟩)
    go_ret;exact ⟨ret_bool (by rw [grB,grTo_le M L n k hlt (by rw [grTo];simp [h1])];simp),hdr⟩
   by_cases h2:1000000<L k
   ·go_wp2_with (go_at_call 192;refine (nameS_any _ _ hlen).mono ?_;rintro e w' ⟨rfl,rfl⟩)
    go_ret;exact ⟨ret_bool (by rw [grB,grTo_le M L n k hlt (by rw [grTo];simp [h2])];simp),hdr⟩
   by_cases h0:k=0
   ·have hk0:decide (0<k)=false:=by simp;omega
    have H0:Hid (k=0):=h0;clear h0
    go_wp2_with (go_at_call 192;refine (nameS_any _ _ hlen).mono ?_;rintro e w' ⟨rfl,rfl⟩)
    go_quiet (fail)
    go_wp2
    go_roundw
    case rel=>exact ⟨k+1,by omega,by go_num,by unfold Hid;rw [grTo,hto.out,hnm,H0.out];simp;rw [H0.out] at h1 h2;omega,hdr.drewN _⟩
    simp [intOf];omega
   obtain ⟨j,rfl⟩:∃ j,k=j+1:=⟨k - 1,by omega⟩;have hcp:wr.cell? ⟨b,off+j * 2,none⟩=some (.string (M j)):=(hdr.cell _).trans (hc j (by omega));cases hL:Op.bytesLess (M j).toList (M (j+1)).toList
   ·go_wp2_with (go_at_call 192;refine (nameS_any _ _ hlen).mono ?_;rintro e w' ⟨rfl,rfl⟩)
    go_quiet (fail)
    go_wp2
    go_ret;exact ⟨ret_bool (by rw [grB,grTo_le M L n (j+1) hlt (by rw [grTo,show j+1 - 1=j from rfl,hL];simp)];simp),hdr.drewN _⟩
   go_wp2_with (go_at_call 192;refine (nameS_any _ _ hlen).mono ?_;rintro e w' ⟨rfl,rfl⟩)
   go_quiet (fail)
   go_wp2
   go_roundw
   case rel=>exact ⟨j+1+1,by omega,by go_num,by unfold Hid;rw [grTo,hto.out,hnm,show j+1 - 1=j from rfl,hL];simp;omega,hdr.drewN _⟩
   simp [intOf];omega
  go_wp2
  go_ret;refine ⟨ret_bool ?_,hdr⟩;rw [grB,show n=k by omega,hto.out];simp only [Bool.true_and,decide_eq_decide];omega
variable {a:Option Addr}{n cap:Nat}{M S:Nat->ByteArray}
theorem refsS_zero (a:Option Addr)(cap:Nat)(id:ByteArray)(w:World) :
  Calls Tryz.prog 68 #[.slice a 0 cap,.string id] w fun e w'=>e=.returned (.bool true)∧w'=w:=by
 go_enter Tryz.func68,Tryz.ntmps68
 go_wp2
 refine wp_loop_rounds 1 ?_;rw [rounds_succ];go_wp2
 go_ret;exact ⟨rfl,rfl⟩
theorem grS_zero (a:Option Addr)(cap:Nat)(w:World) :
  Calls Tryz.prog 131 #[.slice a 0 cap] w fun e w'=>e=.returned (.bool true)∧w'=w:=by
 go_enter Tryz.func131,Tryz.ntmps131
 go_wp2
 refine wp_loop_rounds 1 ?_;rw [rounds_succ];go_wp2
 go_ret;exact ⟨rfl,rfl⟩
theorem refsS_sl (id:ByteArray)(w:World)(h:SlS w a n cap S) :
  Calls Tryz.prog 68 #[.slice a n cap,.string id] w fun e w'=>e=.returned (.bool (refsB S n id))∧Dr w w':=by
 rcases h.cells with rfl|⟨b,off,rfl,hb,hc⟩
 ·refine (refsS_zero a cap id w).mono ?_
  rintro e w' ⟨rfl,rfl⟩;exact ⟨rfl,Dr.refl _⟩
 exact refsS_any b off n cap S id w h.le h.max h.size hc
theorem grS_sl {L:Nat->Int}(w:World)(h:SlG w a n cap M L) :
  Calls Tryz.prog 131 #[.slice a n cap] w fun e w'=>e=.returned (.bool (grB M L n))∧Dr w w':=by
 rcases h.cells with rfl|⟨b,off,rfl,hb,hc,hl⟩
 ·refine (grS_zero a cap w).mono ?_
  rintro e w' ⟨rfl,rfl⟩;exact ⟨rfl,Dr.refl _⟩
 exact grS_any b off n cap M L w (nZ h.le h.max) h.size hc hl
def litJoin:ByteArray:=⟨#[106,111,105,110]⟩
def litInvite:ByteArray:=⟨#[105,110,118,105,116,101]⟩
def litLeave:ByteArray:=⟨#[108,101,97,118,101]⟩
def litBan:ByteArray:=⟨#[98,97,110]⟩
def litPublic:ByteArray:=⟨#[112,117,98,108,105,99]⟩
theorem memB_has (v:ByteArray):hasB (fun i=>[litJoin,litInvite,litLeave,litBan].getD i ByteArray.empty) 4 v=memB v:=by
 simp only [hasB,memB,List.getD,litJoin,litInvite,litLeave,litBan];rw [beq_swap v.toList [106,111,105,110],beq_swap v.toList [105,110,118,105,116,101],beq_swap v.toList [108,101,97,118,101],beq_swap v.toList [98,97,110]];simp [ByteArray.toList_eq,Bool.or_assoc]
theorem rulB_has (v:ByteArray):hasB (fun i=>[litPublic,litInvite].getD i ByteArray.empty) 2 v=rulB v:=by
 simp only [hasB,rulB,List.getD,litPublic,litInvite];rw [beq_swap v.toList [112,117,98,108,105,99],beq_swap v.toList [105,110,118,105,116,101]];simp [ByteArray.toList_eq]
theorem has_mem (W:World)(v:ByteArray)(blk:Nat)(hblk:blk=W.heap.size) :
  Calls Tryz.prog 105 #[.slice (some ⟨blk,0,none⟩) 4 4,.string v] (W.alloc (.cells #[.string ⟨#[106,111,105,110]⟩,.string ⟨#[105,110,118,105,116,101]⟩,.string ⟨#[108,101,97,118,101]⟩,.string ⟨#[98,97,110]⟩] 9)) fun e w' =>
   e=.returned (.bool (memB v))∧w'=W.alloc (.cells #[.string ⟨#[106,111,105,110]⟩,.string ⟨#[105,110,118,105,116,101]⟩,.string ⟨#[108,101,97,118,101]⟩,.string ⟨#[98,97,110]⟩] 9):=by
 rw [<- memB_has];refine has_any blk 0 4 4 _ v _ (by decide) (fun i hi=>?_);rw [Nat.zero_add,kA hblk]
 match i,hi with
 | 0,_=>rfl
 | 1,_=>rfl
 | 2,_=>rfl
 | 3,_=>rfl
theorem has_rul (W:World)(v:ByteArray)(blk:Nat)(hblk:blk=W.heap.size) :
  Calls Tryz.prog 105 #[.slice (some ⟨blk,0,none⟩) 2 2,.string v] (W.alloc (.cells #[.string ⟨#[112,117,98,108,105,99]⟩,.string ⟨#[105,110,118,105,116,101]⟩] 9)) fun e w' =>
   e=.returned (.bool (rulB v))∧w'=W.alloc (.cells #[.string ⟨#[112,117,98,108,105,99]⟩,.string ⟨#[105,110,118,105,116,101]⟩] 9):=by
 rw [<- rulB_has];refine has_any blk 0 2 2 _ v _ (by decide) (fun i hi=>?_);rw [Nat.zero_add,kA hblk]
 match i,hi with
 | 0,_=>rfl
 | 1,_=>rfl
section
variable (id sd ty key val:ByteArray) (st:Bool) (tm:Int) (pa:Option Addr) (np cp:Nat) (aa:Option Addr) (na ca:Nat) (ga:Option Addr) (ng cg:Nat) (M:Nat->ByteArray) (L:Nat->Int) (w:World)
theorem contS_create (h1:(ty.toList == [99,114,101,97,116,101])=true) :
  Calls Tryz.prog 69 #[evV id sd ty key val st tm pa np cp aa na ca ga ng cg] w fun e w' =>
   e=.returned (.bool (ctB ty key val st np na ng M L))∧Below w.heap.size w w':=by
 go_enter Tryz.func69,Tryz.ntmps69
 go_wp2
 all_goals (go_ret;exact ⟨ret_bool (by simp [ctB, *]),bA⟩)
theorem contS_member (h1:(ty.toList == [99,114,101,97,116,101])=false)(h2:(ty.toList == [109,101,109,98,101,114])=true) :
  Calls Tryz.prog 69 #[evV id sd ty key val st tm pa np cp aa na ca ga ng cg] w fun e w' =>
   e=.returned (.bool (ctB ty key val st np na ng M L))∧Below w.heap.size w w':=by
 go_enter Tryz.func69,Tryz.ntmps69
 go_wp2_with (go_at_call 105;refine (has_mem _ val _ (by simp)).mono ?_;rintro e w' ⟨rfl,rfl⟩)
 all_goals (go_ret;exact ⟨ret_bool (by simp [ctB, *]),by first|exact bA|exact bA.alloc (by simp) _⟩)
theorem contS_rules (h1:(ty.toList == [99,114,101,97,116,101])=false)(h2:(ty.toList == [109,101,109,98,101,114])=false)(h3:(ty.toList == [106,111,105,110,95,114,117,108,101,115])=true) :
  Calls Tryz.prog 69 #[evV id sd ty key val st tm pa np cp aa na ca ga ng cg] w fun e w' =>
   e=.returned (.bool (ctB ty key val st np na ng M L))∧Below w.heap.size w w':=by
 go_enter Tryz.func69,Tryz.ntmps69
 go_wp2_with (go_at_call 105;refine (has_rul _ val _ (by simp)).mono ?_;rintro e w' ⟨rfl,rfl⟩)
 all_goals (go_ret;exact ⟨ret_bool (by simp [ctB, *]),by first|exact bA|exact bA.alloc (by simp) _⟩)
theorem contS_power (h1:(ty.toList == [99,114,101,97,116,101])=false)(h2:(ty.toList == [109,101,109,98,101,114])=false)(h3:(ty.toList == [106,111,105,110,95,114,117,108,101,115])=false)
  (h4:(ty.toList == [112,111,119,101,114])=true) (hg:SlG w ga ng cg M L) :
  Calls Tryz.prog 69 #[evV id sd ty key val st tm pa np cp aa na ca ga ng cg] w fun e w' =>
   e=.returned (.bool (ctB ty key val st np na ng M L))∧Below w.heap.size w w':=by
 go_enter Tryz.func69,Tryz.ntmps69
 go_wp2_with (go_at_call 131;refine (grS_sl _ (hg.below bA)).mono ?_;rintro e w' ⟨rfl,hdr⟩)
 all_goals (go_ret;exact ⟨ret_bool (by simp [ctB, *]),by first|exact bA|exact bA.trans (hdr.below _)⟩)
theorem contS_other (h1:(ty.toList == [99,114,101,97,116,101])=false)(h2:(ty.toList == [109,101,109,98,101,114])=false)(h3:(ty.toList == [106,111,105,110,95,114,117,108,101,115])=false)
  (h4:(ty.toList == [112,111,119,101,114])=false) (hv:val.size<=maxLen) :
  Calls Tryz.prog 69 #[evV id sd ty key val st tm pa np cp aa na ca ga ng cg] w fun e w' =>
   e=.returned (.bool (ctB ty key val st np na ng M L))∧Below w.heap.size w w':=by
 go_enter Tryz.func69,Tryz.ntmps69
 go_wp2_with (go_at_call 67;refine (word_any _ _ hv).mono ?_;rintro e w' ⟨rfl,rfl⟩)
 all_goals (go_ret;exact ⟨ret_bool (by simp [ctB, *]),bA⟩)
theorem contS_any (hv:val.size<=maxLen)(hg:SlG w ga ng cg M L) :
  Calls Tryz.prog 69 #[evV id sd ty key val st tm pa np cp aa na ca ga ng cg] w fun e w' =>
   e=.returned (.bool (ctB ty key val st np na ng M L))∧Below w.heap.size w w':=by
 cases h1:(ty.toList == [99,114,101,97,116,101])
 ·cases h2:(ty.toList == [109,101,109,98,101,114])
  ·cases h3:(ty.toList == [106,111,105,110,95,114,117,108,101,115])
   ·cases h4:(ty.toList == [112,111,119,101,114])
    ·exact contS_other id sd ty key val st tm pa np cp aa na ca ga ng cg M L w h1 h2 h3 h4 hv
    exact contS_power id sd ty key val st tm pa np cp aa na ca ga ng cg M L w h1 h2 h3 h4 hg
   exact contS_rules id sd ty key val st tm pa np cp aa na ca ga ng cg M L w h1 h2 h3
  exact contS_member id sd ty key val st tm pa np cp aa na ca ga ng cg M L w h1 h2
 exact contS_create id sd ty key val st tm pa np cp aa na ca ga ng cg M L w h1
end
theorem index_any (b off n cap:Nat)(S:Nat->ByteArray)(s:ByteArray)(w:World)(hn:n<=maxLen)
  (hc:∀ i,i<n->w.cell? ⟨b,off+i,none⟩=some (.string (S i))) :
  Calls Tryz.prog 194 #[.slice (some ⟨b,off,none⟩) n cap,.string s] w fun e w' =>
   ∃ r:Int,e=.returned (.int .i64 r)∧Hid (decide (0<=r)=hasB S n s)∧w'=w:=by
 unfold maxLen at hn
 go_enter Tryz.func194,Tryz.ntmps194
 go_wp2
 go_loop [8] (fun i=>∃ k:Nat,k<=n∧i=.int .i64 k∧Hid (hasB S k s=false)) (fun i=>n - (intOf i).toNat)
 case atStart=>exact ⟨0,nz,rfl,rfl⟩
 case round =>
  obtain ⟨k,hk,rfl,hall⟩:=hrel
  by_cases hlt:k<n
  ·have hck:=hc k hlt
   go_wp2
   ·go_ret
    have hE:(s.toList == (S k).toList)=true:=by assumption
    exact ⟨_,rfl,by unfold Hid;rw [hasB_of S s n k hlt (by rw [beq_swap];exact hE)];simp;try omega,rfl⟩
   go_round
   have hE:(s.toList == (S k).toList)=false:=by assumption
   case rel=>exact ⟨k+1,by omega,by go_num,by unfold Hid hasB;rw [hall.out,beq_swap];simpa using hE⟩
   simp [intOf];omega
  go_wp2
  go_ret;refine ⟨_,rfl,?_,rfl⟩;unfold Hid;rw [show n=k by omega,hall.out];rfl
theorem contains_any (b off n cap:Nat)(S:Nat->ByteArray)(s:ByteArray)(w:World)(hn:n<=maxLen)
  (hc:∀ i,i<n->w.cell? ⟨b,off+i,none⟩=some (.string (S i))) :
  Calls Tryz.prog 137 #[.slice (some ⟨b,off,none⟩) n cap,.string s] w fun e w'=>e=.returned (.bool (hasB S n s))∧w'=w:=by
 go_enter Tryz.func137,Tryz.ntmps137
 go_wp2_with (go_at_call 194;refine (index_any b off n cap S s _ hn hc).mono ?_;rintro e w' ⟨r,rfl,hr,rfl⟩)
 go_ret;exact ⟨ret_bool hr.out,rfl⟩
theorem inWord_any (c:Int)(w:World) :
  Calls Tryz.prog 193 #[.int .u8 c] w fun e w'=>e=.returned (.bool (wbB c))∧w'=w:=by
 go_enter Tryz.func193,Tryz.ntmps193
 go_wp2
 all_goals (go_ret;refine ⟨ret_bool ?_,rfl⟩;(try simp only [beq_eq_false_iff_ne,ne_eq,beq_iff_eq] at *);rw [Bool.eq_iff_iff];simp [wbB] <;> omega)
theorem cntW_yes (S:Nat->ByteArray)(k:Nat)(h:isW (S k)=true):((cntW S (k+1):Nat):Int)=(cntW S k:Int)+1:=by
 rw [cntW,h];simp
theorem cntW_no (S:Nat->ByteArray)(k:Nat)(h:isW (S k)=false):cntW S (k+1)=cntW S k:=by
 rw [cntW,h];simp
theorem isW_empty (s:ByteArray)(h:s.size=0):isW s=false:=by simp [isW,h]
theorem isW_long (s:ByteArray)(h:40<s.size):isW s=false:=by simp [isW];omega
theorem isW_bad (s:ByteArray)(h:s.toList.isEmpty=true∨(40:Int)<(s.size:Int)):isW s=false:=by
 rcases h with h|h
 ·exact isW_empty _ (size_of_nil _ (List.isEmpty_iff.1 h))
 exact isW_long _ (by omega)
theorem size_yes (s:ByteArray)(h:s.toList.isEmpty=false∧(s.size:Int)<=40):(decide (1<=s.size) && decide (s.size<=40))=true:=by
 obtain ⟨h1,h2⟩:=h;have h3:=size_yes_pos s h1;simp;omega
theorem countWords_any (b off n cap:Nat)(S:Nat->ByteArray)(w:World)(hn:n<=maxLen)
  (hs:∀ i,i<n->(S i).size<=maxLen)
  (hc:∀ i,i<n->w.cell? ⟨b,off+i,none⟩=some (.string (S i))) :
  Calls Tryz.prog 136 #[.slice (some ⟨b,off,none⟩) n cap] w fun e w'=>e=.returned (.int .i64 (cntW S n))∧w'=w:=by
 unfold maxLen at hn
 go_enter Tryz.func136,Tryz.ntmps136
 go_wp2
 go_step3
 go_wp2
 go_step3
 go_wp2
 go_loopg [3,9] n (fun g s3 s9 wx=>∃ k:Nat,k+g=n∧s9=.int .i64 k∧s3=.int .i64 (cntW S k)∧wx=w)
 case atStart=>exact ⟨0,by omega,rfl,rfl,rfl⟩
 case round =>
  obtain ⟨k,hkg,rfl,rfl,rfl⟩:=hrel;have hcl:=cntW_le S k
  by_cases hlt:k<n
  ·have hck:=hc k hlt
   have hlen:=hs k hlt;unfold maxLen at hlen;cases he:(S k).toList.isEmpty
   case true =>
    go_wp2
    go_roundg (n - (k+1))
    case measure=>omega
    exact ⟨k+1,by omega,by go_num,by rw [cntW_no S k (isW_bad _ (Or.inl he))],rfl⟩
   by_cases h40:(40:Int)<((S k).size:Int)
   ·go_wp2
    go_roundg (n - (k+1))
    case measure=>omega
    exact ⟨k+1,by omega,by go_num,by rw [cntW_no S k (isW_bad _ (Or.inr h40))],rfl⟩
   have h40':((S k).size:Int)<=40:=by omega
   have HA:Hid ((S k).toList.isEmpty=false∧((S k).size:Int)<=40):=⟨he,h40'⟩;go_wp2
   go_loopg [6] (S k).size (fun g s6 wx=>∃ j:Nat,j+g=(S k).size∧s6=.int .i64 j∧Hid (((bts (S k)).take j).all wbB=true)∧wx=wr)
   case atStart=>exact ⟨0,by omega,rfl,rfl,rfl⟩
   case round =>
    obtain ⟨j,hjg,rfl,hall,rfl⟩:=hrel
    by_cases hjl:j<(S k).size
    ·go_wp2_with (go_at_call 193;refine (inWord_any _ _).mono ?_;rintro e w' ⟨rfl,rfl⟩)
     ·have hb:(!wbB ((S k)[j].toNat:Int))=true:=by assumption
      go_roundg (n - (k+1))
      case measure=>omega
      exact ⟨k+1,by omega,by go_num,by rw [cntW_no S k (isW_of_take _ j hjl (by simpa using hb))],rfl⟩
     have hb:(!wbB ((S k)[j].toNat:Int))=false:=by assumption
     go_roundg ((S k).size - (j+1))
     case measure=>omega
     exact ⟨j+1,by omega,by go_num,by unfold Hid;rw [all_take_succ _ j hjl,hall.out];simpa using hb,rfl⟩
    have hw:isW (S k)=true:=by
     rw [isW_of_all _ (by rw [<- List.take_of_length_le (show (bts (S k)).length<=j by rw [bts_len];omega)];exact hall.out)];exact size_yes _ HA.out
    go_wp2
    go_roundg (n - (k+1))
    case measure=>omega
    exact ⟨k+1,by omega,by go_num,by rw [cntW_yes S k hw],rfl⟩
  go_wp2
  rw [Exit.noGoto_ret];go_ret;exact ⟨ret_int (by rw [show n=k by omega]),rfl⟩
theorem allWords_any (b off n cap:Nat)(S:Nat->ByteArray)(w:World)(hn:n<=maxLen)
  (hs:∀ i,i<n->(S i).size<=maxLen)
  (hc:∀ i,i<n->w.cell? ⟨b,off+i,none⟩=some (.string (S i))) :
  Calls Tryz.prog 81 #[.slice (some ⟨b,off,none⟩) n cap] w fun e w'=>e=.returned (.bool (allW S n))∧w'=w:=by
 go_enter Tryz.func81,Tryz.ntmps81
 go_wp2_with (go_at_call 136;refine (countWords_any b off n cap S _ hn hs hc).mono ?_;rintro e w' ⟨rfl,rfl⟩)
 go_ret;exact ⟨ret_bool (cntW_all S n),rfl⟩
theorem allWords_one (blk : Nat) (s : ByteArray) (w : World) (hs : s.size <= maxLen) (hc : w.cell? ⟨blk, 0, none⟩ = some (.string s)) :
    Calls Tryz.prog 81 #[.slice (some ⟨blk, 0, none⟩) 1 1] w fun e w' => e = .returned (.bool (isW s)) ∧ w' = w := by
  have := allWords_any blk 0 1 1 (fun _ => s) w (by decide) (fun _ _ => hs) (fun i hi => by obtain rfl : i = 0 := by omega
                                                                                            exact hc)
  simpa [allW] using this
theorem refsI_any (b off n cap:Nat)(S:Nat->ByteArray)(id:ByteArray)(w:World)(hn:n<=cap)(hcap:cap<=maxLen)
  (hs:∀ i,i<n->(S i).size<=maxLen)
  (hc:∀ i,i<n->w.cell? ⟨b,off+i,none⟩=some (.string (S i))) :
  Calls Tryz.prog 83 #[.slice (some ⟨b,off,none⟩) n cap,.string id] w fun e w'=>e=.returned (.bool (refsB S n id))∧w'=w:=by
 have hcap2:=hcap;unfold maxLen at hcap2
 by_cases h10:n<=10
 ·cases hall:allW S n
  ·go_enter Tryz.func83,Tryz.ntmps83
   go_wp2_with (go_at_call 81;refine (allWords_any b off n cap S _ (by omega) hs hc).mono ?_;rintro e w' ⟨rfl,rfl⟩)
   go_ret;exact ⟨ret_bool (by rw [refsB,refsTo_eq,hall];simp),rfl⟩
  go_enter Tryz.func83,Tryz.ntmps83
  go_wp2_with (go_at_call 81;refine (allWords_any b off n cap S _ (by omega) hs hc).mono ?_;rintro e w' ⟨rfl,rfl⟩)
  go_loop [17] (fun i=>∃ k:Nat,k<=n∧i=.int .i64 k∧Hid (refs2To S id k=true)) (fun i=>n - (intOf i).toNat)
  case atStart=>exact ⟨0,nz,rfl,rfl⟩
  case round =>
   obtain ⟨k,hk,rfl,hto⟩:=hrel
   by_cases hlt:k<n
   ·have hck:=hc k hlt
    go_wp2_with (go_at_call 137;refine (contains_any b off k cap S _ _ (by omega) (fun i hi=>hc i (by omega))).mono ?_;rintro e w' ⟨rfl,rfl⟩)
    ·have h1:(S k).toList=id.toList:=by assumption
     go_ret;exact ⟨ret_bool (by rw [refsB,refsTo_eq,refs2To_le S id n k hlt (by rw [refs2To,h1];simp)];simp),rfl⟩
    ·have h1:((S k).toList == id.toList)=true∨hasB S k (S k)=true:=by assumption
     go_ret;exact ⟨ret_bool (by rw [refsB,refsTo_eq,refs2To_le S id n k hlt (by rw [refs2To];rcases h1 with h1|h1 <;> rw [h1] <;> simp)];simp),rfl⟩
    have h1:((S k).toList == id.toList)=false∧hasB S k (S k)=false:=by assumption
    go_round
    case rel=>exact ⟨k+1,by omega,by go_num,by unfold Hid refs2To;rw [hto.out,h1.1,h1.2];rfl⟩
    simp [intOf];omega
   go_wp2
   go_ret;refine ⟨ret_bool ?_,rfl⟩;rw [refsB,refsTo_eq,hall,show n=k by omega,hto.out];simp;omega
 go_enter Tryz.func83,Tryz.ntmps83
 go_wp2
 go_ret;exact ⟨ret_bool (by simp [refsB,h10]),rfl⟩
def keyB (st:Bool)(key:ByteArray):Bool:=key.toList.isEmpty || (st && isW key)
theorem keyOk_any (st:Bool)(key:ByteArray)(w:World)(hk:key.size<=maxLen) :
  Calls Tryz.prog 82 #[.bool st,.string key] w fun e w'=>e=.returned (.bool (keyB st key))∧Below w.heap.size w w':=by
 cases he:key.toList.isEmpty
 case true =>
  go_enter Tryz.func82,Tryz.ntmps82
  go_wp2
  go_ret;exact ⟨ret_bool (by simp [keyB,he]),kB⟩
 cases st
 case false =>
  go_enter Tryz.func82,Tryz.ntmps82
  go_wp2
  go_ret;exact ⟨ret_bool (by simp [keyB,he]),kB⟩
 go_enter Tryz.func82,Tryz.ntmps82
 go_wp2_with fail
 refine (allWords_one w.heap.size key _ hk (kA rfl)).mono ?_;rintro e w' ⟨rfl,rfl⟩;go_wp2
 go_ret;exact ⟨ret_bool (by simp [keyB,he]),bA⟩
end Go.Proofs.YtkdalopokdhndaaGreat
