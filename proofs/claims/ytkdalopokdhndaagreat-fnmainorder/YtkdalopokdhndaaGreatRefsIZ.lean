import Derived.Test.YtkdalopokdhndaaGreatRmZ
set_option maxHeartbeats 16000000
set_option maxRecDepth 100000
namespace Go.Proofs.YtkdalopokdhndaaGreat
open Go.RowKit
theorem cntW_yes (S:Nat->ByteArray)(k:Nat)(h:isW (S k)=true):((cntW S (k+1):Nat):Int)=(cntW S k:Int)+1:=by
 rw [cntW,h];simp
theorem cntW_no (S:Nat->ByteArray)(k:Nat)(h:isW (S k)=false):cntW S (k+1)=cntW S k:=by
 rw [cntW,h];simp
theorem isW_empty (s:ByteArray)(h:s.size=0):isW s=false:=by simp [isW,h]
theorem isW_long (s:ByteArray)(h:40<s.size):isW s=false:=by simp [isW];omega
theorem isW_bad (s:ByteArray)(h:s.toList.isEmpty=true∨(40:Int)<(s.size:Int)):isW s=false:=by
 rcases h with h|h
 ·exact isW_empty _ (size_of_nil _ (List.isEmpty_iff.1 h))
 exact isW_long _ (by omega)
theorem size_yes (s:ByteArray)(h:s.toList.isEmpty=false∧(s.size:Int)<=40):(decide (1<=s.size) && decide (s.size<=40))=true:=by
 obtain ⟨h1,h2⟩:=h;have h3:=size_yes_pos s h1;simp;omega
theorem countWords_any (b off n cap:Nat)(S:Nat->ByteArray)(w:World)(hn:n<=maxLen)
  (hs:∀ i,i<n->(S i).size<=maxLen)
  (hc:∀ i,i<n->w.cell? ⟨b,off+i,none⟩=some (.string (S i))) :
  Calls Tryz.prog 136 #[.slice (some ⟨b,off,none⟩) n cap] w fun e w'=>e=.returned (.int .i64 (cntW S n))∧w'=w:=by
 unfold maxLen at hn
 go_enter Tryz.func136,Tryz.ntmps136
 go_wp2
 go_step3
 go_wp2
 go_step3
 go_wp2
 go_loopg [3,9] n (fun g s3 s9 wx=>∃ k:Nat,k+g=n∧s9=.int .i64 k∧s3=.int .i64 (cntW S k)∧wx=w)
 case atStart=>exact ⟨0,by omega,rfl,rfl,rfl⟩
 case round =>
  obtain ⟨k,hkg,rfl,rfl,rfl⟩:=hrel;have hcl:=cntW_le S k
  by_cases hlt:k<n
  ·have hck:=hc k hlt
   have hlen:=hs k hlt;unfold maxLen at hlen;cases he:(S k).toList.isEmpty
   case true =>
    go_wp2
    go_roundg (n - (k+1))
    case measure=>omega
    exact ⟨k+1,by omega,by go_num,by rw [cntW_no S k (isW_bad _ (Or.inl he))],rfl⟩
   by_cases h40:(40:Int)<((S k).size:Int)
   ·go_wp2
    go_roundg (n - (k+1))
    case measure=>omega
    exact ⟨k+1,by omega,by go_num,by rw [cntW_no S k (isW_bad _ (Or.inr h40))],rfl⟩
   have h40':((S k).size:Int)<=40:=by omega
   have HA:Hid ((S k).toList.isEmpty=false∧((S k).size:Int)<=40):=⟨he,h40'⟩;go_wp2
   go_loopg [6] (S k).size (fun g s6 wx=>∃ j:Nat,j+g=(S k).size∧s6=.int .i64 j∧Hid (((bts (S k)).take j).all wbB=true)∧wx=wr)
   case atStart=>exact ⟨0,by omega,rfl,rfl,rfl⟩
   case round =>
    obtain ⟨j,hjg,rfl,hall,rfl⟩:=hrel
    by_cases hjl:j<(S k).size
    ·go_wp2_with (go_at_call 193;refine (inWord_any _ _).mono ?_;rintro e w' ⟨rfl,rfl⟩)
     ·have hb:(!wbB ((S k)[j].toNat:Int))=true:=by assumption
      go_roundg (n - (k+1))
      case measure=>omega
      exact ⟨k+1,by omega,by go_num,by rw [cntW_no S k (isW_of_take _ j hjl (by simpa using hb))],rfl⟩
     have hb:(!wbB ((S k)[j].toNat:Int))=false:=by assumption
     go_roundg ((S k).size - (j+1))
     case measure=>omega
     exact ⟨j+1,by omega,by go_num,by unfold Hid;rw [all_take_succ _ j hjl,hall.out];simpa using hb,rfl⟩
    have hw:isW (S k)=true:=by
     rw [isW_of_all _ (by rw [<- List.take_of_length_le (show (bts (S k)).length<=j by rw [bts_len];omega)];exact hall.out)];exact size_yes _ HA.out
    go_wp2
    go_roundg (n - (k+1))
    case measure=>omega
    exact ⟨k+1,by omega,by go_num,by rw [cntW_yes S k hw],rfl⟩
  go_wp2
  rw [Exit.noGoto_ret];go_ret;exact ⟨ret_int (by rw [show n=k by omega]),rfl⟩
theorem allWords_any (b off n cap:Nat)(S:Nat->ByteArray)(w:World)(hn:n<=maxLen)
  (hs:∀ i,i<n->(S i).size<=maxLen)
  (hc:∀ i,i<n->w.cell? ⟨b,off+i,none⟩=some (.string (S i))) :
  Calls Tryz.prog 81 #[.slice (some ⟨b,off,none⟩) n cap] w fun e w'=>e=.returned (.bool (allW S n))∧w'=w:=by
 go_enter Tryz.func81,Tryz.ntmps81
 go_wp2_with (go_at_call 136;refine (countWords_any b off n cap S _ hn hs hc).mono ?_;rintro e w' ⟨rfl,rfl⟩)
 go_ret;exact ⟨ret_bool (cntW_all S n),rfl⟩
theorem allWords_one (blk : Nat) (s : ByteArray) (w : World) (hs : s.size <= maxLen) (hc : w.cell? ⟨blk, 0, none⟩ = some (.string s)) :
    Calls Tryz.prog 81 #[.slice (some ⟨blk, 0, none⟩) 1 1] w fun e w' => e = .returned (.bool (isW s)) ∧ w' = w := by
  have := allWords_any blk 0 1 1 (fun _ => s) w (by decide) (fun _ _ => hs) (fun i hi => by obtain rfl : i = 0 := by omega
                                                                                            exact hc)
  simpa [allW] using this
theorem refsI_any (b off n cap:Nat)(S:Nat->ByteArray)(id:ByteArray)(w:World)(hn:n<=cap)(hcap:cap<=maxLen)
  (hs:∀ i,i<n->(S i).size<=maxLen)
  (hc:∀ i,i<n->w.cell? ⟨b,off+i,none⟩=some (.string (S i))) :
  Calls Tryz.prog 83 #[.slice (some ⟨b,off,none⟩) n cap,.string id] w fun e w'=>e=.returned (.bool (refsB S n id))∧w'=w:=by
 have hcap2:=hcap;unfold maxLen at hcap2
 by_cases h10:n<=10
 ·cases hall:allW S n
  ·go_enter Tryz.func83,Tryz.ntmps83
   go_wp2_with (go_at_call 81;refine (allWords_any b off n cap S _ (by omega) hs hc).mono ?_;rintro e w' ⟨rfl,rfl⟩)
   go_ret;exact ⟨ret_bool (by rw [refsB,refsTo_eq,hall];simp),rfl⟩
  go_enter Tryz.func83,Tryz.ntmps83
  go_wp2_with (go_at_call 81;refine (allWords_any b off n cap S _ (by omega) hs hc).mono ?_;rintro e w' ⟨rfl,rfl⟩)
  go_loop [17] (fun i=>∃ k:Nat,k<=n∧i=.int .i64 k∧Hid (refs2To S id k=true)) (fun i=>n - (intOf i).toNat)
  case atStart=>exact ⟨0,nz,rfl,rfl⟩
  case round =>
   obtain ⟨k,hk,rfl,hto⟩:=hrel
   by_cases hlt:k<n
   ·have hck:=hc k hlt
    go_wp2_with (go_at_call 137;refine (contains_any b off k cap S _ _ (by omega) (fun i hi=>hc i (by omega))).mono ?_;rintro e w' ⟨rfl,rfl⟩)
    ·have h1:(S k).toList=id.toList:=by assumption
     go_ret;exact ⟨ret_bool (by rw [refsB,refsTo_eq,refs2To_le S id n k hlt (by rw [refs2To,h1];simp)];simp),rfl⟩
    ·have h1:((S k).toList == id.toList)=true∨hasB S k (S k)=true:=by assumption
     go_ret;exact ⟨ret_bool (by rw [refsB,refsTo_eq,refs2To_le S id n k hlt (by rw [refs2To];rcases h1 with h1|h1 <;> rw [h1] <;> simp)];simp),rfl⟩
    have h1:((S k).toList == id.toList)=false∧hasB S k (S k)=false:=by assumption
    go_round
    case rel=>exact ⟨k+1,by omega,by go_num,by unfold Hid refs2To;rw [hto.out,h1.1,h1.2];rfl⟩
    simp [intOf];omega
   go_wp2
   go_ret;refine ⟨ret_bool ?_,rfl⟩;rw [refsB,refsTo_eq,hall,show n=k by omega,hto.out];simp;omega
 go_enter Tryz.func83,Tryz.ntmps83
 go_wp2
 go_ret;exact ⟨ret_bool (by simp [refsB,h10]),rfl⟩
def keyB (st:Bool)(key:ByteArray):Bool:=key.toList.isEmpty || (st && isW key)
theorem keyOk_any (st:Bool)(key:ByteArray)(w:World)(hk:key.size<=maxLen) :
  Calls Tryz.prog 82 #[.bool st,.string key] w fun e w'=>e=.returned (.bool (keyB st key))∧Below w.heap.size w w':=by
 cases he:key.toList.isEmpty
 case true =>
  go_enter Tryz.func82,Tryz.ntmps82
  go_wp2
  go_ret;exact ⟨ret_bool (by simp [keyB,he]),kB⟩
 cases st
 case false =>
  go_enter Tryz.func82,Tryz.ntmps82
  go_wp2
  go_ret;exact ⟨ret_bool (by simp [keyB,he]),kB⟩
 go_enter Tryz.func82,Tryz.ntmps82
 go_wp2_with fail
 refine (allWords_one w.heap.size key _ hk (kA rfl)).mono ?_;rintro e w' ⟨rfl,rfl⟩;go_wp2
 go_ret;exact ⟨ret_bool (by simp [keyB,he]),bA⟩
theorem bareName_any (s:ByteArray)(w:World)(hs:s.size<=maxLen) :
  Calls Tryz.prog 268 #[.string s] w fun e w'=>e=.returned (.string (bareS s))∧w'=w:=by
 unfold maxLen at hs;cases he:s.toList.isEmpty
 ·have h0:0<s.size:=by
   have:=size_yes_pos s he;omega
  go_enter Tryz.func268,Tryz.ntmps268
  go_wp2
  ·go_ret
   exact ⟨ret_str (bare_yes s h0 (Or.inl (by assumption))).symm,rfl⟩
  ·go_ret
   exact ⟨ret_str (bare_yes s h0 (Or.inr (by assumption))).symm,rfl⟩
  go_ret;exact ⟨ret_str (bare_no s h0 (by assumption)).symm,rfl⟩
 go_enter Tryz.func268,Tryz.ntmps268
 go_wp2
 go_ret;exact ⟨ret_str (bare_zero s (size_of_nil s (List.isEmpty_iff.1 he))).symm,rfl⟩
theorem bareS_size (s:ByteArray)(h:s.size<=maxLen):(bareS s).size<=maxLen:=by
 unfold bareS;split
 ·rw [ByteArray.size_extract];unfold maxLen at *;omega
 exact h
theorem grI_any (b off n cap:Nat)(M:Nat->ByteArray)(L:Nat->Int)(w:World)(hn:n<=maxLen)(hb:b<w.heap.size)
  (hs:∀ i,i<n->(M i).size<=maxLen)
  (hc:∀ i,i<n->w.cell? ⟨b,off+i * 2,none⟩=some (.string (M i)))
  (hl:∀ i,i<n->w.cell? ⟨b,off+i * 2+1,none⟩=some (.int .i64 (L i))) :
  Calls Tryz.prog 267 #[.slice (some ⟨b,off,none⟩) n cap] w fun e w'=>e=.returned (.bool (grB M L n))∧Below w.heap.size w w':=by
 unfold maxLen at hn
 by_cases h50:n<=50
 ·go_enter Tryz.func267,Tryz.ntmps267
  go_wp2
  go_loopw [10] (fun i wr=>∃ k:Nat,k<=n∧i=.int .i64 k∧Hid (grTo M L k=true)∧Below w.heap.size w wr) (fun i _=>n - (intOf i).toNat)
  case atStart=>exact ⟨0,nz,rfl,rfl,kB⟩
  case round =>
   obtain ⟨k,hk,rfl,hto,hbel⟩:=hrel
   by_cases hlt:k<n
   ·have hck:wr.cell? ⟨b,off+k * 2,none⟩=some (.string (M k)):=(hbel.cell (by exact hb)).trans (hc k hlt)
    have hlk:wr.cell? ⟨b,off+k * 2+1,none⟩=some (.int .i64 (L k)):=(hbel.cell (by exact hb)).trans (hl k hlt);have hlen:=hs k hlt;have hbare:=bareS_size _ hlen;have hbw:b<wr.heap.size:=nT hb hbel.size
    by_cases h0:k=0
    ·have hk0:decide (0<k)=false:=by simp;omega
     have H0:Hid (k=0):=h0;clear h0
     go_wp2_with (go_at_call 268;refine (bareName_any _ _ hlen).mono ?_;rintro e w' ⟨rfl,rfl⟩)
     refine (allWords_one _ (bareS (M k)) _ hbare (by simp)).mono ?_;rintro e w' ⟨rfl,rfl⟩;have hcb:Below w.heap.size w ((wr.alloc (.cells #[.string (M k),.int .i64 (L k)] 166)).alloc (.cells #[.string (bareS (M k))] 9)):=(hbel.alloc hbel.size _).alloc (by simp;have:=hbel.size;omega) _;cases hnm:isW (bareS (M k))
     ·go_wp2
      go_ret;exact ⟨ret_bool (by rw [grB,grTo_le M L n k hlt (by rw [grTo,nameB,hnm];simp)];simp),hcb⟩
     by_cases h1:L k < -1000000
     ·go_wp2
      go_ret;exact ⟨ret_bool (by rw [grB,grTo_le M L n k hlt (by rw [grTo];simp [h1])];simp),hcb⟩
     by_cases h2:1000000<L k
     ·go_wp2
      go_ret;exact ⟨ret_bool (by rw [grB,grTo_le M L n k hlt (by rw [grTo];simp [h2])];simp),hcb⟩
     go_wp2
     go_quiet (fail)
     go_wp2
     go_roundw
     case rel=>exact ⟨k+1,by omega,by go_num,by unfold Hid;rw [grTo,hto.out,nameB,hnm,H0.out];simp;rw [H0.out] at h1 h2;omega,hcb.trans (Dr.below ⟨_,rfl⟩ _)⟩
     simp [intOf];omega
    obtain ⟨j,rfl⟩:∃ j,k=j+1:=⟨k - 1,by omega⟩;have hcp:wr.cell? ⟨b,off+j * 2,none⟩=some (.string (M j)):=(hbel.cell (by exact hb)).trans (hc j (by omega))
    go_wp2_with (go_at_call 268;refine (bareName_any _ _ hlen).mono ?_;rintro e w' ⟨rfl,rfl⟩)
    refine (allWords_one _ (bareS (M (j+1))) _ hbare (by simp)).mono ?_;rintro e w' ⟨rfl,rfl⟩;have hcb:Below w.heap.size w ((wr.alloc (.cells #[.string (M (j+1)),.int .i64 (L (j+1))] 166)).alloc (.cells #[.string (bareS (M (j+1)))] 9)):=(hbel.alloc hbel.size _).alloc (by simp;have:=hbel.size;omega) _;cases hnm:isW (bareS (M (j+1)))
    ·go_wp2
     go_ret;exact ⟨ret_bool (by rw [grB,grTo_le M L n (j+1) hlt (by rw [grTo,nameB,hnm];simp)];simp),hcb⟩
    by_cases h1:L (j+1) < -1000000
    ·go_wp2
     go_ret;exact ⟨ret_bool (by rw [grB,grTo_le M L n (j+1) hlt (by rw [grTo];simp [h1])];simp),hcb⟩
    by_cases h2:1000000<L (j+1)
    ·go_wp2
     go_ret;exact ⟨ret_bool (by rw [grB,grTo_le M L n (j+1) hlt (by rw [grTo];simp [h2])];simp),hcb⟩
    cases hL:Op.bytesLess (M j).toList (M (j+1)).toList
    ·go_wp2
     go_quiet (fail)
     go_wp2
     go_ret;exact ⟨ret_bool (by rw [grB,grTo_le M L n (j+1) hlt (by rw [grTo,show j+1 - 1=j from rfl,hL];simp)];simp),hcb.trans (Dr.below ⟨_,rfl⟩ _)⟩
    go_wp2
    go_quiet (fail)
    go_wp2
    go_roundw
    case rel=>exact ⟨j+1+1,by omega,by go_num,by unfold Hid;rw [grTo,hto.out,nameB,hnm,show j+1 - 1=j from rfl,hL];simp;omega,hcb.trans (Dr.below ⟨_,rfl⟩ _)⟩
    simp [intOf];omega
   go_wp2
   go_ret;refine ⟨ret_bool ?_,hbel⟩;rw [grB,show n=k by omega,hto.out];simp;omega
 go_enter Tryz.func267,Tryz.ntmps267
 go_wp2
 go_ret;exact ⟨ret_bool (by simp [grB,h50]),kB⟩
variable {a:Option Addr}{n cap:Nat}{M S:Nat->ByteArray}
theorem countWords_zero (a:Option Addr)(cap:Nat)(w:World) :
  Calls Tryz.prog 136 #[.slice a 0 cap] w fun e w'=>e=.returned (.int .i64 0)∧w'=w:=by
 go_enter Tryz.func136,Tryz.ntmps136
 go_wp2
 go_step3
 go_wp2
 go_step3
 go_wp2
 refine wp_loop_rounds 1 ?_;rw [rounds_succ];go_wp2
 rw [Exit.noGoto_ret];go_ret;exact ⟨rfl,rfl⟩
theorem allWords_zero (a:Option Addr)(cap:Nat)(w:World) :
  Calls Tryz.prog 81 #[.slice a 0 cap] w fun e w'=>e=.returned (.bool true)∧w'=w:=by
 go_enter Tryz.func81,Tryz.ntmps81
 go_wp2_with (go_at_call 136;refine (countWords_zero a cap _).mono ?_;rintro e w' ⟨rfl,rfl⟩)
 go_ret;exact ⟨rfl,rfl⟩
theorem refsI_zero (a:Option Addr)(cap:Nat)(id:ByteArray)(w:World) :
  Calls Tryz.prog 83 #[.slice a 0 cap,.string id] w fun e w'=>e=.returned (.bool true)∧w'=w:=by
 go_enter Tryz.func83,Tryz.ntmps83
 go_wp2_with (go_at_call 81;refine (allWords_zero a cap _).mono ?_;rintro e w' ⟨rfl,rfl⟩)
 refine wp_loop_rounds 1 ?_;rw [rounds_succ];go_wp2
 go_ret;exact ⟨rfl,rfl⟩
theorem grI_zero (a:Option Addr)(cap:Nat)(w:World) :
  Calls Tryz.prog 267 #[.slice a 0 cap] w fun e w'=>e=.returned (.bool true)∧w'=w:=by
 go_enter Tryz.func267,Tryz.ntmps267
 go_wp2
 refine wp_loop_rounds 1 ?_;rw [rounds_succ];go_wp2
 go_ret;exact ⟨rfl,rfl⟩
theorem refsI_sl (id:ByteArray)(w:World)(h:SlS w a n cap S) :
  Calls Tryz.prog 83 #[.slice a n cap,.string id] w fun e w'=>e=.returned (.bool (refsB S n id))∧w'=w:=by
 rcases h.cells with rfl|⟨b,off,rfl,hb,hc⟩
 ·exact refsI_zero a cap id w
 exact refsI_any b off n cap S id w h.le h.max h.size hc
theorem grI_sl {L:Nat->Int}(w:World)(h:SlG w a n cap M L) :
  Calls Tryz.prog 267 #[.slice a n cap] w fun e w'=>e=.returned (.bool (grB M L n))∧Below w.heap.size w w':=by
 rcases h.cells with rfl|⟨b,off,rfl,hb,hc,hl⟩
 ·refine (grI_zero a cap w).mono ?_
  rintro e w' ⟨rfl,rfl⟩;exact ⟨rfl,kB⟩
 exact grI_any b off n cap M L w (nZ h.le h.max) hb h.size hc hl
section
variable (key val:ByteArray) (st:Bool) (ga:Option Addr) (ng cg:Nat) (M:Nat->ByteArray) (L:Nat->Int) (w:World)
theorem fits_create (rf:Int) :
  Calls Tryz.prog 262 #[.agg #[.bool st,.string key,.string val,.slice ga ng cg,.int .i64 rf]] w fun e w' =>
   e=.returned (.bool (st && key.toList.isEmpty && ng == 0 && rf == 0 && val.toList.isEmpty))∧Below w.heap.size w w':=by
 go_enter Tryz.func262,Tryz.ntmps262
 go_wp2
 all_goals (go_ret;exact ⟨ret_bool (by rw [Bool.eq_iff_iff];simp [*]),by repeat' (first|exact kB|exact nL|(refine Below.alloc ?_ ?_ _)|(simp;done)|(simp;omega))⟩)
theorem fits_member :
  Calls Tryz.prog 264 #[.agg #[.bool st,.string key,.string val,.slice ga ng cg]] w fun e w' =>
   e=.returned (.bool (st && !key.toList.isEmpty && ng == 0 && memB val))∧Below w.heap.size w w':=by
 go_enter Tryz.func264,Tryz.ntmps264
 go_wp2
 all_goals (go_ret;exact ⟨ret_bool (by rw [Bool.eq_iff_iff];first|(simp [memB, *];done)|(exfalso;simp_all;done)),by repeat' (first|exact kB|exact nL|(refine Below.alloc ?_ ?_ _)|(simp;done)|(simp;omega))⟩)
theorem fits_rules :
  Calls Tryz.prog 265 #[.agg #[.bool st,.string key,.string val,.slice ga ng cg]] w fun e w' =>
   e=.returned (.bool (st && key.toList.isEmpty && ng == 0 && rulB val))∧Below w.heap.size w w':=by
 go_enter Tryz.func265,Tryz.ntmps265
 go_wp2
 all_goals (go_ret;exact ⟨ret_bool (by rw [Bool.eq_iff_iff];first|(simp [rulB, *];done)|(exfalso;simp_all;done)),by repeat' (first|exact kB|exact nL|(refine Below.alloc ?_ ?_ _)|(simp;done)|(simp;omega))⟩)
theorem fits_power (hg:SlG w ga ng cg M L) :
  Calls Tryz.prog 266 #[.agg #[.bool st,.string key,.string val,.slice ga ng cg]] w fun e w' =>
   e=.returned (.bool (st && key.toList.isEmpty && val.toList.isEmpty && grB M L ng))∧Below w.heap.size w w':=by
 go_enter Tryz.func266,Tryz.ntmps266
 go_wp2_with (first|(go_at_call 267;refine (grI_sl _ (hg.below (by repeat' (first|exact kB|exact nL|(refine Below.alloc ?_ ?_ _)|(simp;done))))).mono ?_;rintro e w' ⟨rfl,hb2⟩)|go_in)
 all_goals (go_ret;exact ⟨ret_bool (by rw [Bool.eq_iff_iff];simp [*]),by first|exact Below.trans (by repeat' (first|exact kB|exact nL|(refine Below.alloc ?_ ?_ _)|(simp;done)|(simp;omega))) (hb2.mono (by simp;omega))|(repeat' (first|exact kB|exact nL|(refine Below.alloc ?_ ?_ _)|(simp;done)|(simp;omega)))⟩)
theorem fits_other (hv:val.size<=maxLen) :
  Calls Tryz.prog 269 #[.agg #[.bool st,.string key,.string val,.slice ga ng cg]] w fun e w' =>
   e=.returned (.bool (ng == 0 && (val.toList.isEmpty || isW val)))∧Below w.heap.size w w':=by
 go_enter Tryz.func269,Tryz.ntmps269
 go_wp2_with (first|(go_at_call 81;refine (allWords_one _ val _ hv (by simp)).mono ?_;rintro e w' ⟨rfl,rfl⟩)|go_in)
 all_goals (go_ret;exact ⟨ret_bool (by rw [Bool.eq_iff_iff];simp [*]),by repeat' (first|exact kB|exact nL|(refine Below.alloc ?_ ?_ _)|(simp;done)|(simp;omega))⟩)
end
section
variable (id sd ty key val:ByteArray) (st:Bool) (tm:Int) (pa:Option Addr) (np cp:Nat) (aa:Option Addr) (na ca:Nat) (ga:Option Addr) (ng cg:Nat) (w:World)
theorem contOf_create (h1:(ty.toList == [99,114,101,97,116,101])=true)(hnp:np<=10)(hna:na<=10) :
  Calls Tryz.prog 84 #[evV id sd ty key val st tm pa np cp aa na ca ga ng cg] w fun e w' =>
   e=.returned (.iface 184 (.agg #[.bool st,.string key,.string val,.slice ga ng cg,.int .i64 ((np:Int)+na)]))∧Below w.heap.size w w':=by
 go_enter Tryz.func84,Tryz.ntmps84
 go_wp2
 go_ret;exact ⟨rfl,by repeat' (first|exact kB|exact nL|(refine Below.alloc ?_ ?_ _)|(refine Below.setCell ?_ ?_ _)|(simp;done)|(simp;omega))⟩
theorem contOf_member (h1:(ty.toList == [99,114,101,97,116,101])=false)(h2:(ty.toList == [109,101,109,98,101,114])=true) :
  Calls Tryz.prog 84 #[evV id sd ty key val st tm pa np cp aa na ca ga ng cg] w fun e w' =>
   e=.returned (.iface 186 (.agg #[.bool st,.string key,.string val,.slice ga ng cg]))∧Below w.heap.size w w':=by
 go_enter Tryz.func84,Tryz.ntmps84
 go_wp2
 go_ret;exact ⟨rfl,by repeat' (first|exact kB|exact nL|(refine Below.alloc ?_ ?_ _)|(refine Below.setCell ?_ ?_ _)|(simp;done)|(simp;omega))⟩
theorem contOf_rules (h1:(ty.toList == [99,114,101,97,116,101])=false)(h2:(ty.toList == [109,101,109,98,101,114])=false)(h3:(ty.toList == [106,111,105,110,95,114,117,108,101,115])=true) :
  Calls Tryz.prog 84 #[evV id sd ty key val st tm pa np cp aa na ca ga ng cg] w fun e w' =>
   e=.returned (.iface 187 (.agg #[.bool st,.string key,.string val,.slice ga ng cg]))∧Below w.heap.size w w':=by
 go_enter Tryz.func84,Tryz.ntmps84
 go_wp2
 go_ret;exact ⟨rfl,by repeat' (first|exact kB|exact nL|(refine Below.alloc ?_ ?_ _)|(refine Below.setCell ?_ ?_ _)|(simp;done)|(simp;omega))⟩
theorem contOf_power (h1:(ty.toList == [99,114,101,97,116,101])=false)(h2:(ty.toList == [109,101,109,98,101,114])=false)(h3:(ty.toList == [106,111,105,110,95,114,117,108,101,115])=false)(h4:(ty.toList == [112,111,119,101,114])=true) :
  Calls Tryz.prog 84 #[evV id sd ty key val st tm pa np cp aa na ca ga ng cg] w fun e w' =>
   e=.returned (.iface 188 (.agg #[.bool st,.string key,.string val,.slice ga ng cg]))∧Below w.heap.size w w':=by
 go_enter Tryz.func84,Tryz.ntmps84
 go_wp2
 go_ret;exact ⟨rfl,by repeat' (first|exact kB|exact nL|(refine Below.alloc ?_ ?_ _)|(refine Below.setCell ?_ ?_ _)|(simp;done)|(simp;omega))⟩
theorem contOf_other (h1:(ty.toList == [99,114,101,97,116,101])=false)(h2:(ty.toList == [109,101,109,98,101,114])=false)(h3:(ty.toList == [106,111,105,110,95,114,117,108,101,115])=false)(h4:(ty.toList == [112,111,119,101,114])=false) :
  Calls Tryz.prog 84 #[evV id sd ty key val st tm pa np cp aa na ca ga ng cg] w fun e w' =>
   e=.returned (.iface 189 (.agg #[.bool st,.string key,.string val,.slice ga ng cg]))∧Below w.heap.size w w':=by
 go_enter Tryz.func84,Tryz.ntmps84
 go_wp2
 go_ret;exact ⟨rfl,by repeat' (first|exact kB|exact nL|(refine Below.alloc ?_ ?_ _)|(refine Below.setCell ?_ ?_ _)|(simp;done)|(simp;omega))⟩
end
section
variable (id sd ty key val:ByteArray) (st:Bool) (tm:Int) (pa:Option Addr) (np cp:Nat) (aa:Option Addr) (na ca:Nat) (ga:Option Addr) (ng cg:Nat) (Pv Av M:Nat->ByteArray) (L:Nat->Int) (w:World)
theorem evCode1 (h:isW id=false∨isW sd=false∨isW ty=false):evCode id sd ty key val st tm np na ng Pv Av M L=1:=by
 rw [evCode,if_pos h]
theorem evCode2 (h1:isW id=true)(h2:isW sd=true)(h3:isW ty=true)(h:key.toList.isEmpty=false∧(st=false∨isW key=false)):evCode id sd ty key val st tm np na ng Pv Av M L=2:=by
 rw [evCode,if_neg (by simp [h1,h2,h3]),if_pos h]
theorem evCode3 (h1:isW id=true)(h2:isW sd=true)(h3:isW ty=true)(h:¬ (key.toList.isEmpty=false∧(st=false∨isW key=false)))(ht:tm<0∨1000000000000<tm):evCode id sd ty key val st tm np na ng Pv Av M L=3:=by
 rw [evCode,if_neg (by simp [h1,h2,h3]),if_neg h,if_pos ht]
theorem evCode4 (h1:isW id=true)(h2:isW sd=true)(h3:isW ty=true)(h:¬ (key.toList.isEmpty=false∧(st=false∨isW key=false)))(ht:¬ (tm<0∨1000000000000<tm))
  (hr:refsB Pv np id=false∨refsB Av na id=false):evCode id sd ty key val st tm np na ng Pv Av M L=4:=by
 rw [evCode,if_neg (by simp [h1,h2,h3]),if_neg h,if_neg ht,if_pos hr]
theorem evCode5 (h1:isW id=true)(h2:isW sd=true)(h3:isW ty=true)(h:¬ (key.toList.isEmpty=false∧(st=false∨isW key=false)))(ht:¬ (tm<0∨1000000000000<tm))
  (hr1:refsB Pv np id=true) (hr2:refsB Av na id=true) (hc:ctB ty key val st np na ng M L=false):evCode id sd ty key val st tm np na ng Pv Av M L=5:=by
 rw [evCode,if_neg (by simp [h1,h2,h3]),if_neg h,if_neg ht,if_neg (by simp [hr1,hr2]),if_pos hc]
theorem evCode0 (h1:isW id=true)(h2:isW sd=true)(h3:isW ty=true)(h:¬ (key.toList.isEmpty=false∧(st=false∨isW key=false)))(ht:¬ (tm<0∨1000000000000<tm))
  (hr1:refsB Pv np id=true) (hr2:refsB Av na id=true) (hc:ctB ty key val st np na ng M L=true):evCode id sd ty key val st tm np na ng Pv Av M L=0:=by
 rw [evCode,if_neg (by simp [h1,h2,h3]),if_neg h,if_neg ht,if_neg (by simp [hr1,hr2]),if_neg (by simp [hc])]
theorem evS_any (hid:id.size<=maxLen)(hsd:sd.size<=maxLen)(hty:ty.size<=maxLen)(hkey:key.size<=maxLen)(hval:val.size<=maxLen)
  (hp:SlS w pa np cp Pv) (ha:SlS w aa na ca Av) (hg:SlG w ga ng cg M L) :
  Calls Tryz.prog 27 #[evV id sd ty key val st tm pa np cp aa na ca ga ng cg] w fun e w' =>
   e=.returned (.int .i64 (evCode id sd ty key val st tm np na ng Pv Av M L))∧Below w.heap.size w w':=by
 have hb0:∀ o,Below w.heap.size w (w.alloc o):=fun o=>bA
 by_cases hw:isW id=false∨isW sd=false∨isW ty=false
 ·have HC:=evCode1 id sd ty key val st tm np na ng Pv Av M L hw
  have HC':Hid (_=_):=HC;clear HC;cases h1:isW id
  ·go_enter Tryz.func27,Tryz.ntmps27
   go_wp2_with (go_at_call 67;refine (word_any _ _ (by assumption)).mono ?_;rintro e w' ⟨rfl,rfl⟩)
   go_ret;exact ⟨ret_int HC'.out.symm,hb0 _⟩
  cases h2:isW sd
  ·go_enter Tryz.func27,Tryz.ntmps27
   go_wp2_with (go_at_call 67;refine (word_any _ _ (by assumption)).mono ?_;rintro e w' ⟨rfl,rfl⟩)
   go_ret;exact ⟨ret_int HC'.out.symm,hb0 _⟩
  have h3:isW ty=false:=by simpa [h1,h2] using hw
  go_enter Tryz.func27,Tryz.ntmps27
  go_wp2_with (go_at_call 67;refine (word_any _ _ (by assumption)).mono ?_;rintro e w' ⟨rfl,rfl⟩)
  go_ret;exact ⟨ret_int HC'.out.symm,hb0 _⟩
 have h1:isW id=true:=by simpa using fun h=>hw (Or.inl h)
 have h2:isW sd=true:=by simpa using fun h=>hw (Or.inr (Or.inl h))
 have h3:isW ty=true:=by simpa using fun h=>hw (Or.inr (Or.inr h))
 clear hw
 by_cases hk:key.toList.isEmpty=false∧(st=false∨isW key=false)
 ·have HC':Hid (_=_):=evCode2 id sd ty key val st tm np na ng Pv Av M L h1 h2 h3 hk
  obtain ⟨hk1,hk2⟩:=hk;cases st
  ·go_enter Tryz.func27,Tryz.ntmps27
   go_wp2_with (go_at_call 67;refine (word_any _ _ (by assumption)).mono ?_;rintro e w' ⟨rfl,rfl⟩)
   go_ret;exact ⟨ret_int HC'.out.symm,hb0 _⟩
  have hk3:isW key=false:=by simpa using hk2
  clear hk2
  go_enter Tryz.func27,Tryz.ntmps27
  go_wp2_with (go_at_call 67;refine (word_any _ _ (by assumption)).mono ?_;rintro e w' ⟨rfl,rfl⟩)
  go_ret;exact ⟨ret_int HC'.out.symm,hb0 _⟩
 cases hke:key.toList.isEmpty
 ·have hk3:st=true∧isW key=true:=by
   constructor
   ·simpa using fun h=>hk ⟨hke,Or.inl h⟩
   simpa using fun h=>hk ⟨hke,Or.inr h⟩
  obtain ⟨rfl,hk4⟩:=hk3
  by_cases ht:tm<0∨1000000000000<tm
  ·have HC':Hid (_=_):=evCode3 id sd ty key val _ tm np na ng Pv Av M L h1 h2 h3 hk ht
   by_cases ht1:tm<0
   ·go_enter Tryz.func27,Tryz.ntmps27
    go_wp2_with (go_at_call 67;refine (word_any _ _ (by assumption)).mono ?_;rintro e w' ⟨rfl,rfl⟩)
    go_ret;exact ⟨ret_int HC'.out.symm,hb0 _⟩
   have ht2:1000000000000<tm:=by omega
   go_enter Tryz.func27,Tryz.ntmps27
   go_wp2_with (go_at_call 67;refine (word_any _ _ (by assumption)).mono ?_;rintro e w' ⟨rfl,rfl⟩)
   go_ret;exact ⟨ret_int HC'.out.symm,hb0 _⟩
  have ht1:¬ tm<0:=by omega
  have ht2:¬ 1000000000000<tm:=by omega
  cases hr1:refsB Pv np id
  ·have HC':Hid (_=_):=evCode4 id sd ty key val _ tm np na ng Pv Av M L h1 h2 h3 hk ht (Or.inl hr1)
   clear hk ht
   go_enter Tryz.func27,Tryz.ntmps27
   go_wp2_with (go_at_call 67;refine (word_any _ _ (by assumption)).mono ?_;rintro e w' ⟨rfl,rfl⟩)
   refine (refsS_sl id _ (hp.below (hb0 _))).mono ?_;rintro e w' ⟨rfl,hdr⟩;go_wp2
   go_ret;exact ⟨ret_int HC'.out.symm,(hb0 _).trans (hdr.below _)⟩
  cases hr2:refsB Av na id
  ·have HC':Hid (_=_):=evCode4 id sd ty key val _ tm np na ng Pv Av M L h1 h2 h3 hk ht (Or.inr hr2)
   clear hk ht
   go_enter Tryz.func27,Tryz.ntmps27
   go_wp2_with (go_at_call 67;refine (word_any _ _ (by assumption)).mono ?_;rintro e w' ⟨rfl,rfl⟩)
   refine (refsS_sl id _ (hp.below (hb0 _))).mono ?_;rintro e w' ⟨rfl,q1,rfl⟩
   go_wp2_with fail
   refine (refsS_sl id _ (ha.below ((hb0 _).trans (Dr.below ⟨_,rfl⟩ _)))).mono ?_;rintro e w' ⟨rfl,hdr⟩;go_wp2
   go_ret;exact ⟨ret_int HC'.out.symm,((hb0 _).trans (Dr.below ⟨_,rfl⟩ _)).trans (hdr.below _)⟩
  cases hct:ctB ty key val true np na ng M L
  ·have HC':Hid (_=_):=evCode5 id sd ty key val _ tm np na ng Pv Av M L h1 h2 h3 hk ht hr1 hr2 hct
   clear hk ht
   go_enter Tryz.func27,Tryz.ntmps27
   go_wp2_with (go_at_call 67;refine (word_any _ _ (by assumption)).mono ?_;rintro e w' ⟨rfl,rfl⟩)
   refine (refsS_sl id _ (hp.below (hb0 _))).mono ?_;rintro e w' ⟨rfl,q1,rfl⟩
   go_wp2_with fail
   refine (refsS_sl id _ (ha.below ((hb0 _).trans (Dr.below ⟨_,rfl⟩ _)))).mono ?_;rintro e w' ⟨rfl,q2,rfl⟩
   go_wp2_with fail
   refine (contS_any id sd ty key val _ tm pa np cp aa na ca ga ng cg M L _ hval (hg.below ((hb0 _).trans (Dr.below ⟨_,rfl⟩ _)))).mono ?_;rintro e w' ⟨rfl,hb2⟩;go_wp2
   go_ret;exact ⟨ret_int HC'.out.symm,((hb0 _).trans (Dr.below ⟨_,rfl⟩ _)).trans (hb2.mono (by simp))⟩
  have HC':Hid (_=_):=evCode0 id sd ty key val _ tm np na ng Pv Av M L h1 h2 h3 hk ht hr1 hr2 hct;clear hk ht
  go_enter Tryz.func27,Tryz.ntmps27
  go_wp2_with (go_at_call 67;refine (word_any _ _ (by assumption)).mono ?_;rintro e w' ⟨rfl,rfl⟩)
  refine (refsS_sl id _ (hp.below (hb0 _))).mono ?_;rintro e w' ⟨rfl,q1,rfl⟩
  go_wp2_with fail
  refine (refsS_sl id _ (ha.below ((hb0 _).trans (Dr.below ⟨_,rfl⟩ _)))).mono ?_;rintro e w' ⟨rfl,q2,rfl⟩
  go_wp2_with fail
  refine (contS_any id sd ty key val _ tm pa np cp aa na ca ga ng cg M L _ hval (hg.below ((hb0 _).trans (Dr.below ⟨_,rfl⟩ _)))).mono ?_;rintro e w' ⟨rfl,hb2⟩;go_wp2
  go_ret;exact ⟨ret_int HC'.out.symm,((hb0 _).trans (Dr.below ⟨_,rfl⟩ _)).trans (hb2.mono (by simp))⟩
 by_cases ht:tm<0∨1000000000000<tm
 ·have HC':Hid (_=_):=evCode3 id sd ty key val _ tm np na ng Pv Av M L h1 h2 h3 hk ht
  by_cases ht1:tm<0
  ·go_enter Tryz.func27,Tryz.ntmps27
   go_wp2_with (go_at_call 67;refine (word_any _ _ (by assumption)).mono ?_;rintro e w' ⟨rfl,rfl⟩)
   go_ret;exact ⟨ret_int HC'.out.symm,hb0 _⟩
  have ht2:1000000000000<tm:=by omega
  go_enter Tryz.func27,Tryz.ntmps27
  go_wp2_with (go_at_call 67;refine (word_any _ _ (by assumption)).mono ?_;rintro e w' ⟨rfl,rfl⟩)
  go_ret;exact ⟨ret_int HC'.out.symm,hb0 _⟩
 have ht1:¬ tm<0:=by omega
 have ht2:¬ 1000000000000<tm:=by omega
 cases hr1:refsB Pv np id
 ·have HC':Hid (_=_):=evCode4 id sd ty key val _ tm np na ng Pv Av M L h1 h2 h3 hk ht (Or.inl hr1)
  clear hk ht
  go_enter Tryz.func27,Tryz.ntmps27
  go_wp2_with (go_at_call 67;refine (word_any _ _ (by assumption)).mono ?_;rintro e w' ⟨rfl,rfl⟩)
  refine (refsS_sl id _ (hp.below (hb0 _))).mono ?_;rintro e w' ⟨rfl,hdr⟩;go_wp2
  go_ret;exact ⟨ret_int HC'.out.symm,(hb0 _).trans (hdr.below _)⟩
 cases hr2:refsB Av na id
 ·have HC':Hid (_=_):=evCode4 id sd ty key val _ tm np na ng Pv Av M L h1 h2 h3 hk ht (Or.inr hr2)
  clear hk ht
  go_enter Tryz.func27,Tryz.ntmps27
  go_wp2_with (go_at_call 67;refine (word_any _ _ (by assumption)).mono ?_;rintro e w' ⟨rfl,rfl⟩)
  refine (refsS_sl id _ (hp.below (hb0 _))).mono ?_;rintro e w' ⟨rfl,q1,rfl⟩
  go_wp2_with fail
  refine (refsS_sl id _ (ha.below ((hb0 _).trans (Dr.below ⟨_,rfl⟩ _)))).mono ?_;rintro e w' ⟨rfl,hdr⟩;go_wp2
  go_ret;exact ⟨ret_int HC'.out.symm,((hb0 _).trans (Dr.below ⟨_,rfl⟩ _)).trans (hdr.below _)⟩
 cases hct:ctB ty key val st np na ng M L
 ·have HC':Hid (_=_):=evCode5 id sd ty key val _ tm np na ng Pv Av M L h1 h2 h3 hk ht hr1 hr2 hct
  clear hk ht
  go_enter Tryz.func27,Tryz.ntmps27
  go_wp2_with (go_at_call 67;refine (word_any _ _ (by assumption)).mono ?_;rintro e w' ⟨rfl,rfl⟩)
  refine (refsS_sl id _ (hp.below (hb0 _))).mono ?_;rintro e w' ⟨rfl,q1,rfl⟩
  go_wp2_with fail
  refine (refsS_sl id _ (ha.below ((hb0 _).trans (Dr.below ⟨_,rfl⟩ _)))).mono ?_;rintro e w' ⟨rfl,q2,rfl⟩
  go_wp2_with fail
  refine (contS_any id sd ty key val _ tm pa np cp aa na ca ga ng cg M L _ hval (hg.below ((hb0 _).trans (Dr.below ⟨_,rfl⟩ _)))).mono ?_;rintro e w' ⟨rfl,hb2⟩;go_wp2
  go_ret;exact ⟨ret_int HC'.out.symm,((hb0 _).trans (Dr.below ⟨_,rfl⟩ _)).trans (hb2.mono (by simp))⟩
 have HC':Hid (_=_):=evCode0 id sd ty key val _ tm np na ng Pv Av M L h1 h2 h3 hk ht hr1 hr2 hct;clear hk ht
 go_enter Tryz.func27,Tryz.ntmps27
 go_wp2_with (go_at_call 67;refine (word_any _ _ (by assumption)).mono ?_;rintro e w' ⟨rfl,rfl⟩)
 refine (refsS_sl id _ (hp.below (hb0 _))).mono ?_;rintro e w' ⟨rfl,q1,rfl⟩
 go_wp2_with fail
 refine (refsS_sl id _ (ha.below ((hb0 _).trans (Dr.below ⟨_,rfl⟩ _)))).mono ?_;rintro e w' ⟨rfl,q2,rfl⟩
 go_wp2_with fail
 refine (contS_any id sd ty key val _ tm pa np cp aa na ca ga ng cg M L _ hval (hg.below ((hb0 _).trans (Dr.below ⟨_,rfl⟩ _)))).mono ?_;rintro e w' ⟨rfl,hb2⟩;go_wp2
 go_ret;exact ⟨ret_int HC'.out.symm,((hb0 _).trans (Dr.below ⟨_,rfl⟩ _)).trans (hb2.mono (by simp))⟩
end
end Go.Proofs.YtkdalopokdhndaaGreat
