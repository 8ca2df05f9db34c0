import Derived.Test.YtpfeegcdlikegaaGreatSpPZ
set_option maxHeartbeats 16000000
set_option maxRecDepth 100000
namespace Go.Proofs.YtpfeegcdlikegaaGreat
open Go.RowKit Go.Proofs.Tryz
variable {a:Option Addr}{n cap:Nat}{M S:Nat->ByteArray}{L:Nat->Int}
theorem CD (a:Option Addr)(cap:Nat)(id:ByteArray)(w:World) :
  Calls prog 41 #[.slice a 0 cap,.string id] w fun e w'=>e=.returned (.bool true)/\w'=w:=by
 go_enter func41,ntmps41
 go_wp2
 refine wp_loop_rounds 1 ?_;rw [rounds_succ];go_wp2
 go_ret;exact ⟨rfl,rfl⟩
theorem MZ (a:Option Addr)(cap:Nat)(w:World) :
  Calls prog 87 #[.slice a 0 cap] w fun e w'=>e=.returned (.bool true)/\w'=w:=by
 go_enter func87,ntmps87
 go_wp2
 refine wp_loop_rounds 1 ?_;rw [rounds_succ];go_wp2
 go_ret;exact ⟨rfl,rfl⟩
theorem dH (id:ByteArray)(w:World)(h:dE w a n cap S) :
  Calls prog 41 #[.slice a n cap,.string id] w fun e w'=>e=.returned (.bool (cG S n id))/\Dr w w':=by
 rcases h.cells with rfl|⟨b,off,rfl,hb,u⟩
 ·refine (CD a cap id w).mono ?_
  rintro e w' ⟨rfl,rfl⟩;exact ⟨rfl,Dr.refl _⟩
 exact KX b off n cap S id w h.le h.max h.size u
theorem WA (w:World)(h:gN w a n cap M L) :
  Calls prog 87 #[.slice a n cap] w fun e w'=>e=.returned (.bool (rC M L n))/\Dr w w':=by
 rcases h.cells with rfl|⟨b,off,rfl,hb,u,G⟩
 ·refine (MZ a cap w).mono ?_
  rintro e w' ⟨rfl,rfl⟩;exact ⟨rfl,Dr.refl _⟩
 exact TR b off n cap M L w (nZ h.le h.max) h.size u G
def GY:ByteArray:=⟨#[106,111,105,110]⟩
def mK:ByteArray:=⟨#[105,110,118,105,116,101]⟩
def BR:ByteArray:=⟨#[108,101,97,118,101]⟩
def QR:ByteArray:=⟨#[98,97,110]⟩
def vX:ByteArray:=⟨#[112,117,98,108,105,99]⟩
theorem OI (v:ByteArray):bD (fun i=>[GY,mK,BR,QR].getD i ByteArray.empty) 4 v=uO v:=by
 simp only [bD,uO,List.getD,GY,mK,BR,QR];rw [gX v.toList [106,111,105,110],gX v.toList [105,110,118,105,116,101],gX v.toList [108,101,97,118,101],gX v.toList [98,97,110]];simp [ByteArray.toList_eq,Bool.or_assoc]
theorem OY (v:ByteArray):bD (fun i=>[vX,mK].getD i ByteArray.empty) 2 v=zF v:=by
 simp only [bD,zF,List.getD,vX,mK];rw [gX v.toList [112,117,98,108,105,99],gX v.toList [105,110,118,105,116,101]];simp [ByteArray.toList_eq]
theorem RX (W:World)(v:ByteArray)(uM:Nat)(u:uM=W.heap.size) :
  Calls prog 80 #[.slice (some ⟨uM,0,none⟩) 4 4,.string v] (W.alloc (.cells #[.string ⟨#[106,111,105,110]⟩,.string ⟨#[105,110,118,105,116,101]⟩,.string ⟨#[108,101,97,118,101]⟩,.string ⟨#[98,97,110]⟩] 9)) fun e w' =>
   e=.returned (.bool (uO v))/\w'=W.alloc (.cells #[.string ⟨#[106,111,105,110]⟩,.string ⟨#[105,110,118,105,116,101]⟩,.string ⟨#[108,101,97,118,101]⟩,.string ⟨#[98,97,110]⟩] 9):=by
 rw [<- OI];refine iK uM 0 4 4 _ v _ (by decide) (fun i hi=>?_);rw [Nat.zero_add,kA u]
 match i,hi with
 | 0,_=>rfl
 | 1,_=>rfl
 | 2,_=>rfl
 | 3,_=>rfl
theorem SN (W:World)(v:ByteArray)(uM:Nat)(u:uM=W.heap.size) :
  Calls prog 80 #[.slice (some ⟨uM,0,none⟩) 2 2,.string v] (W.alloc (.cells #[.string ⟨#[112,117,98,108,105,99]⟩,.string ⟨#[105,110,118,105,116,101]⟩] 9)) fun e w' =>
   e=.returned (.bool (zF v))/\w'=W.alloc (.cells #[.string ⟨#[112,117,98,108,105,99]⟩,.string ⟨#[105,110,118,105,116,101]⟩] 9):=by
 rw [<- OY];refine iK uM 0 2 2 _ v _ (by decide) (fun i hi=>?_);rw [Nat.zero_add,kA u]
 match i,hi with
 | 0,_=>rfl
 | 1,_=>rfl
section
variable (id sd ty key val:ByteArray) (st:Bool) (tm:Int) (pa:Option Addr) (np cp:Nat) (aa:Option Addr) (na ca:Nat) (ga:Option Addr) (ng cg:Nat) (M:Nat->ByteArray) (L:Nat->Int) (w:World)
theorem wZ (u:(ty.toList == [99,114,101,97,116,101])=true) :
  Calls prog 42 #[DA id sd ty key val st tm pa np cp aa na ca ga ng cg] w fun e w' =>
   e=.returned (.bool (kT ty key val st np na ng M L))/\Below w.heap.size w w':=by
 go_enter func42,ntmps42
 go_wp2
 all_goals (go_ret;exact ⟨aC (by simp [kT, *]),bA⟩)
theorem wR (u:(ty.toList == [99,114,101,97,116,101])=false)(G:(ty.toList == [109,101,109,98,101,114])=true) :
  Calls prog 42 #[DA id sd ty key val st tm pa np cp aa na ca ga ng cg] w fun e w' =>
   e=.returned (.bool (kT ty key val st np na ng M L))/\Below w.heap.size w w':=by
 go_enter func42,ntmps42
 go_wp2_with (go_at_call 80;refine (RX _ val _ (by simp)).mono ?_;rintro e w' ⟨rfl,rfl⟩)
 all_goals (go_ret;exact ⟨aC (by simp [kT, *]),by first|exact bA|exact bA.alloc (by simp) _⟩)
theorem BT (G:(ty.toList == [99,114,101,97,116,101])=false)(H:(ty.toList == [109,101,109,98,101,114])=false)(u:(ty.toList == [106,111,105,110,95,114,117,108,101,115])=true) :
  Calls prog 42 #[DA id sd ty key val st tm pa np cp aa na ca ga ng cg] w fun e w' =>
   e=.returned (.bool (kT ty key val st np na ng M L))/\Below w.heap.size w w':=by
 go_enter func42,ntmps42
 go_wp2_with (go_at_call 80;refine (SN _ val _ (by simp)).mono ?_;rintro e w' ⟨rfl,rfl⟩)
 all_goals (go_ret;exact ⟨aC (by simp [kT, *]),by first|exact bA|exact bA.alloc (by simp) _⟩)
theorem AL (I:(ty.toList == [99,114,101,97,116,101])=false)(J:(ty.toList == [109,101,109,98,101,114])=false)(G:(ty.toList == [106,111,105,110,95,114,117,108,101,115])=false)
  (H:(ty.toList == [112,111,119,101,114])=true) (hg:gN w ga ng cg M L) :
  Calls prog 42 #[DA id sd ty key val st tm pa np cp aa na ca ga ng cg] w fun e w' =>
   e=.returned (.bool (kT ty key val st np na ng M L))/\Below w.heap.size w w':=by
 go_enter func42,ntmps42
 go_wp2_with (go_at_call 87;refine (WA _ (hg.below bA)).mono ?_;rintro e w' ⟨rfl,u⟩)
 all_goals (go_ret;exact ⟨aC (by simp [kT, *]),by first|exact bA|exact bA.trans (u.below _)⟩)
theorem BA (I:(ty.toList == [99,114,101,97,116,101])=false)(J:(ty.toList == [109,101,109,98,101,114])=false)(G:(ty.toList == [106,111,105,110,95,114,117,108,101,115])=false)
  (H:(ty.toList == [112,111,119,101,114])=false) (u:val.size<=maxLen) :
  Calls prog 42 #[DA id sd ty key val st tm pa np cp aa na ca ga ng cg] w fun e w' =>
   e=.returned (.bool (kT ty key val st np na ng M L))/\Below w.heap.size w w':=by
 go_enter func42,ntmps42
 go_wp2_with (go_at_call 40;refine (aW _ _ u).mono ?_;rintro e w' ⟨rfl,rfl⟩)
 all_goals (go_ret;exact ⟨aC (by simp [kT, *]),bA⟩)
theorem mH (u:val.size<=maxLen)(hg:gN w ga ng cg M L) :
  Calls prog 42 #[DA id sd ty key val st tm pa np cp aa na ca ga ng cg] w fun e w' =>
   e=.returned (.bool (kT ty key val st np na ng M L))/\Below w.heap.size w w':=by
 cases h1:(ty.toList == [99,114,101,97,116,101])
 ·cases h2:(ty.toList == [109,101,109,98,101,114])
  ·cases h3:(ty.toList == [106,111,105,110,95,114,117,108,101,115])
   ·cases h4:(ty.toList == [112,111,119,101,114])
    ·exact BA id sd ty key val st tm pa np cp aa na ca ga ng cg M L w h1 h2 h3 h4 u
    exact AL id sd ty key val st tm pa np cp aa na ca ga ng cg M L w h1 h2 h3 h4 hg
   exact BT id sd ty key val st tm pa np cp aa na ca ga ng cg M L w h1 h2 h3
  exact wR id sd ty key val st tm pa np cp aa na ca ga ng cg M L w h1 h2
 exact wZ id sd ty key val st tm pa np cp aa na ca ga ng cg M L w h1
end
theorem KM (b off n cap:Nat)(S:Nat->ByteArray)(s:ByteArray)(w:World)(J:n<=maxLen)
  (N:∀ i,i<n->w.cell? ⟨b,off+i,none⟩=some (.string (S i))) :
  Calls prog 135 #[.slice (some ⟨b,off,none⟩) n cap,.string s] w fun e w' =>
   ∃ r:Int,e=.returned (.int .i64 r)/\He (decide (0<=r)=bD S n s)/\w'=w:=by
 unfold maxLen at J
 go_enter func135,ntmps135
 go_wp2
 go_loop [8] (fun i=>∃ k:Nat,k<=n/\i=.int .i64 k/\He (bD S k s=false)) (fun i=>n - (intOf i).toNat)
 case atStart=>exact ⟨0,nz,rfl,rfl⟩
 case round =>
  obtain ⟨k,O,rfl,u⟩:=hrel
  by_cases G:k<n
  ·have I:=N k G
   go_wp2
   ·go_ret
    have H:(s.toList == (S k).toList)=true:=by assumption
    exact ⟨_,rfl,by unfold He;rw [yG S s n k G (by rw [gX];exact H)];simp;try omega,rfl⟩
   go_round
   have H:(s.toList == (S k).toList)=false:=by assumption
   case rel=>exact ⟨k+1,by omega,by go_num,by unfold He bD;rw [u.o,gX];simpa using H⟩
   simp [intOf];omega
  go_wp2
  go_ret;refine ⟨_,rfl,?_,rfl⟩;unfold He;rw [show n=k by omega,u.o];rfl
theorem xG (b off n cap:Nat)(S:Nat->ByteArray)(s:ByteArray)(w:World)(u:n<=maxLen)
  (G:∀ i,i<n->w.cell? ⟨b,off+i,none⟩=some (.string (S i))) :
  Calls prog 94 #[.slice (some ⟨b,off,none⟩) n cap,.string s] w fun e w'=>e=.returned (.bool (bD S n s))/\w'=w:=by
 go_enter func94,ntmps94
 go_wp2_with (go_at_call 135;refine (KM b off n cap S s _ u G).mono ?_;rintro e w' ⟨r,rfl,hr,rfl⟩)
 go_ret;exact ⟨aC hr.o,rfl⟩
theorem ET (c:Int)(w:World) :
  Calls prog 134 #[.int .u8 c] w fun e w'=>e=.returned (.bool (BP c))/\w'=w:=by
 go_enter func134,ntmps134
 go_wp2
 all_goals (go_ret;refine ⟨aC ?_,rfl⟩;(try simp only [beq_eq_false_iff_ne,ne_eq,beq_iff_eq] at *);rw [Bool.eq_iff_iff];simp [BP] <;> omega)
theorem MD (S:Nat->ByteArray)(k:Nat)(h:cU (S k)=true):((pX S (k+1):Nat):Int)=(pX S k:Int)+1:=by
 rw [pX,h];simp
theorem wJ (S:Nat->ByteArray)(k:Nat)(h:cU (S k)=false):pX S (k+1)=pX S k:=by
 rw [pX,h];simp
theorem LG (s:ByteArray)(h:s.size=0):cU s=false:=by simp [cU,h]
theorem MC (s:ByteArray)(h:40<s.size):cU s=false:=by simp [cU];omega
theorem GN (s:ByteArray)(h:s.toList.isEmpty=true\/(40:Int)<(s.size:Int)):cU s=false:=by
 rcases h with h|h
 ·exact LG _ (qO _ (List.isEmpty_iff.1 h))
 exact MC _ (by omega)
theorem QG (s:ByteArray)(h:s.toList.isEmpty=false/\(s.size:Int)<=40):(decide (1<=s.size) && decide (s.size<=40))=true:=by
 obtain ⟨u,H⟩:=h;have G:=oE s u;simp;omega
theorem rY (b off n cap:Nat)(S:Nat->ByteArray)(w:World)(hn:n<=maxLen)
  (U:∀ i,i<n->(S i).size<=maxLen)
  (hc:∀ i,i<n->w.cell? ⟨b,off+i,none⟩=some (.string (S i))) :
  Calls prog 93 #[.slice (some ⟨b,off,none⟩) n cap] w fun e w'=>e=.returned (.int .i64 (pX S n))/\w'=w:=by
 unfold maxLen at hn
 go_enter func93,ntmps93
 go_wp2
 go_step3
 go_wp2
 go_step3
 go_wp2
 go_loopg [3,9] n (fun g Z O wx=>∃ k:Nat,k+g=n/\O=.int .i64 k/\Z=.int .i64 (pX S k)/\wx=w)
 case atStart=>exact ⟨0,by omega,rfl,rfl,rfl⟩
 case round =>
  obtain ⟨k,af,rfl,rfl,rfl⟩:=hrel;have Y:=xY S k
  by_cases J:k<n
  ·have ae:=hc k J
   have I:=U k J;unfold maxLen at I;cases he:(S k).toList.isEmpty
   case true =>
    go_wp2
    go_roundg (n - (k+1))
    case measure=>omega
    exact ⟨k+1,by omega,by go_num,by rw [wJ S k (GN _ (Or.inl he))],rfl⟩
   by_cases N:(40:Int)<((S k).size:Int)
   ·go_wp2
    go_roundg (n - (k+1))
    case measure=>omega
    exact ⟨k+1,by omega,by go_num,by rw [wJ S k (GN _ (Or.inr N))],rfl⟩
   have H:((S k).size:Int)<=40:=by omega
   have HA:He ((S k).toList.isEmpty=false/\((S k).size:Int)<=40):=⟨he,H⟩;go_wp2
   go_loopg [6] (S k).size (fun g s6 wx=>∃ j:Nat,j+g=(S k).size/\s6=.int .i64 j/\He (((uK (S k)).take j).all BP=true)/\wx=wr)
   case atStart=>exact ⟨0,by omega,rfl,rfl,rfl⟩
   case round =>
    obtain ⟨j,ab,rfl,u,rfl⟩:=hrel
    by_cases G:j<(S k).size
    ·go_wp2_with (go_at_call 134;refine (ET _ _).mono ?_;rintro e w' ⟨rfl,rfl⟩)
     ·have hb:(!BP ((S k)[j].toNat:Int))=true:=by assumption
      go_roundg (n - (k+1))
      case measure=>omega
      exact ⟨k+1,by omega,by go_num,by rw [wJ S k (qR _ j G (by simpa using hb))],rfl⟩
     have hb:(!BP ((S k)[j].toNat:Int))=false:=by assumption
     go_roundg ((S k).size - (j+1))
     case measure=>omega
     exact ⟨j+1,by omega,by go_num,by unfold He;rw [nG _ j G,u.o];simpa using hb,rfl⟩
    have hw:cU (S k)=true:=by
     rw [sT _ (by rw [<- List.take_of_length_le (show (uK (S k)).length<=j by rw [kS];omega)];exact u.o)];exact QG _ HA.o
    go_wp2
    go_roundg (n - (k+1))
    case measure=>omega
    exact ⟨k+1,by omega,by go_num,by rw [MD S k hw],rfl⟩
  go_wp2
  rw [Exit.noGoto_ret];go_ret;exact ⟨aA (by rw [show n=k by omega]),rfl⟩
theorem iE (b off n cap:Nat)(S:Nat->ByteArray)(w:World)(H:n<=maxLen)
  (u:∀ i,i<n->(S i).size<=maxLen)
  (G:∀ i,i<n->w.cell? ⟨b,off+i,none⟩=some (.string (S i))) :
  Calls prog 55 #[.slice (some ⟨b,off,none⟩) n cap] w fun e w'=>e=.returned (.bool (uE S n))/\w'=w:=by
 go_enter func55,ntmps55
 go_wp2_with (go_at_call 93;refine (rY b off n cap S _ H u G).mono ?_;rintro e w' ⟨rfl,rfl⟩)
 go_ret;exact ⟨aC (AO S n),rfl⟩
theorem fO (uM:Nat)(s:ByteArray)(w:World)(u:s.size<=maxLen)(G:w.cell? ⟨uM,0,none⟩=some (.string s)) :
  Calls prog 55 #[.slice (some ⟨uM,0,none⟩) 1 1] w fun e w'=>e=.returned (.bool (cU s))/\w'=w:=by
 have:=iE uM 0 1 1 (fun _=>s) w (by decide) (fun _ _=>u) (fun i hi=>by obtain rfl:i=0:=(by omega);exact G);simpa [uE] using this
theorem KV (b off n cap:Nat)(S:Nat->ByteArray)(id:ByteArray)(w:World)(hn:n<=cap)(J:cap<=maxLen)
  (U:∀ i,i<n->(S i).size<=maxLen)
  (N:∀ i,i<n->w.cell? ⟨b,off+i,none⟩=some (.string (S i))) :
  Calls prog 57 #[.slice (some ⟨b,off,none⟩) n cap,.string id] w fun e w'=>e=.returned (.bool (cG S n id))/\w'=w:=by
 have G:=J;unfold maxLen at G
 by_cases O:n<=10
 ·cases hall:uE S n
  ·go_enter func57,ntmps57
   go_wp2_with (go_at_call 55;refine (iE b off n cap S _ (by omega) U N).mono ?_;rintro e w' ⟨rfl,rfl⟩)
   go_ret;exact ⟨aC (by rw [cG,jH,hall];simp),rfl⟩
  go_enter func57,ntmps57
  go_wp2_with (go_at_call 55;refine (iE b off n cap S _ (by omega) U N).mono ?_;rintro e w' ⟨rfl,rfl⟩)
  go_loop [17] (fun i=>∃ k:Nat,k<=n/\i=.int .i64 k/\He (fN S id k=true)) (fun i=>n - (intOf i).toNat)
  case atStart=>exact ⟨0,nz,rfl,rfl⟩
  case round =>
   obtain ⟨k,Z,rfl,I⟩:=hrel
   by_cases H:k<n
   ·have Y:=N k H
    go_wp2_with (go_at_call 94;refine (xG b off k cap S _ _ (by omega) (fun i hi=>N i (by omega))).mono ?_;rintro e w' ⟨rfl,rfl⟩)
    ·have u:(S k).toList=id.toList:=by assumption
     go_ret;exact ⟨aC (by rw [cG,jH,nW S id n k H (by rw [fN,u];simp)];simp),rfl⟩
    ·have u:((S k).toList == id.toList)=true\/bD S k (S k)=true:=by assumption
     go_ret;exact ⟨aC (by rw [cG,jH,nW S id n k H (by rw [fN];rcases u with u|u <;> rw [u] <;> simp)];simp),rfl⟩
    have u:((S k).toList == id.toList)=false/\bD S k (S k)=false:=by assumption
    go_round
    case rel=>exact ⟨k+1,by omega,by go_num,by unfold He fN;rw [I.o,u.1,u.2];rfl⟩
    simp [intOf];omega
   go_wp2
   go_ret;refine ⟨aC ?_,rfl⟩;rw [cG,jH,hall,show n=k by omega,I.o];simp;omega
 go_enter func57,ntmps57
 go_wp2
 go_ret;exact ⟨aC (by simp [cG,O]),rfl⟩
def CG (st:Bool)(key:ByteArray):Bool:=key.toList.isEmpty || (st && cU key)
theorem gI (st:Bool)(key:ByteArray)(w:World)(u:key.size<=maxLen) :
  Calls prog 56 #[.bool st,.string key] w fun e w'=>e=.returned (.bool (CG st key))/\Below w.heap.size w w':=by
 cases he:key.toList.isEmpty
 case true =>
  go_enter func56,ntmps56
  go_wp2
  go_ret;exact ⟨aC (by simp [CG,he]),kB⟩
 cases st
 case false =>
  go_enter func56,ntmps56
  go_wp2
  go_ret;exact ⟨aC (by simp [CG,he]),kB⟩
 go_enter func56,ntmps56
 go_wp2_with fail
 refine (fO w.heap.size key _ u (kA rfl)).mono ?_;rintro e w' ⟨rfl,rfl⟩;go_wp2
 go_ret;exact ⟨aC (by simp [CG,he]),bA⟩
theorem oM (s:ByteArray)(w:World)(G:s.size<=maxLen) :
  Calls prog 205 #[.string s] w fun e w'=>e=.returned (.string (gF s))/\w'=w:=by
 unfold maxLen at G;cases he:s.toList.isEmpty
 ·have u:0<s.size:=by
   have:=oE s he;omega
  go_enter func205,ntmps205
  go_wp2
  ·go_ret
   exact ⟨kI (oG s u (Or.inl (by assumption))).symm,rfl⟩
  ·go_ret
   exact ⟨kI (oG s u (Or.inr (by assumption))).symm,rfl⟩
  go_ret;exact ⟨kI (GC s u (by assumption)).symm,rfl⟩
 go_enter func205,ntmps205
 go_wp2
 go_ret;exact ⟨kI (uX s (qO s (List.isEmpty_iff.1 he))).symm,rfl⟩
theorem FI (s:ByteArray)(h:s.size<=maxLen):(gF s).size<=maxLen:=by
 unfold gF;split
 ·rw [ByteArray.size_extract];unfold maxLen at *;omega
 exact h
theorem SR (b off n cap:Nat)(M:Nat->ByteArray)(L:Nat->Int)(w:World)(hn:n<=maxLen)(hb:b<w.heap.size)
  (hs:∀ i,i<n->(M i).size<=maxLen)
  (hc:∀ i,i<n->w.cell? ⟨b,off+i * 2,none⟩=some (.string (M i)))
  (hl:∀ i,i<n->w.cell? ⟨b,off+i * 2+1,none⟩=some (.int .i64 (L i))) :
  Calls prog 204 #[.slice (some ⟨b,off,none⟩) n cap] w fun e w'=>e=.returned (.bool (rC M L n))/\Below w.heap.size w w':=by
 unfold maxLen at hn
 by_cases Y:n<=50
 ·go_enter func204,ntmps204
  go_wp2
  go_loopw [10] (fun i wr=>∃ k:Nat,k<=n/\i=.int .i64 k/\He (fX M L k=true)/\Below w.heap.size w wr) (fun i _=>n - (intOf i).toNat)
  case atStart=>exact ⟨0,nz,rfl,rfl,kB⟩
  case round =>
   obtain ⟨k,hk,rfl,N,u⟩:=hrel
   by_cases H:k<n
   ·have aj:wr.cell? ⟨b,off+k * 2,none⟩=some (.string (M k)):=(u.cell (by exact hb)).trans (hc k H)
    have ak:wr.cell? ⟨b,off+k * 2+1,none⟩=some (.int .i64 (L k)):=(u.cell (by exact hb)).trans (hl k H);have I:=hs k H;have J:=FI _ I;have ah:b<wr.heap.size:=nT hb u.size
    by_cases Z:k=0
    ·have ag:decide (0<k)=false:=by simp;omega
     have H0:He (k=0):=Z;clear Z
     go_wp2_with (go_at_call 205;refine (oM _ _ I).mono ?_;rintro e w' ⟨rfl,rfl⟩)
     refine (fO _ (gF (M k)) _ J (by simp)).mono ?_;rintro e w' ⟨rfl,rfl⟩;have G:Below w.heap.size w ((wr.alloc (.cells #[.string (M k),.int .i64 (L k)] 127)).alloc (.cells #[.string (gF (M k))] 9)):=(u.alloc u.size _).alloc (by simp;have:=u.size;omega) _;cases hnm:cU (gF (M k))
     ·go_wp2
      go_ret;exact ⟨aC (by rw [rC,eX M L n k H (by rw [fX,lU,hnm];simp)];simp),G⟩
     by_cases O:L k < -1000000
     ·go_wp2
      go_ret;exact ⟨aC (by rw [rC,eX M L n k H (by rw [fX];simp [O])];simp),G⟩
     by_cases U:1000000<L k
     ·go_wp2
      go_ret;exact ⟨aC (by rw [rC,eX M L n k H (by rw [fX];simp [U])];simp),G⟩
     go_wp2
     go_quiet (fail)
     go_wp2
     go_roundw
     case rel=>exact ⟨k+1,by omega,by go_num,by unfold He;rw [fX,N.o,lU,hnm,H0.o];simp;rw [H0.o] at O U;omega,G.trans (Dr.below ⟨_,rfl⟩ _)⟩
     simp [intOf];omega
    obtain ⟨j,rfl⟩:∃ j,k=j+1:=⟨k - 1,by omega⟩;have af:wr.cell? ⟨b,off+j * 2,none⟩=some (.string (M j)):=(u.cell (by exact hb)).trans (hc j (by omega))
    go_wp2_with (go_at_call 205;refine (oM _ _ I).mono ?_;rintro e w' ⟨rfl,rfl⟩)
    refine (fO _ (gF (M (j+1))) _ J (by simp)).mono ?_;rintro e w' ⟨rfl,rfl⟩;have G:Below w.heap.size w ((wr.alloc (.cells #[.string (M (j+1)),.int .i64 (L (j+1))] 127)).alloc (.cells #[.string (gF (M (j+1)))] 9)):=(u.alloc u.size _).alloc (by simp;have:=u.size;omega) _;cases hnm:cU (gF (M (j+1)))
    ·go_wp2
     go_ret;exact ⟨aC (by rw [rC,eX M L n (j+1) H (by rw [fX,lU,hnm];simp)];simp),G⟩
    by_cases O:L (j+1) < -1000000
    ·go_wp2
     go_ret;exact ⟨aC (by rw [rC,eX M L n (j+1) H (by rw [fX];simp [O])];simp),G⟩
    by_cases U:1000000<L (j+1)
    ·go_wp2
     go_ret;exact ⟨aC (by rw [rC,eX M L n (j+1) H (by rw [fX];simp [U])];simp),G⟩
    cases hL:Op.bytesLess (M j).toList (M (j+1)).toList
    ·go_wp2
     go_quiet (fail)
     go_wp2
     go_ret;exact ⟨aC (by rw [rC,eX M L n (j+1) H (by rw [fX,show j+1 - 1=j from rfl,hL];simp)];simp),G.trans (Dr.below ⟨_,rfl⟩ _)⟩
    go_wp2
    go_quiet (fail)
    go_wp2
    go_roundw
    case rel=>exact ⟨j+1+1,by omega,by go_num,by unfold He;rw [fX,N.o,lU,hnm,show j+1 - 1=j from rfl,hL];simp;omega,G.trans (Dr.below ⟨_,rfl⟩ _)⟩
    simp [intOf];omega
   go_wp2
   go_ret;refine ⟨aC ?_,u⟩;rw [rC,show n=k by omega,N.o];simp;omega
 go_enter func204,ntmps204
 go_wp2
 go_ret;exact ⟨aC (by simp [rC,Y]),kB⟩
theorem rB (a:Option Addr)(cap:Nat)(w:World) :
  Calls prog 93 #[.slice a 0 cap] w fun e w'=>e=.returned (.int .i64 0)/\w'=w:=by
 go_enter func93,ntmps93
 go_wp2
 go_step3
 go_wp2
 go_step3
 go_wp2
 refine wp_loop_rounds 1 ?_;rw [rounds_succ];go_wp2
 rw [Exit.noGoto_ret];go_ret;exact ⟨rfl,rfl⟩
theorem uI (a:Option Addr)(cap:Nat)(w:World) :
  Calls prog 55 #[.slice a 0 cap] w fun e w'=>e=.returned (.bool true)/\w'=w:=by
 go_enter func55,ntmps55
 go_wp2_with (go_at_call 93;refine (rB a cap _).mono ?_;rintro e w' ⟨rfl,rfl⟩)
 go_ret;exact ⟨rfl,rfl⟩
theorem EO (a:Option Addr)(cap:Nat)(id:ByteArray)(w:World) :
  Calls prog 57 #[.slice a 0 cap,.string id] w fun e w'=>e=.returned (.bool true)/\w'=w:=by
 go_enter func57,ntmps57
 go_wp2_with (go_at_call 55;refine (uI a cap _).mono ?_;rintro e w' ⟨rfl,rfl⟩)
 refine wp_loop_rounds 1 ?_;rw [rounds_succ];go_wp2
 go_ret;exact ⟨rfl,rfl⟩
theorem ML (a:Option Addr)(cap:Nat)(w:World) :
  Calls prog 204 #[.slice a 0 cap] w fun e w'=>e=.returned (.bool true)/\w'=w:=by
 go_enter func204,ntmps204
 go_wp2
 refine wp_loop_rounds 1 ?_;rw [rounds_succ];go_wp2
 go_ret;exact ⟨rfl,rfl⟩
theorem iV (id:ByteArray)(w:World)(h:dE w a n cap S) :
  Calls prog 57 #[.slice a n cap,.string id] w fun e w'=>e=.returned (.bool (cG S n id))/\w'=w:=by
 rcases h.cells with rfl|⟨b,off,rfl,hb,u⟩
 ·exact EO a cap id w
 exact KV b off n cap S id w h.le h.max h.size u
theorem WU (w:World)(h:gN w a n cap M L) :
  Calls prog 204 #[.slice a n cap] w fun e w'=>e=.returned (.bool (rC M L n))/\Below w.heap.size w w':=by
 rcases h.cells with rfl|⟨b,off,rfl,hb,u,G⟩
 ·refine (ML a cap w).mono ?_
  rintro e w' ⟨rfl,rfl⟩;exact ⟨rfl,kB⟩
 exact SR b off n cap M L w (nZ h.le h.max) hb h.size u G
section
variable (key val:ByteArray) (st:Bool) (ga:Option Addr) (ng cg:Nat) (M:Nat->ByteArray) (L:Nat->Int) (w:World)
theorem yT (rf:Int) :
  Calls prog 199 #[.agg #[.bool st,.string key,.string val,.slice ga ng cg,.int .i64 rf]] w fun e w' =>
   e=.returned (.bool (st && key.toList.isEmpty && ng == 0 && rf == 0 && val.toList.isEmpty))/\Below w.heap.size w w':=by
 go_enter func199,ntmps199
 go_wp2
 all_goals (go_ret;exact ⟨aC (by rw [Bool.eq_iff_iff];simp [*]),by repeat' (first|exact kB|exact nL|(refine Below.alloc ?_ ?_ _)|(simp;done)|(simp;omega))⟩)
theorem zK :
  Calls prog 201 #[.agg #[.bool st,.string key,.string val,.slice ga ng cg]] w fun e w' =>
   e=.returned (.bool (st && !key.toList.isEmpty && ng == 0 && uO val))/\Below w.heap.size w w':=by
 go_enter func201,ntmps201
 go_wp2
 all_goals (go_ret;exact ⟨aC (by rw [Bool.eq_iff_iff];first|(simp [uO, *];done)|(exfalso;simp_all;done)),by repeat' (first|exact kB|exact nL|(refine Below.alloc ?_ ?_ _)|(simp;done)|(simp;omega))⟩)
theorem CY :
  Calls prog 202 #[.agg #[.bool st,.string key,.string val,.slice ga ng cg]] w fun e w' =>
   e=.returned (.bool (st && key.toList.isEmpty && ng == 0 && zF val))/\Below w.heap.size w w':=by
 go_enter func202,ntmps202
 go_wp2
 all_goals (go_ret;exact ⟨aC (by rw [Bool.eq_iff_iff];first|(simp [zF, *];done)|(exfalso;simp_all;done)),by repeat' (first|exact kB|exact nL|(refine Below.alloc ?_ ?_ _)|(simp;done)|(simp;omega))⟩)
theorem DN (hg:gN w ga ng cg M L) :
  Calls prog 203 #[.agg #[.bool st,.string key,.string val,.slice ga ng cg]] w fun e w' =>
   e=.returned (.bool (st && key.toList.isEmpty && val.toList.isEmpty && rC M L ng))/\Below w.heap.size w w':=by
 go_enter func203,ntmps203
 go_wp2_with (first|(go_at_call 204;refine (WU _ (hg.below (by repeat' (first|exact kB|exact nL|(refine Below.alloc ?_ ?_ _)|(simp;done))))).mono ?_;rintro e w' ⟨rfl,u⟩)|go_in)
 all_goals (go_ret;exact ⟨aC (by rw [Bool.eq_iff_iff];simp [*]),by first|exact Below.trans (by repeat' (first|exact kB|exact nL|(refine Below.alloc ?_ ?_ _)|(simp;done)|(simp;omega))) (u.mono (by simp;omega))|(repeat' (first|exact kB|exact nL|(refine Below.alloc ?_ ?_ _)|(simp;done)|(simp;omega)))⟩)
theorem CI (u:val.size<=maxLen) :
  Calls prog 206 #[.agg #[.bool st,.string key,.string val,.slice ga ng cg]] w fun e w' =>
   e=.returned (.bool (ng == 0 && (val.toList.isEmpty || cU val)))/\Below w.heap.size w w':=by
 go_enter func206,ntmps206
 go_wp2_with (first|(go_at_call 55;refine (fO _ val _ u (by simp)).mono ?_;rintro e w' ⟨rfl,rfl⟩)|go_in)
 all_goals (go_ret;exact ⟨aC (by rw [Bool.eq_iff_iff];simp [*]),by repeat' (first|exact kB|exact nL|(refine Below.alloc ?_ ?_ _)|(simp;done)|(simp;omega))⟩)
end
section
variable (id sd ty key val:ByteArray) (st:Bool) (tm:Int) (pa:Option Addr) (np cp:Nat) (aa:Option Addr) (na ca:Nat) (ga:Option Addr) (ng cg:Nat) (w:World)
theorem uL (u:(ty.toList == [99,114,101,97,116,101])=true)(hnp:np<=10)(hna:na<=10) :
  Calls prog 58 #[DA id sd ty key val st tm pa np cp aa na ca ga ng cg] w fun e w' =>
   e=.returned (.iface 146 (.agg #[.bool st,.string key,.string val,.slice ga ng cg,.int .i64 ((np:Int)+na)]))/\Below w.heap.size w w':=by
 go_enter func58,ntmps58
 go_wp2
 go_ret;exact ⟨rfl,by repeat' (first|exact kB|exact nL|(refine Below.alloc ?_ ?_ _)|(refine Below.setCell ?_ ?_ _)|(simp;done)|(simp;omega))⟩
theorem uH (u:(ty.toList == [99,114,101,97,116,101])=false)(G:(ty.toList == [109,101,109,98,101,114])=true) :
  Calls prog 58 #[DA id sd ty key val st tm pa np cp aa na ca ga ng cg] w fun e w' =>
   e=.returned (.iface 148 (.agg #[.bool st,.string key,.string val,.slice ga ng cg]))/\Below w.heap.size w w':=by
 go_enter func58,ntmps58
 go_wp2
 go_ret;exact ⟨rfl,by repeat' (first|exact kB|exact nL|(refine Below.alloc ?_ ?_ _)|(refine Below.setCell ?_ ?_ _)|(simp;done)|(simp;omega))⟩
theorem wH (G:(ty.toList == [99,114,101,97,116,101])=false)(H:(ty.toList == [109,101,109,98,101,114])=false)(u:(ty.toList == [106,111,105,110,95,114,117,108,101,115])=true) :
  Calls prog 58 #[DA id sd ty key val st tm pa np cp aa na ca ga ng cg] w fun e w' =>
   e=.returned (.iface 149 (.agg #[.bool st,.string key,.string val,.slice ga ng cg]))/\Below w.heap.size w w':=by
 go_enter func58,ntmps58
 go_wp2
 go_ret;exact ⟨rfl,by repeat' (first|exact kB|exact nL|(refine Below.alloc ?_ ?_ _)|(refine Below.setCell ?_ ?_ _)|(simp;done)|(simp;omega))⟩
theorem xA (H:(ty.toList == [99,114,101,97,116,101])=false)(I:(ty.toList == [109,101,109,98,101,114])=false)(u:(ty.toList == [106,111,105,110,95,114,117,108,101,115])=false)(G:(ty.toList == [112,111,119,101,114])=true) :
  Calls prog 58 #[DA id sd ty key val st tm pa np cp aa na ca ga ng cg] w fun e w' =>
   e=.returned (.iface 150 (.agg #[.bool st,.string key,.string val,.slice ga ng cg]))/\Below w.heap.size w w':=by
 go_enter func58,ntmps58
 go_wp2
 go_ret;exact ⟨rfl,by repeat' (first|exact kB|exact nL|(refine Below.alloc ?_ ?_ _)|(refine Below.setCell ?_ ?_ _)|(simp;done)|(simp;omega))⟩
theorem xE (H:(ty.toList == [99,114,101,97,116,101])=false)(I:(ty.toList == [109,101,109,98,101,114])=false)(u:(ty.toList == [106,111,105,110,95,114,117,108,101,115])=false)(G:(ty.toList == [112,111,119,101,114])=false) :
  Calls prog 58 #[DA id sd ty key val st tm pa np cp aa na ca ga ng cg] w fun e w' =>
   e=.returned (.iface 151 (.agg #[.bool st,.string key,.string val,.slice ga ng cg]))/\Below w.heap.size w w':=by
 go_enter func58,ntmps58
 go_wp2
 go_ret;exact ⟨rfl,by repeat' (first|exact kB|exact nL|(refine Below.alloc ?_ ?_ _)|(refine Below.setCell ?_ ?_ _)|(simp;done)|(simp;omega))⟩
end
end Go.Proofs.YtpfeegcdlikegaaGreat
