import Derived.Test.YtpfeegcdlikegaaGreatGrXZ
import Derived.Deep.CutRange
set_option maxHeartbeats 16000000
set_option maxRecDepth 100000
namespace Go.Proofs.YtpfeegcdlikegaaGreat
open Go.RowKit Go.Proofs.Tryz
variable {w:World}{a:Option Addr}{m n cap:Nat}{E:Nat->Ev}{S:Nat->ByteArray}
theorem JN (a:Option Addr)(cap:Nat)(s:ByteArray)(w:World) :
  Calls prog 44 #[.agg #[.slice a 0 cap],.string s] w fun e w'=>e=.returned (.int .i64 (-1))/\w'=w.alloc (.cells #[.slice a 0 cap] 25):=by
 go_enter func44,ntmps44
 go_wp2
 refine wp_loop_rounds 1 ?_;rw [rounds_succ];go_wp2
 go_ret;exact ⟨rfl,rfl⟩
theorem PF (b off n cap:Nat)(E:Nat->Ev)(s:ByteArray)(w:World)(I:n<=maxLen)(hb:b<w.heap.size)(J:∀ i,i<n->w.cell? ⟨b,off+i * 10,none⟩=some (.string (E i).id)) :
  Calls prog 44 #[.agg #[.slice (some ⟨b,off,none⟩) n cap],.string s] w fun e w'=>e=.returned (.int .i64 (aL E n s))/\w'=w.alloc (.cells #[.slice (some ⟨b,off,none⟩) n cap] 25):=by
 unfold maxLen at I
 go_enter func44,ntmps44
 go_wp2
 go_loop [5] (fun i=>∃ k:Nat,k<=n/\i=.int .i64 k/\He (∀ i,i<k->((E i).id.toList == s.toList)=false)) (fun i=>n - (intOf i).toNat)
 case atStart=>exact ⟨0,nz,rfl,fun i hi=>absurd hi (Nat.not_lt_zero _)⟩
 case round =>
  obtain ⟨k,N,rfl,u⟩:=hrel
  by_cases G:k<n
  ·have H:=J k G
   cases hB:((E k).id.toList == s.toList)
   ·go_wp2
    go_round
    case rel=>exact ⟨k+1,by omega,by go_num,fun i hi=>by (by_cases e:i=k;(subst e;exact hB);exact u.o i (by omega))⟩
    simp [intOf];omega
   go_wp2
   go_ret;exact ⟨aA (zZ E s n k G u.o hB).symm,rfl⟩
  go_wp2
  go_ret;exact ⟨aA (mO E s n (fun i hi=>u.o i (by omega))).symm,rfl⟩
theorem dW.ids (h:dW w a n cap E):n=0\/∃ b off,a=some ⟨b,off,none⟩/\b<w.heap.size/\∀ i,i<n->w.cell? ⟨b,off+i * 10,none⟩=some (.string (E i).id):=by
 rcases h.cells with H|⟨b,off,e,u,G⟩
 ·exact Or.inl H
 exact Or.inr ⟨b,off,e,u,fun i hi=>by obtain ⟨_,_,_,_,_,_,G,_⟩:=G i hi;exact G.c0⟩
theorem iJ (s:ByteArray)(w:World)(h:dW w a n cap E) :
  Calls prog 44 #[.agg #[.slice a n cap],.string s] w fun e w'=>e=.returned (.int .i64 (aL E n s))/\w'=w.alloc (.cells #[.slice a n cap] 25):=by
 rcases h.ids with rfl|⟨b,off,rfl,hb,u⟩
 ·exact JN a cap s w
 exact PF b off n cap E s w (nZ h.le h.max) hb u
theorem CM {ar:Option Addr}{cr:Nat}(a:Option Addr)(cap:Nat)(w:World) :
  Calls prog 88 #[.agg #[.slice ar n cr],.slice a 0 cap] w fun e w'=>e=.returned (.bool true)/\w'=w.alloc (.cells #[.slice ar n cr] 25):=by
 go_enter func88,ntmps88
 go_wp2
 refine wp_loop_rounds 1 ?_;rw [rounds_succ];go_wp2
 go_ret;exact ⟨rfl,rfl⟩
theorem JH {ar:Option Addr}{cr:Nat}(b off m cap:Nat)(S:Nat->ByteArray)(w:World)(h:dW w ar n cr E)(O:m<=maxLen)(hb:b<w.heap.size)
  (hc:∀ i,i<m->w.cell? ⟨b,off+i,none⟩=some (.string (S i))) :
  Calls prog 88 #[.agg #[.slice ar n cr],.slice (some ⟨b,off,none⟩) m cap] w fun e w'=>e=.returned (.bool (dC E n S m))/\Below w.heap.size w w':=by
 unfold maxLen at O;have I:∀ o,Below w.heap.size w (w.alloc o):=fun o=>bA
 by_cases Z:m<=300
 ·go_enter func88,ntmps88
  go_wp2
  go_loopw [5] (fun i wr=>∃ k:Nat,k<=m/\i=.int .i64 k/\He (eM E n S k=true)/\Below (w.heap.size+1) (w.alloc (.cells #[.slice ar n cr] 25)) wr) (fun i _=>m - (intOf i).toNat)
  case atStart=>exact ⟨0,nz,rfl,rfl,kB⟩
  case round =>
   obtain ⟨k,hk,rfl,H,u⟩:=hrel;have G:=(I _).trans (u.mono (Nat.le_succ _))
   by_cases J:k<m
   ·have U:wr.cell? ⟨b,off+k,none⟩=some (.string (S k)):=(G.cell (by exact hb)).trans (hc k J)
    have N:wr.cell? ⟨w.heap.size,0,none⟩=some (.slice ar n cr):=aK u 0;have hr:=h.below G;have Y:=cJ E (S k) n
    go_wp2_with fail
    go_region_with (go_at_call 44;refine (iJ (E:=E) (S k) _ (hr.below (by first|exact kB|exact kB.drew|exact kB.drew.drew))).mono ?_;rintro e w1 ⟨rfl,rfl⟩)
    all_goals
     by_cases hp:aL E n (S k)<0
     ·go_wp2
      go_ret;refine ⟨aC (by rw [dC,tL E n S m k J (by rw [eM];simp;intro _;omega)];simp),?_⟩;exact (G.alloc (by exact G.size) _).drew
     go_wp2
     go_roundw
     case rel=>exact ⟨k+1,by omega,by go_num,by unfold He;rw [eM,H.o];simp;omega,(u.alloc (by simpa using u.size) _).drew⟩
     simp [intOf];omega
   go_wp2
   go_ret;exact ⟨aC (by rw [dC,show m=k by omega,H.o];simp;omega),G⟩
 go_enter func88,ntmps88
 go_wp2
 go_ret;exact ⟨aC (by simp [dC,Z]),I _⟩
theorem zJ {ar:Option Addr}{cr:Nat}(w:World)(h:dW w ar n cr E)(u:dE w a m cap S) :
  Calls prog 88 #[.agg #[.slice ar n cr],.slice a m cap] w fun e w'=>e=.returned (.bool (dC E n S m))/\Below w.heap.size w w':=by
 rcases u.cells with rfl|⟨b,off,rfl,hb,G⟩
 ·refine (CM a cap w).mono ?_
  rintro e w' ⟨rfl,rfl⟩;exact ⟨rfl,bA⟩
 exact JH b off m cap S w h (nZ u.le u.max) hb G
variable {W W':World}{k p:Nat}{e:Ev}
def eY (w:World)(e:Ev)(x:Ending)(w':World):Prop:=Below w.heap.size w w' /\
 ∃ pa cp aa ca ga cg,x=.returned (e.val' pa cp aa ca ga cg)/\cI w' e pa cp aa ca ga cg
structure EZ (w:World)(x:Value)(W:World):Prop where
 sz:w.heap.size+1+1<=W.heap.size
 bl:Below w.heap.size w W
 rb:W.cell? ⟨w.heap.size,0,none⟩=some x
 rs:∀ o,o<10->∃ v,W.cell? ⟨w.heap.size+1,o,none⟩=some v
 rf:∀ o,W.frozen? ⟨w.heap.size+1,o,none⟩=false
theorem EZ.drew {x:Value}(h:EZ w x W):EZ w x W.drew:=⟨h.sz,h.bl.drew,h.rb,h.rs,h.rf⟩
theorem EZ.call {x:Value}(h:EZ w x W)(hb:Below W.heap.size W W'):EZ w x W' :=
 ⟨nZ h.sz hb.size,h.bl.trans (hb.mono h.bl.size),(hb.cell (by have:=h.sz;show w.heap.size<_;omega)).trans h.rb,fun o u=>by
  obtain ⟨v,G⟩:=h.rs o u;exact ⟨v,(hb.cell (by have:=h.sz;show w.heap.size+1<_;omega)).trans G⟩,fun o=>(hb.frozen (by have:=h.sz;show w.heap.size+1<_;omega)).trans (h.rf o)⟩
theorem fB (s:ByteArray)(w:World)(h:dW w a n cap E)(hp:p<n)(hs:aL E n s=(p:Int)) :
  Calls prog 171 #[.agg #[.slice a n cap],.string s] w (eY w (E p)):=by
 rcases h.cells with h0|⟨b,off,rfl,hb,hc⟩
 ·omega
 obtain ⟨pa,cp,aa,ca,ga,cg,Z,I⟩:=hc p hp
 have N:He (∀ W,EZ w (.slice (some ⟨b,off,none⟩) n cap) W->Calls prog 44 #[.agg #[.slice (some ⟨b,off,none⟩) n cap],.string s] W fun e w'=>e=.returned (.int .i64 (p:Int))/\EZ w (.slice (some ⟨b,off,none⟩) n cap) w'):=fun W hW=>by
  refine (iJ s W (h.below hW.bl)).mono ?_;rintro e w' ⟨rfl,rfl⟩;exact ⟨by rw [hs],hW.call bA⟩
 have U:He (∀ w',Below w.heap.size w w'->eY w (E p) (.returned ((E p).val' pa cp aa ca ga cg)) w'):=fun w' O=>⟨O,pa,cp,aa,ca,ga,cg,rfl,I.below O⟩
 have hn:=nZ h.le h.max;unfold maxLen at hn;clear hc I h hs;generalize E p=ev at *
 go_enter func171,ntmps171
 go_wp2_with fail
 obtain ⟨Y,G⟩:∃ Y,Y=(w.alloc (.cells #[.slice (some ⟨b,off,none⟩) n cap] 25)).alloc (.cells #[.string ⟨#[]⟩,.string ⟨#[]⟩,.string ⟨#[]⟩,.bool false,.string ⟨#[]⟩,.int .i64 0,.slice none 0 0,.slice none 0 0,.string ⟨#[]⟩,.slice none 0 0] 30):=⟨_,rfl⟩;rw [<- G]
 have H:EZ w (.slice (some ⟨b,off,none⟩) n cap) Y:=by
  subst G;refine ⟨by simp,bA.alloc (by simp) _,by simp,fun o ho=>?_,fun o=>kF (by simp)⟩;rw [kA (by simp)]
  match o,ho with
  | 0,_=>exact ⟨_,rfl⟩
  | 1,_=>exact ⟨_,rfl⟩
  | 2,_=>exact ⟨_,rfl⟩
  | 3,_=>exact ⟨_,rfl⟩
  | 4,_=>exact ⟨_,rfl⟩
  | 5,_=>exact ⟨_,rfl⟩
  | 6,_=>exact ⟨_,rfl⟩
  | 7,_=>exact ⟨_,rfl⟩
  | 8,_=>exact ⟨_,rfl⟩
  | 9,_=>exact ⟨_,rfl⟩
 clear G;have ag:=H.rb
 go_region_with (go_at_call 44;refine (N.o _ (by first|exact H|exact H.drew|exact H.drew.drew|exact H.drew.drew.drew)).mono ?_;rintro e w2 ⟨rfl,u⟩;have ah:=u.rb;obtain ⟨c0,c1,c2,c3,c4,c5,c6,c7,c8,c9⟩:=Z.below u.bl hb;have ff:=u.rf;obtain ⟨x0,y0⟩:=u.rs 0 (by decide);obtain ⟨x1,y1⟩:=u.rs 1 (by decide);obtain ⟨x2,y2⟩:=u.rs 2 (by decide);obtain ⟨x3,y3⟩:=u.rs 3 (by decide);obtain ⟨x4,y4⟩:=u.rs 4 (by decide);obtain ⟨x5,y5⟩:=u.rs 5 (by decide);obtain ⟨x6,y6⟩:=u.rs 6 (by decide);obtain ⟨x7,y7⟩:=u.rs 7 (by decide);obtain ⟨x8,y8⟩:=u.rs 8 (by decide);obtain ⟨x9,y9⟩:=u.rs 9 (by decide))
 all_goals
  have J:=u.bl;clear u H N;go_wp2
  refine bodyPost_ret (v:=ev.val' pa cp aa ca ga cg) (by simp [results,results171,go_sem,y0,y1,y2,y3,y4,y5,y6,y7,y8,y9]) rfl (U.o _ ?_)
  iterate 10 (refine Below.setCell ?_ (Nat.le_add_right _ 1) _)
  first|exact J|exact J.drew
def uN (kind key:ByteArray)(e:Ev):Bool:=e.st && e.ty.toList == kind.toList && e.key.toList == key.toList
def yM (E:Nat->Ev)(n:Nat)(P:Ev->Bool)(e:Ev):ByteArray:=if 0<=hZ E n P e e.na then (E (hZ E n P e e.na).toNat).id else ⟨#[]⟩
theorem SJ {P:Ev->Bool}{y:Nat}(G:k<e.na)(H:∀ i,i<k->P (E (aL E n (e.Av i)).toNat)=false)(I:aL E n (e.Av k)=(y:Int))(u:P (E y)=true):(E y).id=yM E n P e:=by
 unfold yM;rw [OJ G H I u,if_pos (by omega),Int.toNat_natCast]
theorem OV {P:Ev->Bool}(u:∀ i,i<e.na->P (E (aL E n (e.Av i)).toNat)=false):(⟨#[]⟩:ByteArray)=yM E n P e:=by
 unfold yM;rw [qM _ u,if_neg (by omega)]
section
variable {ar:Option Addr} {n cr:Nat} {E:Nat->Ev} (e:Ev) {pa aa ga:Option Addr} {cp ca cg:Nat} (w:World)
theorem b60 (h:e.code≠0):aO E n e=e.code:=by rw [aO,if_pos h]
theorem b90 (h:e.code=0)(u:0<=aL E n e.id):aO E n e=6:=by rw [aO,if_neg (by simp [h]),if_pos u]
theorem ZT (h:e.code=0)(G:aL E n e.id<0)(u:dC E n e.Pv e.np=false\/dC E n e.Av e.na=false):aO E n e=7:=by rw [aO,if_neg (by simp [h]),if_neg (by omega:¬ 0<=aL E n e.id),if_pos u]
theorem bg0 (h:e.code=0)(H:aL E n e.id<0)(G:¬ (dC E n e.Pv e.np=false\/dC E n e.Av e.na=false))(u:(n=0/\(e.ty.toList == [99,114,101,97,116,101])=false)\/(0<n/\((e.ty.toList == [99,114,101,97,116,101])=true\/e.np=0\/e.na=0))):aO E n e=8:=by
 rw [aO,if_neg (by simp [h]),if_neg (by omega:¬ 0<=aL E n e.id),if_neg G];rcases u with u|u
 ·rw [if_pos u]
 rw [if_neg (by omega),if_pos u]
theorem ZF (h:e.code=0)(I:aL E n e.id<0)(G:¬ (dC E n e.Pv e.np=false\/dC E n e.Av e.na=false))(H:¬ (n=0/\(e.ty.toList == [99,114,101,97,116,101])=false))(u:¬ (0<n/\((e.ty.toList == [99,114,101,97,116,101])=true\/e.np=0\/e.na=0))) :
  aO E n e=if 300<=n then 9 else 0:=by
 rw [aO,if_neg (by simp [h]),if_neg (by omega:¬ 0<=aL E n e.id),if_neg G,if_neg H,if_neg u]
abbrev nD (w:World)(ar:Option Addr)(n cr:Nat)(e:Ev)(pa:Option Addr)(cp:Nat)(aa:Option Addr)(ca:Nat)(ga:Option Addr)(cg:Nat):World :=
 (w.alloc (.cells #[.slice ar n cr] 25)).alloc (.cells (ec e pa cp aa ca ga cg) 30)
theorem eG {wx:World}(hb:Below (w.heap.size+2) (nD w ar n cr e pa cp aa ca ga cg) wx) :
  wx.cell? ⟨w.heap.size,0,none⟩=some (.slice ar n cr)/\∀ o,wx.cell? ⟨w.heap.size+1,o,none⟩=((ec e pa cp aa ca ga cg):Array Value)[o]? :=
 ⟨(hb.cell (by show w.heap.size<_;omega)).trans (by simp),fun o=>(hb.cell (by show w.heap.size+1<_;omega)).trans (by rw [kA (by simp)])⟩
theorem tG (h:dW w ar n cr E)(J:cI w e pa cp aa ca ga cg) :
  Calls prog 43 #[.agg #[.slice ar n cr],e.val' pa cp aa ca ga cg] w fun x w'=>x=.returned (.int .i64 (aO E n e))/\Below w.heap.size w w':=by
 have G:Below w.heap.size w (nD w ar n cr e pa cp aa ca ga cg):=bA.alloc (by simp) _
 go_enter func43,ntmps43
 go_wp2_with fail
 refine (wW e.id e.sd e.ty e.key e.val e.st e.tm pa e.np cp aa e.na ca ga e.ng cg e.Pv e.Av e.M e.L _ J.hid J.hsd J.hty J.hkey J.hval (J.hp.below G) (J.ha.below G) (J.hg.below G)).mono ?_;rintro x w1 ⟨rfl,a4⟩;have I:Below (w.heap.size+2) (nD w ar n cr e pa cp aa ca ga cg) w1:=a4.mono (by simp);have ag:=G.trans (I.mono (by omega));obtain ⟨bh,bg⟩:=eG e w I;clear a4;have ak:He (bF e.id e.sd e.ty e.key e.val e.st e.tm e.np e.na e.ng e.Pv e.Av e.M e.L=e.code):=rfl
 by_cases N:e.code=0
 ·have bk:bF e.id e.sd e.ty e.key e.val e.st e.tm e.np e.na e.ng e.Pv e.Av e.M e.L=0:=N
  go_wp2_with fail
  have aq:w.heap.size+2<=w1.heap.size:=by simpa using I.size
  refine (iJ e.id _ (h.below ag)).mono ?_;rintro x w' ⟨rfl,rfl⟩;have Y:Below (w.heap.size+2) (nD w ar n cr e pa cp aa ca ga cg) (w1.alloc (.cells #[.slice ar n cr] 25)):=I.alloc aq _;have af:=G.trans (Y.mono (by omega));generalize w1.alloc (.cells #[.slice ar n cr] 25)=w2 at *;clear bh bg I ag aq;obtain ⟨bj,ba⟩:=eG e w Y
  by_cases a2:0<=aL E n e.id
  ·go_wp2
   go_ret;exact ⟨aA (b90 e N a2).symm,af⟩
  have h6:aL E n e.id<0:=by omega
  clear a2
  go_wp2_with fail
  refine (zJ _ (h.below af) (J.hp.below af)).mono ?_;rintro x w3 ⟨rfl,an⟩;have ap:w.heap.size+2<=w2.heap.size:=by simpa using Y.size
  have O:=Y.trans (an.mono ap);have ah:=G.trans (O.mono (by omega));clear an bj ba ap;obtain ⟨bi,a8⟩:=eG e w O;cases h7:dC E n e.Pv e.np
  ·go_wp2
   go_ret;exact ⟨aA (ZT e N h6 (Or.inl h7)).symm,ah⟩
  go_wp2_with fail
  refine (zJ _ (h.below ah) (J.ha.below ah)).mono ?_;rintro x w4 ⟨rfl,aw⟩;have au:w.heap.size+2<=w3.heap.size:=by simpa using O.size
  have ao:=O.trans (aw.mono au);have u:=G.trans (ao.mono (by omega));clear aw bi a8 au;obtain ⟨bq,br⟩:=eG e w ao;cases h7':dC E n e.Av e.na
  ·go_wp2
   go_ret;exact ⟨aA (ZT e N h6 (Or.inr h7')).symm,u⟩
  have ab:¬ (dC E n e.Pv e.np=false\/dC E n e.Av e.na=false):=by simp [h7,h7']
  have H8:He (∀ _:(n=0/\(e.ty.toList == [99,114,101,97,116,101])=false)\/(0<n/\((e.ty.toList == [99,114,101,97,116,101])=true\/e.np=0\/e.na=0)),aO E n e=8):=bg0 e N h6 ab;have H9:He (_->_->aO E n e=if 300<=n then 9 else 0):=ZF e N h6 ab;have hn:=h.max;have bp:=h.le;unfold maxLen at hn;clear ab h7 h7' h6 N bk ak;cases hty:(e.ty.toList == [99,114,101,97,116,101])
  ·by_cases h0:n=0
   ·have aj:((n:Int) == 0)=true:=by simp [h0]
    have H0:He (n=0):=h0;clear h0;go_wp2
    go_ret;exact ⟨aA (H8.o (Or.inl ⟨H0.o,hty⟩)).symm,u⟩
   have aj:((n:Int) == 0)=false:=by simp;omega
   have ax:decide (0<(n:Int))=true:=by simp;omega
   by_cases ae:e.np=0
   ·have Z:((e.np:Int) == 0)=true:=by simp [ae]
    have HP:He (e.np=0):=ae;clear ae;go_wp2
    go_ret;exact ⟨aA (H8.o (Or.inr ⟨by omega,Or.inr (Or.inl HP.o)⟩)).symm,u⟩
   by_cases ai:e.na=0
   ·have Z:((e.np:Int) == 0)=false:=by simp;omega
    have ay:((e.na:Int) == 0)=true:=by simp [ai]
    have HP:He (e.na=0):=ai;clear ai;go_wp2
    go_ret;exact ⟨aA (H8.o (Or.inr ⟨by omega,Or.inr (Or.inr HP.o)⟩)).symm,u⟩
   have Z:((e.np:Int) == 0)=false:=by simp;omega
   have ay:((e.na:Int) == 0)=false:=by simp;omega
   have U:He (aO E n e=if 300<=n then 9 else 0):=H9.o (by omega) (by simp [hty];omega)
   by_cases H:300<=n
   ·have a3:decide (300<=(n:Int))=true:=by simp;omega
    have H3:He (300<=n):=H;clear H;go_wp2
    go_ret;exact ⟨aA (by rw [U.o,if_pos H3.o]),u⟩
   have a3:decide (300<=(n:Int))=false:=by simp;omega
   have H3:He (¬ 300<=n):=H;clear H;go_wp2
   go_ret;exact ⟨aA (by rw [U.o,if_neg H3.o]),u⟩
  by_cases h0:n=0
  ·have aj:((n:Int) == 0)=true:=by simp [h0]
   have ax:decide (0<(n:Int))=false:=by simp;omega
   have bo:decide (0<n)=false:=by simp;omega
   have a3:decide (300<=(n:Int))=false:=by simp;omega
   have U:He (aO E n e=if 300<=n then 9 else 0):=H9.o (by simp [hty]) (by omega);have H0:He (n=0):=h0;clear h0;go_wp2
   go_ret;exact ⟨aA (by rw [U.o,if_neg (by rw [H0.o];decide)]),u⟩
  have aj:((n:Int) == 0)=false:=by simp;omega
  have ax:decide (0<(n:Int))=true:=by simp;omega
  go_wp2
  go_ret;exact ⟨aA (H8.o (Or.inr ⟨by omega,Or.inl hty⟩)).symm,u⟩
 have bc:(e.code != 0)=true:=by simpa using N
 have bn:(bF e.id e.sd e.ty e.key e.val e.st e.tm e.np e.na e.ng e.Pv e.Av e.M e.L != 0)=true:=bc;go_wp2
 go_ret;exact ⟨aA (b60 e N).symm,ag⟩
theorem JK (b off n cap:Nat)(E:Nat->Ev)(w:World)(h:dW w (some ⟨b,off,none⟩) n cap E)(hb:b<w.heap.size)(hc:∀ i,i<n->mT w b (off+i * 10) (E i)) :
  Calls prog 14 #[.agg #[.slice (some ⟨b,off,none⟩) n cap]] w fun e w'=>e=.returned (.bool (aF E n))/\Below w.heap.size w w':=by
 have hn:=nZ h.le h.max;have ai:=h.le;unfold maxLen at hn;have ae:∀ o,Below w.heap.size w (w.alloc o):=fun o=>bA
 go_enter func14,ntmps14
 go_wp2
 go_loopw [3] (fun i wr=>∃ k:Nat,k<=n/\i=.int .i64 k/\He (aF E k=true)/\Below (w.heap.size+1) (w.alloc (.cells #[.slice (some ⟨b,off,none⟩) n cap] 25)) wr) (fun i _=>n - (intOf i).toNat)
 case atStart=>exact ⟨0,nz,rfl,rfl,kB⟩
 case round =>
  obtain ⟨k,hk,rfl,I,u⟩:=hrel;have G:=(ae _).trans (u.mono (Nat.le_succ _));have ah:wr.cell? ⟨w.heap.size,0,none⟩=some (.slice (some ⟨b,off,none⟩) n cap):=aK u 0;have U:w.heap.size+1<=wr.heap.size:=by simpa using u.size
  by_cases Z:k<n
  ·obtain ⟨pa,cp,aa,ca,ga,cg,Y,J⟩:=hc k Z
   have H:=Y.below G hb;obtain ⟨c0,c1,c2,c3,c4,c5,c6,c7,c8,c9⟩:=H;have O:=J.below G;have ad:=(h.take (k:=k) hk).below G;clear Y J hc
   go_wp2_with fail
   go_region_with (go_at_call 43;refine (tG (E:=E) (E k) _ (ad.below (by first|exact kB|exact kB.drew|exact kB.drew.drew)) (O.below (by first|exact kB|exact kB.drew|exact kB.drew.drew))).mono ?_;rintro e w1 ⟨rfl,af⟩)
   all_goals
    have N:Below wr.heap.size wr w1:=Below.trans (by first|exact kB|exact kB.drew|exact kB.drew.drew) af
    by_cases h0:aO E k (E k)=0
    ·go_wp2
     go_roundw
     case rel=>exact ⟨k+1,by omega,by go_num,by unfold He;rw [aF,I.o,h0];rfl,u.trans (N.mono U)⟩
     simp [intOf];omega
    have aj:(aO E k (E k) != 0)=true:=by simpa using h0
    go_wp2
    go_ret;exact ⟨aC (by rw [qI E n k Z (by rw [aF];simp [h0])]),G.trans (N.mono G.size)⟩
  go_wp2
  go_ret;exact ⟨aC (by rw [show n=k by omega,I.o]),G⟩
theorem DI (a:Option Addr)(cap:Nat)(w:World) :
  Calls prog 14 #[.agg #[.slice a 0 cap]] w fun e w'=>e=.returned (.bool true)/\Below w.heap.size w w':=by
 go_enter func14,ntmps14
 go_wp2
 refine wp_loop_rounds 1 ?_;rw [rounds_succ];go_wp2
 go_ret;exact ⟨rfl,bA⟩
theorem lT {a:Option Addr}{n cap:Nat}{E:Nat->Ev}(w:World)(h:dW w a n cap E) :
  Calls prog 14 #[.agg #[.slice a n cap]] w fun e w'=>e=.returned (.bool (aF E n))/\Below w.heap.size w w':=by
 rcases h.cells with rfl|⟨b,off,rfl,hb,u⟩
 ·exact DI a cap w
 exact JK b off n cap E w h hb u
end
variable {w2 wr:World}{ev:Ev}{aa ga pa:Option Addr}{q ca cg cp:Nat}
def EvF (w:World)(B:Nat)(e:Ev):Prop:=w.cell? ⟨B,0,none⟩=some (.string e.id)/\w.cell? ⟨B,2,none⟩=some (.string e.ty)/\w.cell? ⟨B,3,none⟩=some (.bool e.st)/\w.cell? ⟨B,4,none⟩=some (.string e.key)
def WG (wr:World)(ev:Ev)(pv:Value)(wx:World):Prop:=∃ B,pv=.pointer (some ⟨B,0,none⟩)/\EvF wx B ev/\Below wr.heap.size wr wx
theorem VM (u:Below wr.heap.size wr w2):WG wr ev (.pointer (some ⟨w2.heap.size,0,none⟩)) (w2.alloc (.cells (ec ev pa cp aa ca ga cg) 30)):=by
 refine ⟨_,rfl,⟨?_,?_,?_,?_⟩,u.alloc u.size _⟩
 all_goals
  rw [kA rfl];rfl
theorem VU {z0 I N J:Value}(u:Below wr.heap.size wr w2)(H:w2.cell? ⟨wr.heap.size,0,none⟩=some z0)(U:w2.cell? ⟨wr.heap.size,2,none⟩=some I)(G:w2.cell? ⟨wr.heap.size,3,none⟩=some N)(O:w2.cell? ⟨wr.heap.size,4,none⟩=some J) :
  WG wr ev (.pointer (some ⟨wr.heap.size,0,none⟩)) ((((((((((w2.setCell ⟨wr.heap.size,0,none⟩ (.string ev.id)).setCell ⟨wr.heap.size,1,none⟩ (.string ev.sd)).setCell ⟨wr.heap.size,2,none⟩ (.string ev.ty)).setCell ⟨wr.heap.size,3,none⟩ (.bool ev.st)).setCell ⟨wr.heap.size,4,none⟩ (.string ev.key)).setCell ⟨wr.heap.size,5,none⟩ (.int .i64 ev.tm)).setCell ⟨wr.heap.size,6,none⟩ (.slice pa ev.np cp)).setCell ⟨wr.heap.size,7,none⟩ (.slice aa ev.na ca)).setCell ⟨wr.heap.size,8,none⟩ (.string ev.val)).setCell ⟨wr.heap.size,9,none⟩ (.slice ga ev.ng cg)):=by
 refine ⟨_,rfl,⟨by rw [aB (by decide),aB (by decide),aB (by decide),aB (by decide),aB (by decide),aB (by decide),aB (by decide),aB (by decide),aB (by decide),aZ ⟨_,H⟩],by rw [aB (by decide),aB (by decide),aB (by decide),aB (by decide),aB (by decide),aB (by decide),aB (by decide),aZ ⟨_,by rw [aB (by decide),aB (by decide)];exact U⟩],by rw [aB (by decide),aB (by decide),aB (by decide),aB (by decide),aB (by decide),aB (by decide),aZ ⟨_,by rw [aB (by decide),aB (by decide),aB (by decide)];exact G⟩],by rw [aB (by decide),aB (by decide),aB (by decide),aB (by decide),aB (by decide),aZ ⟨_,by rw [aB (by decide),aB (by decide),aB (by decide),aB (by decide)];exact O⟩]⟩,?_⟩
 iterate 10 (refine Below.setCell ?_ (by show wr.heap.size<=wr.heap.size;exact nL) _)
 exact u
theorem yK (W:World)(o:Nat)(u:o<10):∃ v,(W.alloc (.cells #[.string ⟨#[]⟩,.string ⟨#[]⟩,.string ⟨#[]⟩,.bool false,.string ⟨#[]⟩,.int .i64 0,.slice none 0 0,.slice none 0 0,.string ⟨#[]⟩,.slice none 0 0] 30)).cell? ⟨W.heap.size,o,none⟩=some v:=by
 rw [kA rfl]
 match o,u with
 | 0,_=>exact ⟨_,rfl⟩
 | 1,_=>exact ⟨_,rfl⟩
 | 2,_=>exact ⟨_,rfl⟩
 | 3,_=>exact ⟨_,rfl⟩
 | 4,_=>exact ⟨_,rfl⟩
 | 5,_=>exact ⟨_,rfl⟩
 | 6,_=>exact ⟨_,rfl⟩
 | 7,_=>exact ⟨_,rfl⟩
 | 8,_=>exact ⟨_,rfl⟩
 | 9,_=>exact ⟨_,rfl⟩
theorem uV (kind key:ByteArray)(w:World)(H:aF E n=true)(hq:q<n)(h:dW w a n cap E)(he:cI w (E q) pa cp aa ca ga cg) :
  Calls prog 173 #[.agg #[.slice a n cap],(E q).val' pa cp aa ca ga cg,.string kind,.string key] w fun x w'=>x=.returned (.string (yM E n (uN kind key) (E q)))/\Below w.heap.size w w':=by
 have hna:(E q).na<=maxLen:=nZ he.ha.le he.ha.max;unfold maxLen at hna;obtain ⟨wb,N⟩:∃ wb,wb=nD w a n cap (E q) pa cp aa ca ga cg:=⟨_,rfl⟩;have a2:Below w.heap.size w wb:=by rw [N];exact bA.alloc (by simp) _
 have b4:wb.heap.size=w.heap.size+2:=by rw [N];simp
 have bf:He (∀ wx,Below (w.heap.size+2) wb wx->wx.cell? ⟨w.heap.size,0,none⟩=some (.slice a n cap)/\wx.cell? ⟨w.heap.size+1,7,none⟩=some (.slice aa (E q).na ca)):=fun wx hx=>by
  subst N
  have:=eG (E q) w hx;exact ⟨this.1,this.2 7⟩
 have af:He (_):=H;have HE:He (dW w a n cap E):=h;have Ha:He (dE w aa (E q).na ca (E q).Av):=he.ha;clear he h H
 go_enter func173,ntmps173
 go_wp2_with fail
 have Y:(w.alloc (.cells #[.slice a n cap] 25)).alloc (.cells (ec (E q) pa cp aa ca ga cg) 30)=wb:=N.symm;rw [Y];clear Y N
 go_loopw [9] (fun i wr=>∃ k:Nat,k<=(E q).na/\i=.int .i64 k/\He (∀ i,i<k->uN kind key (E (aL E n ((E q).Av i)).toNat)=false)/\Below (w.heap.size+2) wb wr) (fun i _=>(E q).na - (intOf i).toNat)
 case atStart=>exact ⟨0,nz,rfl,fun i hi=>absurd hi (Nat.not_lt_zero _),kB⟩
 case round =>
  obtain ⟨k,hk,rfl,U,hB⟩:=hrel;have O:=a2.trans (hB.mono (by omega));have bb:w.heap.size+2<=wr.heap.size:=by have:=hB.size;omega
  obtain ⟨x0,x7⟩:=bf.o _ hB
  by_cases ae:k<(E q).na
  ·rcases Ha.o.cells with h0|⟨ba,oa,rfl,a8,ax⟩
   ·omega
   obtain ⟨y,hy,ey,-⟩:=cZ af.o hq ae;have au:wr.cell? ⟨ba,oa+k,none⟩=some (.string ((E q).Av k)):=(O.cell (by exact a8)).trans (ax k ae);have Z:He (∀ W,Below wr.heap.size wr W->Calls prog 171 #[.agg #[.slice a n cap],.string ((E q).Av k)] W (eY W (E y))):=fun W hW=>fB _ W (HE.o.below (O.trans (hW.mono O.size))) (by omega) ey
   have ab:He (uN kind key (E y)=false->∀ i,i<k+1->uN kind key (E (aL E n ((E q).Av i)).toNat)=false):=fun hf i hi=>by
    by_cases e:i=k
    ·subst e;rw [ey,Int.toNat_natCast];exact hf
    exact U.o i (by omega)
   have J:He (uN kind key (E y)=true->(E y).id=yM E n (uN kind key) (E q)):=fun ht=>SJ ae U.o ey ht
   have bm:(k:Int)<9223372036854775807:=by omega
   have aq:Below wr.heap.size wr wr:=kB;have I:Below wr.heap.size wr (wr.alloc (.cells #[.string ⟨#[]⟩,.string ⟨#[]⟩,.string ⟨#[]⟩,.bool false,.string ⟨#[]⟩,.int .i64 0,.slice none 0 0,.slice none 0 0,.string ⟨#[]⟩,.slice none 0 0] 30)):=bA;have bn:(wr.alloc (.cells #[.string ⟨#[]⟩,.string ⟨#[]⟩,.string ⟨#[]⟩,.bool false,.string ⟨#[]⟩,.int .i64 0,.slice none 0 0,.slice none 0 0,.string ⟨#[]⟩,.slice none 0 0] 30)).drew.cell? ⟨ba,oa+k,none⟩=some (.string ((E q).Av k)):=(I.drew.cell (by show ba<wr.heap.size;omega)).trans au;have b5:(wr.alloc (.cells #[.string ⟨#[]⟩,.string ⟨#[]⟩,.string ⟨#[]⟩,.bool false,.string ⟨#[]⟩,.int .i64 0,.slice none 0 0,.slice none 0 0,.string ⟨#[]⟩,.slice none 0 0] 30)).drew.cell? ⟨w.heap.size,0,none⟩=some (.slice a n cap):=(I.drew.cell (by show w.heap.size<wr.heap.size;omega)).trans x0;have bp:(wr.alloc (.cells #[.string ⟨#[]⟩,.string ⟨#[]⟩,.string ⟨#[]⟩,.bool false,.string ⟨#[]⟩,.int .i64 0,.slice none 0 0,.slice none 0 0,.string ⟨#[]⟩,.slice none 0 0] 30)).drew.cell? ⟨w.heap.size+1,7,none⟩=some (.slice (some ⟨ba,oa,none⟩) (E q).na ca):=(I.drew.cell (by show w.heap.size+1<wr.heap.size;omega)).trans x7;have bh:ba<wr.heap.size:=by omega
   clear ax ey U;generalize E y=ev at *
   go_wp2_with fail
   go_cut [10] from 11 to 40 (fun pv wx=>WG wr ev pv wx)
   case first =>
    go_region_with (first
     | (go_at_call 171;refine (Z.o _ (by with_reducible (repeat refine .drew ?_);exact aq)).mono ?_;rintro e w2 ⟨u,am,ah,ap,aj,ao,ai,G,-⟩;have ak:e=.returned (.agg (ec ev am ah ap aj ao ai)):=G;clear G;subst ak;have an:Below wr.heap.size wr w2:=Below.trans (by with_reducible (repeat refine .drew ?_);exact aq) u)
     | (go_at_call 171;(refine (Z.o _ (by with_reducible (repeat refine .drew ?_);exact I)).mono ?_;rintro e w2 ⟨u,am,ah,ap,aj,ao,ai,G,-⟩;have ak:e=.returned (.agg (ec ev am ah ap aj ao ai)):=G;clear G;subst ak;have bv:wr.heap.size<w2.heap.size:=nT (by simp) u.size;have an:Below wr.heap.size wr w2:=Below.trans (by with_reducible (repeat refine .drew ?_);exact I) (u.mono (by simp));have hz:∀ o,o<10->∃ v,w2.cell? ⟨wr.heap.size,o,none⟩=some v:=fun o ho=>(yK wr o ho).imp fun v hv=>(u.cell (p:=⟨wr.heap.size,o,none⟩) (by simp)).trans hv;obtain ⟨z0,y0⟩:=hz 0 (by decide);obtain ⟨z1,y1⟩:=hz 1 (by decide);obtain ⟨z2,y2⟩:=hz 2 (by decide);obtain ⟨z3,y3⟩:=hz 3 (by decide);obtain ⟨z4,y4⟩:=hz 4 (by decide);obtain ⟨z5,y5⟩:=hz 5 (by decide);obtain ⟨z6,y6⟩:=hz 6 (by decide);obtain ⟨z7,y7⟩:=hz 7 (by decide);obtain ⟨z8,y8⟩:=hz 8 (by decide);obtain ⟨z9,y9⟩:=hz 9 (by decide);clear hz;have hf:∀ o,w2.frozen? ⟨wr.heap.size,o,none⟩=false:=fun o=>(u.frozen (p:=⟨wr.heap.size,o,none⟩) (by simp)).trans (kF rfl))))
    all_goals (try go_wp2_with fail)
    all_goals go_meet
    all_goals first
     | with_reducible exact VM an
     | with_reducible exact VU an y0 y2 y3 y4
   case rest =>
    obtain ⟨B,rfl,⟨f0,f2,f3,f4⟩,bc⟩:=hcut;have a3:=hB.trans (bc.mono bb);have a4:=a2.trans (a3.mono (by omega));clear x0 x7 au Z;cases hP:uN kind key ev
    case true =>
     have ag:=hP;unfold uN at ag;simp only [Bool.and_eq_true] at ag;obtain ⟨⟨p1,p2⟩,p3⟩:=ag;have Hy:He (_=_):=J.o hP;rw [p1] at f3;clear hP J ab;go_wp2
     go_ret;exact ⟨kI Hy.o,a4⟩
    case false =>
     have Hn:He (_):=ab.o hP
     have H3:ev.st=false\/(ev.st=true/\(ev.ty.toList == kind.toList)=false)\/(ev.st=true/\(ev.ty.toList == kind.toList)=true/\(ev.key.toList == key.toList)=false):=by
      unfold uN at hP;cases h1:ev.st
      ·exact Or.inl rfl
      cases h2:(ev.ty.toList == kind.toList)
      ·exact Or.inr (Or.inl ⟨rfl,rfl⟩)
      rw [h1,h2] at hP;exact Or.inr (Or.inr ⟨rfl,rfl,by simpa using hP⟩)
     clear hP J ab;rcases H3 with p1|⟨p1,p2⟩|⟨p1,p2,p3⟩
     all_goals
      rw [p1] at f3;go_wp2
      go_roundw
      case rel=>exact ⟨k+1,by omega,by go_num,Hn,a3⟩
      simp [intOf];omega
  have Hm:He ((⟨#[]⟩:ByteArray)=yM E n (uN kind key) (E q)):=OV (fun i hi=>U.o i (by omega));go_wp2
  go_ret;exact ⟨kI Hm.o,O⟩
end Go.Proofs.YtpfeegcdlikegaaGreat
