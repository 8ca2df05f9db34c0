import Derived.Test.YtkdalopokdhndaaGreatOwnLZ
import Derived.Deep.CutRange
set_option maxHeartbeats 16000000
set_option maxRecDepth 100000
namespace Go.Proofs.YtkdalopokdhndaaGreat
open Go.RowKit
variable {w:World}{a:Option Addr}{m n cap:Nat}{E:Nat->Ev}{S:Nat->ByteArray}
theorem l2At_zero (a:Option Addr)(cap:Nat)(s:ByteArray)(w:World) :
  Calls Tryz.prog 55 #[.agg #[.slice a 0 cap],.string s] w fun e w'=>e=.returned (.int .i64 (-1))∧w'=w.alloc (.cells #[.slice a 0 cap] 25):=by
 go_enter Tryz.func55,Tryz.ntmps55
 go_wp2
 refine wp_loop_rounds 1 ?_;rw [rounds_succ];go_wp2
 go_ret;exact ⟨rfl,rfl⟩
theorem l2At_any (b off n cap:Nat)(E:Nat->Ev)(s:ByteArray)(w:World)(hn:n<=maxLen)(hb:b<w.heap.size)(hc:∀ i,i<n->w.cell? ⟨b,off+i * 10,none⟩=some (.string (E i).id)) :
  Calls Tryz.prog 55 #[.agg #[.slice (some ⟨b,off,none⟩) n cap],.string s] w fun e w'=>e=.returned (.int .i64 (posV E n s))∧w'=w.alloc (.cells #[.slice (some ⟨b,off,none⟩) n cap] 25):=by
 unfold maxLen at hn
 go_enter Tryz.func55,Tryz.ntmps55
 go_wp2
 go_loop [5] (fun i=>∃ k:Nat,k<=n∧i=.int .i64 k∧Hid (∀ i,i<k->((E i).id.toList == s.toList)=false)) (fun i=>n - (intOf i).toNat)
 case atStart=>exact ⟨0,nz,rfl,fun i hi=>absurd hi (Nat.not_lt_zero _)⟩
 case round =>
  obtain ⟨k,hk,rfl,hto⟩:=hrel
  by_cases hlt:k<n
  ·have hck:=hc k hlt
   cases hB:((E k).id.toList == s.toList)
   ·go_wp2
    go_round
    case rel=>exact ⟨k+1,by omega,by go_num,fun i hi=>by (by_cases e:i=k;(subst e;exact hB);exact hto.out i (by omega))⟩
    simp [intOf];omega
   go_wp2
   go_ret;exact ⟨ret_int (posV_hit E s n k hlt hto.out hB).symm,rfl⟩
  go_wp2
  go_ret;exact ⟨ret_int (posV_miss E s n (fun i hi=>hto.out i (by omega))).symm,rfl⟩
theorem SlV.ids (h:SlV w a n cap E):n=0∨∃ b off,a=some ⟨b,off,none⟩∧b<w.heap.size∧∀ i,i<n->w.cell? ⟨b,off+i * 10,none⟩=some (.string (E i).id):=by
 rcases h.cells with h0|⟨b,off,e,hlt,hc⟩
 ·exact Or.inl h0
 exact Or.inr ⟨b,off,e,hlt,fun i hi=>by obtain ⟨_,_,_,_,_,_,hc,_⟩:=hc i hi;exact hc.c0⟩
theorem l2At_sl (s:ByteArray)(w:World)(h:SlV w a n cap E) :
  Calls Tryz.prog 55 #[.agg #[.slice a n cap],.string s] w fun e w'=>e=.returned (.int .i64 (posV E n s))∧w'=w.alloc (.cells #[.slice a n cap] 25):=by
 rcases h.ids with rfl|⟨b,off,rfl,hb,hc⟩
 ·exact l2At_zero a cap s w
 exact l2At_any b off n cap E s w (nZ h.le h.max) hb hc
theorem there_none {ar:Option Addr}{cr:Nat}(a:Option Addr)(cap:Nat)(w:World) :
  Calls Tryz.prog 49 #[.agg #[.slice ar n cr],.slice a 0 cap] w fun e w'=>e=.returned (.bool true)∧w'=w.alloc (.cells #[.slice ar n cr] 25):=by
 go_enter Tryz.func49,Tryz.ntmps49
 go_wp2
 refine wp_loop_rounds 1 ?_;rw [rounds_succ];go_wp2
 go_ret;exact ⟨rfl,rfl⟩
theorem there_any {ar:Option Addr}{cr:Nat}(b off m cap:Nat)(S:Nat->ByteArray)(w:World)(h:SlV w ar n cr E)(hm:m<=maxLen)(hb:b<w.heap.size)
  (hc:∀ i,i<m->w.cell? ⟨b,off+i,none⟩=some (.string (S i))) :
  Calls Tryz.prog 49 #[.agg #[.slice ar n cr],.slice (some ⟨b,off,none⟩) m cap] w fun e w'=>e=.returned (.bool (thereB E n S m))∧Below w.heap.size w w':=by
 unfold maxLen at hm;have hb0:∀ o,Below w.heap.size w (w.alloc o):=fun o=>bA
 by_cases h3:m<=300
 ·go_enter Tryz.func49,Tryz.ntmps49
  go_wp2
  go_loopw [5] (fun i wr=>∃ k:Nat,k<=m∧i=.int .i64 k∧Hid (thereTo E n S k=true)∧Below (w.heap.size+1) (w.alloc (.cells #[.slice ar n cr] 25)) wr) (fun i _=>m - (intOf i).toNat)
  case atStart=>exact ⟨0,nz,rfl,rfl,kB⟩
  case round =>
   obtain ⟨k,hk,rfl,hto,hbel⟩:=hrel;have hbw:=(hb0 _).trans (hbel.mono (Nat.le_succ _))
   by_cases hlt:k<m
   ·have hck:wr.cell? ⟨b,off+k,none⟩=some (.string (S k)):=(hbw.cell (by exact hb)).trans (hc k hlt)
    have hbx:wr.cell? ⟨w.heap.size,0,none⟩=some (.slice ar n cr):=box_cells hbel 0;have hr:=h.below hbw;have hpb:=posV_bd E (S k) n
    go_wp2_with fail
    go_region_with (go_at_call 55;refine (l2At_sl (E:=E) (S k) _ (hr.below (by first|exact kB|exact kB.drew|exact kB.drew.drew))).mono ?_;rintro e w1 ⟨rfl,rfl⟩)
    all_goals
     by_cases hp:posV E n (S k)<0
     ·go_wp2
      go_ret;refine ⟨ret_bool (by rw [thereB,thereTo_le E n S m k hlt (by rw [thereTo];simp;intro _;omega)];simp),?_⟩;exact (hbw.alloc (by exact hbw.size) _).drew
     go_wp2
     go_roundw
     case rel=>exact ⟨k+1,by omega,by go_num,by unfold Hid;rw [thereTo,hto.out];simp;omega,(hbel.alloc (by simpa using hbel.size) _).drew⟩
     simp [intOf];omega
   go_wp2
   go_ret;exact ⟨ret_bool (by rw [thereB,show m=k by omega,hto.out];simp;omega),hbw⟩
 go_enter Tryz.func49,Tryz.ntmps49
 go_wp2
 go_ret;exact ⟨ret_bool (by simp [thereB,h3]),hb0 _⟩
theorem there_sl {ar:Option Addr}{cr:Nat}(w:World)(h:SlV w ar n cr E)(hs:SlS w a m cap S) :
  Calls Tryz.prog 49 #[.agg #[.slice ar n cr],.slice a m cap] w fun e w'=>e=.returned (.bool (thereB E n S m))∧Below w.heap.size w w':=by
 rcases hs.cells with rfl|⟨b,off,rfl,hb,hc⟩
 ·refine (there_none a cap w).mono ?_
  rintro e w' ⟨rfl,rfl⟩;exact ⟨rfl,bA⟩
 exact there_any b off m cap S w h (nZ hs.le hs.max) hb hc
variable {W W':World}{k p:Nat}{e:Ev}
def EePost (w:World)(e:Ev)(x:Ending)(w':World):Prop:=Below w.heap.size w w' ∧
 ∃ pa cp aa ca ga cg,x=.returned (e.val' pa cp aa ca ga cg)∧EvOk w' e pa cp aa ca ga cg
structure EZ (w:World)(x:Value)(W:World):Prop where
 sz:w.heap.size+1+1<=W.heap.size
 bl:Below w.heap.size w W
 rb:W.cell? ⟨w.heap.size,0,none⟩=some x
 rs:∀ o,o<10->∃ v,W.cell? ⟨w.heap.size+1,o,none⟩=some v
 rf:∀ o,W.frozen? ⟨w.heap.size+1,o,none⟩=false
theorem EZ.drew {x:Value}(h:EZ w x W):EZ w x W.drew:=⟨h.sz,h.bl.drew,h.rb,h.rs,h.rf⟩
theorem EZ.call {x:Value}(h:EZ w x W)(hb:Below W.heap.size W W'):EZ w x W' :=
 ⟨nZ h.sz hb.size,h.bl.trans (hb.mono h.bl.size),(hb.cell (by have:=h.sz;show w.heap.size<_;omega)).trans h.rb,fun o ho=>by
  obtain ⟨v,hv⟩:=h.rs o ho;exact ⟨v,(hb.cell (by have:=h.sz;show w.heap.size+1<_;omega)).trans hv⟩,fun o=>(hb.frozen (by have:=h.sz;show w.heap.size+1<_;omega)).trans (h.rf o)⟩
theorem l6Event_sl (s:ByteArray)(w:World)(h:SlV w a n cap E)(hp:p<n)(hs:posV E n s=(p:Int)) :
  Calls Tryz.prog 103 #[.agg #[.slice a n cap],.string s] w (EePost w (E p)):=by
 rcases h.cells with h0|⟨b,off,rfl,hb,hc⟩
 ·omega
 obtain ⟨pa,cp,aa,ca,ga,cg,hec,hok⟩:=hc p hp
 have hat:Hid (∀ W,EZ w (.slice (some ⟨b,off,none⟩) n cap) W->Calls Tryz.prog 55 #[.agg #[.slice (some ⟨b,off,none⟩) n cap],.string s] W fun e w'=>e=.returned (.int .i64 (p:Int))∧EZ w (.slice (some ⟨b,off,none⟩) n cap) w'):=fun W hW=>by
  refine (l2At_sl s W (h.below hW.bl)).mono ?_;rintro e w' ⟨rfl,rfl⟩;exact ⟨by rw [hs],hW.call bA⟩
 have Hok:Hid (∀ w',Below w.heap.size w w'->EePost w (E p) (.returned ((E p).val' pa cp aa ca ga cg)) w'):=fun w' hb'=>⟨hb',pa,cp,aa,ca,ga,cg,rfl,hok.below hb'⟩
 have hn:=nZ h.le h.max;unfold maxLen at hn;clear hc hok h hs;generalize E p=ev at *
 go_enter Tryz.func103,Tryz.ntmps103
 go_wp2_with fail
 obtain ⟨W0,hW0⟩:∃ W0,W0=(w.alloc (.cells #[.slice (some ⟨b,off,none⟩) n cap] 25)).alloc (.cells #[.string ⟨#[]⟩,.string ⟨#[]⟩,.string ⟨#[]⟩,.bool false,.string ⟨#[]⟩,.int .i64 0,.slice none 0 0,.slice none 0 0,.string ⟨#[]⟩,.slice none 0 0] 30):=⟨_,rfl⟩;rw [<- hW0]
 have hZ:EZ w (.slice (some ⟨b,off,none⟩) n cap) W0:=by
  subst hW0;refine ⟨by simp,bA.alloc (by simp) _,by simp,fun o ho=>?_,fun o=>kF (by simp)⟩;rw [kA (by simp)]
  match o,ho with
  | 0,_=>exact ⟨_,rfl⟩
  | 1,_=>exact ⟨_,rfl⟩
  | 2,_=>exact ⟨_,rfl⟩
  | 3,_=>exact ⟨_,rfl⟩
  | 4,_=>exact ⟨_,rfl⟩
  | 5,_=>exact ⟨_,rfl⟩
  | 6,_=>exact ⟨_,rfl⟩
  | 7,_=>exact ⟨_,rfl⟩
  | 8,_=>exact ⟨_,rfl⟩
  | 9,_=>exact ⟨_,rfl⟩
 clear hW0;have rb0:=hZ.rb
 go_region_with (go_at_call 55;refine (hat.out _ (by first|exact hZ|exact hZ.drew|exact hZ.drew.drew|exact hZ.drew.drew.drew)).mono ?_;rintro e w2 ⟨rfl,hZ2⟩;have rb2:=hZ2.rb;obtain ⟨c0,c1,c2,c3,c4,c5,c6,c7,c8,c9⟩:=hec.below hZ2.bl hb;have ff:=hZ2.rf;obtain ⟨x0,y0⟩:=hZ2.rs 0 (by decide);obtain ⟨x1,y1⟩:=hZ2.rs 1 (by decide);obtain ⟨x2,y2⟩:=hZ2.rs 2 (by decide);obtain ⟨x3,y3⟩:=hZ2.rs 3 (by decide);obtain ⟨x4,y4⟩:=hZ2.rs 4 (by decide);obtain ⟨x5,y5⟩:=hZ2.rs 5 (by decide);obtain ⟨x6,y6⟩:=hZ2.rs 6 (by decide);obtain ⟨x7,y7⟩:=hZ2.rs 7 (by decide);obtain ⟨x8,y8⟩:=hZ2.rs 8 (by decide);obtain ⟨x9,y9⟩:=hZ2.rs 9 (by decide))
 all_goals
  have hbl:=hZ2.bl;clear hZ2 hZ hat;go_wp2
  refine bodyPost_ret (v:=ev.val' pa cp aa ca ga cg) (by simp [results,Tryz.results103,go_sem,y0,y1,y2,y3,y4,y5,y6,y7,y8,y9]) rfl (Hok.out _ ?_)
  iterate 10 (refine Below.setCell ?_ (Nat.le_add_right _ 1) _)
  first|exact hbl|exact hbl.drew
def evP (kind key:ByteArray)(e:Ev):Bool:=e.st && e.ty.toList == kind.toList && e.key.toList == key.toList
def frV (E:Nat->Ev)(n:Nat)(P:Ev->Bool)(e:Ev):ByteArray:=if 0<=scTo E n P e e.na then (E (scTo E n P e e.na).toNat).id else ⟨#[]⟩
theorem frV_hit {P:Ev->Bool}{y:Nat}(hk:k<e.na)(h0:∀ i,i<k->P (E (posV E n (e.Av i)).toNat)=false)(hy:posV E n (e.Av k)=(y:Int))(h1:P (E y)=true):(E y).id=frV E n P e:=by
 unfold frV;rw [scTo_hit hk h0 hy h1,if_pos (by omega),Int.toNat_natCast]
theorem frV_miss {P:Ev->Bool}(h0:∀ i,i<e.na->P (E (posV E n (e.Av i)).toNat)=false):(⟨#[]⟩:ByteArray)=frV E n P e:=by
 unfold frV;rw [scTo_miss _ h0,if_neg (by omega)]
section
variable {ar:Option Addr} {n cr:Nat} {E:Nat->Ev} (e:Ev) {pa aa ga:Option Addr} {cp ca cg:Nat} (w:World)
theorem ins1 (h:e.code≠0):insCode E n e=e.code:=by rw [insCode,if_pos h]
theorem ins6 (h:e.code=0)(h6:0<=posV E n e.id):insCode E n e=6:=by rw [insCode,if_neg (by simp [h]),if_pos h6]
theorem ins7 (h:e.code=0)(h6:posV E n e.id<0)(h7:thereB E n e.Pv e.np=false∨thereB E n e.Av e.na=false):insCode E n e=7:=by rw [insCode,if_neg (by simp [h]),if_neg (by omega:¬ 0<=posV E n e.id),if_pos h7]
theorem ins8 (h:e.code=0)(h6:posV E n e.id<0)(h7:¬ (thereB E n e.Pv e.np=false∨thereB E n e.Av e.na=false))(h8:(n=0∧(e.ty.toList == [99,114,101,97,116,101])=false)∨(0<n∧((e.ty.toList == [99,114,101,97,116,101])=true∨e.np=0∨e.na=0))):insCode E n e=8:=by
 rw [insCode,if_neg (by simp [h]),if_neg (by omega:¬ 0<=posV E n e.id),if_neg h7];rcases h8 with h8|h8
 ·rw [if_pos h8]
 rw [if_neg (by omega),if_pos h8]
theorem ins90 (h:e.code=0)(h6:posV E n e.id<0)(h7:¬ (thereB E n e.Pv e.np=false∨thereB E n e.Av e.na=false))(h8:¬ (n=0∧(e.ty.toList == [99,114,101,97,116,101])=false))(h8':¬ (0<n∧((e.ty.toList == [99,114,101,97,116,101])=true∨e.np=0∨e.na=0))) :
  insCode E n e=if 300<=n then 9 else 0:=by
 rw [insCode,if_neg (by simp [h]),if_neg (by omega:¬ 0<=posV E n e.id),if_neg h7,if_neg h8,if_neg h8']
abbrev boxes (w:World)(ar:Option Addr)(n cr:Nat)(e:Ev)(pa:Option Addr)(cp:Nat)(aa:Option Addr)(ca:Nat)(ga:Option Addr)(cg:Nat):World :=
 (w.alloc (.cells #[.slice ar n cr] 25)).alloc (.cells (ec e pa cp aa ca ga cg) 30)
theorem boxes_cells {wx:World}(hb:Below (w.heap.size+2) (boxes w ar n cr e pa cp aa ca ga cg) wx) :
  wx.cell? ⟨w.heap.size,0,none⟩=some (.slice ar n cr)∧∀ o,wx.cell? ⟨w.heap.size+1,o,none⟩=((ec e pa cp aa ca ga cg):Array Value)[o]? :=
 ⟨(hb.cell (by show w.heap.size<_;omega)).trans (by simp),fun o=>(hb.cell (by show w.heap.size+1<_;omega)).trans (by rw [kA (by simp)])⟩
theorem l2Code_any (h:SlV w ar n cr E)(he:EvOk w e pa cp aa ca ga cg) :
  Calls Tryz.prog 70 #[.agg #[.slice ar n cr],e.val' pa cp aa ca ga cg] w fun x w'=>x=.returned (.int .i64 (insCode E n e))∧Below w.heap.size w w':=by
 have hb0:Below w.heap.size w (boxes w ar n cr e pa cp aa ca ga cg):=bA.alloc (by simp) _
 go_enter Tryz.func70,Tryz.ntmps70
 go_wp2_with fail
 refine (evS_any e.id e.sd e.ty e.key e.val e.st e.tm pa e.np cp aa e.na ca ga e.ng cg e.Pv e.Av e.M e.L _ he.hid he.hsd he.hty he.hkey he.hval (he.hp.below hb0) (he.ha.below hb0) (he.hg.below hb0)).mono ?_;rintro x w1 ⟨rfl,hb1⟩;have hB1:Below (w.heap.size+2) (boxes w ar n cr e pa cp aa ca ga cg) w1:=hb1.mono (by simp);have hw1:=hb0.trans (hB1.mono (by omega));obtain ⟨hr1,he1⟩:=boxes_cells e w hB1;clear hb1;have hcode:Hid (evCode e.id e.sd e.ty e.key e.val e.st e.tm e.np e.na e.ng e.Pv e.Av e.M e.L=e.code):=rfl
 by_cases hc:e.code=0
 ·have hc0:evCode e.id e.sd e.ty e.key e.val e.st e.tm e.np e.na e.ng e.Pv e.Av e.M e.L=0:=hc
  go_wp2_with fail
  have hs1:w.heap.size+2<=w1.heap.size:=by simpa using hB1.size
  refine (l2At_sl e.id _ (h.below hw1)).mono ?_;rintro x w' ⟨rfl,rfl⟩;have hB2:Below (w.heap.size+2) (boxes w ar n cr e pa cp aa ca ga cg) (w1.alloc (.cells #[.slice ar n cr] 25)):=hB1.alloc hs1 _;have hw2:=hb0.trans (hB2.mono (by omega));generalize w1.alloc (.cells #[.slice ar n cr] 25)=w2 at *;clear hr1 he1 hB1 hw1 hs1;obtain ⟨hr2,he2⟩:=boxes_cells e w hB2
  by_cases h66:0<=posV E n e.id
  ·go_wp2
   go_ret;exact ⟨ret_int (ins6 e hc h66).symm,hw2⟩
  have h6:posV E n e.id<0:=by omega
  clear h66
  go_wp2_with fail
  refine (there_sl _ (h.below hw2) (he.hp.below hw2)).mono ?_;rintro x w3 ⟨rfl,hb3⟩;have hs2:w.heap.size+2<=w2.heap.size:=by simpa using hB2.size
  have hB3:=hB2.trans (hb3.mono hs2);have hw3:=hb0.trans (hB3.mono (by omega));clear hb3 hr2 he2 hs2;obtain ⟨hr3,he3⟩:=boxes_cells e w hB3;cases h7:thereB E n e.Pv e.np
  ·go_wp2
   go_ret;exact ⟨ret_int (ins7 e hc h6 (Or.inl h7)).symm,hw3⟩
  go_wp2_with fail
  refine (there_sl _ (h.below hw3) (he.ha.below hw3)).mono ?_;rintro x w4 ⟨rfl,hb4⟩;have hs3:w.heap.size+2<=w3.heap.size:=by simpa using hB3.size
  have hB4:=hB3.trans (hb4.mono hs3);have hw4:=hb0.trans (hB4.mono (by omega));clear hb4 hr3 he3 hs3;obtain ⟨hr4,he4⟩:=boxes_cells e w hB4;cases h7':thereB E n e.Av e.na
  ·go_wp2
   go_ret;exact ⟨ret_int (ins7 e hc h6 (Or.inr h7')).symm,hw4⟩
  have h77:¬ (thereB E n e.Pv e.np=false∨thereB E n e.Av e.na=false):=by simp [h7,h7']
  have H8:Hid (∀ _:(n=0∧(e.ty.toList == [99,114,101,97,116,101])=false)∨(0<n∧((e.ty.toList == [99,114,101,97,116,101])=true∨e.np=0∨e.na=0)),insCode E n e=8):=ins8 e hc h6 h77;have H9:Hid (_->_->insCode E n e=if 300<=n then 9 else 0):=ins90 e hc h6 h77;have hn:=h.max;have hle:=h.le;unfold maxLen at hn;clear h77 h7 h7' h6 hc hc0 hcode;cases hty:(e.ty.toList == [99,114,101,97,116,101])
  ·by_cases h0:n=0
   ·have h0b:((n:Int) == 0)=true:=by simp [h0]
    have H0:Hid (n=0):=h0;clear h0;go_wp2
    go_ret;exact ⟨ret_int (H8.out (Or.inl ⟨H0.out,hty⟩)).symm,hw4⟩
   have h0b:((n:Int) == 0)=false:=by simp;omega
   have h0c:decide (0<(n:Int))=true:=by simp;omega
   by_cases hp0:e.np=0
   ·have hp0b:((e.np:Int) == 0)=true:=by simp [hp0]
    have HP:Hid (e.np=0):=hp0;clear hp0;go_wp2
    go_ret;exact ⟨ret_int (H8.out (Or.inr ⟨by omega,Or.inr (Or.inl HP.out)⟩)).symm,hw4⟩
   by_cases ha0:e.na=0
   ·have hp0b:((e.np:Int) == 0)=false:=by simp;omega
    have ha0b:((e.na:Int) == 0)=true:=by simp [ha0]
    have HP:Hid (e.na=0):=ha0;clear ha0;go_wp2
    go_ret;exact ⟨ret_int (H8.out (Or.inr ⟨by omega,Or.inr (Or.inr HP.out)⟩)).symm,hw4⟩
   have hp0b:((e.np:Int) == 0)=false:=by simp;omega
   have ha0b:((e.na:Int) == 0)=false:=by simp;omega
   have H10:Hid (insCode E n e=if 300<=n then 9 else 0):=H9.out (by omega) (by simp [hty];omega)
   by_cases h300:300<=n
   ·have h9c:decide (300<=(n:Int))=true:=by simp;omega
    have H3:Hid (300<=n):=h300;clear h300;go_wp2
    go_ret;exact ⟨ret_int (by rw [H10.out,if_pos H3.out]),hw4⟩
   have h9c:decide (300<=(n:Int))=false:=by simp;omega
   have H3:Hid (¬ 300<=n):=h300;clear h300;go_wp2
   go_ret;exact ⟨ret_int (by rw [H10.out,if_neg H3.out]),hw4⟩
  by_cases h0:n=0
  ·have h0b:((n:Int) == 0)=true:=by simp [h0]
   have h0c:decide (0<(n:Int))=false:=by simp;omega
   have h0d:decide (0<n)=false:=by simp;omega
   have h9c:decide (300<=(n:Int))=false:=by simp;omega
   have H10:Hid (insCode E n e=if 300<=n then 9 else 0):=H9.out (by simp [hty]) (by omega);have H0:Hid (n=0):=h0;clear h0;go_wp2
   go_ret;exact ⟨ret_int (by rw [H10.out,if_neg (by rw [H0.out];decide)]),hw4⟩
  have h0b:((n:Int) == 0)=false:=by simp;omega
  have h0c:decide (0<(n:Int))=true:=by simp;omega
  go_wp2
  go_ret;exact ⟨ret_int (H8.out (Or.inr ⟨by omega,Or.inl hty⟩)).symm,hw4⟩
 have hcb:(e.code != 0)=true:=by simpa using hc
 have hcb':(evCode e.id e.sd e.ty e.key e.val e.st e.tm e.np e.na e.ng e.Pv e.Av e.M e.L != 0)=true:=hcb;go_wp2
 go_ret;exact ⟨ret_int (ins1 e hc).symm,hw1⟩
theorem roomS_any (b off n cap:Nat)(E:Nat->Ev)(w:World)(h:SlV w (some ⟨b,off,none⟩) n cap E)(hb:b<w.heap.size)(hc:∀ i,i<n->EvAt w b (off+i * 10) (E i)) :
  Calls Tryz.prog 28 #[.agg #[.slice (some ⟨b,off,none⟩) n cap]] w fun e w'=>e=.returned (.bool (roomTo E n))∧Below w.heap.size w w':=by
 have hn:=nZ h.le h.max;have hle:=h.le;unfold maxLen at hn;have hb0:∀ o,Below w.heap.size w (w.alloc o):=fun o=>bA
 go_enter Tryz.func28,Tryz.ntmps28
 go_wp2
 go_loopw [3] (fun i wr=>∃ k:Nat,k<=n∧i=.int .i64 k∧Hid (roomTo E k=true)∧Below (w.heap.size+1) (w.alloc (.cells #[.slice (some ⟨b,off,none⟩) n cap] 25)) wr) (fun i _=>n - (intOf i).toNat)
 case atStart=>exact ⟨0,nz,rfl,rfl,kB⟩
 case round =>
  obtain ⟨k,hk,rfl,hto,hbel⟩:=hrel;have hbw:=(hb0 _).trans (hbel.mono (Nat.le_succ _));have hbx:wr.cell? ⟨w.heap.size,0,none⟩=some (.slice (some ⟨b,off,none⟩) n cap):=box_cells hbel 0;have hszr:w.heap.size+1<=wr.heap.size:=by simpa using hbel.size
  by_cases hlt:k<n
  ·obtain ⟨pa,cp,aa,ca,ga,cg,hcs,hok⟩:=hc k hlt
   have hcs1:=hcs.below hbw hb;obtain ⟨c0,c1,c2,c3,c4,c5,c6,c7,c8,c9⟩:=hcs1;have hok1:=hok.below hbw;have hr1:=(h.take (k:=k) hk).below hbw;clear hcs hok hc
   go_wp2_with fail
   go_region_with (go_at_call 70;refine (l2Code_any (E:=E) (E k) _ (hr1.below (by first|exact kB|exact kB.drew|exact kB.drew.drew)) (hok1.below (by first|exact kB|exact kB.drew|exact kB.drew.drew))).mono ?_;rintro e w1 ⟨rfl,hb1⟩)
   all_goals
    have hb2:Below wr.heap.size wr w1:=Below.trans (by first|exact kB|exact kB.drew|exact kB.drew.drew) hb1
    by_cases h0:insCode E k (E k)=0
    ·go_wp2
     go_roundw
     case rel=>exact ⟨k+1,by omega,by go_num,by unfold Hid;rw [roomTo,hto.out,h0];rfl,hbel.trans (hb2.mono hszr)⟩
     simp [intOf];omega
    have h0b:(insCode E k (E k) != 0)=true:=by simpa using h0
    go_wp2
    go_ret;exact ⟨ret_bool (by rw [roomTo_le E n k hlt (by rw [roomTo];simp [h0])]),hbw.trans (hb2.mono hbw.size)⟩
  go_wp2
  go_ret;exact ⟨ret_bool (by rw [show n=k by omega,hto.out]),hbw⟩
theorem roomS_zero (a:Option Addr)(cap:Nat)(w:World) :
  Calls Tryz.prog 28 #[.agg #[.slice a 0 cap]] w fun e w'=>e=.returned (.bool true)∧Below w.heap.size w w':=by
 go_enter Tryz.func28,Tryz.ntmps28
 go_wp2
 refine wp_loop_rounds 1 ?_;rw [rounds_succ];go_wp2
 go_ret;exact ⟨rfl,bA⟩
theorem roomS_sl {a:Option Addr}{n cap:Nat}{E:Nat->Ev}(w:World)(h:SlV w a n cap E) :
  Calls Tryz.prog 28 #[.agg #[.slice a n cap]] w fun e w'=>e=.returned (.bool (roomTo E n))∧Below w.heap.size w w':=by
 rcases h.cells with rfl|⟨b,off,rfl,hb,hc⟩
 ·exact roomS_zero a cap w
 exact roomS_any b off n cap E w h hb hc
end
variable {w2 wr:World}{aa ga pa:Option Addr}{q ca cg cp:Nat}
def EvF (w:World)(B:Nat)(e:Ev):Prop:=w.cell? ⟨B,0,none⟩=some (.string e.id)∧w.cell? ⟨B,2,none⟩=some (.string e.ty)∧w.cell? ⟨B,3,none⟩=some (.bool e.st)∧w.cell? ⟨B,4,none⟩=some (.string e.key)
def CutF (wr:World)(ev:Ev)(pv:Value)(wx:World):Prop:=∃ B,pv=.pointer (some ⟨B,0,none⟩)∧EvF wx B ev∧Below wr.heap.size wr wx
theorem cutF_a {ev:Ev}(hb2:Below wr.heap.size wr w2):CutF wr ev (.pointer (some ⟨w2.heap.size,0,none⟩)) (w2.alloc (.cells (ec ev pa cp aa ca ga cg) 30)):=by
 refine ⟨_,rfl,⟨?_,?_,?_,?_⟩,hb2.alloc hb2.size _⟩
 all_goals
  rw [kA rfl];rfl
theorem cutF_b {ev:Ev}{z0 z2 z3 z4:Value}(hb2:Below wr.heap.size wr w2)(y0:w2.cell? ⟨wr.heap.size,0,none⟩=some z0)(y2:w2.cell? ⟨wr.heap.size,2,none⟩=some z2)(y3:w2.cell? ⟨wr.heap.size,3,none⟩=some z3)(y4:w2.cell? ⟨wr.heap.size,4,none⟩=some z4) :
  CutF wr ev (.pointer (some ⟨wr.heap.size,0,none⟩)) ((((((((((w2.setCell ⟨wr.heap.size,0,none⟩ (.string ev.id)).setCell ⟨wr.heap.size,1,none⟩ (.string ev.sd)).setCell ⟨wr.heap.size,2,none⟩ (.string ev.ty)).setCell ⟨wr.heap.size,3,none⟩ (.bool ev.st)).setCell ⟨wr.heap.size,4,none⟩ (.string ev.key)).setCell ⟨wr.heap.size,5,none⟩ (.int .i64 ev.tm)).setCell ⟨wr.heap.size,6,none⟩ (.slice pa ev.np cp)).setCell ⟨wr.heap.size,7,none⟩ (.slice aa ev.na ca)).setCell ⟨wr.heap.size,8,none⟩ (.string ev.val)).setCell ⟨wr.heap.size,9,none⟩ (.slice ga ev.ng cg)):=by
 refine ⟨_,rfl,⟨by rw [set_far (by decide),set_far (by decide),set_far (by decide),set_far (by decide),set_far (by decide),set_far (by decide),set_far (by decide),set_far (by decide),set_far (by decide),set_same ⟨_,y0⟩],by rw [set_far (by decide),set_far (by decide),set_far (by decide),set_far (by decide),set_far (by decide),set_far (by decide),set_far (by decide),set_same ⟨_,by rw [set_far (by decide),set_far (by decide)];exact y2⟩],by rw [set_far (by decide),set_far (by decide),set_far (by decide),set_far (by decide),set_far (by decide),set_far (by decide),set_same ⟨_,by rw [set_far (by decide),set_far (by decide),set_far (by decide)];exact y3⟩],by rw [set_far (by decide),set_far (by decide),set_far (by decide),set_far (by decide),set_far (by decide),set_same ⟨_,by rw [set_far (by decide),set_far (by decide),set_far (by decide),set_far (by decide)];exact y4⟩]⟩,?_⟩
 iterate 10 (refine Below.setCell ?_ (by show wr.heap.size<=wr.heap.size;exact nL) _)
 exact hb2
theorem zero_ev (W:World)(o:Nat)(ho:o<10):∃ v,(W.alloc (.cells #[.string ⟨#[]⟩,.string ⟨#[]⟩,.string ⟨#[]⟩,.bool false,.string ⟨#[]⟩,.int .i64 0,.slice none 0 0,.slice none 0 0,.string ⟨#[]⟩,.slice none 0 0] 30)).cell? ⟨W.heap.size,o,none⟩=some v:=by
 rw [kA rfl]
 match o,ho with
 | 0,_=>exact ⟨_,rfl⟩
 | 1,_=>exact ⟨_,rfl⟩
 | 2,_=>exact ⟨_,rfl⟩
 | 3,_=>exact ⟨_,rfl⟩
 | 4,_=>exact ⟨_,rfl⟩
 | 5,_=>exact ⟨_,rfl⟩
 | 6,_=>exact ⟨_,rfl⟩
 | 7,_=>exact ⟨_,rfl⟩
 | 8,_=>exact ⟨_,rfl⟩
 | 9,_=>exact ⟨_,rfl⟩
theorem l6From_sl (kind key:ByteArray)(w:World)(hroom:roomTo E n=true)(hq:q<n)(h:SlV w a n cap E)(he:EvOk w (E q) pa cp aa ca ga cg) :
  Calls Tryz.prog 218 #[.agg #[.slice a n cap],(E q).val' pa cp aa ca ga cg,.string kind,.string key] w fun x w'=>x=.returned (.string (frV E n (evP kind key) (E q)))∧Below w.heap.size w w':=by
 have hna:(E q).na<=maxLen:=nZ he.ha.le he.ha.max;unfold maxLen at hna;obtain ⟨wb,hwb⟩:∃ wb,wb=boxes w a n cap (E q) pa cp aa ca ga cg:=⟨_,rfl⟩;have hb0:Below w.heap.size w wb:=by rw [hwb];exact bA.alloc (by simp) _
 have hs0:wb.heap.size=w.heap.size+2:=by rw [hwb];simp
 have hbx:Hid (∀ wx,Below (w.heap.size+2) wb wx->wx.cell? ⟨w.heap.size,0,none⟩=some (.slice a n cap)∧wx.cell? ⟨w.heap.size+1,7,none⟩=some (.slice aa (E q).na ca)):=fun wx hx=>by
  subst hwb
  have:=boxes_cells (E q) w hx;exact ⟨this.1,this.2 7⟩
 have Hroom:Hid (_):=hroom;have HE:Hid (SlV w a n cap E):=h;have Ha:Hid (SlS w aa (E q).na ca (E q).Av):=he.ha;clear he h hroom
 go_enter Tryz.func218,Tryz.ntmps218
 go_wp2_with fail
 have hwb':(w.alloc (.cells #[.slice a n cap] 25)).alloc (.cells (ec (E q) pa cp aa ca ga cg) 30)=wb:=hwb.symm;rw [hwb'];clear hwb' hwb
 go_loopw [9] (fun i wr=>∃ k:Nat,k<=(E q).na∧i=.int .i64 k∧Hid (∀ i,i<k->evP kind key (E (posV E n ((E q).Av i)).toNat)=false)∧Below (w.heap.size+2) wb wr) (fun i _=>(E q).na - (intOf i).toNat)
 case atStart=>exact ⟨0,nz,rfl,fun i hi=>absurd hi (Nat.not_lt_zero _),kB⟩
 case round =>
  obtain ⟨k,hk,rfl,hto,hB⟩:=hrel;have hbw:=hb0.trans (hB.mono (by omega));have hso:w.heap.size+2<=wr.heap.size:=by have:=hB.size;omega
  obtain ⟨x0,x7⟩:=hbx.out _ hB
  by_cases hlt:k<(E q).na
  ·rcases Ha.out.cells with h0|⟨ba,oa,rfl,hba,hca⟩
   ·omega
   obtain ⟨y,hy,ey,-⟩:=auth_there Hroom.out hq hlt;have hck:wr.cell? ⟨ba,oa+k,none⟩=some (.string ((E q).Av k)):=(hbw.cell (by exact hba)).trans (hca k hlt);have hev:Hid (∀ W,Below wr.heap.size wr W->Calls Tryz.prog 103 #[.agg #[.slice a n cap],.string ((E q).Av k)] W (EePost W (E y))):=fun W hW=>l6Event_sl _ W (HE.out.below (hbw.trans (hW.mono hbw.size))) (by omega) ey
   have Hno:Hid (evP kind key (E y)=false->∀ i,i<k+1->evP kind key (E (posV E n ((E q).Av i)).toNat)=false):=fun hf i hi=>by
    by_cases e:i=k
    ·subst e;rw [ey,Int.toNat_natCast];exact hf
    exact hto.out i (by omega)
   have Hyes:Hid (evP kind key (E y)=true->(E y).id=frV E n (evP kind key) (E q)):=fun ht=>frV_hit hlt hto.out ey ht
   have hk64:(k:Int)<9223372036854775807:=by omega
   have hrf:Below wr.heap.size wr wr:=kB;have hal:Below wr.heap.size wr (wr.alloc (.cells #[.string ⟨#[]⟩,.string ⟨#[]⟩,.string ⟨#[]⟩,.bool false,.string ⟨#[]⟩,.int .i64 0,.slice none 0 0,.slice none 0 0,.string ⟨#[]⟩,.slice none 0 0] 30)):=bA;have hck1:(wr.alloc (.cells #[.string ⟨#[]⟩,.string ⟨#[]⟩,.string ⟨#[]⟩,.bool false,.string ⟨#[]⟩,.int .i64 0,.slice none 0 0,.slice none 0 0,.string ⟨#[]⟩,.slice none 0 0] 30)).drew.cell? ⟨ba,oa+k,none⟩=some (.string ((E q).Av k)):=(hal.drew.cell (by show ba<wr.heap.size;omega)).trans hck;have x01:(wr.alloc (.cells #[.string ⟨#[]⟩,.string ⟨#[]⟩,.string ⟨#[]⟩,.bool false,.string ⟨#[]⟩,.int .i64 0,.slice none 0 0,.slice none 0 0,.string ⟨#[]⟩,.slice none 0 0] 30)).drew.cell? ⟨w.heap.size,0,none⟩=some (.slice a n cap):=(hal.drew.cell (by show w.heap.size<wr.heap.size;omega)).trans x0;have x71:(wr.alloc (.cells #[.string ⟨#[]⟩,.string ⟨#[]⟩,.string ⟨#[]⟩,.bool false,.string ⟨#[]⟩,.int .i64 0,.slice none 0 0,.slice none 0 0,.string ⟨#[]⟩,.slice none 0 0] 30)).drew.cell? ⟨w.heap.size+1,7,none⟩=some (.slice (some ⟨ba,oa,none⟩) (E q).na ca):=(hal.drew.cell (by show w.heap.size+1<wr.heap.size;omega)).trans x7;have hlt1:ba<wr.heap.size:=by omega
   clear hca ey hto;generalize E y=ev at *
   go_wp2_with fail
   go_cut [10] from 11 to 40 (fun pv wx=>CutF wr ev pv wx)
   case first =>
    go_region_with (first
     | (go_at_call 103;refine (hev.out _ (by with_reducible (repeat refine .drew ?_);exact hrf)).mono ?_;rintro e w2 ⟨hb2',pa2,cp2,aa2,ca2,ga2,cg2,hee,-⟩;have hef:e=.returned (.agg (ec ev pa2 cp2 aa2 ca2 ga2 cg2)):=hee;clear hee;subst hef;have hb2:Below wr.heap.size wr w2:=Below.trans (by with_reducible (repeat refine .drew ?_);exact hrf) hb2')
     | (go_at_call 103;(refine (hev.out _ (by with_reducible (repeat refine .drew ?_);exact hal)).mono ?_;rintro e w2 ⟨hb2',pa2,cp2,aa2,ca2,ga2,cg2,hee,-⟩;have hef:e=.returned (.agg (ec ev pa2 cp2 aa2 ca2 ga2 cg2)):=hee;clear hee;subst hef;have hs2:wr.heap.size<w2.heap.size:=nT (by simp) hb2'.size;have hb2:Below wr.heap.size wr w2:=Below.trans (by with_reducible (repeat refine .drew ?_);exact hal) (hb2'.mono (by simp));have hz:∀ o,o<10->∃ v,w2.cell? ⟨wr.heap.size,o,none⟩=some v:=fun o ho=>(zero_ev wr o ho).imp fun v hv=>(hb2'.cell (p:=⟨wr.heap.size,o,none⟩) (by simp)).trans hv;obtain ⟨z0,y0⟩:=hz 0 (by decide);obtain ⟨z1,y1⟩:=hz 1 (by decide);obtain ⟨z2,y2⟩:=hz 2 (by decide);obtain ⟨z3,y3⟩:=hz 3 (by decide);obtain ⟨z4,y4⟩:=hz 4 (by decide);obtain ⟨z5,y5⟩:=hz 5 (by decide);obtain ⟨z6,y6⟩:=hz 6 (by decide);obtain ⟨z7,y7⟩:=hz 7 (by decide);obtain ⟨z8,y8⟩:=hz 8 (by decide);obtain ⟨z9,y9⟩:=hz 9 (by decide);clear hz;have hf:∀ o,w2.frozen? ⟨wr.heap.size,o,none⟩=false:=fun o=>(hb2'.frozen (p:=⟨wr.heap.size,o,none⟩) (by simp)).trans (kF rfl))))
    all_goals (try go_wp2_with fail)
    all_goals go_meet
    all_goals first
     | with_reducible exact cutF_a hb2
     | with_reducible exact cutF_b hb2 y0 y2 y3 y4
   case rest =>
    obtain ⟨B,rfl,⟨f0,f2,f3,f4⟩,hbc⟩:=hcut;have hBc:=hB.trans (hbc.mono hso);have hbwc:=hb0.trans (hBc.mono (by omega));clear x0 x7 hck hev;cases hP:evP kind key ev
    case true =>
     have hP':=hP;unfold evP at hP';simp only [Bool.and_eq_true] at hP';obtain ⟨⟨p1,p2⟩,p3⟩:=hP';have Hy:Hid (_=_):=Hyes.out hP;rw [p1] at f3;clear hP Hyes Hno;go_wp2
     go_ret;exact ⟨ret_str Hy.out,hbwc⟩
    case false =>
     have Hn:Hid (_):=Hno.out hP
     have H3:ev.st=false∨(ev.st=true∧(ev.ty.toList == kind.toList)=false)∨(ev.st=true∧(ev.ty.toList == kind.toList)=true∧(ev.key.toList == key.toList)=false):=by
      unfold evP at hP;cases h1:ev.st
      ·exact Or.inl rfl
      cases h2:(ev.ty.toList == kind.toList)
      ·exact Or.inr (Or.inl ⟨rfl,rfl⟩)
      rw [h1,h2] at hP;exact Or.inr (Or.inr ⟨rfl,rfl,by simpa using hP⟩)
     clear hP Hyes Hno;rcases H3 with p1|⟨p1,p2⟩|⟨p1,p2,p3⟩
     all_goals
      rw [p1] at f3;go_wp2
      go_roundw
      case rel=>exact ⟨k+1,by omega,by go_num,Hn,hBc⟩
      simp [intOf];omega
  have Hm:Hid ((⟨#[]⟩:ByteArray)=frV E n (evP kind key) (E q)):=frV_miss (fun i hi=>hto.out i (by omega));go_wp2
  go_ret;exact ⟨ret_str Hm.out,hbw⟩
end Go.Proofs.YtkdalopokdhndaaGreat
