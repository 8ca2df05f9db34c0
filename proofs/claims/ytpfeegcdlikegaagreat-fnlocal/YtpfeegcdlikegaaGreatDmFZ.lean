import Derived.Test.YtpfeegcdlikegaaGreatCpWZ
set_option maxHeartbeats 16000000
set_option maxRecDepth 100000
namespace Go.Proofs.YtpfeegcdlikegaaGreat
open Go.RowKit Go.Proofs.Tryz
variable {j:Nat}{X:World}{M S:Nat->ByteArray}{L:Nat->Int}
def fD (u:World):World:=((((((((((u.alloc (.cells #[.string ⟨#[36,99,48]⟩] 9)).alloc (.cells #[.string ⟨#[36,99,48]⟩] 9)).alloc (.cells #[.string ⟨#[36,97,49]⟩] 9)).alloc (.cells #[.string ⟨#[36,99,48]⟩,.string ⟨#[36,97,49]⟩] 9)).alloc (.cells #[.string ⟨#[64,97]⟩,.int .i64 100,.string ⟨#[64,98]⟩,.int .i64 50] 127)).alloc (.cells #[.string ⟨#[36,112,50]⟩] 9)).alloc (.cells #[.string ⟨#[36,99,48]⟩,.string ⟨#[36,97,49]⟩,.string ⟨#[36,112,50]⟩] 9)).alloc (.cells #[.string ⟨#[36,106,51]⟩] 9)).alloc (.cells #[.string ⟨#[36,99,48]⟩,.string ⟨#[36,112,50]⟩,.string ⟨#[36,106,51]⟩] 9)).alloc (.cells #[.string ⟨#[36,99,48]⟩,.string ⟨#[64,97]⟩,.string ⟨#[99,114,101,97,116,101]⟩,.bool true,.string ⟨#[]⟩,.int .i64 1,.slice none 0 0,.slice none 0 0,.string ⟨#[]⟩,.slice none 0 0,.string ⟨#[36,97,49]⟩,.string ⟨#[64,97]⟩,.string ⟨#[109,101,109,98,101,114]⟩,.bool true,.string ⟨#[64,97]⟩,.int .i64 2,.slice (some ⟨u.heap.size,0,none⟩) 1 1,.slice (some ⟨u.heap.size+1,0,none⟩) 1 1,.string ⟨#[106,111,105,110]⟩,.slice none 0 0,.string ⟨#[36,112,50]⟩,.string ⟨#[64,97]⟩,.string ⟨#[112,111,119,101,114]⟩,.bool true,.string ⟨#[]⟩,.int .i64 3,.slice (some ⟨u.heap.size+2,0,none⟩) 1 1,.slice (some ⟨u.heap.size+3,0,none⟩) 2 2,.string ⟨#[]⟩,.slice (some ⟨u.heap.size+4,0,none⟩) 2 2,.string ⟨#[36,106,51]⟩,.string ⟨#[64,97]⟩,.string ⟨#[106,111,105,110,95,114,117,108,101,115]⟩,.bool true,.string ⟨#[]⟩,.int .i64 4,.slice (some ⟨u.heap.size+5,0,none⟩) 1 1,.slice (some ⟨u.heap.size+6,0,none⟩) 3 3,.string ⟨#[112,117,98,108,105,99]⟩,.slice none 0 0,.string ⟨#[36,98,52]⟩,.string ⟨#[64,98]⟩,.string ⟨#[109,101,109,98,101,114]⟩,.bool true,.string ⟨#[64,98]⟩,.int .i64 5,.slice (some ⟨u.heap.size+7,0,none⟩) 1 1,.slice (some ⟨u.heap.size+8,0,none⟩) 3 3,.string ⟨#[106,111,105,110]⟩,.slice none 0 0] 30))
def fC (b:Nat):Nat->Ls
 | 0=>⟨none,0,none,0,none,0,b,b,b,b⟩
 | 1=>⟨some ⟨b,0,none⟩,1,some ⟨b+1,0,none⟩,1,none,0,b,b,b,b+2⟩
 | 2=>⟨some ⟨b+2,0,none⟩,1,some ⟨b+3,0,none⟩,2,some ⟨b+4,0,none⟩,2,b+2,b+2,b+2,b+5⟩
 | 3=>⟨some ⟨b+5,0,none⟩,1,some ⟨b+6,0,none⟩,3,none,0,b+5,b+5,b+5,b+7⟩
 | _=>⟨some ⟨b+7,0,none⟩,1,some ⟨b+8,0,none⟩,3,none,0,b+7,b+7,b+7,b+9⟩
theorem wD (u:World):(fD u).heap.size=u.heap.size+10:=by simp [fD]
theorem gP (w:World)(o:Obj)(h:j=w.heap.size):(w.alloc o).heap[j]?=some o:=by subst h;show (w.heap.push o)[w.heap.size]?=_;simp
theorem iF (w:World)(o:Obj)(h:j<w.heap.size):(w.alloc o).heap[j]?=w.heap[j]?:=by show (w.heap.push o)[j]?=_;rw [Array.getElem?_push,if_neg (by omega)]
theorem FL :dE X none 0 0 S:=⟨nL,by decide,fun _ h=>absurd h (Nat.not_lt_zero _),Or.inl rfl⟩
theorem rH :gN X none 0 0 M L:=⟨nL,by decide,fun _ h=>absurd h (Nat.not_lt_zero _),Or.inl rfl⟩
theorem lO {l:List ByteArray}(h:l.all (fun s=>decide (s.size<=3))=true):∀ s ∈ l,s.size<=maxLen:=fun s u=>nZ (of_decide_eq_true (List.all_eq_true.1 h s u)) (by decide)
theorem RK (u:World):bY QJ (fD u) u.heap.size (.slice (some ⟨u.heap.size+9,0,none⟩) 5 5) 5 gJ (fC u.heap.size):=by
 have ad:=wD u;have h0:(fD u).heap[u.heap.size+0]?=some (.cells #[.string ⟨#[36,99,48]⟩] 9):=by unfold fD;(iterate 9 rw [iF _ _ (by simp <;> omega)]);exact gP _ _ (by simp <;> omega)
 have J:(fD u).heap[u.heap.size+1]?=some (.cells #[.string ⟨#[36,99,48]⟩] 9):=by unfold fD;(iterate 8 rw [iF _ _ (by simp <;> omega)]);exact gP _ _ (by simp <;> omega)
 have N:(fD u).heap[u.heap.size+2]?=some (.cells #[.string ⟨#[36,97,49]⟩] 9):=by unfold fD;(iterate 7 rw [iF _ _ (by simp <;> omega)]);exact gP _ _ (by simp <;> omega)
 have h3:(fD u).heap[u.heap.size+3]?=some (.cells #[.string ⟨#[36,99,48]⟩,.string ⟨#[36,97,49]⟩] 9):=by unfold fD;(iterate 6 rw [iF _ _ (by simp <;> omega)]);exact gP _ _ (by simp <;> omega)
 have h4:(fD u).heap[u.heap.size+4]?=some (.cells #[.string ⟨#[64,97]⟩,.int .i64 100,.string ⟨#[64,98]⟩,.int .i64 50] 127):=by unfold fD;(iterate 5 rw [iF _ _ (by simp <;> omega)]);exact gP _ _ (by simp <;> omega)
 have h5:(fD u).heap[u.heap.size+5]?=some (.cells #[.string ⟨#[36,112,50]⟩] 9):=by unfold fD;(iterate 4 rw [iF _ _ (by simp <;> omega)]);exact gP _ _ (by simp <;> omega)
 have h6:(fD u).heap[u.heap.size+6]?=some (.cells #[.string ⟨#[36,99,48]⟩,.string ⟨#[36,97,49]⟩,.string ⟨#[36,112,50]⟩] 9):=by unfold fD;(iterate 3 rw [iF _ _ (by simp <;> omega)]);exact gP _ _ (by simp <;> omega)
 have h7:(fD u).heap[u.heap.size+7]?=some (.cells #[.string ⟨#[36,106,51]⟩] 9):=by unfold fD;(iterate 2 rw [iF _ _ (by simp <;> omega)]);exact gP _ _ (by simp <;> omega)
 have h8:(fD u).heap[u.heap.size+8]?=some (.cells #[.string ⟨#[36,99,48]⟩,.string ⟨#[36,112,50]⟩,.string ⟨#[36,106,51]⟩] 9):=by unfold fD;(iterate 1 rw [iF _ _ (by simp <;> omega)]);exact gP _ _ (by simp <;> omega)
 have h9:(fD u).heap[u.heap.size+9]?=some (.cells #[.string ⟨#[36,99,48]⟩,.string ⟨#[64,97]⟩,.string ⟨#[99,114,101,97,116,101]⟩,.bool true,.string ⟨#[]⟩,.int .i64 1,.slice none 0 0,.slice none 0 0,.string ⟨#[]⟩,.slice none 0 0,.string ⟨#[36,97,49]⟩,.string ⟨#[64,97]⟩,.string ⟨#[109,101,109,98,101,114]⟩,.bool true,.string ⟨#[64,97]⟩,.int .i64 2,.slice (some ⟨u.heap.size,0,none⟩) 1 1,.slice (some ⟨u.heap.size+1,0,none⟩) 1 1,.string ⟨#[106,111,105,110]⟩,.slice none 0 0,.string ⟨#[36,112,50]⟩,.string ⟨#[64,97]⟩,.string ⟨#[112,111,119,101,114]⟩,.bool true,.string ⟨#[]⟩,.int .i64 3,.slice (some ⟨u.heap.size+2,0,none⟩) 1 1,.slice (some ⟨u.heap.size+3,0,none⟩) 2 2,.string ⟨#[]⟩,.slice (some ⟨u.heap.size+4,0,none⟩) 2 2,.string ⟨#[36,106,51]⟩,.string ⟨#[64,97]⟩,.string ⟨#[106,111,105,110,95,114,117,108,101,115]⟩,.bool true,.string ⟨#[]⟩,.int .i64 4,.slice (some ⟨u.heap.size+5,0,none⟩) 1 1,.slice (some ⟨u.heap.size+6,0,none⟩) 3 3,.string ⟨#[112,117,98,108,105,99]⟩,.slice none 0 0,.string ⟨#[36,98,52]⟩,.string ⟨#[64,98]⟩,.string ⟨#[109,101,109,98,101,114]⟩,.bool true,.string ⟨#[64,98]⟩,.int .i64 5,.slice (some ⟨u.heap.size+7,0,none⟩) 1 1,.slice (some ⟨u.heap.size+8,0,none⟩) 3 3,.string ⟨#[106,111,105,110]⟩,.slice none 0 0] 30):=by unfold fD;exact gP _ _ (by simp)
 generalize fD u=X at *;generalize u.heap.size=b at *;refine ⟨⟨by rw [oF],Or.inr ⟨b+9,5,_,rfl,by omega,h9,nL,by decide,rfl,rfl⟩⟩,fun i hi=>?_,fun i hi=>?_,fun i j Z hj=>?_,fun g hg i hi=>?_⟩
 ·have t1:=jD (l:=[LS]) h0 rfl (lO (by decide)) (by decide)
  have t2:=jD (l:=[LS]) J rfl (lO (by decide)) (by decide);have t3:=jD (l:=[YA]) N rfl (lO (by decide)) (by decide);have t4:=jD (l:=[LS,YA]) h3 rfl (lO (by decide)) (by decide);have t5:=TS (l:=[(US,100),(tUb,50)]) h4 rfl (fun i _=>nZ (rU (fun x Y=>by simp only [List.mem_cons,List.not_mem_nil,or_false] at Y;rcases Y with rfl|rfl <;> decide) i) (by decide)) (by decide);have t6:=jD (l:=[YH]) h5 rfl (lO (by decide)) (by decide);have t7:=jD (l:=[LS,YA,YH]) h6 rfl (lO (by decide)) (by decide);have t8:=jD (l:=[ZX]) h7 rfl (lO (by decide)) (by decide);have t9:=jD (l:=[LS,YH,ZX]) h8 rfl (lO (by decide)) (by decide);have H:∀ {a:Option Addr} {lo hi:Nat},Iv a 0 lo hi:=Or.inl rfl;have G:∀ {O n lo hi:Nat},lo<=O->O<hi->Iv (some ⟨O,0,none⟩) n lo hi:=fun J N=>Or.inr ⟨_,_,rfl,J,N⟩
  match i,hi with
  | 0,_=>exact ⟨⟨by decide,by decide,by decide,by decide,by decide,FL,FL,rH⟩,H,H,H,nL,by show b<=_;omega⟩
  | 1,_=>exact ⟨⟨by decide,by decide,by decide,by decide,by decide,t1,t2,rH⟩,G nL (by show b<b+2;omega),G (by show b<=b+1;omega) (by show b+1<b+2;omega),H,by show b<=b+2;omega,by show b+2<=_;omega⟩
  | 2,_=>exact ⟨⟨by decide,by decide,by decide,by decide,by decide,t3,t4,t5⟩,G (by show b+2<=b+2;omega) (by show b+2<b+5;omega),G (by show b+2<=b+3;omega) (by show b+3<b+5;omega),G (by show b+2<=b+4;omega) (by show b+4<b+5;omega),by show b+2<=b+5;omega,by show b+5<=_;omega⟩
  | 3,_=>exact ⟨⟨by decide,by decide,by decide,by decide,by decide,t6,t7,rH⟩,G (by show b+5<=b+5;omega) (by show b+5<b+7;omega),G (by show b+5<=b+6;omega) (by show b+6<b+7;omega),H,by show b+5<=b+7;omega,by show b+7<=_;omega⟩
  | 4,_=>exact ⟨⟨by decide,by decide,by decide,by decide,by decide,t8,t9,rH⟩,G (by show b+7<=b+7;omega) (by show b+7<b+9;omega),G (by show b+7<=b+8;omega) (by show b+8<b+9;omega),H,by show b+7<=b+9;omega,by show b+9<=_;omega⟩
 ·match i,hi with
  | 0,_=>exact nL
  | 1,_=>exact nL
  | 2,_=>exact Nat.le_add_right _ _
  | 3,_=>exact Nat.le_add_right _ _
  | 4,_=>exact Nat.le_add_right _ _
 ·have f1:∀ k,k<5->(fC b k).lo=b+(if k<=1 then 0 else if k=2 then 2 else if k=3 then 5 else 7):=fun k U=>by
   match k,U with
   | 0,_=>rfl
   | 1,_=>rfl
   | 2,_=>rfl
   | 3,_=>rfl
   | 4,_=>rfl
  have f2:∀ k,k<5->(fC b k).hi=b+(if k=0 then 0 else if k=1 then 2 else if k=2 then 5 else if k=3 then 7 else 9):=fun k U=>by
   match k,U with
   | 0,_=>rfl
   | 1,_=>rfl
   | 2,_=>rfl
   | 3,_=>rfl
   | 4,_=>rfl
  rw [f1 j hj,f2 i (by omega)]
  repeat' split
  all_goals omega
 have I:b+9=g:=by simpa [Value.ownBlock] using hg
 subst I;refine Or.inr ?_
 match i,hi with
 | 0,_=>exact Nat.le_add_right _ _
 | 1,_=>exact Nat.add_le_add_left (by decide) _
 | 2,_=>exact Nat.add_le_add_left (by decide) _
 | 3,_=>exact Nat.add_le_add_left (by decide) _
 | 4,_=>exact nL
theorem VP (b:Nat):∀ i,i<5->(fC b i).hi<=b+10:=fun i hi=>by
 match i,hi with
 | 0,_=>exact Nat.le_add_right _ _
 | 1,_=>exact Nat.add_le_add_left (by decide) _
 | 2,_=>exact Nat.add_le_add_left (by decide) _
 | 3,_=>exact Nat.add_le_add_left (by decide) _
 | 4,_=>exact Nat.add_le_add_left (by decide) _
variable {bs:Nat->Nat}{i m q st:Nat}{u14 u15 u16 u17 u18 u19 u20 u21 u22 u23 u24 u25 u26 u27 u28 u29 u30 u31 u32 u33 u34 u35 u36 u37 u38 u39 u40 u41 u42 u43 u44 u45 u46 u47 u48 u49 u50 u51 u52 u53 u54 u55 u56 u57 u58 u59 u60 u61 u62 u63 u64 u65 u66 u67 u68 u69 u70 u71 u72 u73 u74 u75 u76 u77 u78 u79 u80 u81 u82 u83 u84 u85 u86 u87 u88 u89 u90 u91 u92 u93 u94 u95 u96 u97 u98 u99 u100 u101 u102 u103 u104 u105 u106:Value}
def tR (p:Nat)(w:World)(bs:Nat->Nat)(m q:Nat)(x:Ending)(w':World):Prop :=
 ∃ i rb rc T sg sc Aa Ca,0<i/\sO i (fU bs m q)/\x=.returned (.tuple #[.agg #[.slice (some ⟨rb,0,none⟩) (fU bs m q).n rc],.slice (some ⟨sg,0,none⟩) (fU bs m q).n sc])/\bY QO w' w.heap.size (.slice (some ⟨rb,0,none⟩) (fU bs m q).n rc) (fU bs m q).n (fU bs m q).E T/\dQ List.length PE 26 w' w.heap.size (.slice (some ⟨sg,0,none⟩) (fU bs m q).n sc) (fU bs m q).n (fU bs m q).A Aa Ca/\(∀ j,j<(fU bs m q).n->((fU bs m q).A j).length=0\/∃ b off,Aa j=some ⟨b,off,none⟩/\w.heap.size<=b)/\bR p w w' bs m (fU bs m q).q
def FP (p:Nat)(w:World)(bs:Nat->Nat)(m q G st r5 fb i:Nat)(sv:Value)(wr:World):Prop :=
 ∃ n E A u b3 rb rc T sg sc Aa Ca,sv=.slice (some ⟨sg,0,none⟩) n sc/\He (sO i ⟨n,E,A,u⟩)/\He (lQ bs m G st (16 - i) i ⟨n,E,A,u⟩=fU bs m q)/\He (lF p w wr bs m u n E n A r5 b3 rb rc T sg sc Aa Ca (r5+2) (r5+12) fb (fC (r5+2)))
def ZD (p:Nat)(w:World)(bs:Nat->Nat)(m st i n:Nat)(E:Nat->Ev)(A:Nat->List aE)(u r5 b3 rb rc:Nat)(T:Nat->Ls)(sg sc:Nat)(Aa:Nat->Option Addr)(Ca:Nat->Nat)(fb B:Nat)(wx:World):Prop :=
 ∃ e pa cp aa ca ga cg,He (e=UJ bs m st i ⟨n,E,A,u⟩)/\He (eE e)/\He (cI wx e pa cp aa ca ga cg)/\(∀ o,o<10->wx.cell? ⟨B,o,none⟩=some (((ec e pa cp aa ca ga cg):Array Value)[o]?.getD undef))/\He (lF p w wx bs m (VF bs m st i ⟨n,E,A,u⟩) n E n A r5 b3 rb rc T sg sc Aa Ca (r5+2) (r5+12) fb (fC (r5+2)))
def RY (p:Nat)(w:World)(bs:Nat->Nat)(m q:Nat)(E:Nat->Ev)(n:Nat)(A:Nat->List aE)(x:Ending)(w':World):Prop :=
 ∃ e pa cp aa ca ga cg,JC bs m q E n A e/\x=.returned (.agg (ec e pa cp aa ca ga cg))/\cI w' e pa cp aa ca ga cg/\RH w.heap.size e pa aa ga/\GwO w' w.heap.size e pa cp aa ca ga cg/\bR p w w' bs m (gwQ bs m q)
theorem CO {u:Nat}{s:qB}(h:¬ ZI m u st i s)(hi:i<=15):lQ bs m u st (16 - i) i s=s:=by
 rw [show 16 - i=(15 - i)+1 by omega];unfold lQ;rw [if_neg h]
theorem OH {u:Nat}{s:qB}(h:ZI m u st i s)(hi:i<=15):lQ bs m u st (16 - i) i s=lQ bs m u st (16 - (i+1)) (i+1) (nP bs m st i s):=by
 rw [show 16 - i=(16 - (i+1))+1 by omega]
 conv=>lhs;unfold lQ
 rw [if_pos h]
theorem XD (p:Nat){q1 Z r5 b0 dn fb:Nat}{u4:Value}(w w5:World)(hp:p<w.heap.size)(fk:1<=st/\st<=5)(ej:Z<=15/\1<=Z)(br:He (lQ bs m Z st 16 0 ⟨0,fun _=>gJ 0,fun _=>[],q1⟩=fU bs m q))(dk:He (lF p w w5 bs m q1 0 (fun _=>gJ 0) 0 (fun _=>[]) r5 b0 dn 0 (fun _=>fC 0 0) (r5+1) 0 (fun _=>none) (fun _=>0) (r5+2) (r5+12) fb (fC (r5+2)))) :
  Code.wp prog (fZ (Tryz.f35.body.getD .skip) 9) (bodyPost prog Tryz.f35 (tR p w bs m q)) { tmps:=#[.pointer (some ⟨p,0,none⟩),undef,.pointer (some ⟨w.heap.size,0,none⟩),.slice none 0 0,u4,.pointer (some ⟨r5,0,none⟩),.slice (some ⟨r5+1,0,none⟩) 0 0,.slice (some ⟨fb,0,none⟩) 5 5,.int .i64 (st:Int),.int .i64 (Z:Int),undef,undef,undef,undef,u14,u15,u16,u17,u18,u19,u20,u21,u22,u23,u24,u25,u26,u27,u28,u29,u30,u31,u32,u33,u34,u35,u36,u37,u38,u39,u40,u41,u42,u43,u44,u45,u46,u47,u48,u49,u50,u51,u52,u53,u54,u55,u56,u57,u58,u59,u60,u61,u62,u63,u64,u65,u66,u67,u68,u69,u70,u71,u72,u73,u74,u75,u76,u77,u78,u79,u80,u81,u82,u83,u84,u85,u86,u87,u88,u89,u90,u91,u92,u93,u94,u95,u96,u97,u98,u99,u100,u101,u102,u103,u104,u105,u106],defers:=[] } w5:=by
 obtain ⟨j0,e8,em,eh,e9⟩:=info_parts Tryz.infoRowE;rw [show fZ (Tryz.f35.body.getD .skip) 9=Code.seq _ _ from rfl];have df:He (FP p w bs m q Z st r5 fb 0 (.slice (some ⟨r5+1,0,none⟩) 0 0) w5):=⟨0,_,_,q1,b0,dn,0,_,r5+1,0,_,_,rfl,sO.zero q1,br.o,dk.o⟩;clear br dk
 go_wp2_with fail
 go_loopw [6,10] (fun sv iv wr=>∃ i:Nat,i<=Z/\iv=.int .i64 (i:Int)/\FP p w bs m q Z st r5 fb i sv wr) (fun _ iv _=>16 - (intOf iv).toNat)
 case atStart=>exact ⟨0,nz,rfl,df.o⟩
 case round =>
  clear df;obtain ⟨i,hi,rfl,n,E,A,I,b3,rb,rc,T,sg,sc,Aa,Ca,rfl,G,ag,hI⟩:=hrel;have d9:m<=1000:=hI.o.dw.1.m1;have eb:I<=2000:=hI.o.dw.1.q1;have fw:n<=15:=nZ G.o.le (by omega);obtain ⟨cC,af⟩:∃ cC,cC=decide (i<Z/\(i<st\/I<m)):=⟨_,rfl⟩;have ao:He (cC=decide (i<Z/\(i<st\/I<m))):=af;clear af
  go_upto_region 12 with fail
  go_cut [69] (fun v wx=>v=.bool cC/\Below wr.heap.size wr wx)
  case first =>
   have HL:He (Calls prog 75 #[.pointer (some ⟨p,0,none⟩)] wr (fun e w'=>e=.returned (.int .i64 ((m:Int) - (I:Int)))/\Below wr.heap.size wr w')):=UI p wr hI.o.dw.1;have af:=ao.o;clear hI G ag ao
   by_cases h1:i<Z
   ·have de:(i:Int)<(Z:Int):=by omega
    by_cases h2:i<st
    ·have bg:(i:Int)<(st:Int):=by omega
     have e1:cC=true:=by rw [af];exact decide_eq_true ⟨h1,Or.inl h2⟩
     clear af HL;go_wp2
     go_meet;exact ⟨by rw [e1],kB⟩
    have bg:¬ (i:Int)<(st:Int):=by omega
    have gh:decide ((i:Int)<(st:Int))=false:=decide_eq_false bg
    have e1:cC=decide (I<m):=by
     rw [af]
     by_cases h3:I<m
     ·rw [decide_eq_true h3];exact decide_eq_true ⟨h1,Or.inr h3⟩
     rw [decide_eq_false h3];exact decide_eq_false (fun h=>h.2.elim h2 h3)
    clear af
    go_wp2_with fail
    refine HL.o.mono ?_;rintro x w2 ⟨rfl,bo⟩;clear HL;go_wp2
    go_meet;exact ⟨by rw [e1],bo⟩
   have de:¬ (i:Int)<(Z:Int):=by omega
   have gv:decide ((i:Int)<(Z:Int))=false:=decide_eq_false de;have e1:cC=false:=by rw [af];exact decide_eq_false (fun h=>h1 h.1)
   clear af HL;go_wp2
   go_meet;exact ⟨by rw [e1],kB⟩
  case rest =>
   obtain ⟨rfl,bo⟩:=hcut;obtain ⟨w2,ep⟩:∃ w2:World,w2=wc:=⟨_,rfl⟩;subst ep;have u:He (lF p w w2 bs m I n E n A r5 b3 rb rc T sg sc Aa Ca (r5+2) (r5+12) fb (fC (r5+2))):=hI.o.below hp bo;clear hI bo;cases cC
   case false =>
    have b8:¬ ZI m Z st i ⟨n,E,A,I⟩:=fun h=>by have hq:=ao.o;rw [decide_eq_true (show i<Z/\(i<st\/I<m) from h)] at hq;cases hq
    have et:He (0<i):=Nat.pos_of_ne_zero fun e=>b8 (by subst e;exact ⟨by omega,Or.inl (by omega)⟩)
    have Hs:He (⟨n,E,A,I⟩=fU bs m q):=by unfold He;rw [<- ag.o];exact (CO b8 (by omega)).symm
    obtain ⟨z0,eo⟩:=u.o.z;have f0:=u.o.fz;have x5:=u.o.box
    have HP:He (∀ W',Kb w.heap.size w2 W'->bR p w W' bs m I->tR p w bs m q (.returned (.tuple #[.agg #[.slice (some ⟨rb,0,none⟩) n rc],.slice (some ⟨sg,0,none⟩) n sc])) W'):=fun W' hk hd=>by
     have g4:=u.o.lo;have dl:=u.o.b3l;have gm:=u.o.aft.at.2.1;have hr:=u.o.room.kb uF hk dl;have ha:=u.o.aft.kx hk (fun e=>by have:sg=w.heap.size:=(by simpa [Value.ownBlock] using e);omega) (fun i hi=>(u.o.alo i hi).imp id fun ⟨b,off,e,hb⟩=>⟨b,off,e,by omega⟩);unfold tR;rw [<- Hs.o];exact ⟨i,rb,rc,T,sg,sc,Aa,Ca,et.o,G.o,rfl,hr.lo (by omega),ha.mono (by omega),fun j hj=>(u.o.alo j hj).imp id fun ⟨b,off,e,hb⟩=>⟨b,off,e,by omega⟩,hd⟩
    have HD:He (bR p w w2 bs m I):=u.o.dw;clear G ag ao b8 u;go_wp2
    refine bodyPost_ret (v:=.tuple #[.agg #[.slice (some ⟨rb,0,none⟩) n rc],.slice (some ⟨sg,0,none⟩) n sc]) (by simp [results,results35,go_sem,eo]) rfl (HP.o _ ((Kb.refl _ _).set 0 _) (HD.o.own nL hp 0 _))
   case true =>
    have fd:i<Z/\(i<st\/I<m):=by have hq:=ao.o;simpa using hq.symm
    have J:He (lQ bs m Z st (16 - (i+1)) (i+1) (nP bs m st i ⟨n,E,A,I⟩)=fU bs m q):=by unfold He;rw [<- ag.o];exact (OH (show ZI m Z st i ⟨n,E,A,I⟩ from fd) (by omega)).symm
    clear ag ao;obtain ⟨e0,dj⟩:∃ e0,e0=gJ 0:=⟨_,rfl⟩;obtain ⟨t0,dr⟩:∃ t0,t0=fC (r5+2) 0:=⟨_,rfl⟩;have dm:=(u.o.fst.at YM).2.2.2 0 (by decide);rw [Nat.zero_mul,<- dj,<- dr] at dm;obtain ⟨c0,c1,c2,c3,c4,c5,c6,c7,c8,c9⟩:=dm;simp only [Nat.zero_add] at c1 c2 c3 c4 c5 c6 c7 c8 c9;clear dj dr
    go_upto_if 77 with fail
    obtain ⟨w3,au⟩:∃ w3:World,w3=w2.alloc (.cells (ec e0 t0.pa t0.cp t0.aa t0.ca t0.ga t0.cg) 30):=⟨_,rfl⟩;rw [<- au];have a4:Below w2.heap.size w2 w3:=by rw [au];exact bA
    have H:He (∀ o,o<10->w3.cell? ⟨w2.heap.size,o,none⟩=some (((ec e0 t0.pa t0.cp t0.aa t0.ca t0.ga t0.cg):Array Value)[o]?.getD undef)):=fun o ho=>by
     rw [au,kA rfl,Array.getElem?_eq_getElem (by show o<10;omega)];rfl
    have an:He (∀ o,w3.frozen? ⟨w2.heap.size,o,none⟩=false):=fun o=>by rw [au];exact kF rfl
    obtain ⟨B,hB⟩:∃ B,B=w2.heap.size:=⟨_,rfl⟩;have b5:B<w3.heap.size:=by rw [au,hB];simp
    rw [<- hB] at H an ⊢;have bb:He (w2.heap.size<=B):=by unfold He;omega
    have ae:He (lF p w w3 bs m I n E n A r5 b3 rb rc T sg sc Aa Ca (r5+2) (r5+12) fb (fC (r5+2))):=u.o.below hp a4;have aw:He (Kb p w2 w3):=(Kb.refl _ _).below a4;clear c0 c1 c2 c3 c4 c5 c6 c7 c8 c9 au a4 hB
    go_cut [85] (fun _ wx=>ZD p w bs m st i n E A I r5 b3 rb rc T sg sc Aa Ca fb B wx)
    case first =>
     have z0:w3.cell? ⟨B,0,none⟩=some (.string e0.id):=H.o 0 (by decide);have z1:w3.cell? ⟨B,1,none⟩=some (.string e0.sd):=H.o 1 (by decide);have z2:w3.cell? ⟨B,2,none⟩=some (.string e0.ty):=H.o 2 (by decide);have z3:w3.cell? ⟨B,3,none⟩=some (.bool e0.st):=H.o 3 (by decide);have z4:w3.cell? ⟨B,4,none⟩=some (.string e0.key):=H.o 4 (by decide);have z5:w3.cell? ⟨B,5,none⟩=some (.int .i64 e0.tm):=H.o 5 (by decide);have z6:w3.cell? ⟨B,6,none⟩=some (.slice t0.pa e0.np t0.cp):=H.o 6 (by decide);have z7:w3.cell? ⟨B,7,none⟩=some (.slice t0.aa e0.na t0.ca):=H.o 7 (by decide);have z8:w3.cell? ⟨B,8,none⟩=some (.string e0.val):=H.o 8 (by decide);have z9:w3.cell? ⟨B,9,none⟩=some (.slice t0.ga e0.ng t0.cg):=H.o 9 (by decide);have f0:=an.o
     by_cases h2:i<st
     ·have bg:(i:Int)<(st:Int):=by omega
      have gq:(i:Int)<5:=by omega
      have gu:(0:Int)<=(i:Int):=by omega
      obtain ⟨ei,a5⟩:∃ ei,ei=gJ i:=⟨_,rfl⟩;obtain ⟨ti,b7⟩:∃ ti,ti=fC (r5+2) i:=⟨_,rfl⟩;have dt:=(ae.o.fst.at YM).2.2.2 i (by omega);rw [<- a5,<- b7] at dt;obtain ⟨c0,c1,c2,c3,c4,c5,c6,c7,c8,c9⟩:=dt
      have HP:He (∀ W,lF p w W bs m I n E n A r5 b3 rb rc T sg sc Aa Ca (r5+2) (r5+12) fb (fC (r5+2))->(∀ o,o<10->W.cell? ⟨B,o,none⟩=some (((ec ei ti.pa ti.cp ti.aa ti.ca ti.ga ti.cg):Array Value)[o]?.getD undef))->ZD p w bs m st i n E A I r5 b3 rb rc T sg sc Aa Ca fb B W):=fun W hW hc=>by
       have hq:=(hW.fst.q i (by omega)).ok;rw [<- a5,<- b7] at hq;refine ⟨ei,ti.pa,ti.cp,ti.aa,ti.ca,ti.ga,ti.cg,?_,?_,hq,hc,?_⟩
       ·unfold He UJ;rw [if_pos h2];exact a5
       ·rw [a5];exact CJ i
       unfold He VF;rw [if_pos h2];exact hW
      have HX:=u.o.fill hp (W4:=w3) aw.o ae.o.dw bb.o;have HY:=sN H.o;have es:He (_):=HX;have cc:He (_):=HY;clear HX HY G J u ae H an aw a5 b7;go_wp2
      go_meet;exact HP.o _ (es.o _ _ _ _ _ _ _ _ _ _) (cc.o _ _ _ _ _ _ _ _ _ _)
     have bg:¬ (i:Int)<(st:Int):=by omega
     have ff:0<i:=by omega
     have dq:He (Calls prog 37 #[.pointer (some ⟨p,0,none⟩),.agg #[.slice (some ⟨rb,0,none⟩) n rc],.slice (some ⟨sg,0,none⟩) n sc] w3 (RY p w3 bs m I E n A)):=ZH p w3 ae.o.dw.1 (G.o.pos ff) G.o.room nL (by unfold maxLen;omega) G.o.fit (ae.o.gwK hp);have x5:=ae.o.box;have fa:He (bR p w w3 bs m I):=ae.o.dw;have fn:w.heap.size<=B:=nZ u.o.dw.size bb.o;have HQ:He (VF bs m st i ⟨n,E,A,I⟩=gwQ bs m I):=by unfold He VF;rw [if_neg h2]
     have HE:He (∀ e,JC bs m I E n A e->e=UJ bs m st i ⟨n,E,A,I⟩):=fun e he=>by unfold UJ;rw [if_neg h2];exact WR he
     clear G J ae
     go_wp2_with fail
     refine dq.o.mono ?_;rintro x w4 ⟨e,pa,cp,aa,ca,ga,cg,bf,rfl,bq,bw,_,ap⟩;have ew:He (Kb p w2 w4):=aw.o.trans (Kb.of ap.2 (fun b hb=>by injection hb with hb;exact hb.symm));have O:He (∀ o,o<10->w4.cell? ⟨B,o,none⟩=some (((ec e0 t0.pa t0.cp t0.aa t0.ca t0.ga t0.cg):Array Value)[o]?.getD undef)):=fun o ho=>(World.cell?_of_block (a:=⟨B,o,none⟩) (ap.2.block B b5 (fun q=>by injection q with q;omega))).trans (H.o o ho)
     have ek:He (∀ o,w4.frozen? ⟨B,o,none⟩=false):=fun o=>(World.frozen?_of_block (a:=⟨B,o,none⟩) (ap.2.block B b5 (fun q=>by injection q with q;omega))).trans (an.o o)
     have du:=u.o.fill hp (W4:=w4) ew.o (fa.o.trans ap) bb.o;have dg:He (_):=du;have HY:=sN O.o;have cc:He (_):=HY;have dd:He (cI w4 e pa cp aa ca ga cg):=bq;have ds:He (JC bs m I E n A e):=bf;have e4:He (RH w3.heap.size e pa aa ga):=bw;have gb:He (w3.heap.size<=w4.heap.size):=ap.size;clear z0 z1 z2 z3 z4 z5 z6 z7 z8 z9 f0 x5 du HY bf bq bw ap dq aw H an u;have z0:w4.cell? ⟨B,0,none⟩=some (.string e0.id):=O.o 0 (by decide);have z1:w4.cell? ⟨B,1,none⟩=some (.string e0.sd):=O.o 1 (by decide);have z2:w4.cell? ⟨B,2,none⟩=some (.string e0.ty):=O.o 2 (by decide);have z3:w4.cell? ⟨B,3,none⟩=some (.bool e0.st):=O.o 3 (by decide);have z4:w4.cell? ⟨B,4,none⟩=some (.string e0.key):=O.o 4 (by decide);have z5:w4.cell? ⟨B,5,none⟩=some (.int .i64 e0.tm):=O.o 5 (by decide);have z6:w4.cell? ⟨B,6,none⟩=some (.slice t0.pa e0.np t0.cp):=O.o 6 (by decide);have z7:w4.cell? ⟨B,7,none⟩=some (.slice t0.aa e0.na t0.ca):=O.o 7 (by decide);have z8:w4.cell? ⟨B,8,none⟩=some (.string e0.val):=O.o 8 (by decide);have z9:w4.cell? ⟨B,9,none⟩=some (.slice t0.ga e0.ng t0.cg):=O.o 9 (by decide);have f0:=ek.o;go_wp2
     go_meet;refine ⟨e,pa,cp,aa,ca,ga,cg,HE.o e ds.o,ds.o.reach,?_,cc.o _ _ _ _ _ _ _ _ _ _,?_⟩
     ·exact dd.o.kl e4.o (Kb.fill10 B w4 _ _ _ _ _ _ _ _ _ _) b5
     unfold He;rw [HQ.o];exact dg.o _ _ _ _ _ _ _ _ _ _
    case rest =>
     obtain ⟨e,pa,cp,aa,ca,ga,cg,he,bn,bt,U,hI⟩:=hcut;obtain ⟨Y,ex⟩:∃ Y:World,Y=wc:=⟨_,rfl⟩;subst ex;obtain ⟨q2,b4⟩:∃ q2,q2=VF bs m st i ⟨n,E,A,I⟩:=⟨_,rfl⟩;rw [<- b4] at hI;have ce:He (q2=VF bs m st i ⟨n,E,A,I⟩):=b4;have bp:=hI.o.room.at uF;have cm:He (Calls prog 76 #[.agg #[.slice (some ⟨rb,0,none⟩) n rc],.agg (ec e pa cp aa ca ga cg)] Y (wO QO E n e Y)):=YR bf0 rb 0 n rc E e Y (by omega) G.o.reach bn.o bp.2.2.1 (fun _=>bp.1) (fun j hj=>by rw [Nat.zero_add];exact ⟨_,_,_,_,_,_,bp.2.2.2 j hj,(hI.o.room.q j hj).j.ok⟩) bt.o;have x5:=hI.o.box;have y0:Y.cell? ⟨B,0,none⟩=some (.string e.id):=U 0 (by decide);have y1:Y.cell? ⟨B,1,none⟩=some (.string e.sd):=U 1 (by decide);have y2:Y.cell? ⟨B,2,none⟩=some (.string e.ty):=U 2 (by decide);have y3:Y.cell? ⟨B,3,none⟩=some (.bool e.st):=U 3 (by decide);have y4:Y.cell? ⟨B,4,none⟩=some (.string e.key):=U 4 (by decide);have y5:Y.cell? ⟨B,5,none⟩=some (.int .i64 e.tm):=U 5 (by decide);have y6:Y.cell? ⟨B,6,none⟩=some (.slice pa e.np cp):=U 6 (by decide);have y7:Y.cell? ⟨B,7,none⟩=some (.slice aa e.na ca):=U 7 (by decide);have y8:Y.cell? ⟨B,8,none⟩=some (.string e.val):=U 8 (by decide);have y9:Y.cell? ⟨B,9,none⟩=some (.slice ga e.ng cg):=U 9 (by decide);clear u ae H an aw bb bt bp U b4
     go_wp2_with fail
     refine cm.o.mono ?_;rintro x w7 ⟨v,T',rfl,hR,cn⟩;obtain ⟨c,hc⟩:∃ c,c=aO E n e:=⟨_,rfl⟩;rw [<- hc];have Hc:He (c=aO E n e):=hc;have ax:He (lF p w w7 bs m q2 n E n A r5 b3 rb rc T sg sc Aa Ca (r5+2) (r5+12) fb (fC (r5+2))):=hI.o.below hp cn;have dx:r5<Y.heap.size:=hI.o.hi;have co:sg<Y.heap.size:=hI.o.aft.at.1;clear cm x5 y0 y1 y2 y3 y4 y5 y6 y7 y8 y9 hc hI cn
     by_cases ay:c=0
     ·have bh:He (aO E n e=0):=by unfold He;rw [<- Hc.o];exact ay
      have cb:bY QO w7 Y.heap.size v (n+1) (fY E n e) T':=by have h1:=hR.o;unfold KK at h1;rw [if_pos bh.o] at h1;exact h1
      obtain ⟨g,c',hv⟩:∃ g c',v=.slice (some ⟨g,0,none⟩) (n+1) c':=by
       rcases cb.cells with ⟨_,h0⟩|⟨g,c',hv,_⟩
       ·omega
       exact ⟨g,c',hv⟩
      subst hv;subst ay;have ak:Below w7.heap.size w7 (w7.alloc (.cells #[.slice (some ⟨g,0,none⟩) (n+1) c'] 25)):=bA;have bi:=ax.o.below hp ak;have ch:=bi.setRoom hp (cb.below LK ak) dx;have el:=bi.box;have e3:=bi.fbx;obtain ⟨w8,b9⟩:∃ w8:World,w8=(w7.alloc (.cells #[.slice (some ⟨g,0,none⟩) (n+1) c'] 25)).setCell ⟨r5,0,none⟩ (.slice (some ⟨g,0,none⟩) (n+1) c'):=⟨_,rfl⟩;rw [<- b9] at ch;have cl:w7.heap.size≠r5:=by have:=ax.o.hi;omega
      have ab:He (lF p w w8 bs m q2 (n+1) (fY E n e) n A r5 Y.heap.size g c' T' sg sc Aa Ca (r5+2) (r5+12) fb (fC (r5+2))):=ch;have da:He (w8=(w7.alloc (.cells #[.slice (some ⟨g,0,none⟩) (n+1) c'] 25)).setCell ⟨r5,0,none⟩ (.slice (some ⟨g,0,none⟩) (n+1) c')):=b9;clear ax bi ch hR cb Hc ak b9
      go_upto_region 21 with fail
      rw [<- da.o];clear el e3 da cl;have N:=sZ G.o.room bh.o;have b6:∀ j,j<n->bB (fY E n e) (n+1) (A j):=fun j hj=>(G.o.fit j hj).grow N (Nat.le_succ _) (fun i hi=>oJ e hi)
      have bc:=ab.o.room.at uF;obtain ⟨g7,gy,fc,ct⟩:=ab.o.aft.ee;injection fc with e2 _ er
      subst e2 er;have d4:He (Calls prog 77 #[.agg #[.slice (some ⟨g,0,none⟩) (n+1) c'],.slice (some ⟨sg,0,none⟩) n sc,.int .i64 (n:Int)] w8 (lR w8 (fY E n e) (n+1) A n)):=NM w8 N (Nat.lt_succ_self n) (Nat.le_refl n) b6 bc.2.2.1 bc.1 (fun j hj=>by rw [Nat.zero_add];exact ⟨_,_,_,_,_,_,bc.2.2.2 j hj,(ab.o.room.q j hj).j.ok⟩) ct
      have Hz:He (∀ j,j<n+1->((fY E n e) j).ty.size<=maxLen/\((fY E n e) j).key.size<=maxLen/\((fY E n e) j).id.size<=maxLen):=fun j hj=>by
       have hk:=(ab.o.room.q j hj).j.ok;exact ⟨hk.hty,hk.hkey,hk.hid⟩
      have bz:He (∀ l,LN (fY E n e) (n+1) A n l->bB (fY E n e) (n+1) l):=fun l hl=>hl.fit N (Nat.lt_succ_self n) b6
      have x8:=ab.o.box;clear N b6 bc ct
      go_wp2_with fail
      refine d4.o.mono ?_;rintro x w9 ⟨v2,l,rfl,cd,bk,d1⟩;have bv:=bz.o l bk;obtain ⟨ta,tc,fg,cz⟩:=cd.sl (fun i hi=>(bv.ok Hz.o).at i hi);subst fg;have ba:He (lF p w w9 bs m q2 (n+1) (fY E n e) n A r5 Y.heap.size g c' T' sg sc Aa Ca (r5+2) (r5+12) fb (fC (r5+2))):=ab.o.below hp d1;have eu:He (w9.ownsRow (r5+1) 26 1 (.slice (some ⟨sg,0,none⟩) n sc) n (lZ List.length A Aa Ca n)):=ba.o.aft.own;have dv:He (l.length=0\/∃ b off,ta=some ⟨b,off,none⟩/\r5<b/\b≠sg):=(iS cd nL).imp id fun ⟨b,off,e',hb⟩=>⟨b,off,e',by have:=ab.o.hi;omega,by have:=ab.o.aft.at.1;omega⟩
      have cy:He (dF w9 ta tc l):=cz;have f9:r5+1<=w9.heap.size:=ba.o.hi
      have ad:nP bs m st i ⟨n,E,A,I⟩=⟨n+1,(fY E n e),bM A n l,q2⟩:=by
       unfold nP;rw [<- he.o];dsimp only;rw [if_pos bh.o,<- WZ bk,<- ce.o]
      have HF:He (∀ gg cq am,am.ownsRow (r5+1) 26 1 (.slice (some ⟨gg,0,none⟩) (n+1) cq) (n+1) (lZ List.length A Aa Ca n ++ [.slice ta l.length tc])->(w9.alloc (.cells #[.slice ta l.length tc] 26)).grownBy am (some sg)->(some sg=some gg\/gg=w9.heap.size+1)->FP p w bs m q Z st r5 fb (i+1) (.slice (some ⟨gg,0,none⟩) (n+1) cq) am):=fun gg cq am h1 h2 h3=>by
       have ak:Below w9.heap.size w9 (w9.alloc (.cells #[.slice ta l.length tc] 26)):=bA;exact ⟨n+1,_,_,q2,Y.heap.size,g,c',T',gg,cq,_,_,rfl,G.o.put bh.o bn.o bk,by unfold He;rw [<- ad];exact J.o,ba.o.snocA hp ak (cy.o.below ak) dv.o h1 h2 (h3.imp id (fun q=>by simp;omega)) co⟩
      have eg:n+1<=maxLen:=by unfold maxLen;omega
      have ey:(n+1) * 24<=140737488355328:=by omega
      obtain ⟨ll,dy⟩:∃ ll,ll=l.length:=⟨_,rfl⟩;rw [<- dy] at HF ⊢;clear ad cz bk cd bv cy dv ba ab G J bz Hz d4 x8 d1 dy he bn
      go_wp2_with (at_builtin;refine wpList_append_lies _ rfl _ _ 77 rfl (r5+1) 26 j0 (.slice none 0 0) 1 24 underlying77 e8 em eh e9 rfl (by decide) _ _ _ rfl (World.ownsRow.alloc eu.o _) ⟨w9.heap.size,0,none⟩ 1 1 [.slice ta ll tc] rfl rfl (mJ _ _ _) (jT _ ⟨_,_,_,rfl⟩) (by decide) eg ey (by simp;omega) (w9.heap.size+1) (by simp) ?_;intro gg cq am d2 bf en gl)
      exact ⟨⟨i+1,by omega,by go_num,HF.o gg cq am d2 bf en⟩,by simp [intOf];omega⟩
     obtain ⟨av,ac,hv,_⟩:=hR.o.slv LK;subst hv;obtain ⟨nn,di⟩:∃ nn,nn=KK E n e:=⟨_,rfl⟩;rw [<- di];clear di;have g8:(c == 0)=false:=by simpa using ay
     have g3:(c != 0)=true:=by simpa using ay
     have HF:He (FP p w bs m q Z st r5 fb (i+1) (.slice (some ⟨sg,0,none⟩) n sc) (w7.alloc (.cells #[.slice av nn ac] 25))):=by
      have cx:¬ aO E n e=0:=by rw [<- Hc.o];exact ay
      have ad:nP bs m st i ⟨n,E,A,I⟩=⟨n,E,A,q2⟩:=by
       unfold nP;rw [<- he.o];dsimp only;rw [if_neg cx,<- ce.o]
      have h0:0<i\/0<n:=by
       by_cases e5:i=0
       ·exfalso
        have e6:n=0:=by have h1:n<=i:=G.o.le;omega
        have db:e=gJ 0:=by rw [he.o];unfold UJ;rw [if_pos (by omega),e5]
        refine cx ?_;rw [e6,db,kC (E:=fun _=>gJ 0) (fun i hi=>absurd hi (Nat.not_lt_zero _))];exact ON
       exact Or.inl (by omega)
      exact ⟨n,E,A,q2,b3,rb,rc,T,sg,sc,Aa,Ca,rfl,G.o.leave h0,by unfold He;rw [<- ad];exact J.o,ax.o.below hp bA⟩
     clear G J ax hR Hc he bn ce;go_wp2
     exact ⟨⟨i+1,by omega,by go_num,HF.o⟩,by simp [intOf];omega⟩
end Go.Proofs.YtpfeegcdlikegaaGreat
