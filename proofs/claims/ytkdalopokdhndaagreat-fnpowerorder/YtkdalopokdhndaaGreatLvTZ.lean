import Derived.Test.YtkdalopokdhndaaGreatRvPZ
set_option maxHeartbeats 16000000
set_option maxRecDepth 100000
namespace Go.Proofs.YtkdalopokdhndaaGreat
open Go.RowKit
variable {a sa:Option Addr}{n sc cap:Nat}{E:Nat->Ev}{l:List Ent}
abbrev evNil:Value:=.agg #[.string ⟨#[]⟩,.string ⟨#[]⟩,.string ⟨#[]⟩,.bool false,.string ⟨#[]⟩,.int .i64 0,.slice none 0 0,.slice none 0 0,.string ⟨#[]⟩,.slice none 0 0]
def E5Post (w:World)(E:Nat->Ev)(p:Int)(x:Ending)(w':World):Prop:=Below w.heap.size w w' ∧
 ((p<0∧x=.returned (.tuple #[evNil,.bool false]))∨∃ q:Nat,p=(q:Int)∧∃ pa cp aa ca ga cg,x=.returned (.tuple #[(E q).val' pa cp aa ca ga cg,.bool true])∧EvOk w' (E q) pa cp aa ca ga cg)
theorem l5E_sl (kind key:ByteArray)(w:World)(h:SlV w a n cap E)(hs:SlE w sa sc l) :
  Calls Tryz.prog 72 #[.agg #[.slice a n cap],.slice sa l.length sc,.string kind,.string key] w (E5Post w E (atV E n l kind key)):=by
 have hnn:=nZ h.le h.max;unfold maxLen at hnn;have HF:Hid (∀ W,EZ w (.slice a n cap) W->Calls Tryz.prog 39 #[.slice sa l.length sc,.string kind,.string key] W fun e w'=>e=.returned (.string (findB l kind key))∧EZ w (.slice a n cap) w'):=fun W hW=>(l4Find_sl kind key W (hs.below hW.bl)).mono fun e w' ⟨h1,h2⟩=>⟨h1,hW.call h2⟩
 have HA:Hid (∀ W,EZ w (.slice a n cap) W->Calls Tryz.prog 55 #[.agg #[.slice a n cap],.string (findB l kind key)] W fun e w'=>e=.returned (.int .i64 (atV E n l kind key))∧EZ w (.slice a n cap) w'):=fun W hW=>by
  refine (l2At_sl (findB l kind key) W (h.below hW.bl)).mono ?_;rintro e w' ⟨rfl,rfl⟩;exact ⟨rfl,hW.call bA⟩
 have hbd:=posV_bd E (findB l kind key) n;have hbd':-1<=atV E n l kind key∧atV E n l kind key<n:=hbd;clear hbd;generalize atV E n l kind key=p at *;generalize findB l kind key=f at *
 go_enter Tryz.func72,Tryz.ntmps72
 go_wp2_with fail
 obtain ⟨W0,hW0⟩:∃ W0,W0=(w.alloc (.cells #[.slice a n cap] 25)).alloc (.cells #[.string ⟨#[]⟩,.string ⟨#[]⟩,.string ⟨#[]⟩,.bool false,.string ⟨#[]⟩,.int .i64 0,.slice none 0 0,.slice none 0 0,.string ⟨#[]⟩,.slice none 0 0] 30):=⟨_,rfl⟩;rw [<- hW0]
 have hZ:EZ w (.slice a n cap) W0:=by
  subst hW0;refine ⟨by simp,bA.alloc (by simp) _,by simp,fun o ho=>?_,fun o=>kF (by simp)⟩;rw [kA (by simp)]
  match o,ho with
  | 0,_=>exact ⟨_,rfl⟩
  | 1,_=>exact ⟨_,rfl⟩
  | 2,_=>exact ⟨_,rfl⟩
  | 3,_=>exact ⟨_,rfl⟩
  | 4,_=>exact ⟨_,rfl⟩
  | 5,_=>exact ⟨_,rfl⟩
  | 6,_=>exact ⟨_,rfl⟩
  | 7,_=>exact ⟨_,rfl⟩
  | 8,_=>exact ⟨_,rfl⟩
  | 9,_=>exact ⟨_,rfl⟩
 clear hW0;have rb0:=hZ.rb
 go_cut [10] (fun v wx=>v=.int .i64 p∧EZ w (.slice a n cap) wx)
 case first =>
  go_region_with (first
   | (go_at_call 39;refine (HF.out _ (by first|exact hZ|exact hZ.drew|exact hZ.drew.drew|exact hZ.drew.drew.drew)).mono ?_;rintro e w2 ⟨rfl,hZ2⟩;have rb2:=hZ2.rb)
   | (go_at_call 55;refine (HA.out _ (by first|exact hZ2|exact hZ2.drew|exact hZ2.drew.drew|exact hZ2.drew.drew.drew)).mono ?_;rintro e w3 ⟨rfl,hZ3⟩))
  all_goals (try go_wp2_with fail)
  all_goals go_meet
  all_goals exact ⟨rfl,by first|exact hZ3|exact hZ3.drew|exact hZ3.drew.drew⟩
 case rest =>
  obtain ⟨rfl,hZ2⟩:=hcut;obtain ⟨w2,hw2⟩:∃ w2:World,w2=wc:=⟨_,rfl⟩;subst hw2;clear hZ rb0 HF HA;have rb2:=hZ2.rb;have ff:=hZ2.rf;have hbl:=hZ2.bl;obtain ⟨x0,y0⟩:=hZ2.rs 0 (by decide);obtain ⟨x1,y1⟩:=hZ2.rs 1 (by decide);obtain ⟨x2,y2⟩:=hZ2.rs 2 (by decide);obtain ⟨x3,y3⟩:=hZ2.rs 3 (by decide);obtain ⟨x4,y4⟩:=hZ2.rs 4 (by decide);obtain ⟨x5,y5⟩:=hZ2.rs 5 (by decide);obtain ⟨x6,y6⟩:=hZ2.rs 6 (by decide);obtain ⟨x7,y7⟩:=hZ2.rs 7 (by decide);obtain ⟨x8,y8⟩:=hZ2.rs 8 (by decide);obtain ⟨x9,y9⟩:=hZ2.rs 9 (by decide)
  by_cases hneg:p<0
  ·have Hok:Hid (∀ w',Below w.heap.size w w'->E5Post w E p (.returned (.tuple #[evNil,.bool false])) w'):=fun w' hb'=>⟨hb',Or.inl ⟨hneg,rfl⟩⟩
   clear hZ2;go_wp2
   refine bodyPost_ret (v:=.tuple #[evNil,.bool false]) (by simp [results,Tryz.results72,go_sem,y0,y1,y2,y3,y4,y5,y6,y7,y8,y9]) rfl (Hok.out _ ?_)
   iterate 10 (refine Below.setCell ?_ (Nat.le_add_right _ 1) _)
   first|exact hbl|exact hbl.drew
  obtain ⟨q,rfl⟩:∃ q:Nat,p=(q:Int):=⟨p.toNat,by omega⟩;have hqn:q<n:=by omega
  have hq0:(0:Int)<=(q:Int):=by omega
  have hq1:(q:Int)<(n:Int):=by omega
  rcases h.cells with h0|⟨b,off,rfl,hb,hc⟩
  ·omega
  obtain ⟨pa,cp,aa,ca,ga,cg,hec,hok⟩:=hc q hqn;have Hok:Hid (∀ w',Below w.heap.size w w'->E5Post w E (q:Int) (.returned (.tuple #[(E q).val' pa cp aa ca ga cg,.bool true])) w'):=fun w' hb'=>⟨hb',Or.inr ⟨q,rfl,pa,cp,aa,ca,ga,cg,rfl,hok.below hb'⟩⟩
  obtain ⟨c0,c1,c2,c3,c4,c5,c6,c7,c8,c9⟩:=hec.below hbl hb;clear hc hok h hZ2 hec;generalize E q=ev at *;go_wp2
  refine bodyPost_ret (v:=.tuple #[ev.val' pa cp aa ca ga cg,.bool true]) (by simp [results,Tryz.results72,go_sem,y0,y1,y2,y3,y4,y5,y6,y7,y8,y9]) rfl (Hok.out _ ?_)
  iterate 10 (refine Below.setCell ?_ (Nat.le_add_right _ 1) _)
  first|exact hbl|exact hbl.drew
theorem l5L_sl (user:ByteArray)(w:World)(h:SlV w a n cap E)(hs:SlE w sa sc l) :
  Calls Tryz.prog 47 #[.agg #[.slice a n cap],.slice sa l.length sc,.string user] w fun e w'=>e=.returned (.int .i64 (lvV E n l user))∧Below w.heap.size w w':=by
 have hb0:∀ o,Below w.heap.size w (w.alloc o):=fun o=>bA
 have HL:Hid (lvV E n l user=if 0<=atV E n l tPow tNil then byG (E (atV E n l tPow tNil).toNat) user else if 0<=atV E n l tCre tNil∧((E (atV E n l tCre tNil).toNat).sd.toList == user.toList)=true then 100 else 0):=rfl;have HP:Hid (∀ W,Below w.heap.size w W->Calls Tryz.prog 72 #[.agg #[.slice a n cap],.slice sa l.length sc,.string tPow,.string tNil] W (E5Post W E (atV E n l tPow tNil))):=fun W hW=>l5E_sl tPow tNil W (h.below hW) (hs.below hW)
 have HC:Hid (∀ W,Below w.heap.size w W->Calls Tryz.prog 72 #[.agg #[.slice a n cap],.slice sa l.length sc,.string tCre,.string tNil] W (E5Post W E (atV E n l tCre tNil))):=fun W hW=>l5E_sl tCre tNil W (h.below hW) (hs.below hW)
 generalize atV E n l tPow tNil=pp at *;generalize atV E n l tCre tNil=pc at *;generalize lvV E n l user=v at *;clear h hs
 go_enter Tryz.func47,Tryz.ntmps47
 go_wp2_with fail
 refine (HP.out _ (hb0 _)).mono ?_;rintro e w1 ⟨hb1,hq⟩;have hB1:=hb1.mono (B':=w.heap.size+1) (by simp);have hw1:=(hb0 _).trans (hb1.mono (by simp));have hcl:=box_cells hB1 0;have hs1:w.heap.size+1<=w1.heap.size:=by simpa using hB1.size
 rcases hq with ⟨hneg,rfl⟩|⟨q,rfl,pa,cp,aa,ca,ga,cg,rfl,hok⟩
 ·have Hv:Hid (v=if 0<=pc∧((E pc.toNat).sd.toList == user.toList)=true then 100 else 0):=by unfold Hid;rw [HL.out,if_neg (by omega)]
  have hA1:∀ o,Below (w.heap.size+1) (w.alloc (.cells #[.slice a n cap] 25)) (w1.alloc o):=fun o=>hB1.alloc hs1 _
  have hcl1:∀ o,(w1.alloc o).cell? ⟨w.heap.size,0,none⟩=some (.slice a n cap):=fun o=>box_cells (hA1 o) 0
  have hwA:∀ o,Below w.heap.size w (w1.alloc o):=fun o=>hw1.alloc hw1.size _
  clear HL hb1
  go_wp2_with fail
  refine (HC.out _ (hwA _)).mono ?_;rintro e w2 ⟨hb2,hq2⟩;have hw2:=(hwA _).trans (hb2.mono (hwA _).size);rcases hq2 with ⟨hneg2,rfl⟩|⟨c,rfl,pa,cp,aa,ca,ga,cg,rfl,hok⟩
  ·have Hz:Hid (v=0):=by unfold Hid;rw [Hv.out,if_neg (by omega)]
   clear Hv;go_wp2
   go_ret;exact ⟨ret_int Hz.out.symm,hw2.alloc hw2.size _⟩
  cases hsd:((E c).sd.toList == user.toList)
  case true =>
   have Hz:Hid (v=100):=by unfold Hid;rw [Hv.out,Int.toNat_natCast,if_pos ⟨by omega,hsd⟩]
   clear Hv hok;generalize E c=ev at *;go_wp2
   go_ret;exact ⟨ret_int Hz.out.symm,hw2.alloc hw2.size _⟩
  case false =>
   have Hz:Hid (v=0):=by unfold Hid;rw [Hv.out,Int.toNat_natCast,if_neg (fun hx=>by rw [hsd] at hx;cases hx.2)]
   clear Hv hok;generalize E c=ev at *;go_wp2
   go_ret;exact ⟨ret_int Hz.out.symm,hw2.alloc hw2.size _⟩
 have Hv:Hid (v=byG (E q) user):=by unfold Hid;rw [HL.out,if_pos (by omega),Int.toNat_natCast]
 have hwA:∀ o,Below w1.heap.size w1 (w1.alloc o):=fun o=>bA
 have HB:Hid (∀ W,Below w1.heap.size w1 W->Calls Tryz.prog 100 #[.slice ga (E q).ng cg,.string user] W fun e w'=>e=.returned (.int .i64 (byG (E q) user))∧w'=W):=fun W hW=>l5By_sl user W (hok.hg.below hW)
 clear HL hok hb1;generalize E q=ev at *
 go_wp2_with fail
 refine (HB.out _ (hwA _)).mono ?_;rintro e w2 ⟨rfl,rfl⟩;go_wp2
 go_ret;exact ⟨ret_int Hv.out.symm,hw1.alloc hw1.size _⟩
variable {W w W' w':World}{aa ga pa:Option Addr}{ca cg cp ll:Nat}{e:Ev}
def E5o (w:World)(o:Option Ev)(x:Ending)(w':World):Prop:=Below w.heap.size w w' ∧
 ((o=none∧x=.returned (.tuple #[evNil,.bool false]))∨∃ ev,o=some ev∧∃ pa cp aa ca ga cg,x=.returned (.tuple #[ev.val' pa cp aa ca ga cg,.bool true])∧EvOk w' ev pa cp aa ca ga cg)
def evZ:Ev:=⟨⟨#[]⟩,⟨#[]⟩,⟨#[]⟩,⟨#[]⟩,⟨#[]⟩,false,0,0,0,0,fun _=>⟨#[]⟩,fun _=>⟨#[]⟩,fun _=>⟨#[]⟩,fun _=>0⟩
theorem evZ_ok (w:World):EvOk w evZ none 0 none 0 none 0 :=
 ⟨by decide,by decide,by decide,by decide,by decide,⟨nL,by decide,fun i hi=>absurd hi (Nat.not_lt_zero _),Or.inl rfl⟩,⟨nL,by decide,fun i hi=>absurd hi (Nat.not_lt_zero _),Or.inl rfl⟩,⟨nL,by decide,fun i hi=>absurd hi (Nat.not_lt_zero _),Or.inl rfl⟩⟩
theorem E5o.get {o:Option Ev}{x:Ending}(h:E5o w o x w'):Below w.heap.size w w'∧∃ pa cp aa ca ga cg,x=.returned (.tuple #[(o.getD evZ).val' pa cp aa ca ga cg,.bool o.isSome])∧EvOk w' (o.getD evZ) pa cp aa ca ga cg:=by
 obtain ⟨hb,h⟩:=h;refine ⟨hb,?_⟩;rcases h with ⟨rfl,rfl⟩|⟨ev,rfl,r⟩
 ·exact ⟨_,_,_,_,_,_,rfl,evZ_ok w'⟩
 exact r
structure ViewS (w:World)(a:Option Addr)(n cap:Nat)(sa:Option Addr)(ll sc:Nat)(o:View):Prop where
 ev:∀ W kind key,Below w.heap.size w W->Calls Tryz.prog 72 #[.agg #[.slice a n cap],.slice sa ll sc,.string kind,.string key] W (E5o W (o kind key))
 lv:∀ W u,Below w.heap.size w W->Calls Tryz.prog 47 #[.agg #[.slice a n cap],.slice sa ll sc,.string u] W fun e w'=>e=.returned (.int .i64 (lvO o u))∧Below W.heap.size W w'
theorem ViewS.below {o:View}(h:ViewS w a n cap sa ll sc o)(hb:Below w.heap.size w w'):ViewS w' a n cap sa ll sc o :=
 ⟨fun W kind key hW=>h.ev W kind key (hb.trans (hW.mono hb.size)),fun W u hW=>h.lv W u (hb.trans (hW.mono hb.size))⟩
theorem viewS_of (h:SlV w a n cap E)(hs:SlE w sa sc l):ViewS w a n cap sa l.length sc (evO E n l):=by
 refine ⟨fun W kind key hW=>(l5E_sl kind key W (h.below hW) (hs.below hW)).mono fun e w' ⟨h1,h2⟩=>⟨h1,?_⟩,fun W u hW=>(l5L_sl u W (h.below hW) (hs.below hW)).mono fun e w' ⟨h1,h2⟩=>⟨by rw [lvO_evO];exact h1,h2⟩⟩;rcases h2 with ⟨hneg,rfl⟩|⟨q,hq,r⟩
 ·exact Or.inl ⟨if_neg (by omega),rfl⟩
 refine Or.inr ⟨E q,?_,r⟩;unfold evO;rw [hq,if_pos (by omega),Int.toNat_natCast]
theorem l5Mb_sl {o:View}(u:ByteArray)(w:World)(hV:ViewS w a n cap sa ll sc o) :
  Calls Tryz.prog 74 #[.agg #[.slice a n cap],.slice sa ll sc,.string u] w fun e w'=>e=.returned (.string (memO o u))∧Below w.heap.size w w':=by
 have hb0:∀ o,Below w.heap.size w (w.alloc o):=fun o=>bA
 have HP:Hid (∀ W,Below w.heap.size w W->Calls Tryz.prog 72 #[.agg #[.slice a n cap],.slice sa ll sc,.string tMem,.string u] W (E5o W (o tMem u))):=fun W hW=>hV.ev W tMem u hW
 have Hv:Hid (memO o u=match o tMem u with|some m=>m.val|none=>tLea):=rfl;generalize memO o u=v at *;generalize o tMem u=x at *;clear hV
 go_enter Tryz.func74,Tryz.ntmps74
 go_wp2_with fail
 refine (HP.out _ (hb0 _)).mono ?_;rintro e w1 ⟨hb1,hq⟩;have hw1:=(hb0 _).trans (hb1.mono (by simp));rcases hq with ⟨rfl,rfl⟩|⟨m,rfl,pa,cp,aa,ca,ga,cg,rfl,hok⟩
 ·have Hz:Hid (v=tLea):=Hv.out
  clear Hv hb1;go_wp2
  go_ret;exact ⟨by rw [Hz.out];rfl,hw1.alloc hw1.size _⟩
 have Hz:Hid (v=m.val):=Hv.out;clear Hv hb1 hok;go_wp2
 go_ret;exact ⟨by rw [Hz.out];rfl,hw1.alloc hw1.size _⟩
theorem l5Th_sl {o:View}(t:ByteArray)(ht:t.size<=1000)(w:World)(hV:ViewS w a n cap sa ll sc o) :
  Calls Tryz.prog 76 #[.agg #[.slice a n cap],.slice sa ll sc,.string t] w fun e w'=>e=.returned (.int .i64 (tgV o t))∧Below w.heap.size w w':=by
 have hb0:∀ o,Below w.heap.size w (w.alloc o):=fun o=>bA
 have HP:Hid (∀ W,Below w.heap.size w W->Calls Tryz.prog 72 #[.agg #[.slice a n cap],.slice sa ll sc,.string tPow,.string tNil] W (E5o W (o tPow tNil))):=fun W hW=>hV.ev W tPow tNil hW
 have Hv:Hid (tgV o t=match o tPow tNil with|some p=>(gV p.M p.L (⟨#[42]⟩ ++ t) p.ng).getD (dfV o t)|none=>dfV o t):=rfl;have Hd:Hid (dfV o t=if isBan t || isKic t || (isSta t && (o tPow tNil).isSome) then 50 else 0):=rfl;generalize tgV o t=v at *;generalize dfV o t=d at *;generalize o tPow tNil=x at *;clear hV
 go_enter Tryz.func76,Tryz.ntmps76
 go_wp2_with fail
 refine (HP.out _ (hb0 _)).mono ?_;rintro e w1 ⟨hb1,hq⟩;have hw1:=(hb0 _).trans (hb1.mono (by simp));cases hB:isBan t <;> cases hK:isKic t <;> cases hS:isSta t
 all_goals
  rw [hB,hK,hS] at Hd;unfold isBan at hB;unfold isKic at hK;unfold isSta at hS;rcases hq with ⟨rfl,rfl⟩|⟨m,rfl,pa,cp,aa,ca,ga,cg,rfl,hok⟩
  ·have Hz:Hid (v=d):=Hv.out
   clear Hv hb1;go_wp2
   go_ret;exact ⟨ret_int (by rw [Hz.out,Hd.out];rfl),hw1.alloc hw1.size _⟩
  have Hz:Hid (v=(gV m.M m.L (⟨#[42]⟩ ++ t) m.ng).getD d):=Hv.out;have HG:Hid (∀ W,Below w1.heap.size w1 W->Calls Tryz.prog 77 #[.slice ga m.ng cg,.string (⟨#[42]⟩ ++ t)] W fun e w'=>e=.returned (gAns (gV m.M m.L (⟨#[42]⟩ ++ t) m.ng))∧w'=W):=fun W hW=>l5Gr_sl _ W (hok.hg.below hW)
  have hwA:∀ o,Below w1.heap.size w1 (w1.alloc o):=fun o=>bA
  clear Hv hb1 hok
  go_wp2_with fail
  refine (HG.out _ (hwA _)).mono ?_;rintro e w2 ⟨rfl,rfl⟩;cases hg:gV m.M m.L (⟨#[42]⟩ ++ t) m.ng
  all_goals
   have Hg:Hid (_=_):=hg;clear hg;unfold gAns;simp only [Option.getD_some,Option.getD_none,Option.isSome_some,Option.isSome_none];go_wp2
   go_ret;exact ⟨ret_int (by rw [Hz.out,Hg.out];first|rfl|(rw [Hd.out];rfl)),hw1.alloc hw1.size _⟩
structure EZ2 (w W:World)(a:Option Addr)(n cap:Nat)(e:Ev)(pa:Option Addr)(cp:Nat)(aa:Option Addr)(ca:Nat)(ga:Option Addr)(cg:Nat):Prop where
 bl:Below w.heap.size w W
 sz:w.heap.size+2<=W.heap.size
 r:∀ o,W.cell? ⟨w.heap.size,o,none⟩=(#[.slice a n cap]:Array Value)[o]?
 c:∀ o,W.cell? ⟨w.heap.size+1,o,none⟩=((ec e pa cp aa ca ga cg):Array Value)[o]?
theorem EZ2.start (w:World)(a:Option Addr)(n cap:Nat)(e:Ev)(pa:Option Addr)(cp:Nat)(aa:Option Addr)(ca:Nat)(ga:Option Addr)(cg:Nat)(t u:TypeId):EZ2 w ((w.alloc (.cells #[.slice a n cap] t)).alloc (.cells (ec e pa cp aa ca ga cg) u)) a n cap e pa cp aa ca ga cg:=by
 refine ⟨bA.alloc (by simp) _,by simp,fun o=>?_,fun o=>?_⟩
 ·have h1:Below (w.heap.size+1) (w.alloc (.cells #[.slice a n cap] t)) ((w.alloc (.cells #[.slice a n cap] t)).alloc (.cells (ec e pa cp aa ca ga cg) u)):=kB.alloc (by simp) _
  exact box_cells h1 o
 exact kA (by simp)
theorem EZ2.call (h:EZ2 w W a n cap e pa cp aa ca ga cg)(hb:Below W.heap.size W W'):EZ2 w W' a n cap e pa cp aa ca ga cg :=
 ⟨h.bl.trans (hb.mono h.bl.size),nZ h.sz hb.size,fun o=>(hb.cell (by have:=h.sz;simp;omega)).trans (h.r o),fun o=>(hb.cell (by have:=h.sz;simp;omega)).trans (h.c o)⟩
theorem EZ2.alloc (h:EZ2 w W a n cap e pa cp aa ca ga cg)(o:Obj):EZ2 w (W.alloc o) a n cap e pa cp aa ca ga cg:=h.call bA
theorem l5Jo_sl {o:View}(e:Ev)(pa:Option Addr)(cp:Nat)(aa:Option Addr)(ca:Nat)(ga:Option Addr)(cg:Nat)(w:World)(hV:ViewS w a n cap sa ll sc o)(hc:(o tCre tNil).isSome=true) :
  Calls Tryz.prog 73 #[.agg #[.slice a n cap],.slice sa ll sc,e.val' pa cp aa ca ga cg] w fun x w'=>x=.returned (.int .i64 (joV o e))∧Below w.heap.size w w':=by
 have HM:Hid (∀ W,Below w.heap.size w W->Calls Tryz.prog 74 #[.agg #[.slice a n cap],.slice sa ll sc,.string e.key] W fun x w'=>x=.returned (.string (memO o e.key))∧Below W.heap.size W w'):=fun W hW=>l5Mb_sl e.key W (hV.below hW)
 have HR:Hid (∀ W,Below w.heap.size w W->Calls Tryz.prog 72 #[.agg #[.slice a n cap],.slice sa ll sc,.string tRul,.string tNil] W (E5o W (o tRul tNil))):=fun W hW=>hV.ev W tRul tNil hW
 have HC:Hid (∀ W,Below w.heap.size w W->Calls Tryz.prog 72 #[.agg #[.slice a n cap],.slice sa ll sc,.string tCre,.string tNil] W (E5o W (o tCre tNil))):=fun W hW=>hV.ev W tCre tNil hW
 have HE:Hid (∀ W,Below w.heap.size w W->Calls Tryz.prog 72 #[.agg #[.slice a n cap],.slice sa ll sc,.string tMem,.string e.key] W (E5o W (o tMem e.key))):=fun W hW=>hV.ev W tMem e.key hW
 have Hv:Hid (joV o e=if (e.sd.toList == e.key.toList)=false then 3 else if isBan (memO o e.key) then 4 else if expB (memO o e.key) || pubB o || (creB o e.sd && (o tMem e.key).isNone) then 0 else 5):=rfl;have Hp:Hid (pubB o=((o tRul tNil).isSome && isPub ((o tRul tNil).getD evZ).val)):=by unfold Hid pubB;cases o tRul tNil <;> rfl
 have Hc:Hid (creB o e.sd=(e.sd.toList == ((o tCre tNil).getD evZ).sd.toList)):=by
  unfold Hid creB
  cases hx:o tCre tNil with
  | none=>rw [hx] at hc;cases hc
  | some c=>exact Bool.beq_comm
 have Hn:Hid ((o tMem e.key).isNone=!(o tMem e.key).isSome):=by unfold Hid;cases o tMem e.key <;> rfl
 generalize memO o e.key=t at *;generalize joV o e=v at *;generalize pubB o=pb at *;generalize creB o e.sd=cb at *;generalize o tRul tNil=xr at *;generalize o tMem e.key=xm at *;generalize o tCre tNil=xc at *;clear hV hc
 go_enter Tryz.func73,Tryz.ntmps73
 go_wp2_with fail
 have hZ0:=EZ2.start w a n cap e pa cp aa ca ga cg 25 30;refine (HM.out _ hZ0.bl).mono ?_;rintro x w1 ⟨rfl,hb1⟩;have hZ1:=hZ0.call hb1;clear hZ0 hb1;have hr:=hZ1.r;have he:=hZ1.c;cases hk:(e.sd.toList == e.key.toList)
 case false =>
  have Hz:Hid (v=3):=by unfold Hid;rw [Hv.out,if_pos hk]
  clear Hv;go_wp2
  go_ret;exact ⟨ret_int Hz.out.symm,hZ1.bl⟩
 case true =>
  cases hB:isBan t
  case true =>
   have Hz:Hid (v=4):=by unfold Hid;rw [Hv.out,hk,hB];rfl
   unfold isBan at hB;clear Hv;go_wp2
   go_ret;exact ⟨ret_int Hz.out.symm,hZ1.bl⟩
  case false =>
   have Hu:Hid (v=if expB t || pb || (cb && xm.isNone) then 0 else 5):=by unfold Hid;rw [Hv.out,hk,hB];rfl
   unfold isBan at hB;clear Hv
   go_wp2_with fail
   refine (HR.out _ hZ1.bl).mono ?_;intro x w2 hE2;obtain ⟨hb2,pr,cr,ar,acr,gr,gcr,rfl,-⟩:=hE2.get;clear hr he hE2 HR HM;generalize xr.getD evZ=r at *;generalize xr.isSome=br at *;obtain ⟨W2,hW2⟩:∃ W2,W2=w2.alloc (.cells (ec r pr cr ar acr gr gcr) 30):=⟨_,rfl⟩;have hZA:EZ2 w W2 a n cap e pa cp aa ca ga cg:=by rw [hW2];exact (hZ1.call hb2).alloc _
   have f2:∀ o,W2.cell? ⟨w2.heap.size,o,none⟩=((ec r pr cr ar acr gr gcr):Array Value)[o]?:=fun o=>by rw [hW2];exact kA rfl
   have hs2:w2.heap.size<W2.heap.size:=by rw [hW2];simp
   have hS1:=(hZ1.call hb2).sz;have hrX:∀ o Z,(w2.alloc Z).cell? ⟨w.heap.size,o,none⟩=(#[.slice a n cap]:Array Value)[o]?:=fun o Z=>((hZ1.call hb2).alloc Z).r o
   have hbX:∀ Z,Below w.heap.size w (w2.alloc Z):=fun Z=>((hZ1.call hb2).alloc Z).bl
   go_wp2_with fail
   refine (HC.out _ (hbX _)).mono ?_;rw [<- hW2];clear hrX hbX hW2;intro x w3 hE3;obtain ⟨hb3,pc,cc,ac,acc,gc,gcc,rfl,-⟩:=hE3.get;clear hE3 HC;generalize xc.getD evZ=c at *;generalize xc.isSome=bc at *;obtain ⟨W3,hW3⟩:∃ W3,W3=w3.alloc (.cells (ec c pc cc ac acc gc gcc) 30):=⟨_,rfl⟩;have hZB:EZ2 w W3 a n cap e pa cp aa ca ga cg:=by rw [hW3];exact (hZA.call hb3).alloc _
   have hb23:Below W2.heap.size W2 W3:=by rw [hW3];exact hb3.alloc hb3.size _
   have g3:∀ o,W3.cell? ⟨w3.heap.size,o,none⟩=((ec c pc cc ac acc gc gcc):Array Value)[o]?:=fun o=>by rw [hW3];exact kA rfl
   have hs3:w3.heap.size<W3.heap.size:=by rw [hW3];simp
   have f3:∀ o,W3.cell? ⟨w2.heap.size,o,none⟩=((ec r pr cr ar acr gr gcr):Array Value)[o]?:=fun o=>(hb23.cell (by exact hs2)).trans (f2 o)
   have hrX:∀ o Z,(w3.alloc Z).cell? ⟨w.heap.size,o,none⟩=(#[.slice a n cap]:Array Value)[o]?:=fun o Z=>((hZA.call hb3).alloc Z).r o
   have hkX:∀ Z,(w3.alloc Z).cell? ⟨w.heap.size+1,4,none⟩=some (.string e.key):=fun Z=>((hZA.call hb3).alloc Z).c 4
   have hbX:∀ Z,Below w.heap.size w (w3.alloc Z):=fun Z=>((hZA.call hb3).alloc Z).bl
   have hS3:=(hZA.call hb3).sz;have hn0:w.heap.size≠w3.heap.size:=by omega
   have hn1:w.heap.size+1≠w3.heap.size:=by omega
   clear f2
   go_wp2_with fail
   refine (HE.out _ (hbX _)).mono ?_;rw [<- hW3];clear hrX hkX hbX hW3 hb3;intro x w4 hE4;obtain ⟨hb4,pm,cm,am,acm,gm,gcm,rfl,-⟩:=hE4.get;clear hE4 HE;generalize xm.getD evZ=m at *;have Hx:Hid (xm.isNone=!xm.isSome):=Hn;generalize xm.isSome=bm at *;have hsz3:=hb23.size;have hsz4:=hb4.size;have hZC:=hZB.call hb4;have hAl:∀ o,Below w4.heap.size w4 (w4.alloc o):=fun o=>bA
   have f4:∀ o Z,(w4.alloc Z).cell? ⟨w2.heap.size,o,none⟩=((ec r pr cr ar acr gr gcr):Array Value)[o]?:=fun o Z=>((hAl Z).cell (by simp;omega)).trans ((hb4.cell (by simp;omega)).trans (f3 o))
   have g4:∀ o Z,(w4.alloc Z).cell? ⟨w3.heap.size,o,none⟩=((ec c pc cc ac acc gc gcc):Array Value)[o]?:=fun o Z=>((hAl Z).cell (by simp;omega)).trans ((hb4.cell (by exact hs3)).trans (g3 o))
   have hkX:∀ Z,(w4.alloc Z).cell? ⟨w.heap.size+1,1,none⟩=some (.string e.sd):=fun Z=>(hZC.alloc Z).c 1
   have f8:=f4 8;have g1:=g4 1;have hbl:∀ Z,Below w.heap.size w (w4.alloc Z):=fun Z=>(hZC.alloc Z).bl
   have hS4:=hZC.sz;have hn2:w2.heap.size≠w4.heap.size:=by omega
   have hn3:w3.heap.size≠w4.heap.size:=by omega
   have hn4:w.heap.size+1≠w4.heap.size:=by omega
   clear hn0 hn1 f3 g3 f4 g4 hZA hZB hZC hZ1 hAl hb23 hb4;unfold expB at Hu;cases hJ:isJoin t
   case true =>
    have Hz:Hid (v=0):=by unfold Hid;rw [Hu.out,hJ];rfl
    unfold isJoin at hJ;clear Hu Hp Hc Hx Hn;go_wp2
    go_ret;exact ⟨ret_int Hz.out.symm,hbl _⟩
   case false =>
   cases hI:isInv t
   case true =>
    have Hz:Hid (v=0):=by unfold Hid;rw [Hu.out,hJ,hI];rfl
    unfold isJoin at hJ;unfold isInv at hI;clear Hu Hp Hc Hx Hn;go_wp2
    go_ret;exact ⟨ret_int Hz.out.symm,hbl _⟩
   case false =>
   have Hw:Hid (v=if (br && isPub r.val) || ((e.sd.toList == c.sd.toList) && !bm) then 0 else 5):=by unfold Hid;rw [Hu.out,hJ,hI,Hp.out,Hc.out,Hx.out];rfl
   unfold isJoin at hJ;unfold isInv at hI;clear Hu Hp Hc Hx Hn;cases br <;> cases hP:isPub r.val <;> cases hS:(e.sd.toList == c.sd.toList) <;> cases bm
   all_goals
    rw [hP,hS] at Hw;unfold isPub at hP;go_wp2
    go_ret;exact ⟨ret_int (by rw [Hw.out];rfl),hbl _⟩
end Go.Proofs.YtkdalopokdhndaaGreat
