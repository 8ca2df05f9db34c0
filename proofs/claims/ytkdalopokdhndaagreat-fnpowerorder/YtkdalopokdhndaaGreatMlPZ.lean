import Derived.Test.YtkdalopokdhndaaGreatGrXZ
set_option maxHeartbeats 16000000
set_option maxRecDepth 100000
namespace Go.Proofs.YtkdalopokdhndaaGreat
open Go.RowKit
variable {E:Nat->Ev}{i j k n p base base':Nat}{e:Ev}{s:ByteArray}{w:World}{v:Value}{S:Nat->ByteArray}
def scTo (E:Nat->Ev)(n:Nat)(P:Ev->Bool)(e:Ev):Nat->Int
 | 0=>-1
 | j+1=>if 0<=scTo E n P e j then scTo E n P e j else if P (E (posV E n (e.Av j)).toNat) then posV E n (e.Av j) else -1
theorem scTo_miss {E:Nat->Ev}{n:Nat}{P:Ev->Bool}{e:Ev}:∀ j,(∀ i,i<j->P (E (posV E n (e.Av i)).toNat)=false)->scTo E n P e j=-1
 | 0,_=>rfl
 | j+1,h=>by
  rw [scTo,scTo_miss j (fun i hi=>h i (by omega)),if_neg (by omega),h j (by omega)];simp
theorem scTo_stay {E : Nat -> Ev} {n : Nat} {P : Ev -> Bool} {e : Ev} (k : Nat) (hk : 0 <= scTo E n P e k) : ∀ j, k <= j -> scTo E n P e j = scTo E n P e k
  | 0, h => by have : k = 0 := by omega
               subst this; rfl
  | j + 1, h => by
    by_cases ek : k = j + 1
    · subst ek; rfl
    · have := scTo_stay k hk j (by omega)
      rw [scTo, this, if_pos hk]
theorem scTo_hit {P:Ev->Bool}(hk:k<j)(h0:∀ i,i<k->P (E (posV E n (e.Av i)).toNat)=false)(hp:posV E n (e.Av k)=(p:Int))(h1:P (E p)=true):scTo E n P e j=(p:Int):=by
 have e1:scTo E n P e (k+1)=(p:Int):=by rw [scTo,scTo_miss k h0,if_neg (by omega),hp,Int.toNat_natCast,h1];simp
 rw [scTo_stay (k+1) (by omega) j (by omega),e1]
theorem scTo_case (E:Nat->Ev)(n:Nat)(P:Ev->Bool)(e:Ev):∀ j,scTo E n P e j=-1∨∃ i,i<j∧scTo E n P e j=posV E n (e.Av i)∧P (E (posV E n (e.Av i)).toNat)=true∧(0<=posV E n (e.Av i)∨scTo E n P e j<0)
 | 0=>Or.inl rfl
 | j+1=>by
  rw [scTo]
  by_cases h0:0<=scTo E n P e j
  ·rw [if_pos h0]
   rcases scTo_case E n P e j with h|⟨i,hi,r⟩
   ·omega
   exact Or.inr ⟨i,by omega,r⟩
  rw [if_neg h0];cases hP:P (E (posV E n (e.Av j)).toNat)
  ·exact Or.inl (by simp)
  refine Or.inr ⟨j,by omega,by simp,hP,?_⟩;rw [if_pos rfl];omega
theorem scTo_bd {P:Ev->Bool}(h:roomTo E n=true)(hp:p<n):scTo E n P (E p) (E p).na=-1∨∃ q,q<p∧scTo E n P (E p) (E p).na=(q:Int)∧P (E q)=true:=by
 rcases scTo_case E n P (E p) (E p).na with h0|⟨i,hi,e,hP,_⟩
 ·exact Or.inl h0
 obtain ⟨j,hj,ej,_⟩:=auth_there h hp hi;refine Or.inr ⟨j,hj,e.trans ej,?_⟩;rw [ej,Int.toNat_natCast] at hP;exact hP
theorem scTo_congr {E:Nat->Ev}{n p:Nat}{P Q:Ev->Bool}(h:roomTo E n=true)(hp:p<n)(hPQ:∀ i,i<n->P (E i)=Q (E i)):∀ j,j<=(E p).na->scTo E n P (E p) j=scTo E n Q (E p) j
 | 0,_=>rfl
 | j+1,hj=>by
  rw [scTo,scTo,scTo_congr h hp hPQ j (by omega)];obtain ⟨i,hi,e,_⟩:=auth_there h hp (show j<(E p).na by omega);rw [e,Int.toNat_natCast,hPQ i (by omega)]
def isPow (e:Ev):Bool:=e.ty.toList == [112,111,119,101,114]
def pwV (E:Nat->Ev)(n p:Nat):Int:=scTo E n isPow (E p) (E p).na
theorem pwV_bd (h:roomTo E n=true)(hp:p<n):-1<=pwV E n p∧pwV E n p<p:=by
 rcases scTo_bd (P:=isPow) h hp with h0|⟨q,hq,e,_⟩
 ·unfold pwV;omega
 unfold pwV;omega
def lnF (E:Nat->Ev)(n:Nat):Nat->Int->List Nat
 | 0,_=>[]
 | f+1,q=>if q<0 then [] else q.toNat :: lnF E n f (pwV E n q.toNat)
theorem lnF_neg (E:Nat->Ev)(n:Nat){q:Int}(hq:q<0):∀ f,lnF E n f q=[]
 | 0=>rfl
 | f+1=>by rw [lnF,if_pos hq]
theorem lnF_more {E:Nat->Ev}{n:Nat}(h:roomTo E n=true):∀ (f f':Nat) (q:Int),q<f->q<n->f<=f'->lnF E n f' q=lnF E n f q
 | 0,f',q,hq,_,_=>by rw [lnF_neg E n (by omega),lnF_neg E n (by omega)]
 | f+1,0,q,_,_,hf=>by omega
 | f+1,f'+1,q,hq,hn,hf=>by
  rw [lnF,lnF]
  by_cases h0:q<0
  ·rw [if_pos h0,if_pos h0]
  rw [if_neg h0,if_neg h0]
  have:=pwV_bd h (show q.toNat<n by omega);rw [lnF_more h f f' _ (by omega) (by omega) (by omega)]
theorem lnF_len (E:Nat->Ev)(n:Nat):∀ (f:Nat) (q:Int),(lnF E n f q).length<=f
 | 0,_=>nL
 | f+1,q=>by
  rw [lnF];split
  ·simp
  have:=lnF_len E n f (pwV E n q.toNat);simp;exact this
theorem lnF_mem {E:Nat->Ev}{n:Nat}(h:roomTo E n=true):∀ (f:Nat) (q:Int),q<n->∀ i ∈ lnF E n f q,i<n
 | 0,_,_,i,hi=>by simp [lnF] at hi
 | f+1,q,hq,i,hi=>by
  rw [lnF] at hi
  by_cases h0:q<0
  ·rw [if_pos h0] at hi;cases hi
  rw [if_neg h0] at hi;rcases List.mem_cons.1 hi with rfl|hi
  ·omega
  exact lnF_mem h f _ (by have:=pwV_bd h (show q.toNat<n by omega);omega) i hi
def ln (E:Nat->Ev)(n:Nat)(q:Int):List Nat:=lnF E n n q
theorem ln_neg (E:Nat->Ev)(n:Nat){q:Int}(hq:q<0):ln E n q=[]:=lnF_neg E n hq n
theorem ln_len (E:Nat->Ev)(n:Nat)(q:Int):(ln E n q).length<=n:=lnF_len E n n q
theorem ln_mem (h:roomTo E n=true){q:Int}(hq:q<n):∀ i ∈ ln E n q,i<n:=lnF_mem h n q hq
theorem ln_cons (h:roomTo E n=true)(hp:p<n):ln E n (p:Int)=p :: ln E n (pwV E n p):=by
 obtain ⟨m,rfl⟩:∃ m,n=m+1:=⟨n - 1,by omega⟩;have hb:=pwV_bd h hp;unfold ln;rw [lnF_more h m (m+1) (pwV E (m+1) p) (by omega) (by omega) (by omega),lnF,if_neg (by omega),Int.toNat_natCast]
def lX (l:List Nat)(k:Nat):Int:=((l.getD k 0:Nat):Int)
theorem ln_at {l:List Nat}{r:List Nat}(h:l.drop k=p :: r):lX l k=(p:Int)∧l.drop (k+1)=r∧k<l.length:=by
 have h1:l[k]?=some p:=by
  have:(l.drop k)[0]?=some p:=by rw [h];rfl
  simpa using this
 refine ⟨by simp [lX,List.getD,h1],?_,?_⟩
 ·rw [<- List.drop_drop,h];rfl
 rcases Nat.lt_or_ge k l.length with h'|h'
 ·exact h'
 rw [List.getElem?_eq_none h'] at h1;cases h1
theorem ln_end {l:List Nat}(h:l.drop k=[])(hk:k<=l.length):k=l.length:=by
 have:=List.drop_eq_nil_iff.1 h;omega
theorem lX_lt {l:List Nat}(h:∀ i ∈ l,i<n)(hk:k<l.length):∃ p,p<n∧lX l k=(p:Int):=by
 refine ⟨l[k],h _ (List.getElem_mem hk),?_⟩;simp [lX,List.getD,List.getElem?_eq_getElem hk]
theorem ev_id (h:e.code=0):e.id.toList.isEmpty=false:=by
 unfold Ev.code evCode at h;split at h
 ·cases h
 rename_i h1
 have hw:isW e.id=true:=by
  cases hq:isW e.id
  ·exact absurd (Or.inl hq) h1
  rfl
 unfold isW at hw;simp only [Bool.and_eq_true,decide_eq_true_eq] at hw;cases hq:e.id.toList.isEmpty
 ·rfl
 have h0:e.id.toList=[]:=by simpa using hq
 have:e.id.size=0:=by rw [size_list,h0];rfl
 omega
theorem ev_pow (h:e.code=0)(ht:isPow e=true):e.st=true∧e.key.toList.isEmpty=true:=by
 unfold isPow at ht;unfold Ev.code evCode at h;split at h
 ·cases h
 split at h
 ·cases h
 split at h
 ·cases h
 split at h
 ·cases h
 split at h
 ·cases h
 rename_i h5
 have hc:ctB e.ty e.key e.val e.st e.np e.na e.ng e.M e.L=true:=by
  cases hq:ctB e.ty e.key e.val e.st e.np e.na e.ng e.M e.L
  ·exact absurd hq h5
  rfl
 have ht':e.ty.toList=[112,111,119,101,114]:=by simpa using ht
 unfold ctB at hc;rw [ht'] at hc;have e1:(([112,111,119,101,114]:List UInt8) == [99,114,101,97,116,101])=false:=by decide
 have e2:(([112,111,119,101,114]:List UInt8) == [109,101,109,98,101,114])=false:=by decide
 have e3:(([112,111,119,101,114]:List UInt8) == [106,111,105,110,95,114,117,108,101,115])=false:=by decide
 rw [e1,e2,e3] at hc;simp at hc;exact ⟨hc.1.1.1,by simp [hc.1.1.2]⟩
theorem room_code (h:roomTo E n=true)(hi:i<n):(E i).code=0:=(ins_fresh (room_ins E n i hi h)).2.1
theorem posV_empty (h:roomTo E n=true)(hs:s.toList.isEmpty=true):posV E n s=-1 :=
 posV_miss E s n fun i hi=>by
  have h1:=ev_id (room_code h hi);have h2:s.toList=[]:=by simpa using hs
  rw [h2];cases hq:(E i).id.toList
  ·rw [hq] at h1;cases h1
  rfl
theorem OwnT.mono (h:OwnT w base v n S)(hb:base'<=base):OwnT w base' v n S:=by
 obtain ⟨h1,h2⟩:=h;exact ⟨h1,h2.imp id fun ⟨g,cap,cur,e,hg,r⟩=>⟨g,cap,cur,e,nZ hb hg,r⟩⟩
theorem OwnT.list (h:OwnT w base v n S):OwnL w base v ((List.range n).map S):=by
 unfold OwnL;unfold OwnT strs at h;rw [List.length_map,List.length_range,List.map_map];exact h
variable {a:Option Addr}{m cap:Nat}
theorem l2At_zero (a:Option Addr)(cap:Nat)(s:ByteArray)(w:World) :
  Calls Tryz.prog 55 #[.agg #[.slice a 0 cap],.string s] w fun e w'=>e=.returned (.int .i64 (-1))∧w'=w.alloc (.cells #[.slice a 0 cap] 25):=by
 go_enter Tryz.func55,Tryz.ntmps55
 go_wp2
 refine wp_loop_rounds 1 ?_;rw [rounds_succ];go_wp2
 go_ret;exact ⟨rfl,rfl⟩
theorem l2At_any (b off n cap:Nat)(E:Nat->Ev)(s:ByteArray)(w:World)(hn:n<=maxLen)(hb:b<w.heap.size)(hc:∀ i,i<n->w.cell? ⟨b,off+i * 10,none⟩=some (.string (E i).id)) :
  Calls Tryz.prog 55 #[.agg #[.slice (some ⟨b,off,none⟩) n cap],.string s] w fun e w'=>e=.returned (.int .i64 (posV E n s))∧w'=w.alloc (.cells #[.slice (some ⟨b,off,none⟩) n cap] 25):=by
 unfold maxLen at hn
 go_enter Tryz.func55,Tryz.ntmps55
 go_wp2
 go_loop [5] (fun i=>∃ k:Nat,k<=n∧i=.int .i64 k∧Hid (∀ i,i<k->((E i).id.toList == s.toList)=false)) (fun i=>n - (intOf i).toNat)
 case atStart=>exact ⟨0,nz,rfl,fun i hi=>absurd hi (Nat.not_lt_zero _)⟩
 case round =>
  obtain ⟨k,hk,rfl,hto⟩:=hrel
  by_cases hlt:k<n
  ·have hck:=hc k hlt
   cases hB:((E k).id.toList == s.toList)
   ·go_wp2
    go_round
    case rel=>exact ⟨k+1,by omega,by go_num,fun i hi=>by (by_cases e:i=k;(subst e;exact hB);exact hto.out i (by omega))⟩
    simp [intOf];omega
   go_wp2
   go_ret;exact ⟨ret_int (posV_hit E s n k hlt hto.out hB).symm,rfl⟩
  go_wp2
  go_ret;exact ⟨ret_int (posV_miss E s n (fun i hi=>hto.out i (by omega))).symm,rfl⟩
theorem SlV.ids (h:SlV w a n cap E):n=0∨∃ b off,a=some ⟨b,off,none⟩∧b<w.heap.size∧∀ i,i<n->w.cell? ⟨b,off+i * 10,none⟩=some (.string (E i).id):=by
 rcases h.cells with h0|⟨b,off,e,hlt,hc⟩
 ·exact Or.inl h0
 exact Or.inr ⟨b,off,e,hlt,fun i hi=>by obtain ⟨_,_,_,_,_,_,hc,_⟩:=hc i hi;exact hc.c0⟩
theorem l2At_sl (s:ByteArray)(w:World)(h:SlV w a n cap E) :
  Calls Tryz.prog 55 #[.agg #[.slice a n cap],.string s] w fun e w'=>e=.returned (.int .i64 (posV E n s))∧w'=w.alloc (.cells #[.slice a n cap] 25):=by
 rcases h.ids with rfl|⟨b,off,rfl,hb,hc⟩
 ·exact l2At_zero a cap s w
 exact l2At_any b off n cap E s w (nZ h.le h.max) hb hc
theorem there_none {ar:Option Addr}{cr:Nat}(a:Option Addr)(cap:Nat)(w:World) :
  Calls Tryz.prog 49 #[.agg #[.slice ar n cr],.slice a 0 cap] w fun e w'=>e=.returned (.bool true)∧w'=w.alloc (.cells #[.slice ar n cr] 25):=by
 go_enter Tryz.func49,Tryz.ntmps49
 go_wp2
 refine wp_loop_rounds 1 ?_;rw [rounds_succ];go_wp2
 go_ret;exact ⟨rfl,rfl⟩
theorem there_any {ar:Option Addr}{cr:Nat}(b off m cap:Nat)(S:Nat->ByteArray)(w:World)(h:SlV w ar n cr E)(hm:m<=maxLen)(hb:b<w.heap.size)
  (hc:∀ i,i<m->w.cell? ⟨b,off+i,none⟩=some (.string (S i))) :
  Calls Tryz.prog 49 #[.agg #[.slice ar n cr],.slice (some ⟨b,off,none⟩) m cap] w fun e w'=>e=.returned (.bool (thereB E n S m))∧Below w.heap.size w w':=by
 unfold maxLen at hm;have hb0:∀ o,Below w.heap.size w (w.alloc o):=fun o=>bA
 by_cases h3:m<=300
 ·go_enter Tryz.func49,Tryz.ntmps49
  go_wp2
  go_loopw [5] (fun i wr=>∃ k:Nat,k<=m∧i=.int .i64 k∧Hid (thereTo E n S k=true)∧Below (w.heap.size+1) (w.alloc (.cells #[.slice ar n cr] 25)) wr) (fun i _=>m - (intOf i).toNat)
  case atStart=>exact ⟨0,nz,rfl,rfl,kB⟩
  case round =>
   obtain ⟨k,hk,rfl,hto,hbel⟩:=hrel;have hbw:=(hb0 _).trans (hbel.mono (Nat.le_succ _))
   by_cases hlt:k<m
   ·have hck:wr.cell? ⟨b,off+k,none⟩=some (.string (S k)):=(hbw.cell (by exact hb)).trans (hc k hlt)
    have hbx:wr.cell? ⟨w.heap.size,0,none⟩=some (.slice ar n cr):=box_cells hbel 0;have hr:=h.below hbw;have hpb:=posV_bd E (S k) n
    go_wp2_with fail
    go_region_with (go_at_call 55;refine (l2At_sl (E:=E) (S k) _ (hr.below (by first|exact kB|exact kB.drew|exact kB.drew.drew))).mono ?_;rintro e w1 ⟨rfl,rfl⟩)
    all_goals
     by_cases hp:posV E n (S k)<0
     ·go_wp2
      go_ret;refine ⟨ret_bool (by rw [thereB,thereTo_le E n S m k hlt (by rw [thereTo];simp;intro _;omega)];simp),?_⟩;exact (hbw.alloc (by exact hbw.size) _).drew
     go_wp2
     go_roundw
     case rel=>exact ⟨k+1,by omega,by go_num,by unfold Hid;rw [thereTo,hto.out];simp;omega,(hbel.alloc (by simpa using hbel.size) _).drew⟩
     simp [intOf];omega
   go_wp2
   go_ret;exact ⟨ret_bool (by rw [thereB,show m=k by omega,hto.out];simp;omega),hbw⟩
 go_enter Tryz.func49,Tryz.ntmps49
 go_wp2
 go_ret;exact ⟨ret_bool (by simp [thereB,h3]),hb0 _⟩
theorem there_sl {ar:Option Addr}{cr:Nat}(w:World)(h:SlV w ar n cr E)(hs:SlS w a m cap S) :
  Calls Tryz.prog 49 #[.agg #[.slice ar n cr],.slice a m cap] w fun e w'=>e=.returned (.bool (thereB E n S m))∧Below w.heap.size w w':=by
 rcases hs.cells with rfl|⟨b,off,rfl,hb,hc⟩
 ·refine (there_none a cap w).mono ?_
  rintro e w' ⟨rfl,rfl⟩;exact ⟨rfl,bA⟩
 exact there_any b off m cap S w h (nZ hs.le hs.max) hb hc
variable {W W':World}{y:Nat}
def EePost (w:World)(e:Ev)(x:Ending)(w':World):Prop:=Below w.heap.size w w' ∧
 ∃ pa cp aa ca ga cg,x=.returned (e.val' pa cp aa ca ga cg)∧EvOk w' e pa cp aa ca ga cg
structure EZ (w:World)(x:Value)(W:World):Prop where
 sz:w.heap.size+1+1<=W.heap.size
 bl:Below w.heap.size w W
 rb:W.cell? ⟨w.heap.size,0,none⟩=some x
 rs:∀ o,o<10->∃ v,W.cell? ⟨w.heap.size+1,o,none⟩=some v
 rf:∀ o,W.frozen? ⟨w.heap.size+1,o,none⟩=false
theorem EZ.drew {x:Value}(h:EZ w x W):EZ w x W.drew:=⟨h.sz,h.bl.drew,h.rb,h.rs,h.rf⟩
theorem EZ.call {x:Value}(h:EZ w x W)(hb:Below W.heap.size W W'):EZ w x W' :=
 ⟨nZ h.sz hb.size,h.bl.trans (hb.mono h.bl.size),(hb.cell (by have:=h.sz;show w.heap.size<_;omega)).trans h.rb,fun o ho=>by
  obtain ⟨v,hv⟩:=h.rs o ho;exact ⟨v,(hb.cell (by have:=h.sz;show w.heap.size+1<_;omega)).trans hv⟩,fun o=>(hb.frozen (by have:=h.sz;show w.heap.size+1<_;omega)).trans (h.rf o)⟩
theorem l6Event_sl (s:ByteArray)(w:World)(h:SlV w a n cap E)(hp:p<n)(hs:posV E n s=(p:Int)) :
  Calls Tryz.prog 103 #[.agg #[.slice a n cap],.string s] w (EePost w (E p)):=by
 rcases h.cells with h0|⟨b,off,rfl,hb,hc⟩
 ·omega
 obtain ⟨pa,cp,aa,ca,ga,cg,hec,hok⟩:=hc p hp
 have hat:Hid (∀ W,EZ w (.slice (some ⟨b,off,none⟩) n cap) W->Calls Tryz.prog 55 #[.agg #[.slice (some ⟨b,off,none⟩) n cap],.string s] W fun e w'=>e=.returned (.int .i64 (p:Int))∧EZ w (.slice (some ⟨b,off,none⟩) n cap) w'):=fun W hW=>by
  refine (l2At_sl s W (h.below hW.bl)).mono ?_;rintro e w' ⟨rfl,rfl⟩;exact ⟨by rw [hs],hW.call bA⟩
 have Hok:Hid (∀ w',Below w.heap.size w w'->EePost w (E p) (.returned ((E p).val' pa cp aa ca ga cg)) w'):=fun w' hb'=>⟨hb',pa,cp,aa,ca,ga,cg,rfl,hok.below hb'⟩
 have hn:=nZ h.le h.max;unfold maxLen at hn;clear hc hok h hs;generalize E p=ev at *
 go_enter Tryz.func103,Tryz.ntmps103
 go_wp2_with fail
 obtain ⟨W0,hW0⟩:∃ W0,W0=(w.alloc (.cells #[.slice (some ⟨b,off,none⟩) n cap] 25)).alloc (.cells #[.string ⟨#[]⟩,.string ⟨#[]⟩,.string ⟨#[]⟩,.bool false,.string ⟨#[]⟩,.int .i64 0,.slice none 0 0,.slice none 0 0,.string ⟨#[]⟩,.slice none 0 0] 30):=⟨_,rfl⟩;rw [<- hW0]
 have hZ:EZ w (.slice (some ⟨b,off,none⟩) n cap) W0:=by
  subst hW0;refine ⟨by simp,bA.alloc (by simp) _,by simp,fun o ho=>?_,fun o=>kF (by simp)⟩;rw [kA (by simp)]
  match o,ho with
  | 0,_=>exact ⟨_,rfl⟩
  | 1,_=>exact ⟨_,rfl⟩
  | 2,_=>exact ⟨_,rfl⟩
  | 3,_=>exact ⟨_,rfl⟩
  | 4,_=>exact ⟨_,rfl⟩
  | 5,_=>exact ⟨_,rfl⟩
  | 6,_=>exact ⟨_,rfl⟩
  | 7,_=>exact ⟨_,rfl⟩
  | 8,_=>exact ⟨_,rfl⟩
  | 9,_=>exact ⟨_,rfl⟩
 clear hW0;have rb0:=hZ.rb
 go_region_with (go_at_call 55;refine (hat.out _ (by first|exact hZ|exact hZ.drew|exact hZ.drew.drew|exact hZ.drew.drew.drew)).mono ?_;rintro e w2 ⟨rfl,hZ2⟩;have rb2:=hZ2.rb;obtain ⟨c0,c1,c2,c3,c4,c5,c6,c7,c8,c9⟩:=hec.below hZ2.bl hb;have ff:=hZ2.rf;obtain ⟨x0,y0⟩:=hZ2.rs 0 (by decide);obtain ⟨x1,y1⟩:=hZ2.rs 1 (by decide);obtain ⟨x2,y2⟩:=hZ2.rs 2 (by decide);obtain ⟨x3,y3⟩:=hZ2.rs 3 (by decide);obtain ⟨x4,y4⟩:=hZ2.rs 4 (by decide);obtain ⟨x5,y5⟩:=hZ2.rs 5 (by decide);obtain ⟨x6,y6⟩:=hZ2.rs 6 (by decide);obtain ⟨x7,y7⟩:=hZ2.rs 7 (by decide);obtain ⟨x8,y8⟩:=hZ2.rs 8 (by decide);obtain ⟨x9,y9⟩:=hZ2.rs 9 (by decide))
 all_goals
  have hbl:=hZ2.bl;clear hZ2 hZ hat;go_wp2
  refine bodyPost_ret (v:=ev.val' pa cp aa ca ga cg) (by simp [results,Tryz.results103,go_sem,y0,y1,y2,y3,y4,y5,y6,y7,y8,y9]) rfl (Hok.out _ ?_)
  iterate 10 (refine Below.setCell ?_ (Nat.le_add_right _ 1) _)
  first|exact hbl|exact hbl.drew
def evP (kind key:ByteArray)(e:Ev):Bool:=e.st && e.ty.toList == kind.toList && e.key.toList == key.toList
def frV (E:Nat->Ev)(n:Nat)(P:Ev->Bool)(e:Ev):ByteArray:=if 0<=scTo E n P e e.na then (E (scTo E n P e e.na).toNat).id else ⟨#[]⟩
theorem frV_hit {P:Ev->Bool}(hk:k<e.na)(h0:∀ i,i<k->P (E (posV E n (e.Av i)).toNat)=false)(hy:posV E n (e.Av k)=(y:Int))(h1:P (E y)=true):(E y).id=frV E n P e:=by
 unfold frV;rw [scTo_hit hk h0 hy h1,if_pos (by omega),Int.toNat_natCast]
theorem frV_miss {P:Ev->Bool}(h0:∀ i,i<e.na->P (E (posV E n (e.Av i)).toNat)=false):(⟨#[]⟩:ByteArray)=frV E n P e:=by
 unfold frV;rw [scTo_miss _ h0,if_neg (by omega)]
section
variable {ar:Option Addr} {n cr:Nat} {E:Nat->Ev} (e:Ev) {pa aa ga:Option Addr} {cp ca cg:Nat} (w:World)
theorem ins1 (h:e.code≠0):insCode E n e=e.code:=by rw [insCode,if_pos h]
theorem ins6 (h:e.code=0)(h6:0<=posV E n e.id):insCode E n e=6:=by rw [insCode,if_neg (by simp [h]),if_pos h6]
theorem ins7 (h:e.code=0)(h6:posV E n e.id<0)(h7:thereB E n e.Pv e.np=false∨thereB E n e.Av e.na=false):insCode E n e=7:=by rw [insCode,if_neg (by simp [h]),if_neg (by omega:¬ 0<=posV E n e.id),if_pos h7]
theorem ins8 (h:e.code=0)(h6:posV E n e.id<0)(h7:¬ (thereB E n e.Pv e.np=false∨thereB E n e.Av e.na=false))(h8:(n=0∧(e.ty.toList == [99,114,101,97,116,101])=false)∨(0<n∧((e.ty.toList == [99,114,101,97,116,101])=true∨e.np=0∨e.na=0))):insCode E n e=8:=by
 rw [insCode,if_neg (by simp [h]),if_neg (by omega:¬ 0<=posV E n e.id),if_neg h7];rcases h8 with h8|h8
 ·rw [if_pos h8]
 rw [if_neg (by omega),if_pos h8]
theorem ins90 (h:e.code=0)(h6:posV E n e.id<0)(h7:¬ (thereB E n e.Pv e.np=false∨thereB E n e.Av e.na=false))(h8:¬ (n=0∧(e.ty.toList == [99,114,101,97,116,101])=false))(h8':¬ (0<n∧((e.ty.toList == [99,114,101,97,116,101])=true∨e.np=0∨e.na=0))) :
  insCode E n e=if 300<=n then 9 else 0:=by
 rw [insCode,if_neg (by simp [h]),if_neg (by omega:¬ 0<=posV E n e.id),if_neg h7,if_neg h8,if_neg h8']
abbrev boxes (w:World)(ar:Option Addr)(n cr:Nat)(e:Ev)(pa:Option Addr)(cp:Nat)(aa:Option Addr)(ca:Nat)(ga:Option Addr)(cg:Nat):World :=
 (w.alloc (.cells #[.slice ar n cr] 25)).alloc (.cells (ec e pa cp aa ca ga cg) 30)
theorem boxes_cells {wx:World}(hb:Below (w.heap.size+2) (boxes w ar n cr e pa cp aa ca ga cg) wx) :
  wx.cell? ⟨w.heap.size,0,none⟩=some (.slice ar n cr)∧∀ o,wx.cell? ⟨w.heap.size+1,o,none⟩=((ec e pa cp aa ca ga cg):Array Value)[o]? :=
 ⟨(hb.cell (by show w.heap.size<_;omega)).trans (by simp),fun o=>(hb.cell (by show w.heap.size+1<_;omega)).trans (by rw [kA (by simp)])⟩
theorem l2Code_any (h:SlV w ar n cr E)(he:EvOk w e pa cp aa ca ga cg) :
  Calls Tryz.prog 70 #[.agg #[.slice ar n cr],e.val' pa cp aa ca ga cg] w fun x w'=>x=.returned (.int .i64 (insCode E n e))∧Below w.heap.size w w':=by
 have hb0:Below w.heap.size w (boxes w ar n cr e pa cp aa ca ga cg):=bA.alloc (by simp) _
 go_enter Tryz.func70,Tryz.ntmps70
 go_wp2_with fail
 refine (evS_any e.id e.sd e.ty e.key e.val e.st e.tm pa e.np cp aa e.na ca ga e.ng cg e.Pv e.Av e.M e.L _ he.hid he.hsd he.hty he.hkey he.hval (he.hp.below hb0) (he.ha.below hb0) (he.hg.below hb0)).mono ?_;rintro x w1 ⟨rfl,hb1⟩;have hB1:Below (w.heap.size+2) (boxes w ar n cr e pa cp aa ca ga cg) w1:=hb1.mono (by simp);have hw1:=hb0.trans (hB1.mono (by omega));obtain ⟨hr1,he1⟩:=boxes_cells e w hB1;clear hb1;have hcode:Hid (evCode e.id e.sd e.ty e.key e.val e.st e.tm e.np e.na e.ng e.Pv e.Av e.M e.L=e.code):=rfl
 by_cases hc:e.code=0
 ·have hc0:evCode e.id e.sd e.ty e.key e.val e.st e.tm e.np e.na e.ng e.Pv e.Av e.M e.L=0:=hc
  go_wp2_with fail
  have hs1:w.heap.size+2<=w1.heap.size:=by simpa using hB1.size
  refine (l2At_sl e.id _ (h.below hw1)).mono ?_;rintro x w' ⟨rfl,rfl⟩;have hB2:Below (w.heap.size+2) (boxes w ar n cr e pa cp aa ca ga cg) (w1.alloc (.cells #[.slice ar n cr] 25)):=hB1.alloc hs1 _;have hw2:=hb0.trans (hB2.mono (by omega));generalize w1.alloc (.cells #[.slice ar n cr] 25)=w2 at *;clear hr1 he1 hB1 hw1 hs1;obtain ⟨hr2,he2⟩:=boxes_cells e w hB2
  by_cases h66:0<=posV E n e.id
  ·go_wp2
   go_ret;exact ⟨ret_int (ins6 e hc h66).symm,hw2⟩
  have h6:posV E n e.id<0:=by omega
  clear h66
  go_wp2_with fail
  refine (there_sl _ (h.below hw2) (he.hp.below hw2)).mono ?_;rintro x w3 ⟨rfl,hb3⟩;have hs2:w.heap.size+2<=w2.heap.size:=by simpa using hB2.size
  have hB3:=hB2.trans (hb3.mono hs2);have hw3:=hb0.trans (hB3.mono (by omega));clear hb3 hr2 he2 hs2;obtain ⟨hr3,he3⟩:=boxes_cells e w hB3;cases h7:thereB E n e.Pv e.np
  ·go_wp2
   go_ret;exact ⟨ret_int (ins7 e hc h6 (Or.inl h7)).symm,hw3⟩
  go_wp2_with fail
  refine (there_sl _ (h.below hw3) (he.ha.below hw3)).mono ?_;rintro x w4 ⟨rfl,hb4⟩;have hs3:w.heap.size+2<=w3.heap.size:=by simpa using hB3.size
  have hB4:=hB3.trans (hb4.mono hs3);have hw4:=hb0.trans (hB4.mono (by omega));clear hb4 hr3 he3 hs3;obtain ⟨hr4,he4⟩:=boxes_cells e w hB4;cases h7':thereB E n e.Av e.na
  ·go_wp2
   go_ret;exact ⟨ret_int (ins7 e hc h6 (Or.inr h7')).symm,hw4⟩
  have h77:¬ (thereB E n e.Pv e.np=false∨thereB E n e.Av e.na=false):=by simp [h7,h7']
  have H8:Hid (∀ _:(n=0∧(e.ty.toList == [99,114,101,97,116,101])=false)∨(0<n∧((e.ty.toList == [99,114,101,97,116,101])=true∨e.np=0∨e.na=0)),insCode E n e=8):=ins8 e hc h6 h77;have H9:Hid (_->_->insCode E n e=if 300<=n then 9 else 0):=ins90 e hc h6 h77;have hn:=h.max;have hle:=h.le;unfold maxLen at hn;clear h77 h7 h7' h6 hc hc0 hcode;cases hty:(e.ty.toList == [99,114,101,97,116,101])
  ·by_cases h0:n=0
   ·have h0b:((n:Int) == 0)=true:=by simp [h0]
    have H0:Hid (n=0):=h0;clear h0;go_wp2
    go_ret;exact ⟨ret_int (H8.out (Or.inl ⟨H0.out,hty⟩)).symm,hw4⟩
   have h0b:((n:Int) == 0)=false:=by simp;omega
   have h0c:decide (0<(n:Int))=true:=by simp;omega
   by_cases hp0:e.np=0
   ·have hp0b:((e.np:Int) == 0)=true:=by simp [hp0]
    have HP:Hid (e.np=0):=hp0;clear hp0;go_wp2
    go_ret;exact ⟨ret_int (H8.out (Or.inr ⟨by omega,Or.inr (Or.inl HP.out)⟩)).symm,hw4⟩
   by_cases ha0:e.na=0
   ·have hp0b:((e.np:Int) == 0)=false:=by simp;omega
    have ha0b:((e.na:Int) == 0)=true:=by simp [ha0]
    have HP:Hid (e.na=0):=ha0;clear ha0;go_wp2
    go_ret;exact ⟨ret_int (H8.out (Or.inr ⟨by omega,Or.inr (Or.inr HP.out)⟩)).symm,hw4⟩
   have hp0b:((e.np:Int) == 0)=false:=by simp;omega
   have ha0b:((e.na:Int) == 0)=false:=by simp;omega
   have H10:Hid (insCode E n e=if 300<=n then 9 else 0):=H9.out (by omega) (by simp [hty];omega)
   by_cases h300:300<=n
   ·have h9c:decide (300<=(n:Int))=true:=by simp;omega
    have H3:Hid (300<=n):=h300;clear h300;go_wp2
    go_ret;exact ⟨ret_int (by rw [H10.out,if_pos H3.out]),hw4⟩
   have h9c:decide (300<=(n:Int))=false:=by simp;omega
   have H3:Hid (¬ 300<=n):=h300;clear h300;go_wp2
   go_ret;exact ⟨ret_int (by rw [H10.out,if_neg H3.out]),hw4⟩
  by_cases h0:n=0
  ·have h0b:((n:Int) == 0)=true:=by simp [h0]
   have h0c:decide (0<(n:Int))=false:=by simp;omega
   have h0d:decide (0<n)=false:=by simp;omega
   have h9c:decide (300<=(n:Int))=false:=by simp;omega
   have H10:Hid (insCode E n e=if 300<=n then 9 else 0):=H9.out (by simp [hty]) (by omega);have H0:Hid (n=0):=h0;clear h0;go_wp2
   go_ret;exact ⟨ret_int (by rw [H10.out,if_neg (by rw [H0.out];decide)]),hw4⟩
  have h0b:((n:Int) == 0)=false:=by simp;omega
  have h0c:decide (0<(n:Int))=true:=by simp;omega
  go_wp2
  go_ret;exact ⟨ret_int (H8.out (Or.inr ⟨by omega,Or.inl hty⟩)).symm,hw4⟩
 have hcb:(e.code != 0)=true:=by simpa using hc
 have hcb':(evCode e.id e.sd e.ty e.key e.val e.st e.tm e.np e.na e.ng e.Pv e.Av e.M e.L != 0)=true:=hcb;go_wp2
 go_ret;exact ⟨ret_int (ins1 e hc).symm,hw1⟩
theorem roomS_any (b off n cap:Nat)(E:Nat->Ev)(w:World)(h:SlV w (some ⟨b,off,none⟩) n cap E)(hb:b<w.heap.size)(hc:∀ i,i<n->EvAt w b (off+i * 10) (E i)) :
  Calls Tryz.prog 28 #[.agg #[.slice (some ⟨b,off,none⟩) n cap]] w fun e w'=>e=.returned (.bool (roomTo E n))∧Below w.heap.size w w':=by
 have hn:=nZ h.le h.max;have hle:=h.le;unfold maxLen at hn;have hb0:∀ o,Below w.heap.size w (w.alloc o):=fun o=>bA
 go_enter Tryz.func28,Tryz.ntmps28
 go_wp2
 go_loopw [3] (fun i wr=>∃ k:Nat,k<=n∧i=.int .i64 k∧Hid (roomTo E k=true)∧Below (w.heap.size+1) (w.alloc (.cells #[.slice (some ⟨b,off,none⟩) n cap] 25)) wr) (fun i _=>n - (intOf i).toNat)
 case atStart=>exact ⟨0,nz,rfl,rfl,kB⟩
 case round =>
  obtain ⟨k,hk,rfl,hto,hbel⟩:=hrel;have hbw:=(hb0 _).trans (hbel.mono (Nat.le_succ _));have hbx:wr.cell? ⟨w.heap.size,0,none⟩=some (.slice (some ⟨b,off,none⟩) n cap):=box_cells hbel 0;have hszr:w.heap.size+1<=wr.heap.size:=by simpa using hbel.size
  by_cases hlt:k<n
  ·obtain ⟨pa,cp,aa,ca,ga,cg,hcs,hok⟩:=hc k hlt
   have hcs1:=hcs.below hbw hb;obtain ⟨c0,c1,c2,c3,c4,c5,c6,c7,c8,c9⟩:=hcs1;have hok1:=hok.below hbw;have hr1:=(h.take (k:=k) hk).below hbw;clear hcs hok hc
   go_wp2_with fail
   go_region_with (go_at_call 70;refine (l2Code_any (E:=E) (E k) _ (hr1.below (by first|exact kB|exact kB.drew|exact kB.drew.drew)) (hok1.below (by first|exact kB|exact kB.drew|exact kB.drew.drew))).mono ?_;rintro e w1 ⟨rfl,hb1⟩)
   all_goals
    have hb2:Below wr.heap.size wr w1:=Below.trans (by first|exact kB|exact kB.drew|exact kB.drew.drew) hb1
    by_cases h0:insCode E k (E k)=0
    ·go_wp2
     go_roundw
     case rel=>exact ⟨k+1,by omega,by go_num,by unfold Hid;rw [roomTo,hto.out,h0];rfl,hbel.trans (hb2.mono hszr)⟩
     simp [intOf];omega
    have h0b:(insCode E k (E k) != 0)=true:=by simpa using h0
    go_wp2
    go_ret;exact ⟨ret_bool (by rw [roomTo_le E n k hlt (by rw [roomTo];simp [h0])]),hbw.trans (hb2.mono hbw.size)⟩
  go_wp2
  go_ret;exact ⟨ret_bool (by rw [show n=k by omega,hto.out]),hbw⟩
theorem roomS_zero (a:Option Addr)(cap:Nat)(w:World) :
  Calls Tryz.prog 28 #[.agg #[.slice a 0 cap]] w fun e w'=>e=.returned (.bool true)∧Below w.heap.size w w':=by
 go_enter Tryz.func28,Tryz.ntmps28
 go_wp2
 refine wp_loop_rounds 1 ?_;rw [rounds_succ];go_wp2
 go_ret;exact ⟨rfl,bA⟩
theorem roomS_sl {a:Option Addr}{n cap:Nat}{E:Nat->Ev}(w:World)(h:SlV w a n cap E) :
  Calls Tryz.prog 28 #[.agg #[.slice a n cap]] w fun e w'=>e=.returned (.bool (roomTo E n))∧Below w.heap.size w w':=by
 rcases h.cells with rfl|⟨b,off,rfl,hb,hc⟩
 ·exact roomS_zero a cap w
 exact roomS_any b off n cap E w h hb hc
end
end Go.Proofs.YtkdalopokdhndaaGreat
