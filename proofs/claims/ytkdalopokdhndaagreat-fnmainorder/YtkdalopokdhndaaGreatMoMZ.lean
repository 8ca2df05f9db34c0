import Derived.Test.YtkdalopokdhndaaGreatMbSZ
import Derived.Maps.RangeWalk
import Derived.Lib.BufferWrite
set_option maxHeartbeats 16000000
set_option maxRecDepth 100000
namespace Go.Proofs.YtkdalopokdhndaaGreat
open Go.RowKit
variable {E:Nat->Ev}{m n cap icap:Nat}{s:ByteArray}{S:Nat->ByteArray}{a ia:Option Addr}
def moOk (E:Nat->Ev)(n:Nat)(S:Nat->ByteArray)(m:Nat)(s:ByteArray):Bool:=mlOk E n s && thereB E n S m
def MoPost (w:World)(E:Nat->Ev)(n:Nat)(S:Nat->ByteArray)(m:Nat)(s:ByteArray)(e:Ending)(w':World):Prop:=Below w.heap.size w w' ∧
 ∃ v L,e=.returned (.tuple #[v,.bool (moOk E n S m s)])∧OwnL w' w.heap.size v L ∧
  ((moOk E n S m s=true∧OrdL E n (fun p:Nat=>dp E n (ln E n (posV E n s)) (p:Int)) L∧∀ t,t ∈ L↔∃ i,i<m∧S i=t)∨(moOk E n S m s=false∧L=[]))
theorem ml_id (h:mlOk E n s=true):roomTo E n=true∧idQ E (posV E n s)=s:=by
 unfold mlOk at h;rw [Bool.and_eq_true,Bool.or_eq_true] at h;refine ⟨h.1,?_⟩;rcases h.2 with h2|h2
 ·rw [posV_empty h.1 h2]
  have h0:s.toList=[]:=by simpa using h2
  exact (ba_of_toList (by rw [h0,ByteArray.toList_eq];rfl):(⟨#[]⟩:ByteArray)=s)
 rw [Bool.and_eq_true,decide_eq_true_eq] at h2;obtain ⟨i,hi,e,hb⟩:=posV_found E s n h2.1;unfold idQ;rw [if_pos h2.1,e,Int.toNat_natCast];exact ba_of_toList hb
theorem there_allM (h:thereB E n S m=true):m<=300∧∀ i,i<m->0<=posV E n (S i):=by
 unfold thereB at h;rw [Bool.and_eq_true] at h;refine ⟨of_decide_eq_true h.1,fun i hi=>?_⟩
 by_cases hc:0<=posV E n (S i)
 ·exact hc
 have:=thereTo_le E n S m i hi (by rw [thereTo,decide_eq_false hc,Bool.and_false]);rw [this] at h;cases h.2
theorem moS_sl (s:ByteArray)(w:World)(h:SlV w a n cap E)(hids:SlS w ia m icap S) :
  Calls Tryz.prog 21 #[.agg #[.slice a n cap],.slice ia m icap,.string s] w (MoPost w E n S m s):=by
 have hb0:∀ o,Below w.heap.size w (w.alloc o):=fun o=>bA
 go_enter Tryz.func21,Tryz.ntmps21
 go_wp2_with fail
 refine (mlS_sl s _ (h.below (hb0 _))).mono ?_;rintro e w1 ⟨hb1,v1,rfl,-⟩;have hB1:=hb1.mono (B':=w.heap.size+1) (by simp);have hw1:=(hb0 _).trans (hb1.mono (by simp));have hcl:=box_cells hB1 0;have hs1:w.heap.size+1<=w1.heap.size:=by simpa using hB1.size
 clear hb1;cases hml:mlOk E n s
 case false =>
  have Hq:Hid (moOk E n S m s=false):=by unfold Hid moOk;rw [hml];rfl
  clear hml;go_wp2
  refine bodyPost_ret (v:=.tuple #[.slice (some ⟨w1.heap.size,0,none⟩) 0 0,.bool false]) (by simp [results,Tryz.results21,go_sem]) rfl ⟨hw1.alloc hw1.size _,_,[],by rw [Hq.out],OwnL.new w1 _ hw1.size,Or.inr ⟨Hq.out,rfl⟩⟩
 case true =>
  obtain ⟨hr,hid⟩:=ml_id hml;have Hr:Hid (_):=hr;have Hid2:Hid (idQ E (posV E n s)=s):=hid;have Hml:Hid (mlOk E n s=true):=hml;clear hml hr hid
  go_wp2_with fail
  refine (there_sl _ (h.below hw1) (hids.below hw1)).mono ?_;rintro e w2 ⟨rfl,hb2⟩;have hB2:=hB1.trans (hb2.mono hs1);have hw2:=hw1.trans (hb2.mono hw1.size);have hcl2:=box_cells hB2 0;clear hcl;cases hth:thereB E n S m
  case false =>
   have Hq:Hid (moOk E n S m s=false):=by unfold Hid moOk;rw [hth,Bool.and_false]
   clear hth;go_wp2
   refine bodyPost_ret (v:=.tuple #[.slice (some ⟨w2.heap.size,0,none⟩) 0 0,.bool false]) (by simp [results,Tryz.results21,go_sem]) rfl ⟨hw2.alloc hw2.size _,_,[],by rw [Hq.out],OwnL.new w2 _ hw2.size,Or.inr ⟨Hq.out,rfl⟩⟩
  case true =>
   have Hq:Hid (moOk E n S m s=true):=by unfold Hid moOk;rw [Hml.out,hth];rfl
   have HO:Hid (∀ W,Below w.heap.size w W->Calls Tryz.prog 59 #[.agg #[.slice a n cap],.slice ia m icap,.string s] W (MrPost W E n (fun p:Nat=>dp E n (ln E n (posV E n s)) (p:Int)) S m)):=fun W hW=>by
    have hb:=posV_bd E s n;obtain ⟨t1,t2⟩:=there_allM hth
    have:=l6Ord_sl (posV E n s) W Hr.out hb.1 hb.2 t1 t2 (h.below hW) (hids.below hW);rw [Hid2.out] at this;exact this
   clear hth
   go_wp2_with fail
   refine (HO.out _ hw2).mono ?_;rintro e w3 ⟨v3,L3,rfl,ho3,hord3,hmem3,hb3⟩;have HM:Hid (MoPost w E n S m s (.returned (.tuple #[v3,.bool true])) w3):=⟨hw2.trans (hb3.mono hw2.size),v3,L3,by rw [Hq.out],ho3.mono hw2.size,Or.inl ⟨Hq.out,hord3,hmem3⟩⟩;clear hord3 hmem3;go_wp2
   refine bodyPost_ret (v:=.tuple #[v3,.bool true]) (by simp [results,Tryz.results21,go_sem]) rfl HM.out
variable {w w':World}
structure Ent where
 ty:ByteArray
 key:ByteArray
 id:ByteArray
variable {l:List Ent}
def Ent.none:Ent:=⟨ByteArray.empty,ByteArray.empty,ByteArray.empty⟩
def eAt (l:List Ent)(i:Nat):Ent:=l.getD i Ent.none
theorem eAt_get (l:List Ent)(i:Nat)(h:i<l.length):eAt l i=l[i]:=by simp [eAt,List.getD,h]
theorem eAt_mem (l:List Ent)(i:Nat)(h:i<l.length):eAt l i ∈ l:=by rw [eAt_get l i h];exact List.getElem_mem h
def befB (a b:Ent):Bool:=if a.ty.toList == b.ty.toList then Op.bytesLess a.key.toList b.key.toList else Op.bytesLess a.ty.toList b.ty.toList
def samB (a b:Ent):Bool:=a.ty.toList == b.ty.toList && a.key.toList == b.key.toList
def ordTo (l:List Ent):Nat->Bool
 | 0=>true
 | n+1=>ordTo l n && (n == 0 || befB (eAt l (n - 1)) (eAt l n))
theorem ordTo_le (l:List Ent):∀ n k,k<n->ordTo l (k+1)=false->ordTo l n=false
 | 0,_,h,_=>absurd h (Nat.not_lt_zero _)
 | n+1,k,h,e=>by
  by_cases hk:k=n
  ·subst hk;exact e
  unfold ordTo;rw [ordTo_le l n k (by omega) e];rfl
def ordB (l:List Ent):Bool:=ordTo l l.length
def idsTo (l:List Ent):Nat->Bool
 | 0=>true
 | n+1=>idsTo l n && !(eAt l n).id.toList.isEmpty
theorem idsTo_le (l:List Ent):∀ n k,k<n->idsTo l (k+1)=false->idsTo l n=false
 | 0,_,h,_=>absurd h (Nat.not_lt_zero _)
 | n+1,k,h,e=>by
  by_cases hk:k=n
  ·subst hk;exact e
  unfold idsTo;rw [idsTo_le l n k (by omega) e];rfl
def stB (l:List Ent):Bool:=idsTo l l.length && (decide (l.length<=300) && ordB l)
def posI (l:List Ent)(e:Ent):Int:=if l.findIdx (fun x=>samB x e)<l.length then ((l.findIdx (fun x=>samB x e):Nat):Int) else -1
theorem posI_hit (l:List Ent)(e:Ent)(k:Nat)(hk:k<l.length)(h0:∀ i,i<k->samB (eAt l i) e=false)(h1:samB (eAt l k) e=true):posI l e=(k:Int):=by
 have:l.findIdx (fun x=>samB x e)=k:=by
  rw [List.findIdx_eq hk];refine ⟨by rw [<- eAt_get l k hk];exact h1,fun j hj=>?_⟩;rw [<- eAt_get l j (by omega)];simp [h0 j hj]
 rw [posI,this,if_pos hk]
theorem posI_miss (l:List Ent)(e:Ent)(h0:∀ i,i<l.length->samB (eAt l i) e=false):posI l e=-1:=by
 rw [posI,if_neg];intro h
 have:=List.findIdx_getElem (w:=h);rw [<- eAt_get l _ h,h0 _ h] at this;cases this
structure SlE (w:World)(a:Option Addr)(cap:Nat)(l:List Ent):Prop where
 le:l.length<=cap
 max:cap<=maxLen
 size:∀ i,i<l.length->(eAt l i).ty.size<=maxLen∧(eAt l i).key.size<=maxLen∧(eAt l i).id.size<=maxLen
 cells:l=[]∨∃ b off,a=some ⟨b,off,none⟩∧b<w.heap.size ∧
  (∀ i,i<l.length->w.cell? ⟨b,off+i * 3,none⟩=some (.string (eAt l i).ty))∧(∀ i,i<l.length->w.cell? ⟨b,off+i * 3+1,none⟩=some (.string (eAt l i).key))∧(∀ i,i<l.length->w.cell? ⟨b,off+i * 3+2,none⟩=some (.string (eAt l i).id))
theorem SlE.below (h:SlE w a cap l)(hb:Below w.heap.size w w'):SlE w' a cap l:=by
 refine ⟨h.le,h.max,h.size,?_⟩;rcases h.cells with h0|⟨b,off,e,hlt,h1,h2,h3⟩
 ·exact Or.inl h0
 exact Or.inr ⟨b,off,e,nT hlt hb.size,fun i hi=>(hb.cell (by exact hlt)).trans (h1 i hi),fun i hi=>(hb.cell (by exact hlt)).trans (h2 i hi),fun i hi=>(hb.cell (by exact hlt)).trans (h3 i hi)⟩
abbrev entV (e:Ent):Value:=.agg #[.string e.ty,.string e.key,.string e.id]
theorem before_any (a b:Ent)(w:World) :
  Calls Tryz.prog 92 #[entV a,entV b] w fun e w'=>e=.returned (.bool (befB a b))∧Below w.heap.size w w':=by
 cases h:(a.ty.toList == b.ty.toList)
 all_goals
  go_enter Tryz.func92,Tryz.ntmps92
  go_wp2
  go_ret;exact ⟨ret_bool (by simp [befB,h]),bA.alloc (by simp) _⟩
theorem same_any (a b:Ent)(w:World) :
  Calls Tryz.prog 156 #[entV a,entV b] w fun e w'=>e=.returned (.bool (samB a b))∧Below w.heap.size w w':=by
 cases h:(a.ty.toList == b.ty.toList)
 all_goals
  go_enter Tryz.func156,Tryz.ntmps156
  go_wp2
  go_ret;exact ⟨ret_bool (by simp [samB,h]),bA.alloc (by simp) _⟩
theorem inOrder_zero (a:Option Addr)(cap:Nat)(w:World) :
  Calls Tryz.prog 132 #[.slice a 0 cap] w fun e w'=>e=.returned (.bool true)∧w'=w:=by
 go_enter Tryz.func132,Tryz.ntmps132
 go_wp2
 refine wp_loop_rounds 1 ?_;rw [rounds_succ];go_wp2
 go_ret;exact ⟨rfl,rfl⟩
theorem inOrder_any (b off cap:Nat)(l:List Ent)(w:World)(hl0:0<l.length)(hn:l.length<=maxLen)(hb:b<w.heap.size)
  (h1:∀ i,i<l.length->w.cell? ⟨b,off+i * 3,none⟩=some (.string (eAt l i).ty)) (h2:∀ i,i<l.length->w.cell? ⟨b,off+i * 3+1,none⟩=some (.string (eAt l i).key)) (h3:∀ i,i<l.length->w.cell? ⟨b,off+i * 3+2,none⟩=some (.string (eAt l i).id)) :
  Calls Tryz.prog 132 #[.slice (some ⟨b,off,none⟩) l.length cap] w fun e w'=>e=.returned (.bool (ordB l))∧Below w.heap.size w w':=by
 unfold maxLen at hn
 go_enter Tryz.func132,Tryz.ntmps132
 go_wp2
 go_loopw [3] (fun i wr=>∃ k:Nat,k+1<=l.length∧i=.int .i64 ((k:Int)+1)∧Hid (ordTo l (k+1)=true)∧Below w.heap.size w wr) (fun i _=>l.length - (intOf i).toNat)
 case atStart=>exact ⟨0,hl0,rfl,rfl,kB⟩
 case round =>
  obtain ⟨k,hk,rfl,hto,hbel⟩:=hrel
  by_cases hlt:k+1<l.length
  ·have a1:wr.cell? ⟨b,off+k * 3,none⟩=some (.string (eAt l k).ty):=(hbel.cell (by exact hb)).trans (h1 k (by omega))
   have a2:wr.cell? ⟨b,off+k * 3+1,none⟩=some (.string (eAt l k).key):=(hbel.cell (by exact hb)).trans (h2 k (by omega));have a3:wr.cell? ⟨b,off+k * 3+2,none⟩=some (.string (eAt l k).id):=(hbel.cell (by exact hb)).trans (h3 k (by omega));have b1:wr.cell? ⟨b,off+(k+1) * 3,none⟩=some (.string (eAt l (k+1)).ty):=(hbel.cell (by exact hb)).trans (h1 (k+1) (by omega));have b2:wr.cell? ⟨b,off+(k+1) * 3+1,none⟩=some (.string (eAt l (k+1)).key):=(hbel.cell (by exact hb)).trans (h2 (k+1) (by omega));have b3:wr.cell? ⟨b,off+(k+1) * 3+2,none⟩=some (.string (eAt l (k+1)).id):=(hbel.cell (by exact hb)).trans (h3 (k+1) (by omega));have hkl:k<l.length:=by omega
   have ew:IntKind.i64.wrap (k:Int)=(k:Int):=by rw [IntKind.wrap_i64];omega
   cases hB:befB (eAt l k) (eAt l (k+1))
   ·go_wp2_with fail
    go_region_with (go_at_call 92;refine (before_any (eAt l k) (eAt l (k+1)) _).mono ?_;rintro e w1 ⟨rfl,hb1⟩)
    all_goals
     go_wp2
     go_ret;exact ⟨ret_bool (by rw [ordB,ordTo_le l l.length (k+1) hlt (by rw [ordTo,show k+1 - 1=k from rfl,hB];simp)]),Below.trans (by first|exact hbel|exact hbel.drew|exact hbel.drew.drew) (hb1.mono (by exact hbel.size))⟩
   go_wp2_with fail
   go_region_with (go_at_call 92;refine (before_any (eAt l k) (eAt l (k+1)) _).mono ?_;rintro e w1 ⟨rfl,hb1⟩)
   all_goals
    go_wp2
    go_roundw
    case rel=>exact ⟨k+1,by omega,by go_num,by unfold Hid;rw [ordTo,hto.out,show k+1 - 1=k from rfl,hB];simp,Below.trans (by first|exact hbel|exact hbel.drew|exact hbel.drew.drew) (hb1.mono (by exact hbel.size))⟩
    simp [intOf];omega
  go_wp2
  go_ret;exact ⟨ret_bool (by rw [ordB,show l.length=k+1 by omega,hto.out]),hbel⟩
theorem inOrder_sl (w:World)(h:SlE w a cap l) :
  Calls Tryz.prog 132 #[.slice a l.length cap] w fun e w'=>e=.returned (.bool (ordB l))∧Below w.heap.size w w':=by
 rcases h.cells with rfl|⟨b,off,rfl,hb,h1,h2,h3⟩
 ·refine (inOrder_zero a cap w).mono ?_
  rintro e w' ⟨rfl,rfl⟩;exact ⟨rfl,kB⟩
 by_cases h0:0<l.length
 ·exact inOrder_any b off cap l w h0 (nZ h.le h.max) hb h1 h2 h3
 obtain rfl:l=[]:=List.eq_nil_of_length_eq_zero (by omega);refine (inOrder_zero _ cap w).mono ?_;rintro e w' ⟨rfl,rfl⟩;exact ⟨rfl,kB⟩
theorem stateS_any (b off cap:Nat)(l:List Ent)(w:World)(h:SlE w (some ⟨b,off,none⟩) cap l)
  (h3:∀ i,i<l.length->w.cell? ⟨b,off+i * 3+2,none⟩=some (.string (eAt l i).id)) :
  Calls Tryz.prog 71 #[.slice (some ⟨b,off,none⟩) l.length cap] w fun e w'=>e=.returned (.bool (stB l))∧Below w.heap.size w w':=by
 have hn:=nZ h.le h.max;unfold maxLen at hn
 go_enter Tryz.func71,Tryz.ntmps71
 go_wp2
 go_loop [3] (fun i=>∃ k:Nat,k<=l.length∧i=.int .i64 k∧Hid (idsTo l k=true)) (fun i=>l.length - (intOf i).toNat)
 case atStart=>exact ⟨0,nz,rfl,rfl⟩
 case round =>
  obtain ⟨k,hk,rfl,hto⟩:=hrel
  by_cases hlt:k<l.length
  ·have a3:=h3 k hlt
   cases he:(eAt l k).id.toList.isEmpty
   ·go_wp2
    go_round
    case rel=>exact ⟨k+1,by omega,by go_num,by unfold Hid;rw [idsTo,hto.out,he];rfl⟩
    simp [intOf];omega
   go_wp2
   go_ret;exact ⟨ret_bool (by rw [stB,idsTo_le l l.length k hlt (by rw [idsTo,he];simp)];simp),kB⟩
  have hall:idsTo l l.length=true:=by rw [show l.length=k by omega];exact hto.out
  have HA:Hid (idsTo l l.length=true):=hall;clear hall
  by_cases h300:l.length<=300
  ·go_wp2_with (go_at_call 132;refine (inOrder_sl _ h).mono ?_;rintro e w' ⟨rfl,hb1⟩)
   go_ret;exact ⟨ret_bool (by rw [stB,HA.out];simp [h300]),hb1⟩
  go_wp2
  go_ret;exact ⟨ret_bool (by rw [stB];simp [h300]),kB⟩
theorem stateS_zero (a:Option Addr)(cap:Nat)(w:World) :
  Calls Tryz.prog 71 #[.slice a 0 cap] w fun e w'=>e=.returned (.bool true)∧w'=w:=by
 go_enter Tryz.func71,Tryz.ntmps71
 go_wp2
 refine wp_loop_rounds 1 ?_;rw [rounds_succ]
 go_wp2_with (go_at_call 132;refine (inOrder_zero a cap _).mono ?_;rintro e w' ⟨rfl,rfl⟩)
 go_ret;exact ⟨rfl,rfl⟩
theorem stateS_sl (w:World)(h:SlE w a cap l) :
  Calls Tryz.prog 71 #[.slice a l.length cap] w fun e w'=>e=.returned (.bool (stB l))∧Below w.heap.size w w':=by
 rcases h.cells with rfl|⟨b,off,rfl,hb,h1,h2,h3⟩
 ·refine (stateS_zero a cap w).mono ?_
  rintro e w' ⟨rfl,rfl⟩;exact ⟨rfl,kB⟩
 exact stateS_any b off cap l w h h3
theorem at_zero (a:Option Addr)(cap:Nat)(e0:Ent)(w:World) :
  Calls Tryz.prog 93 #[.slice a 0 cap,entV e0] w fun e w'=>e=.returned (.int .i64 (-1))∧Below w.heap.size w w':=by
 go_enter Tryz.func93,Tryz.ntmps93
 go_wp2
 refine wp_loop_rounds 1 ?_;rw [rounds_succ];go_wp2
 go_ret;exact ⟨rfl,bA⟩
theorem at_any (b off cap:Nat)(l:List Ent)(e0:Ent)(w:World)(hn:l.length<=maxLen)(hb:b<w.heap.size)
  (h1:∀ i,i<l.length->w.cell? ⟨b,off+i * 3,none⟩=some (.string (eAt l i).ty)) (h2:∀ i,i<l.length->w.cell? ⟨b,off+i * 3+1,none⟩=some (.string (eAt l i).key)) (h3:∀ i,i<l.length->w.cell? ⟨b,off+i * 3+2,none⟩=some (.string (eAt l i).id)) :
  Calls Tryz.prog 93 #[.slice (some ⟨b,off,none⟩) l.length cap,entV e0] w fun e w'=>e=.returned (.int .i64 (posI l e0))∧Below w.heap.size w w':=by
 unfold maxLen at hn;have hb0:∀ o,Below w.heap.size w (w.alloc o):=fun o=>bA
 go_enter Tryz.func93,Tryz.ntmps93
 go_wp2
 go_loopw [5] (fun i wr=>∃ k:Nat,k<=l.length∧i=.int .i64 k∧Hid (∀ i,i<k->samB (eAt l i) e0=false)∧Below w.heap.size w wr∧(∀ o,wr.cell? ⟨w.heap.size,o,none⟩=(#[.string e0.ty,.string e0.key,.string e0.id]:Array Value)[o]?)∧w.heap.size<wr.heap.size) (fun i _=>l.length - (intOf i).toNat)
 case atStart=>exact ⟨0,nz,rfl,fun i hi=>absurd hi (Nat.not_lt_zero _),hb0 _,fun o=>kA rfl,by simp⟩
 case round =>
  obtain ⟨k,hk,rfl,hto,hbel,hbox,hsz⟩:=hrel
  by_cases hlt:k<l.length
  ·have a1:wr.cell? ⟨b,off+k * 3,none⟩=some (.string (eAt l k).ty):=(hbel.cell (by exact hb)).trans (h1 k hlt)
   have a2:wr.cell? ⟨b,off+k * 3+1,none⟩=some (.string (eAt l k).key):=(hbel.cell (by exact hb)).trans (h2 k hlt);have a3:wr.cell? ⟨b,off+k * 3+2,none⟩=some (.string (eAt l k).id):=(hbel.cell (by exact hb)).trans (h3 k hlt);cases hB:samB (eAt l k) e0
   ·go_wp2_with fail
    go_region_with (go_at_call 156;refine (same_any (eAt l k) e0 _).mono ?_;rintro e w1 ⟨rfl,hb1⟩)
    all_goals
     have hb2:Below wr.heap.size wr w1:=Below.trans (by first|exact kB|exact kB.drew|exact kB.drew.drew) hb1;go_wp2
     go_roundw
     case rel=>exact ⟨k+1,by omega,by go_num,fun i hi=>by (by_cases e:i=k;(subst e;exact hB);exact hto.out i (by omega)),hbel.trans (hb2.mono hbel.size),fun o=>(hb2.cell (by exact hsz)).trans (hbox o),nT hsz hb2.size⟩
     simp [intOf];omega
   go_wp2_with fail
   go_region_with (go_at_call 156;refine (same_any (eAt l k) e0 _).mono ?_;rintro e w1 ⟨rfl,hb1⟩)
   all_goals
    have hb2:Below wr.heap.size wr w1:=Below.trans (by first|exact kB|exact kB.drew|exact kB.drew.drew) hb1;go_wp2
    go_ret;exact ⟨ret_int (posI_hit l e0 k hlt hto.out hB).symm,hbel.trans (hb2.mono hbel.size)⟩
  go_wp2
  go_ret;exact ⟨ret_int (posI_miss l e0 (fun i hi=>hto.out i (by omega))).symm,hbel⟩
theorem at_sl (e0:Ent)(w:World)(h:SlE w a cap l) :
  Calls Tryz.prog 93 #[.slice a l.length cap,entV e0] w fun e w'=>e=.returned (.int .i64 (posI l e0))∧Below w.heap.size w w':=by
 rcases h.cells with rfl|⟨b,off,rfl,hb,h1,h2,h3⟩
 ·exact at_zero a cap e0 w
 exact at_any b off cap l e0 w (nZ h.le h.max) hb h1 h2 h3
theorem blwG {w w':World}(h:Below w.heap.size w w')(row:Option Nat):w.grownBy w' row:=⟨h.os,h.tape,h.output,h.size,fun i hi _=>h.block i hi⟩
def nxB (bs:Nat->Nat)(m q:Nat):Nat:=if q<m then bs q else 0
def nxQ (m q:Nat):Nat:=if q<m then q+1 else q
def BytesF (w:World)(p:Nat)(a:Option Addr)(m:Nat)(bs:Nat->Nat):Prop :=
 m=0∨∃ b off,a=some ⟨b,off,none⟩∧b<p∧∀ i,i<m->w.cell? ⟨b,off+i,none⟩=some (.int .u8 (bs i:Int))
structure RdF (w:World)(p:Nat)(bs:Nat->Nat)(m q:Nat):Prop where
 lt:p<w.heap.size
 m1:m<=1000
 q1:q<=2000
 b1:∀ i,i<m->bs i<256
 cells:∃ a cap,w.cell? ⟨p,0,none⟩=some (.slice a m cap)∧w.cell? ⟨p,1,none⟩=some (.int .i64 ((q:Nat):Int))∧BytesF w p a m bs
 frz:w.frozen? ⟨p,1,none⟩=false
theorem RdF.nx {w:World}{p:Nat}{bs:Nat->Nat}{m q:Nat}(h:RdF w p bs m q):nxB bs m q<256:=by
 unfold nxB;split
 ·rename_i hq;exact h.b1 q hq
 decide
theorem RdF.below {w w':World}{p:Nat}{bs:Nat->Nat}{m q:Nat}(h:RdF w p bs m q)(hb:Below w.heap.size w w'):RdF w' p bs m q:=by
 obtain ⟨hlt,h1,h2,h3,⟨a,cap,c0,c1,hB⟩,hf⟩:=h;refine ⟨nT hlt hb.size,h1,h2,h3,⟨a,cap,(hb.cell (by exact hlt)).trans c0,(hb.cell (by exact hlt)).trans c1,?_⟩,(hb.frozen (by exact hlt)).trans hf⟩;exact hB.imp id fun ⟨b,off,e,hne,hx⟩=>⟨b,off,e,hne,fun i hi=>(hb.cell (by exact Nat.lt_trans hne hlt)).trans (hx i hi)⟩
theorem RdF.grown {w w':World}{p:Nat}{bs:Nat->Nat}{m q:Nat}{row:Option Nat}(h:RdF w p bs m q)(hg:w.grownBy w' row)(hr:∀ b,row=some b->p<b):RdF w' p bs m q:=by
 obtain ⟨hlt,h1,h2,h3,⟨a,cap,c0,c1,hB⟩,hf⟩:=h;have hk:∀ b,b<=p->w'.heap[b]?=w.heap[b]?:=fun b hb=>hg.block b (by omega) (fun e=>by have:=hr b e.symm;omega)
 have hc:∀ b o,b<=p->w'.cell? ⟨b,o,none⟩=w.cell? ⟨b,o,none⟩:=fun b o hb=>World.cell?_of_block (a:=⟨b,o,none⟩) (hk b hb)
 have hz:w'.frozen? ⟨p,1,none⟩=w.frozen? ⟨p,1,none⟩:=hg.frozen_far ⟨p,1,none⟩ hlt (fun e=>by have:=hr p e.symm;omega);refine ⟨nT hlt hg.size,h1,h2,h3,⟨a,cap,(hc p 0 nL).trans c0,(hc p 1 nL).trans c1,?_⟩,hz.trans hf⟩;exact hB.imp id fun ⟨b,off,e,hne,hx⟩=>⟨b,off,e,hne,fun i hi=>(hc b _ (by omega)).trans (hx i hi)⟩
def DwF (p:Nat)(w w':World)(bs:Nat->Nat)(m q:Nat):Prop:=RdF w' p bs m q∧w.grownBy w' (some p)
section
variable {p:Nat} {w w1 w2:World} {bs:Nat->Nat} {m q q':Nat}
theorem DwF.below (h:DwF p w w1 bs m q)(hb:Below w1.heap.size w1 w2):DwF p w w2 bs m q:=⟨h.1.below hb,h.2.andThen (blwG hb none) (fun j hj=>by cases hj)⟩
theorem DwF.trans (h:DwF p w w1 bs m q)(h':DwF p w1 w2 bs m q'):DwF p w w2 bs m q':=⟨h'.1,h.2.andThen h'.2 (fun _ hj=>Or.inr hj)⟩
theorem DwF.refl (h:RdF w p bs m q):DwF p w w bs m q:=⟨h,World.grownBy.refl _ _⟩
theorem DwF.size (h:DwF p w w1 bs m q):w.heap.size<=w1.heap.size:=h.2.size
theorem DwF.grow {row:Option Nat}(h:DwF p w w1 bs m q)(hg:w1.grownBy w2 row)(hr:∀ b,row=some b->w.heap.size<=b)(hp:p<w.heap.size):DwF p w w2 bs m q :=
 ⟨h.1.grown hg (fun b hb=>nT hp (hr b hb)),h.2.andThen hg (fun j hj=>Or.inl (hr j hj))⟩
theorem DwF.own (h:DwF p w w1 bs m q){b:Nat}(hb:w.heap.size<=b)(hp:p<w.heap.size)(j:Nat)(x:Value):DwF p w (w1.setCell ⟨b,j,none⟩ x) bs m q :=
 h.grow (Lib.grownBy_setCell w1 b j x) (fun q hq=>by injection hq with hq;omega) hp
theorem DwF.of_below (hw:RdF w p bs m q)(hb:Below w.heap.size w w1)(h:DwF p w1 w2 bs m q'):DwF p w w2 bs m q':=(DwF.refl hw).below hb |>.trans h
end
def NxF (p:Nat)(w:World)(bs:Nat->Nat)(m q:Nat)(e:Ending)(w':World):Prop:=e=.returned (.int .i64 ((nxB bs m q:Nat):Int))∧DwF p w w' bs m (nxQ m q)
theorem nextF (p:Nat){bs:Nat->Nat}{m q:Nat}(w:World)(h:RdF w p bs m q):Calls Tryz.prog 56 #[.pointer (some ⟨p,0,none⟩)] w (NxF p w bs m q):=by
 have HR:Hid (RdF w p bs m q):=h;obtain ⟨hlt,hm1,hq1,hb1,⟨a,cap,c0,c1,hB⟩,hf⟩:=h
 by_cases hqm:q<m
 ·rcases hB with h0|⟨b,off,rfl,hne,hx⟩
  ·omega
  have hcx:=hx q hqm;have hx2:=hb1 q hqm
  have Hfin:Hid (∀ W,Below w.heap.size w W->DwF p w (W.setCell ⟨p,1,none⟩ (.int .i64 ((q:Int)+1))) bs m (q+1)):=fun W hW=>by
   refine ⟨⟨by have:=nT hlt hW.size;simpa [World.setCell] using this,hm1,by omega,hb1,⟨some ⟨b,off,none⟩,cap,by rw [set_far (by omega)];exact (hW.cell (by exact hlt)).trans c0,set_same ⟨_,(hW.cell (by exact hlt)).trans c1⟩,Or.inr ⟨b,off,rfl,hne,fun i hi=>?_⟩⟩,by rw [World.frozen?_setCell];exact (hW.frozen (by exact hlt)).trans hf⟩,(blwG hW (some p)).andThen (Lib.grownBy_setCell W p 1 _) (fun j hj=>Or.inr hj)⟩;rw [far_block (by omega)];exact (hW.cell (by exact Nat.lt_trans hne hlt)).trans (hx i hi)
  have HX:Hid (nxB bs m q=bs q∧nxQ m q=q+1):=⟨if_pos hqm,if_pos hqm⟩;clear hx hb1;unfold NxF;rw [HX.out.1,HX.out.2];generalize bs q=x at *
  go_enter Tryz.func56,Tryz.ntmps56
  go_wp2
  go_region
  go_wp2
  go_region
  go_wp2
  go_ret;exact ⟨rfl,(Hfin.out w kB).below (by first|exact kB.drew|exact kB.drew.drew)⟩
 have HX:Hid (nxB bs m q=0∧nxQ m q=q):=⟨if_neg hqm,if_neg hqm⟩;unfold NxF;rw [HX.out.1,HX.out.2]
 go_enter Tryz.func56,Tryz.ntmps56
 go_wp2
 go_region
 go_wp2
 go_ret;exact ⟨rfl,(DwF.refl HR.out).below kB.drew⟩
theorem leftF (p:Nat){bs:Nat->Nat}{m q:Nat}(w:World)(h:RdF w p bs m q):Calls Tryz.prog 120 #[.pointer (some ⟨p,0,none⟩)] w (fun e w'=>e=.returned (.int .i64 ((m:Int) - (q:Int)))∧Below w.heap.size w w'):=by
 obtain ⟨hlt,hm1,hq1,hb1,⟨a,cap,c0,c1,hB⟩,hf⟩:=h
 go_enter Tryz.func120,Tryz.ntmps120
 go_wp2
 first
  | (go_ret;exact ⟨rfl,kB⟩)
  | (go_region;go_wp2;go_ret;exact ⟨rfl,by first|exact kB|exact kB.drew⟩)
def BytesV (w:World)(a:Option Addr)(n:Nat)(bs:Nat->Nat):Prop :=
 n=0∨∃ b off,a=some ⟨b,off,none⟩∧b<w.heap.size∧∀ i,i<n->w.cell? ⟨b,off+i,none⟩=some (.int .u8 (bs i:Int))
def rdN (n:Nat):Nat:=if 1000<n then 1000 else n
def OpF (w:World)(bs:Nat->Nat)(n:Nat)(e:Ending)(w':World):Prop:=∃ p,e=.returned (.pointer (some ⟨p,0,none⟩))∧RdF w' p bs (rdN n) 0∧w.heap.size<=p∧Below w.heap.size w w'
theorem bytesF_new {w:World}{a:Option Addr}{n m cap:Nat}{bs:Nat->Nat}{t:TypeId}(h:BytesV w a n bs)(hb:∀ i,i<n->bs i<256)(hm:m<=1000)(hn:m<=n):RdF (w.alloc (.cells #[.slice a m cap,.int .i64 0] t)) w.heap.size bs m 0:=by
 refine ⟨by simp,hm,nz,fun i hi=>hb i (by omega),⟨a,cap,kA rfl,kA rfl,?_⟩,kF rfl⟩;have hb:Below w.heap.size w (w.alloc (.cells #[.slice a m cap,.int .i64 0] t)):=bA;rcases h with h0|⟨b,off,e,hbl,hx⟩
 ·exact Or.inl (by omega)
 exact Or.inr ⟨b,off,e,hbl,fun i hi=>(hb.cell (by exact hbl)).trans (hx i (by omega))⟩
theorem openF {a:Option Addr}{n cap:Nat}{bs:Nat->Nat}(w:World)(hle:n<=cap)(hmax:cap<=maxLen)(h:BytesV w a n bs)(hb1:∀ i,i<n->bs i<256):Calls Tryz.prog 26 #[.slice a n cap] w (OpF w bs n):=by
 have hb:∀ o,Below w.heap.size w (w.alloc o):=fun o=>bA
 unfold maxLen at hmax
 by_cases hn:1000<n
 ·have Hn:Hid (RdF (w.alloc (.cells #[.slice a 1000 cap,.int .i64 0] 112)) w.heap.size bs (rdN n) 0):=by unfold Hid rdN;rw [if_pos hn];exact bytesF_new h hb1 nL (by omega)
  clear h hb1
  go_enter Tryz.func26,Tryz.ntmps26
  go_wp2
  go_ret;exact ⟨_,rfl,Hn.out,nL,hb _⟩
 have Hn:Hid (RdF (w.alloc (.cells #[.slice a n cap,.int .i64 0] 112)) w.heap.size bs (rdN n) 0):=by unfold Hid rdN;rw [if_neg hn];exact bytesF_new h hb1 (by omega) nL
 clear h hb1
 go_enter Tryz.func26,Tryz.ntmps26
 go_wp2
 go_ret;exact ⟨_,rfl,Hn.out,nL,hb _⟩
variable {base:Nat}{v:Value}{M:Nat->ByteArray}{x:ByteArray}{xs:List Value}
theorem Tryz.infoGrant:(Tryz.prog.info? 166).map (fun i=>(i.zero,i.size,i.bytes))=some (some (.agg #[.string ByteArray.empty,.int .i64 0]),2,24):=by kernel_rfl
def encG (M:Nat->ByteArray)(L:Nat->Int)(n:Nat):List Value:=(List.range n).flatMap fun i=>[.string (M i),.int .i64 (L i)]
theorem encG_snoc (M:Nat->ByteArray)(L:Nat->Int)(n:Nat):encG M L n ++ [.string (M n),.int .i64 (L n)]=encG M L (n+1):=by simp [encG,List.range_succ]
theorem encG_len (M:Nat->ByteArray)(L:Nat->Int)(n:Nat):(encG M L n).length=n * 2:=by
 induction n with
 | zero=>rfl
 | succ n ih=>rw [<- encG_snoc,List.length_append,ih];simp;omega
theorem encG_get (M:Nat->ByteArray)(L:Nat->Int):∀ n i,i<n->(encG M L n)[i * 2]?=some (.string (M i))∧(encG M L n)[i * 2+1]?=some (.int .i64 (L i))
 | 0,_,h=>absurd h (Nat.not_lt_zero _)
 | n+1,i,h=>by
  rw [<- encG_snoc]
  by_cases e:i=n
  ·subst e
   rw [List.getElem?_append_right (by rw [encG_len];omega),List.getElem?_append_right (by rw [encG_len];omega),encG_len];simp
  have:=encG_get M L n i (by omega);rw [List.getElem?_append_left (by rw [encG_len];omega),List.getElem?_append_left (by rw [encG_len];omega)];exact this
def OwnG (w:World)(base:Nat)(v:Value)(n:Nat)(M:Nat->ByteArray)(L:Nat->Int):Prop:=w.ownsRow base 166 2 v n (encG M L n)
theorem OwnG.below {L:Nat->Int}(h:OwnG w base v n M L)(hb:Below w.heap.size w w'):OwnG w' base v n M L:=ownsRow_blw h hb
theorem OwnG.snoc {L:Nat->Int}{z:Int}(h:w.ownsRow base 166 2 v (n+1) (encG M L n ++ [.string x,.int .i64 z]))(hx:x=M n)(hz:z=L n):OwnG w base v (n+1) M L:=by
 subst hx hz;rw [encG_snoc] at h;exact h
theorem OwnG.nil (w:World)(base:Nat)(M:Nat->ByteArray)(L:Nat->Int):OwnG w base (.slice none 0 0) 0 M L:=⟨rfl,Or.inl ⟨rfl,rfl⟩⟩
theorem OwnG.new (w:World)(base:Nat)(hb:base<=w.heap.size)(M:Nat->ByteArray)(L:Nat->Int):OwnG (w.alloc (.cells #[] 166)) base (.slice (some ⟨w.heap.size,0,none⟩) 0 0) 0 M L :=
 ⟨rfl,Or.inr ⟨w.heap.size,0,#[],rfl,hb,by show (w.heap.push _)[w.heap.size]?=_;simp,nL,by decide,rfl,rfl⟩⟩
def SlW (w:World)(base:Nat)(a:Option Addr)(n sz:Nat):Prop :=
 n=0∨∃ b off,a=some ⟨b,off,none⟩∧base<=b∧b<w.heap.size∧∀ i,i<n * sz->(∃ v,w.cell? ⟨b,off+i,none⟩=some v)∧w.frozen? ⟨b,off+i,none⟩=false
theorem row_cells {e size:Nat}(h:w.ownsRow base e size v n xs) :
  (v=.slice none 0 0∧n=0)∨∃ g cap,v=.slice (some ⟨g,0,none⟩) n cap∧base<=g∧g<w.heap.size∧n<=cap∧cap<=maxLen∧(∀ j,j<n * size->w.cell? ⟨g,0+j,none⟩=xs[j]?)∧∀ j,w.frozen? ⟨g,j,none⟩=false:=by
 obtain ⟨h1,h2⟩:=h;rcases h2 with ⟨rfl,h0⟩|⟨g,cap,cur,rfl,hg,hh,hn,hc,hcs,hx⟩
 ·exact Or.inl ⟨rfl,h0⟩
 have hlt:g<w.heap.size:=by
  rcases Nat.lt_or_ge g w.heap.size with h'|h'
  ·exact h'
  rw [Array.getElem?_eq_none h'] at hh;cases hh
 refine Or.inr ⟨g,cap,rfl,hg,hlt,hn,hc,fun j hj=>?_,fun j=>?_⟩
 ·rw [<- hx,List.getElem?_take,if_pos hj,Nat.zero_add]
  simp [World.cell?,hh]
 simp [World.frozen?,hh]
theorem OwnT.slw (h:OwnT w base v n S)(hs:∀ i,i<n->(S i).size<=maxLen) :
  ∃ a cap,v=.slice a n cap∧SlS w a n cap S∧SlW w base a n 1:=by
 rcases row_cells h with ⟨rfl,rfl⟩|⟨g,cap,rfl,hg,hlt,hn,hc,hx,hf⟩
 ·exact ⟨none,0,rfl,⟨nL,by decide,hs,Or.inl rfl⟩,Or.inl rfl⟩
 refine ⟨_,cap,rfl,⟨hn,hc,hs,Or.inr ⟨g,0,rfl,hlt,fun i hi=>?_⟩⟩,Or.inr ⟨g,0,rfl,hg,hlt,fun i hi=>⟨?_,hf _⟩⟩⟩
 ·rw [hx _ (by omega)];exact strs_get S n i hi
 exact ⟨_,(hx i hi).trans (List.getElem?_eq_getElem (by rw [strs_len];omega))⟩
end Go.Proofs.YtkdalopokdhndaaGreat
