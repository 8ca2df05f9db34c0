import Derived.Laws.BytesArg
import Derived.Deep.DeepFit
import Derived.Test.YtnbdlaglnefcbaaGreatDgG
namespace Go.Proofs.YtnbdlaglnefcbaaGreat
open Go.RowKit
structure Ev where
 id:ByteArray
 sd:ByteArray
 ty:ByteArray
 key:ByteArray
 val:ByteArray
 st:Bool
 tm:Int
 np:Nat
 na:Nat
 ng:Nat
 Pv:Nat->ByteArray
 Av:Nat->ByteArray
 M:Nat->ByteArray
 L:Nat->Int
def Ev.code (e:Ev):Int:=evCode e.id e.sd e.ty e.key e.val e.st e.tm e.np e.na e.ng e.Pv e.Av e.M e.L
abbrev Ev.val' (e:Ev)(pa:Option Addr)(cp:Nat)(aa:Option Addr)(ca:Nat)(ga:Option Addr)(cg:Nat):Value :=
 evV e.id e.sd e.ty e.key e.val e.st e.tm pa e.np cp aa e.na ca ga e.ng cg
structure EvOk (w:World)(e:Ev)(pa:Option Addr)(cp:Nat)(aa:Option Addr)(ca:Nat)(ga:Option Addr)(cg:Nat):Prop where
 hid:e.id.size<=maxLen
 hsd:e.sd.size<=maxLen
 hty:e.ty.size<=maxLen
 hkey:e.key.size<=maxLen
 hval:e.val.size<=maxLen
 hp:SlS w pa e.np cp e.Pv
 ha:SlS w aa e.na ca e.Av
 hg:SlG w ga e.ng cg e.M e.L
theorem EvOk.below {w w':World}{e:Ev}{pa aa ga:Option Addr}{cp ca cg:Nat}(h:EvOk w e pa cp aa ca ga cg)(hb:Below w.heap.size w w'):EvOk w' e pa cp aa ca ga cg :=
 ⟨h.hid,h.hsd,h.hty,h.hkey,h.hval,h.hp.below hb,h.ha.below hb,h.hg.below hb⟩
structure EvCells (w:World)(b o:Nat)(e:Ev)(pa:Option Addr)(cp:Nat)(aa:Option Addr)(ca:Nat)(ga:Option Addr)(cg:Nat):Prop where
 c0:w.cell? ⟨b,o,none⟩=some (.string e.id)
 c1:w.cell? ⟨b,o+1,none⟩=some (.string e.sd)
 c2:w.cell? ⟨b,o+2,none⟩=some (.string e.ty)
 c3:w.cell? ⟨b,o+3,none⟩=some (.bool e.st)
 c4:w.cell? ⟨b,o+4,none⟩=some (.string e.key)
 c5:w.cell? ⟨b,o+5,none⟩=some (.int .i64 e.tm)
 c6:w.cell? ⟨b,o+6,none⟩=some (.slice pa e.np cp)
 c7:w.cell? ⟨b,o+7,none⟩=some (.slice aa e.na ca)
 c8:w.cell? ⟨b,o+8,none⟩=some (.string e.val)
 c9:w.cell? ⟨b,o+9,none⟩=some (.slice ga e.ng cg)
theorem EvCells.below {w w':World}{b o B:Nat}{e:Ev}{pa aa ga:Option Addr}{cp ca cg:Nat}(h:EvCells w b o e pa cp aa ca ga cg)(hb:Below B w w')(hlt:b<B):EvCells w' b o e pa cp aa ca ga cg :=
 ⟨(hb.cell (by exact hlt)).trans h.c0,(hb.cell (by exact hlt)).trans h.c1,(hb.cell (by exact hlt)).trans h.c2,(hb.cell (by exact hlt)).trans h.c3,(hb.cell (by exact hlt)).trans h.c4,(hb.cell (by exact hlt)).trans h.c5,(hb.cell (by exact hlt)).trans h.c6,(hb.cell (by exact hlt)).trans h.c7,(hb.cell (by exact hlt)).trans h.c8,(hb.cell (by exact hlt)).trans h.c9⟩
def EvAt (w:World)(b o:Nat)(e:Ev):Prop:=∃ pa cp aa ca ga cg,EvCells w b o e pa cp aa ca ga cg∧EvOk w e pa cp aa ca ga cg
theorem EvAt.below {w w':World}{b o:Nat}{e:Ev}(h:EvAt w b o e)(hb:Below w.heap.size w w')(hlt:b<w.heap.size):EvAt w' b o e:=by
 obtain ⟨pa,cp,aa,ca,ga,cg,h1,h2⟩:=h
 exact ⟨pa,cp,aa,ca,ga,cg,h1.below hb hlt,h2.below hb⟩
structure SlV (w:World)(a:Option Addr)(n cap:Nat)(E:Nat->Ev):Prop where
 le:n<=cap
 max:cap<=maxLen
 cells:n=0∨∃ b off,a=some ⟨b,off,none⟩∧b<w.heap.size∧∀ i,i<n->EvAt w b (off+i * 10) (E i)
theorem SlV.below {w w':World}{a:Option Addr}{n cap:Nat}{E:Nat->Ev}(h:SlV w a n cap E)(hb:Below w.heap.size w w'):SlV w' a n cap E:=by
 refine ⟨h.le,h.max,?_⟩
 rcases h.cells with h0|⟨b,off,e,hlt,hc⟩
 ·exact Or.inl h0
 ·exact Or.inr ⟨b,off,e,Nat.lt_of_lt_of_le hlt hb.size,fun i hi=>(hc i hi).below hb hlt⟩
theorem SlV.take {w:World}{a:Option Addr}{n cap k:Nat}{E:Nat->Ev}(h:SlV w a n cap E)(hk:k<=n):SlV w a k cap E:=by
 refine ⟨Nat.le_trans hk h.le,h.max,?_⟩
 rcases h.cells with h0|⟨b,off,e,hlt,hc⟩
 ·exact Or.inl (by omega)
 ·exact Or.inr ⟨b,off,e,hlt,fun i hi=>hc i (by omega)⟩
def posV (E:Nat->Ev):Nat->ByteArray->Int
 | 0,_=>-1
 | n+1,s=>if 0<=posV E n s then posV E n s else if (E n).id.toList == s.toList then (n:Int) else -1
theorem posV_bd (E:Nat->Ev)(s:ByteArray):∀ n,-1<=posV E n s∧posV E n s<n
 | 0=>by simp [posV]
 | n+1=>by
  have:=posV_bd E s n
  unfold posV
  split
  ·omega
  ·split <;> omega
theorem posV_miss (E:Nat->Ev)(s:ByteArray):∀ n,(∀ i,i<n->((E i).id.toList == s.toList)=false)->posV E n s=-1
 | 0,_=>rfl
 | n+1,h=>by
  unfold posV
  rw [posV_miss E s n (fun i hi=>h i (by omega)),if_neg (by omega),h n (by omega)]
  simp
theorem posV_stay (E : Nat -> Ev) (s : ByteArray) (k : Nat) (hk : 0 <= posV E k s) : ∀ n, k <= n -> posV E n s = posV E k s
  | 0, h => by have : k = 0 := by omega
               subst this; rfl
  | n + 1, h => by
    by_cases e : k = n + 1
    · subst e; rfl
    · have := posV_stay E s k hk n (by omega)
      rw [posV, this, if_pos hk]
theorem posV_hit (E:Nat->Ev)(s:ByteArray)(n k:Nat)(hk:k<n)(h0:∀ i,i<k->((E i).id.toList == s.toList)=false)(h1:((E k).id.toList == s.toList)=true):posV E n s=(k:Int):=by
 have e:posV E (k+1) s=(k:Int):=by rw [posV,posV_miss E s k h0,if_neg (by omega),h1];simp
 rw [posV_stay E s (k+1) (by omega) n (by omega),e]
def thereTo (E:Nat->Ev)(n:Nat)(S:Nat->ByteArray):Nat->Bool
 | 0=>true
 | m+1=>thereTo E n S m && decide (0<=posV E n (S m))
theorem thereTo_le (E:Nat->Ev)(n:Nat)(S:Nat->ByteArray):∀ m k,k<m->thereTo E n S (k+1)=false->thereTo E n S m=false
 | 0,_,h,_=>absurd h (Nat.not_lt_zero _)
 | m+1,k,h,e=>by
  by_cases hk:k=m
  ·subst hk;exact e
  ·unfold thereTo;rw [thereTo_le E n S m k (by omega) e];rfl
def thereB (E:Nat->Ev)(n:Nat)(S:Nat->ByteArray)(m:Nat):Bool:=decide (m<=300) && thereTo E n S m
def insCode (E:Nat->Ev)(n:Nat)(e:Ev):Int :=
 if e.code≠0 then e.code
 else if 0<=posV E n e.id then 6
 else if thereB E n e.Pv e.np=false∨thereB E n e.Av e.na=false then 7
 else if n=0∧(e.ty.toList == [99,114,101,97,116,101])=false then 8
 else if 0<n∧((e.ty.toList == [99,114,101,97,116,101])=true∨e.np=0∨e.na=0) then 8
 else if 300<=n then 9
 else 0
def roomTo (E:Nat->Ev):Nat->Bool
 | 0=>true
 | n+1=>roomTo E n && decide (insCode E n (E n)=0)
theorem roomTo_le (E:Nat->Ev):∀ n k,k<n->roomTo E (k+1)=false->roomTo E n=false
 | 0,_,h,_=>absurd h (Nat.not_lt_zero _)
 | n+1,k,h,e=>by
  by_cases hk:k=n
  ·subst hk;exact e
  ·unfold roomTo;rw [roomTo_le E n k (by omega) e];rfl
theorem strOfNums_one (n:Nat):strOfNums [(n:Int)]=⟨#[UInt8.ofNat n]⟩:=by
 simp [strOfNums]
theorem conv_one (W:World)(B n:Nat)(hc:W.cell? ⟨B,0,none⟩=some (.int .u8 (n:Int))) :
  (convert 22 9 (.slice (some ⟨B,0,none⟩) 1 1)).run Tryz.prog W=.ok (.string ⟨#[UInt8.ofNat n]⟩) W:=by
 rw [run_convert_bytes_arg W 22 5 Tryz.underlying22 Tryz.underlying5 B 0 1 1 [(n:Int)] rfl (fun i hi=>by
  have:i=0:=by omega
  subst this;exact hc) 9 Tryz.underlying9,strOfNums_one n]
set_option maxRecDepth 100000 in
set_option maxHeartbeats 400000 in
theorem decS_small (n:Nat)(w:World)(h10:n<10) :
  Calls Tryz.prog 23 #[.int .i64 n] w fun e w'=>e=.returned (.string ⟨(Lib.decDigits n).toArray⟩)∧Below w.heap.size w w':=by
 have hcv:(convert 22 9 (.slice (some ⟨w.heap.size,0,none⟩) 1 1)).run Tryz.prog (w.alloc (.cells #[.int .u8 (48+(n:Int))] 5))=.ok (.string ⟨(Lib.decDigits n).toArray⟩) (w.alloc (.cells #[.int .u8 (48+(n:Int))] 5)):=by
  rw [conv_one _ _ (48+n) (by rw [World.cell?_alloc_at _ _ _ _ rfl];simp),Lib.decDigits,dif_pos h10]
 go_enter Tryz.func23,Tryz.ntmps23
 go_wp2_with fail
 go_ret
 exact ⟨rfl,bA⟩
set_option maxRecDepth 100000 in
set_option maxHeartbeats 400000 in
theorem decS_step (n m d:Nat)(X Y:ByteArray)(w:World)(hn:(n:Int)<=100000000000000)(h10:(10:Int)<=n)(hm:(n:Int) / 10=m)(hd:(n:Int) % 10=d)
  (hX:X.size<=20) (hY:Y.size=1)
  (hcv:∀ (W:World) (B:Nat),W.cell? ⟨B,0,none⟩=some (.int .u8 (48+(d:Int)))->(convert 22 9 (.slice (some ⟨B,0,none⟩) 1 1)).run Tryz.prog W=.ok (.string Y) W)
  (ih:Hid (∀ W:World,Calls Tryz.prog 23 #[.int .i64 m] W fun e w'=>e=.returned (.string X)∧Below W.heap.size W w')) :
  Calls Tryz.prog 23 #[.int .i64 n] w fun e w'=>e=.returned (.string (X ++ Y))∧Below w.heap.size w w':=by
 have ew1:IntKind.i64.wrap ((n:Int) / 10)=m:=by rw [IntKind.wrap_i64];omega
 have ew2:(n:Int).tmod 10=d:=by rw [Int.tmod_eq_emod_of_nonneg (by omega),hd]
 have ew3:IntKind.i64.wrap (48+(d:Int))=48+d:=by rw [IntKind.wrap_i64];omega
 have ew4:IntKind.u8.wrap (48+(d:Int))=48+d:=by rw [IntKind.wrap_u8];omega
 have hxy:¬ 9223372036854775807<X.size+Y.size:=by omega
 have hb0:Below w.heap.size w w:=Below.refl _ _
 clear hm hd hX hY
 go_enter Tryz.func23,Tryz.ntmps23
 go_wp2_with fail
 go_region_with (go_at_call 23;go_fit (ih.out _);rintro e w1 ⟨rfl,hb1⟩;first|(have hcx:w1.cell? ⟨w.heap.size,0,none⟩=some (.int .u8 (48+(d:Int))):=(hb1.cell (by simp)).trans (World.cell?_alloc_at _ _ _ _ rfl))|skip)
 all_goals
  go_wp2
  go_ret
  first
   | exact ⟨rfl,(hb0.drew.trans hb1).alloc (hb0.drew.trans hb1).size _⟩
   | exact ⟨rfl,((hb0.alloc (Nat.le_refl _) _).drew).trans (hb1.mono (by simp))⟩
theorem decS_nat:∀ (k n:Nat) (w:World),n<=k->(n:Int)<=100000000000000 →
  Calls Tryz.prog 23 #[.int .i64 n] w fun e w'=>e=.returned (.string ⟨(Lib.decDigits n).toArray⟩)∧Below w.heap.size w w':=by
 intro k
 induction k with
 | zero =>
  intro n w hk _
  exact decS_small n w (by omega)
 | succ k ih =>
  intro n w hk hn
  by_cases h10:n<10
  ·exact decS_small n w h10
  ·have hs:(⟨(Lib.decDigits (n / 10)).toArray⟩:ByteArray).size<=20:=by
    show (Lib.decDigits (n / 10)).toArray.size<=20
    rw [List.size_toArray,Lib.decDigits_length]
    exact Lib.nDigits_le20 _ (by omega)
   refine (decS_step n (n / 10) (n % 10) ⟨(Lib.decDigits (n / 10)).toArray⟩ ⟨#[UInt8.ofNat (48+n % 10)]⟩ w hn (by omega) (by omega) (by omega) hs rfl
    (fun W B h=>conv_one W B (48+n % 10) (by rw [h];simp)) (fun W=>ih (n / 10) W (by omega) (by omega))).mono ?_
   rintro e w' ⟨rfl,hb⟩
   refine ⟨ret_str ?_,hb⟩
   rw [Lib.decDigits.eq_1 n,dif_neg h10,ByteArray.mk_append_mk]
def usr (k:Nat):ByteArray:=if k % 4=0 then ⟨#[64,97]⟩ else if k % 4=1 then ⟨#[64,98]⟩ else if k % 4=2 then ⟨#[64,99]⟩ else ⟨#[64,100]⟩
set_option maxRecDepth 100000 in
set_option maxHeartbeats 1000000 in
theorem userF (k:Nat)(w:World)(hk:k<1000):Calls Tryz.prog 24 #[.int .i64 (k:Int)] w (fun e w'=>e=.returned (.string (usr k))∧Below w.heap.size w w'):=by
 have h4:k % 4<4:=Nat.mod_lt _ (by decide)
 have hm:(k:Int) % 4=((k % 4:Nat):Int):=by omega
 unfold usr
 generalize k % 4=q at *
 match q,h4 with
 | 0,_=>go_enter Tryz.func24,Tryz.ntmps24;go_wp2;go_ret;exact ⟨by rfl,Below.refl _ _⟩
 | 1,_=>go_enter Tryz.func24,Tryz.ntmps24;go_wp2;go_ret;exact ⟨by rfl,Below.refl _ _⟩
 | 2,_=>go_enter Tryz.func24,Tryz.ntmps24;go_wp2;go_ret;exact ⟨by rfl,Below.refl _ _⟩
 | 3,_=>go_enter Tryz.func24,Tryz.ntmps24;go_wp2;go_ret;exact ⟨by rfl,Below.refl _ _⟩
theorem usr_size (k:Nat):(usr k).size=2:=by
 unfold usr
 repeat' split
 all_goals rfl
def decB (n:Nat):ByteArray:=⟨(Lib.decDigits n).toArray⟩
theorem decF (n:Nat)(h:n<=1000)(W:World):Calls Tryz.prog 23 #[.int .i64 (n:Int)] W fun e w'=>e=.returned (.string (decB n))∧Below W.heap.size W w':=decS_nat n n W (Nat.le_refl _) (by omega)
theorem decB_size (n:Nat)(h:n<=1000):(decB n).size<=20:=by show (Lib.decDigits n).toArray.size<=20;rw [List.size_toArray,Lib.decDigits_length];exact Lib.nDigits_le20 n (by omega)
def mVal (i:Nat):ByteArray:=if i=0 then ⟨#[106,111,105,110]⟩ else if i=1 then ⟨#[105,110,118,105,116,101]⟩ else if i=2 then ⟨#[108,101,97,118,101]⟩ else ⟨#[98,97,110]⟩
def jVal (i:Nat):ByteArray:=if i=0 then ⟨#[112,117,98,108,105,99]⟩ else ⟨#[105,110,118,105,116,101]⟩
def cnE (k : Nat) (l : List (ByteArray × Int)) (e : Ev) : Ev :=
  if k % 8 < 3 then
    (if 0 < k % 8 ∨ 128 <= k then { e with st := true, ty := ⟨#[109, 101, 109, 98, 101, 114]⟩, key := usr (k / 8), val := mVal (k / 32 % 4) }
     else { e with st := true, ty := ⟨#[109, 101, 109, 98, 101, 114]⟩, key := e.sd, val := ⟨#[106, 111, 105, 110]⟩ })
  else if k % 8 = 3 then { e with st := true, ty := ⟨#[112, 111, 119, 101, 114]⟩, ng := l.length, M := gM l, L := gL l }
  else if k % 8 = 4 then { e with st := true, ty := ⟨#[106, 111, 105, 110, 95, 114, 117, 108, 101, 115]⟩, val := jVal (k / 8 % 2) }
  else if k % 8 < 7 then
    (if k % 16 = 5 then { e with st := true, ty := ⟨#[116, 111, 112, 105, 99]⟩, key := usr (k / 16), val := ⟨#[116]⟩ ++ decB (k / 16) }
     else { e with st := true, ty := ⟨#[116, 111, 112, 105, 99]⟩, val := ⟨#[116]⟩ ++ decB (k / 16) })
  else { e with st := false, ty := ⟨#[109, 115, 103]⟩ }
def cnQ (bs:Nat->Nat)(m q k:Nat):Nat:=if k % 8=3 then (gDr bs m q).1 else q
def cDr (bs:Nat->Nat)(m q:Nat)(e:Ev):Ev:=cnE (nxB bs m q) (gDr bs m (nxQ m q)).2 e
def cQr (bs:Nat->Nat)(m q:Nat):Nat:=cnQ bs m (nxQ m q) (nxB bs m q)
def CtPost (p:Nat)(w:World)(bs:Nat->Nat)(m q:Nat)(e:Ev)(pa:Option Addr)(cp:Nat)(aa:Option Addr)(ca:Nat)(ga:Option Addr)(cg:Nat)(x:Ending)(w':World):Prop :=
 ∃ ga' cg',x=.returned ((cDr bs m q e).val' pa cp aa ca ga' cg')∧((ga'=ga∧cg'=cg∧(cDr bs m q e).ng=e.ng∧(cDr bs m q e).M=e.M∧(cDr bs m q e).L=e.L)∨OwnG w' w.heap.size (.slice ga' (cDr bs m q e).ng cg') (cDr bs m q e).ng (cDr bs m q e).M (cDr bs m q e).L)∧DwF p w w' bs m (cQr bs m q)
structure EvB (p:Nat)(w W:World)(bs:Nat->Nat)(m q:Nat)(c:Nat->Value):Prop where
 b:∀ o,o<10->W.cell? ⟨w.heap.size,o,none⟩=some (c o)
 z:∀ o,o<10->∃ v,W.cell? ⟨w.heap.size+1,o,none⟩=some v
 f0:∀ o,W.frozen? ⟨w.heap.size,o,none⟩=false
 f1:∀ o,W.frozen? ⟨w.heap.size+1,o,none⟩=false
 sz:w.heap.size+2<=W.heap.size
 dw:DwF p w W bs m q
theorem EvB.set {p:Nat}{w W:World}{bs:Nat->Nat}{m q:Nat}{c:Nat->Value}(h:EvB p w W bs m q c)(hp:p<w.heap.size)(o:Nat)(ho:o<10)(x:Value):EvB p w (W.setCell ⟨w.heap.size,o,none⟩ x) bs m q (fun i=>if i=o then x else c i):=by
 refine ⟨fun i hi=>?_,fun i hi=>?_,fun i=>by rw [World.frozen?_setCell];exact h.f0 i,fun i=>by rw [World.frozen?_setCell];exact h.f1 i,by have:=h.sz;simpa [World.setCell] using this,h.dw.own (Nat.le_refl _) hp o x⟩
 ·by_cases e:i=o
  ·subst e;rw [if_pos rfl];exact set_same ⟨_,h.b i hi⟩
  ·rw [if_neg e,set_far (by omega)];exact h.b i hi
 ·obtain ⟨v,hv⟩:=h.z i hi
  exact ⟨v,by rw [far_block (by omega)];exact hv⟩
theorem EvB.below {p:Nat}{w W W':World}{bs:Nat->Nat}{m q:Nat}{c:Nat->Value}(h:EvB p w W bs m q c)(hb:Below W.heap.size W W'):EvB p w W' bs m q c :=
 ⟨fun i hi=>(hb.cell (by show w.heap.size<W.heap.size;have:=h.sz;omega)).trans (h.b i hi),fun i hi=>(h.z i hi).imp fun v hv=>(hb.cell (by show w.heap.size+1<W.heap.size;have:=h.sz;omega)).trans hv,fun i=>(hb.frozen (by show w.heap.size<W.heap.size;have:=h.sz;omega)).trans (h.f0 i),fun i=>(hb.frozen (by show w.heap.size+1<W.heap.size;have:=h.sz;omega)).trans (h.f1 i),Nat.le_trans h.sz hb.size,h.dw.below hb⟩
theorem EvB.draw {p:Nat}{w W W':World}{bs:Nat->Nat}{m q q':Nat}{c:Nat->Value}(h:EvB p w W bs m q c)(hp:p<w.heap.size)(hd:DwF p W W' bs m q'):EvB p w W' bs m q' c:=by
 have hk:∀ b o,w.heap.size<=b->b<w.heap.size+2->W'.cell? ⟨b,o,none⟩=W.cell? ⟨b,o,none⟩:=fun b o h1 h2=>World.cell?_of_block (a:=⟨b,o,none⟩) (hd.2.block b (by have:=h.sz;omega) (fun q=>by injection q with q;omega))
 have hz:∀ b o,w.heap.size<=b->b<w.heap.size+2->W'.frozen? ⟨b,o,none⟩=W.frozen? ⟨b,o,none⟩:=fun b o h1 h2=>hd.2.frozen_far ⟨b,o,none⟩ (by show b<W.heap.size;have:=h.sz;omega) (fun q=>absurd (Option.some.inj q) (by show b≠p;omega))
 exact ⟨fun i hi=>(hk _ _ (by omega) (by omega)).trans (h.b i hi),fun i hi=>(h.z i hi).imp fun v hv=>(hk _ _ (by omega) (by omega)).trans hv,fun i=>(hz _ _ (by omega) (by omega)).trans (h.f0 i),fun i=>(hz _ _ (by omega) (by omega)).trans (h.f1 i),Nat.le_trans h.sz hd.size,h.dw.trans hd⟩
theorem evB_new {p:Nat}{w:World}{bs:Nat->Nat}{m q:Nat}{cs:Array Value}{t:TypeId}(h:RdF w p bs m q)(hc:cs.size=10):EvB p w ((w.alloc (.cells cs t)).alloc (.cells #[.string ⟨#[]⟩,.string ⟨#[]⟩,.string ⟨#[]⟩,.bool false,.string ⟨#[]⟩,.int .i64 0,.slice none 0 0,.slice none 0 0,.string ⟨#[]⟩,.slice none 0 0] 29)) bs m q (fun o=>cs[o]?.getD undef):=by
 have hb:Below w.heap.size w ((w.alloc (.cells cs t)).alloc (.cells #[.string ⟨#[]⟩,.string ⟨#[]⟩,.string ⟨#[]⟩,.bool false,.string ⟨#[]⟩,.int .i64 0,.slice none 0 0,.slice none 0 0,.string ⟨#[]⟩,.slice none 0 0] 29)):=bA.alloc (by simp) _
 refine ⟨fun o ho=>?_,fun o ho=>?_,fun o=>?_,fun o=>World.frozen?_alloc_at _ _ _ _ (by simp),by simp,(DwF.refl h).below hb⟩
 ·rw [World.cell?_alloc_past _ _ _ (by simp),World.cell?_alloc_at _ _ _ _ rfl,Array.getElem?_eq_getElem (by omega)]
  rfl
 ·rw [World.cell?_alloc_at _ _ _ _ (by simp)]
  match o,ho with
  | 0,_=>exact ⟨_,rfl⟩
  | 1,_=>exact ⟨_,rfl⟩
  | 2,_=>exact ⟨_,rfl⟩
  | 3,_=>exact ⟨_,rfl⟩
  | 4,_=>exact ⟨_,rfl⟩
  | 5,_=>exact ⟨_,rfl⟩
  | 6,_=>exact ⟨_,rfl⟩
  | 7,_=>exact ⟨_,rfl⟩
  | 8,_=>exact ⟨_,rfl⟩
  | 9,_=>exact ⟨_,rfl⟩
 ·rw [World.frozen?_alloc_past _ _ _ (by simp)]
  exact World.frozen?_alloc_at _ _ _ _ rfl
theorem Tryz.infoEntry:(Tryz.prog.info? 86).map (fun i=>(i.zero,i.size,i.bytes))=some (some (.agg #[.string ByteArray.empty,.string ByteArray.empty,.string ByteArray.empty]),3,48):=by kernel_rfl
def encE (e:Ent):List Value:=[.string e.ty,.string e.key,.string e.id]
def encL (l:List Ent):List Value:=l.flatMap encE
theorem encL_len (l:List Ent):(encL l).length=l.length * 3:=by
 induction l with
 | nil=>rfl
 | cons x l ih=>simp only [encL,List.flatMap_cons,List.length_append,List.length_cons] at ih ⊢;rw [ih];simp [encE];omega
theorem encL_snoc (l:List Ent)(e:Ent):encL l ++ encE e=encL (l ++ [e]):=by simp [encL]
theorem encL_get (l:List Ent)(i:Nat)(h:i<l.length):(encL l)[i * 3]?=some (.string (eAt l i).ty)∧(encL l)[i * 3+1]?=some (.string (eAt l i).key)∧(encL l)[i * 3+2]?=some (.string (eAt l i).id):=by
 induction l generalizing i with
 | nil=>exact absurd h (Nat.not_lt_zero _)
 | cons x l ih =>
  cases i with
  | zero=>simp [encL,encE,eAt]
  | succ i =>
   have:=ih i (by simpa using h)
   have e1:encL (x :: l)=.string x.ty :: .string x.key :: .string x.id :: encL l:=by simp [encL,encE]
   have e2:eAt (x :: l) (i+1)=eAt l i:=by simp [eAt]
   rw [e1,e2,show (i+1) * 3=i * 3+3 by omega]
   simpa using this
def OwnE (w:World)(base:Nat)(v:Value)(l:List Ent):Prop:=w.ownsRow base 86 3 v l.length (encL l)
theorem ownsRow_below {w w':World}{base e size n:Nat}{v:Value}{xs:List Value}(h:w.ownsRow base e size v n xs)(hb:Below w.heap.size w w'):w'.ownsRow base e size v n xs:=by
 obtain ⟨h1,h2⟩:=h
 refine ⟨h1,?_⟩
 rcases h2 with h2|⟨g,cap,cur,hv,hg,hh,r⟩
 ·exact Or.inl h2
 ·have hlt:g<w.heap.size:=by
   rcases Nat.lt_or_ge g w.heap.size with h'|h'
   ·exact h'
   ·rw [Array.getElem?_eq_none h'] at hh;cases hh
  exact Or.inr ⟨g,cap,cur,hv,hg,by rw [hb.block g hlt];exact hh,r⟩
theorem OwnE.below {w w':World}{base:Nat}{v:Value}{l:List Ent}(h:OwnE w base v l)(hb:Below w.heap.size w w'):OwnE w' base v l:=ownsRow_below h hb
theorem OwnE.sl {w:World}{base:Nat}{v:Value}{l:List Ent}(h:OwnE w base v l)(hs:∀ i,i<l.length->(eAt l i).ty.size<=maxLen∧(eAt l i).key.size<=maxLen∧(eAt l i).id.size<=maxLen) :
  ∃ a cap,v=.slice a l.length cap∧SlE w a cap l:=by
 obtain ⟨h1,h2⟩:=h
 rcases h2 with ⟨rfl,h0⟩|⟨g,cap,cur,rfl,hg,hh,hn,hc,hcs,hx⟩
 ·have:l=[]:=List.eq_nil_of_length_eq_zero h0
  subst this
  exact ⟨none,0,rfl,⟨Nat.le_refl _,by decide,hs,Or.inl rfl⟩⟩
 ·refine ⟨_,cap,rfl,⟨hn,hc,hs,?_⟩⟩
  by_cases h0:l=[]
  ·exact Or.inl h0
  ·have hlt:g<w.heap.size:=by
    rcases Nat.lt_or_ge g w.heap.size with h'|h'
    ·exact h'
    ·rw [Array.getElem?_eq_none h'] at hh;cases hh
   have hcell:∀ j,j<l.length * 3->w.cell? ⟨g,0+j,none⟩=(encL l)[j]?:=by
    intro j hj
    rw [<- hx,List.getElem?_take,if_pos hj,Nat.zero_add]
    simp [World.cell?,hh]
   exact Or.inr ⟨g,0,rfl,hlt,fun i hi=>by rw [hcell _ (by omega)];exact (encL_get l i hi).1,fun i hi=>by rw [Nat.add_assoc,hcell _ (by omega)];exact (encL_get l i hi).2.1,fun i hi=>by rw [Nat.add_assoc,hcell _ (by omega)];exact (encL_get l i hi).2.2⟩
end Go.Proofs.YtnbdlaglnefcbaaGreat
