import Derived.Test.YtkdalopokdhndaaGreatDgGZ
import Derived.Deep.DeepCutAuto
import Derived.Deep.CutBlock
set_option maxHeartbeats 16000000
set_option maxRecDepth 100000
namespace Go.Proofs.YtkdalopokdhndaaGreat
open Go.RowKit
variable {m p q q':Nat}{W w W':World}{bs:Nat->Nat}{cs:Array Value}
def usr (k:Nat):ByteArray:=if k % 4=0 then ⟨#[64,97]⟩ else if k % 4=1 then ⟨#[64,98]⟩ else if k % 4=2 then ⟨#[64,99]⟩ else ⟨#[64,100]⟩
theorem userF (k:Nat)(w:World)(hk:k<1000):Calls Tryz.prog 124 #[.int .i64 (k:Int)] w (fun e w'=>e=.returned (.string (usr k))∧Below w.heap.size w w'):=by
 have h4:k % 4<4:=Nat.mod_lt _ (by decide);have hm:(k:Int) % 4=((k % 4:Nat):Int):=by omega
 unfold usr;generalize k % 4=q at *
 match q,h4 with
 | 0,_=>go_enter Tryz.func124,Tryz.ntmps124;go_wp2;go_ret;exact ⟨by rfl,kB⟩
 | 1,_=>go_enter Tryz.func124,Tryz.ntmps124;go_wp2;go_ret;exact ⟨by rfl,kB⟩
 | 2,_=>go_enter Tryz.func124,Tryz.ntmps124;go_wp2;go_ret;exact ⟨by rfl,kB⟩
 | 3,_=>go_enter Tryz.func124,Tryz.ntmps124;go_wp2;go_ret;exact ⟨by rfl,kB⟩
theorem usr_size (k:Nat):(usr k).size=2:=by
 unfold usr
 repeat' split
 all_goals rfl
def decB (n:Nat):ByteArray:=⟨(Lib.decDigits n).toArray⟩
theorem decF (n:Nat)(h:n<=1000)(W:World):Calls Tryz.prog 123 #[.int .i64 (n:Int)] W fun e w'=>e=.returned (.string (decB n))∧Below W.heap.size W w':=decS_nat n n W nL (by omega)
theorem decB_size (n:Nat)(h:n<=1000):(decB n).size<=20:=by show (Lib.decDigits n).toArray.size<=20;rw [List.size_toArray,Lib.decDigits_length];exact Lib.nDigits_le20 n (by omega)
def mVal (i:Nat):ByteArray:=if i=0 then ⟨#[106,111,105,110]⟩ else if i=1 then ⟨#[105,110,118,105,116,101]⟩ else if i=2 then ⟨#[108,101,97,118,101]⟩ else ⟨#[98,97,110]⟩
def jVal (i:Nat):ByteArray:=if i=0 then ⟨#[112,117,98,108,105,99]⟩ else ⟨#[105,110,118,105,116,101]⟩
def cnE (k : Nat) (l : List (ByteArray × Int)) (e : Ev) : Ev :=
  if k % 8 < 3 then
    (if 0 < k % 8 ∨ 128 <= k then { e with st := true, ty := ⟨#[109, 101, 109, 98, 101, 114]⟩, key := usr (k / 8), val := mVal (k / 32 % 4) }
     else { e with st := true, ty := ⟨#[109, 101, 109, 98, 101, 114]⟩, key := e.sd, val := ⟨#[106, 111, 105, 110]⟩ })
  else if k % 8 = 3 then { e with st := true, ty := ⟨#[112, 111, 119, 101, 114]⟩, ng := l.length, M := gM l, L := gL l }
  else if k % 8 = 4 then { e with st := true, ty := ⟨#[106, 111, 105, 110, 95, 114, 117, 108, 101, 115]⟩, val := jVal (k / 8 % 2) }
  else if k % 8 < 7 then
    (if k % 16 = 5 then { e with st := true, ty := ⟨#[116, 111, 112, 105, 99]⟩, key := usr (k / 16), val := ⟨#[116]⟩ ++ decB (k / 16) }
     else { e with st := true, ty := ⟨#[116, 111, 112, 105, 99]⟩, val := ⟨#[116]⟩ ++ decB (k / 16) })
  else { e with st := false, ty := ⟨#[109, 115, 103]⟩ }
def cnQ (bs:Nat->Nat)(m q k:Nat):Nat:=if k % 8=3 then (gDr bs m q).1 else q
def cDr (bs:Nat->Nat)(m q:Nat)(e:Ev):Ev:=cnE (nxB bs m q) (gDr bs m (nxQ m q)).2 e
def cQr (bs:Nat->Nat)(m q:Nat):Nat:=cnQ bs m (nxQ m q) (nxB bs m q)
def CtPost (p:Nat)(w:World)(bs:Nat->Nat)(m q:Nat)(e:Ev)(pa:Option Addr)(cp:Nat)(aa:Option Addr)(ca:Nat)(ga:Option Addr)(cg:Nat)(x:Ending)(w':World):Prop :=
 ∃ ga' cg',x=.returned ((cDr bs m q e).val' pa cp aa ca ga' cg')∧((ga'=ga∧cg'=cg∧(cDr bs m q e).ng=e.ng∧(cDr bs m q e).M=e.M∧(cDr bs m q e).L=e.L)∨OwnG w' w.heap.size (.slice ga' (cDr bs m q e).ng cg') (cDr bs m q e).ng (cDr bs m q e).M (cDr bs m q e).L)∧DwF p w w' bs m (cQr bs m q)
structure EvB (p:Nat)(w W:World)(bs:Nat->Nat)(m q:Nat)(c:Nat->Value):Prop where
 b:∀ o,o<10->W.cell? ⟨w.heap.size,o,none⟩=some (c o)
 z:∀ o,o<10->∃ v,W.cell? ⟨w.heap.size+1,o,none⟩=some v
 f0:∀ o,W.frozen? ⟨w.heap.size,o,none⟩=false
 f1:∀ o,W.frozen? ⟨w.heap.size+1,o,none⟩=false
 sz:w.heap.size+2<=W.heap.size
 dw:DwF p w W bs m q
theorem EvB.set {c:Nat->Value}(h:EvB p w W bs m q c)(hp:p<w.heap.size)(o:Nat)(ho:o<10)(x:Value):EvB p w (W.setCell ⟨w.heap.size,o,none⟩ x) bs m q (fun i=>if i=o then x else c i):=by
 refine ⟨fun i hi=>?_,fun i hi=>?_,fun i=>by rw [World.frozen?_setCell];exact h.f0 i,fun i=>by rw [World.frozen?_setCell];exact h.f1 i,by have:=h.sz;simpa [World.setCell] using this,h.dw.own nL hp o x⟩
 ·by_cases e:i=o
  ·subst e;rw [if_pos rfl];exact set_same ⟨_,h.b i hi⟩
  rw [if_neg e,set_far (by omega)];exact h.b i hi
 obtain ⟨v,hv⟩:=h.z i hi;exact ⟨v,by rw [far_block (by omega)];exact hv⟩
theorem EvB.below {c:Nat->Value}(h:EvB p w W bs m q c)(hb:Below W.heap.size W W'):EvB p w W' bs m q c :=
 ⟨fun i hi=>(hb.cell (by show w.heap.size<W.heap.size;have:=h.sz;omega)).trans (h.b i hi),fun i hi=>(h.z i hi).imp fun v hv=>(hb.cell (by show w.heap.size+1<W.heap.size;have:=h.sz;omega)).trans hv,fun i=>(hb.frozen (by show w.heap.size<W.heap.size;have:=h.sz;omega)).trans (h.f0 i),fun i=>(hb.frozen (by show w.heap.size+1<W.heap.size;have:=h.sz;omega)).trans (h.f1 i),nZ h.sz hb.size,h.dw.below hb⟩
theorem EvB.draw {c:Nat->Value}(h:EvB p w W bs m q c)(hp:p<w.heap.size)(hd:DwF p W W' bs m q'):EvB p w W' bs m q' c:=by
 have hk:∀ b o,w.heap.size<=b->b<w.heap.size+2->W'.cell? ⟨b,o,none⟩=W.cell? ⟨b,o,none⟩:=fun b o h1 h2=>World.cell?_of_block (a:=⟨b,o,none⟩) (hd.2.block b (by have:=h.sz;omega) (fun q=>by injection q with q;omega))
 have hz:∀ b o,w.heap.size<=b->b<w.heap.size+2->W'.frozen? ⟨b,o,none⟩=W.frozen? ⟨b,o,none⟩:=fun b o h1 h2=>hd.2.frozen_far ⟨b,o,none⟩ (by show b<W.heap.size;have:=h.sz;omega) (fun q=>absurd (Option.some.inj q) (by show b≠p;omega))
 exact ⟨fun i hi=>(hk _ _ (by omega) (by omega)).trans (h.b i hi),fun i hi=>(h.z i hi).imp fun v hv=>(hk _ _ (by omega) (by omega)).trans hv,fun i=>(hz _ _ (by omega) (by omega)).trans (h.f0 i),fun i=>(hz _ _ (by omega) (by omega)).trans (h.f1 i),nZ h.sz hd.size,h.dw.trans hd⟩
theorem evB_new {t:TypeId}(h:RdF w p bs m q)(hc:cs.size=10):EvB p w ((w.alloc (.cells cs t)).alloc (.cells #[.string ⟨#[]⟩,.string ⟨#[]⟩,.string ⟨#[]⟩,.bool false,.string ⟨#[]⟩,.int .i64 0,.slice none 0 0,.slice none 0 0,.string ⟨#[]⟩,.slice none 0 0] 30)) bs m q (fun o=>cs[o]?.getD undef):=by
 have hb:Below w.heap.size w ((w.alloc (.cells cs t)).alloc (.cells #[.string ⟨#[]⟩,.string ⟨#[]⟩,.string ⟨#[]⟩,.bool false,.string ⟨#[]⟩,.int .i64 0,.slice none 0 0,.slice none 0 0,.string ⟨#[]⟩,.slice none 0 0] 30)):=bA.alloc (by simp) _;refine ⟨fun o ho=>?_,fun o ho=>?_,fun o=>?_,fun o=>kF (by simp),by simp,(DwF.refl h).below hb⟩
 ·rw [World.cell?_alloc_past _ _ _ (by simp),kA rfl,Array.getElem?_eq_getElem (by omega)]
  rfl
 ·rw [kA (by simp)]
  match o,ho with
  | 0,_=>exact ⟨_,rfl⟩
  | 1,_=>exact ⟨_,rfl⟩
  | 2,_=>exact ⟨_,rfl⟩
  | 3,_=>exact ⟨_,rfl⟩
  | 4,_=>exact ⟨_,rfl⟩
  | 5,_=>exact ⟨_,rfl⟩
  | 6,_=>exact ⟨_,rfl⟩
  | 7,_=>exact ⟨_,rfl⟩
  | 8,_=>exact ⟨_,rfl⟩
  | 9,_=>exact ⟨_,rfl⟩
 rw [World.frozen?_alloc_past _ _ _ (by simp)];exact kF rfl
theorem Tryz.infoEntry:(Tryz.prog.info? 79).map (fun i=>(i.zero,i.size,i.bytes))=some (some (.agg #[.string ByteArray.empty,.string ByteArray.empty,.string ByteArray.empty]),3,48):=by kernel_rfl
variable {w':World}{n base size:Nat}{v:Value}{xs:List Value}{l:List Ent}
def encE (e:Ent):List Value:=[.string e.ty,.string e.key,.string e.id]
def encL (l:List Ent):List Value:=l.flatMap encE
theorem encL_len (l:List Ent):(encL l).length=l.length * 3:=by
 induction l with
 | nil=>rfl
 | cons x l ih=>simp only [encL,List.flatMap_cons,List.length_append,List.length_cons] at ih ⊢;rw [ih];simp [encE];omega
theorem encL_snoc (l:List Ent)(e:Ent):encL l ++ encE e=encL (l ++ [e]):=by simp [encL]
theorem encL_get (l:List Ent)(i:Nat)(h:i<l.length):(encL l)[i * 3]?=some (.string (eAt l i).ty)∧(encL l)[i * 3+1]?=some (.string (eAt l i).key)∧(encL l)[i * 3+2]?=some (.string (eAt l i).id):=by
 induction l generalizing i with
 | nil=>exact absurd h (Nat.not_lt_zero _)
 | cons x l ih =>
  cases i with
  | zero=>simp [encL,encE,eAt]
  | succ i =>
   have:=ih i (by simpa using h);have e1:encL (x :: l)=.string x.ty :: .string x.key :: .string x.id :: encL l:=by simp [encL,encE]
   have e2:eAt (x :: l) (i+1)=eAt l i:=by simp [eAt]
   rw [e1,e2,show (i+1) * 3=i * 3+3 by omega];simpa using this
def OwnE (w:World)(base:Nat)(v:Value)(l:List Ent):Prop:=w.ownsRow base 79 3 v l.length (encL l)
theorem ownsRow_below {e:Nat}(h:w.ownsRow base e size v n xs)(hb:Below w.heap.size w w'):w'.ownsRow base e size v n xs:=by
 obtain ⟨h1,h2⟩:=h;refine ⟨h1,?_⟩;rcases h2 with h2|⟨g,cap,cur,hv,hg,hh,r⟩
 ·exact Or.inl h2
 have hlt:g<w.heap.size:=by
  rcases Nat.lt_or_ge g w.heap.size with h'|h'
  ·exact h'
  rw [Array.getElem?_eq_none h'] at hh;cases hh
 exact Or.inr ⟨g,cap,cur,hv,hg,by rw [hb.block g hlt];exact hh,r⟩
theorem OwnE.below (h:OwnE w base v l)(hb:Below w.heap.size w w'):OwnE w' base v l:=ownsRow_below h hb
theorem OwnE.sl (h:OwnE w base v l)(hs:∀ i,i<l.length->(eAt l i).ty.size<=maxLen∧(eAt l i).key.size<=maxLen∧(eAt l i).id.size<=maxLen) :
  ∃ a cap,v=.slice a l.length cap∧SlE w a cap l:=by
 obtain ⟨h1,h2⟩:=h;rcases h2 with ⟨rfl,h0⟩|⟨g,cap,cur,rfl,hg,hh,hn,hc,hcs,hx⟩
 ·have:l=[]:=List.eq_nil_of_length_eq_zero h0
  subst this;exact ⟨none,0,rfl,⟨nL,by decide,hs,Or.inl rfl⟩⟩
 refine ⟨_,cap,rfl,⟨hn,hc,hs,?_⟩⟩
 by_cases h0:l=[]
 ·exact Or.inl h0
 have hlt:g<w.heap.size:=by
  rcases Nat.lt_or_ge g w.heap.size with h'|h'
  ·exact h'
  rw [Array.getElem?_eq_none h'] at hh;cases hh
 have hcell:∀ j,j<l.length * 3->w.cell? ⟨g,0+j,none⟩=(encL l)[j]?:=by
  intro j hj;rw [<- hx,List.getElem?_take,if_pos hj,Nat.zero_add];simp [World.cell?,hh]
 exact Or.inr ⟨g,0,rfl,hlt,fun i hi=>by rw [hcell _ (by omega)];exact (encL_get l i hi).1,fun i hi=>by rw [Nat.add_assoc,hcell _ (by omega)];exact (encL_get l i hi).2.1,fun i hi=>by rw [Nat.add_assoc,hcell _ (by omega)];exact (encL_get l i hi).2.2⟩
variable {base':Nat}
def setL (l:List Ent)(e:Ent)(keep:Bool):List Ent :=
 (l.takeWhile fun x=>befB x e) ++ ((if keep || !e.id.toList.isEmpty then [e] else []) ++ l.filter fun x=>befB e x)
theorem takeWhile_at (l:List Ent)(p:Ent->Bool)(k:Nat)(hk:k<=l.length)(h0:∀ i,i<k->p (eAt l i)=true)(h1:k=l.length∨p (eAt l k)=false):l.takeWhile p=l.take k:=by
 induction l generalizing k with
 | nil=>simp
 | cons x l ih =>
  cases k with
  | zero =>
   rcases h1 with h1|h1
   ·simp at h1
   have:p x=false:=by simpa [eAt] using h1
   simp [this]
  | succ k =>
   have hx:p x=true:=by simpa [eAt] using h0 0 (by omega)
   have:=ih k (by simpa using hk) (fun i hi=>by simpa [eAt] using h0 (i+1) (by omega)) (by
    rcases h1 with h1|h1
    ·exact Or.inl (by simpa using h1)
    exact Or.inr (by simpa [eAt] using h1))
   simp [hx,this]
theorem take_snocE (l:List Ent)(k:Nat)(h:k<l.length):l.take (k+1)=l.take k ++ [eAt l k]:=by
 rw [List.take_succ_eq_append_getElem h,eAt_get l k h]
theorem filter_snocE (l:List Ent)(p:Ent->Bool)(k:Nat)(h:k<l.length):(l.take (k+1)).filter p=(l.take k).filter p ++ (if p (eAt l k) then [eAt l k] else []):=by
 rw [take_snocE l k h,List.filter_append];cases hp:p (eAt l k) <;> simp [hp]
theorem heap_alloc_new2 (w:World)(o o2:Obj):((w.alloc o).alloc o2).heap[w.heap.size+1]?=some o2:=by
 show ((w.heap.push o).push o2)[w.heap.size+1]?=_
 rw [Array.getElem?_push,if_pos (by simp)]
theorem encE_cells (w1:World)(x:Ent)(t:TypeId)(j:Nat)(u:Value)(h:(encE x)[j]?=some u):(w1.alloc (.cells #[.string x.ty,.string x.key,.string x.id] t)).cell? ((⟨w1.heap.size,0,none⟩:Addr).add j)=some u:=by
 have hj:j<3:=by
  rcases Nat.lt_or_ge j 3 with h'|h'
  ·exact h'
  rw [List.getElem?_eq_none (by simpa [encE] using h')] at h;cases h
 match j,hj,h with
 | 0,_,h=>rw [show (⟨w1.heap.size,0,none⟩:Addr).add 0=⟨w1.heap.size,0,none⟩ from rfl,kA rfl];exact h
 | 1,_,h=>rw [show (⟨w1.heap.size,0,none⟩:Addr).add 1=⟨w1.heap.size,1,none⟩ from rfl,kA rfl];exact h
 | 2,_,h=>rw [show (⟨w1.heap.size,0,none⟩:Addr).add 2=⟨w1.heap.size,2,none⟩ from rfl,kA rfl];exact h
theorem encE_one (x:Ent)(u:Value)(h:u ∈ encE x):u.oneCell'=true:=by
 simp only [encE,List.mem_cons,List.not_mem_nil,or_false] at h;rcases h with rfl|rfl|rfl <;> rfl
theorem OwnE.row (h:OwnE w base v l)(k:Nat)(hk:v.ownBlock=some k):base<=k:=by
 rcases h.2 with ⟨rfl,_⟩|⟨g,cap,cur,rfl,hg,_⟩
 ·cases hk
 cases hk;exact hg
theorem OwnE.snoc {x:Ent}(h:w.ownsRow base 79 3 v n (encL l ++ encE x))(hn:n=l.length+1):OwnE w base v (l ++ [x]):=by
 subst hn;rw [encL_snoc] at h;unfold OwnE;rw [List.length_append];exact h
theorem setHead_len (l:List Ent)(e0:Ent)(keep:Bool)(k:Nat):(((l.takeWhile fun x=>befB x e0) ++ (if (keep || !e0.id.toList.isEmpty) then [e0] else [])) ++ (l.take k).filter fun x=>befB e0 x).length<=l.length+(1+l.length):=by
 rw [List.length_append,List.length_append];have h1:(l.takeWhile fun x=>befB x e0).length<=l.length:=(List.takeWhile_sublist _).length_le;have h2:((l.take k).filter fun x=>befB e0 x).length<=l.length:=nZ (List.length_filter_le _ _) (by rw [List.length_take];omega);split
 ·rw [List.length_cons,List.length_nil];omega
 rw [List.length_nil];omega
theorem OwnE.base_le (h:OwnE w base v l)(hb:base'<=base):OwnE w base' v l:=by
 obtain ⟨h1,h2⟩:=h;refine ⟨h1,?_⟩;rcases h2 with h2|⟨g,cap,cur,hv,hg,r⟩
 ·exact Or.inl h2
 exact Or.inr ⟨g,cap,cur,hv,nZ hb hg,r⟩
theorem set_any (b off cap:Nat)(l:List Ent)(e0:Ent)(keep:Bool)(w:World)(hr:l.length<=1000000)(hb:b<w.heap.size)
  (c1:∀ i,i<l.length->w.cell? ⟨b,off+i * 3,none⟩=some (.string (eAt l i).ty)) (c2:∀ i,i<l.length->w.cell? ⟨b,off+i * 3+1,none⟩=some (.string (eAt l i).key)) (c3:∀ i,i<l.length->w.cell? ⟨b,off+i * 3+2,none⟩=some (.string (eAt l i).id)) :
  Calls Tryz.prog 38 #[.slice (some ⟨b,off,none⟩) l.length cap,entV e0,.bool keep] w fun e w'=>∃ v,e=.returned v∧OwnE w' w.heap.size v (setL l e0 keep)∧Below w.heap.size w w':=by
 obtain ⟨i0,hi,hz0,hz1,hz2⟩:=info_parts Tryz.infoEntry
 go_enter Tryz.func38,Tryz.ntmps38
 go_upto_block 0 with fail
 go_cut [7,8] from 10 (fun v i wr=>∃ k:Nat,k<=l.length∧i=.int .i64 k∧OwnE wr (w.heap.size+1) v (l.takeWhile fun x=>befB x e0)∧Below (w.heap.size+1) (w.alloc (.cells #[.string e0.ty,.string e0.key,.string e0.id] 79)) wr)
 case first =>
  go_wp2_with fail
  go_loopw [7,8] (fun v i wr=>∃ k:Nat,k<=l.length∧i=.int .i64 k∧OwnE wr (w.heap.size+1) v (l.take k)∧Hid (∀ i,i<k->befB (eAt l i) e0=true)∧Below (w.heap.size+1) (w.alloc (.cells #[.string e0.ty,.string e0.key,.string e0.id] 79)) wr) (fun _ i _=>l.length - (intOf i).toNat)
  case atStart=>exact ⟨0,nz,rfl,⟨rfl,Or.inr ⟨w.heap.size+1,0,#[],rfl,nL,by exact heap_alloc_new2 _ _ _,nL,by decide,rfl,rfl⟩⟩,fun i hi=>absurd hi (Nat.not_lt_zero _),kB.alloc (by simp) _⟩
  case round =>
   obtain ⟨k,hk,rfl,hown,hto,hbel⟩:=hrel;have hbox:=box_cells hbel;have hbw:b<w.heap.size+1:=by omega
   have hcell:∀ o,wr.cell? ⟨b,o,none⟩=w.cell? ⟨b,o,none⟩:=fun o=>(hbel.cell (by exact hbw)).trans (World.cell?_alloc_past _ _ _ hb)
   have hszr:w.heap.size+1<=wr.heap.size:=by simpa using hbel.size
   by_cases hlt:k<l.length
   ·have a1:wr.cell? ⟨b,off+k * 3,none⟩=some (.string (eAt l k).ty):=(hcell _).trans (c1 k hlt)
    have a2:wr.cell? ⟨b,off+k * 3+1,none⟩=some (.string (eAt l k).key):=(hcell _).trans (c2 k hlt);have a3:wr.cell? ⟨b,off+k * 3+2,none⟩=some (.string (eAt l k).id):=(hcell _).trans (c3 k hlt);have o1:wr.cell? ⟨w.heap.size,0,none⟩=some (.string e0.ty):=hbox 0;have o2:wr.cell? ⟨w.heap.size,1,none⟩=some (.string e0.key):=hbox 1;have o3:wr.cell? ⟨w.heap.size,2,none⟩=some (.string e0.id):=hbox 2;have hd:decide ((k:Int)<(l.length:Int))=true:=by simp;omega
    clear hcell hbox c1 c2 c3 hbw
    go_wp2_with fail
    go_region_with (go_at_call 92;refine (before_any (eAt l k) e0 _).mono ?_;rintro e w1 ⟨rfl,hb1⟩)
    all_goals
     have hb2:Below wr.heap.size wr w1:=Below.trans (by first|exact kB|exact kB.drew|exact kB.drew.drew) hb1;have hown1:=hown.below hb2;have hbel1:=hbel.trans (hb2.mono hszr);have hsz1:w.heap.size+1<=w1.heap.size:=by simpa using hbel1.size
     have q1:w1.cell? ⟨b,off+k * 3,none⟩=some (.string (eAt l k).ty):=(hb2.cell (by show b<_;omega)).trans a1;have q2:w1.cell? ⟨b,off+k * 3+1,none⟩=some (.string (eAt l k).key):=(hb2.cell (by show b<_;omega)).trans a2;have q3:w1.cell? ⟨b,off+k * 3+2,none⟩=some (.string (eAt l k).id):=(hb2.cell (by show b<_;omega)).trans a3;clear a1 a2 a3 o1 o2 o3 hb1 hb2 hown hbel hszr hd;have hm1:(l.take k).length+1<=maxLen:=by unfold maxLen;rw [List.length_take];omega
     have hm2:((l.take k).length+1) * 48<=140737488355328:=by rw [List.length_take];omega
     have hm3:∀ o,w.heap.size+1<=(w1.alloc o).heap.size:=fun o=>by simp;omega
     cases hB:befB (eAt l k) e0
     ·go_wp2
      go_meet;exact ⟨k,hk,rfl,by rw [takeWhile_at l _ k hk hto.out (Or.inr hB)];exact hown1,hbel1⟩
     go_wp2_with (at_builtin;refine wpList_append_own _ rfl _ _ 26 rfl (w.heap.size+1) 79 i0 (.agg #[.string ByteArray.empty,.string ByteArray.empty,.string ByteArray.empty]) 3 48 Tryz.underlying26 hi hz0 hz1 hz2 rfl (by decide) _ _ _ rfl (hown1.alloc _) ⟨w1.heap.size,0,none⟩ 1 1 (encE (eAt l k)) rfl rfl (encE_cells _ _ _) (encE_one _) hm1 hm2 (hm3 _) ?_;intro v2 w2 hown2 hgrow2 _)
     have hbel2:=(hbel1.alloc hsz1 _).grown hgrow2 (by simpa using Nat.le_succ_of_le hsz1) (fun k hk=>hown1.row k hk);have hown3:OwnE w2 (w.heap.size+1) v2 (l.take (k+1)):=by rw [take_snocE l k hlt];exact OwnE.snoc hown2 (by first|rfl|(simp;omega))
     clear hown2 hgrow2 hown1 hbel1 q1 q2 q3;go_wp2
     go_roundw
     case rel=>exact ⟨k+1,by omega,by go_num,hown3,fun i hi=>by (by_cases e:i=k;(subst e;exact hB);exact hto.out i (by omega)),hbel2⟩
     simp [intOf];omega
   have hd:decide ((k:Int)<(l.length:Int))=false:=by simp;omega
   clear hcell hbox c1 c2 c3 hbw
   go_wp2_with fail
   go_quiet (fail)
   go_wp2
   go_meet;exact ⟨k,hk,rfl,by rw [takeWhile_at l _ k hk hto.out (Or.inl (by omega))];exact hown.below (Dr.below ⟨_,rfl⟩ _),hbel.trans (Dr.below ⟨_,rfl⟩ _)⟩
 case rest =>
  obtain ⟨k1,hk1,rfl,hown,hbel⟩:=hcut;have hszc:w.heap.size+1<=wc.heap.size:=by simpa using hbel.size
  have hbox:=box_cells hbel;have o1:wc.cell? ⟨w.heap.size,0,none⟩=some (.string e0.ty):=hbox 0;have o2:wc.cell? ⟨w.heap.size,1,none⟩=some (.string e0.key):=hbox 1;have o3:wc.cell? ⟨w.heap.size,2,none⟩=some (.string e0.id):=hbox 2;clear hbox
  go_upto_region 6 with fail
  go_cut [37] from 10 (fun s wx=>s=.bool (keep || !e0.id.toList.isEmpty)∧OwnE wx (w.heap.size+1) u7 (l.takeWhile fun x=>befB x e0)∧Below (w.heap.size+1) (w.alloc (.cells #[.string e0.ty,.string e0.key,.string e0.id] 79)) wx)
  case first =>
   cases keep
   all_goals
    go_wp2
    go_meet;exact ⟨rfl,hown,hbel⟩
  case rest =>
   clear hown hbel o1 o2 o3 hszc;obtain ⟨rfl,hown,hbel⟩:=hcut;have hszc:w.heap.size+1<=wc.heap.size:=by simpa using hbel.size
   have hbox:=box_cells hbel;have o1:wc.cell? ⟨w.heap.size,0,none⟩=some (.string e0.ty):=hbox 0;have o2:wc.cell? ⟨w.heap.size,1,none⟩=some (.string e0.key):=hbox 1;have o3:wc.cell? ⟨w.heap.size,2,none⟩=some (.string e0.id):=hbox 2;clear hbox
   go_upto_if 37 with fail
   go_cut [7] from 10 (fun v wx=>OwnE wx (w.heap.size+1) v ((l.takeWhile fun x=>befB x e0) ++ (if (keep || !e0.id.toList.isEmpty) then [e0] else []))∧Below (w.heap.size+1) (w.alloc (.cells #[.string e0.ty,.string e0.key,.string e0.id] 79)) wx)
   case first =>
    have htw:(l.takeWhile fun x=>befB x e0).length<=l.length:=(List.takeWhile_sublist _).length_le;have hm1:(l.takeWhile fun x=>befB x e0).length+1<=maxLen:=by unfold maxLen;omega
    have hm2:((l.takeWhile fun x=>befB x e0).length+1) * 48<=140737488355328:=by omega
    have hm3:∀ o,w.heap.size+1<=(wc.alloc o).heap.size:=fun o=>by simp;omega
    cases hc:(keep || !e0.id.toList.isEmpty)
    ·go_wp2
     go_meet;exact ⟨by rw [hc,if_neg (by decide),List.append_nil];exact hown,hbel⟩
    clear htw
    go_wp2_with (at_builtin;refine wpList_append_own _ rfl _ _ 26 rfl (w.heap.size+1) 79 i0 (.agg #[.string ByteArray.empty,.string ByteArray.empty,.string ByteArray.empty]) 3 48 Tryz.underlying26 hi hz0 hz1 hz2 rfl (by decide) _ _ _ rfl (hown.alloc _) ⟨wc.heap.size,0,none⟩ 1 1 (encE e0) rfl rfl (encE_cells _ _ _) (encE_one _) hm1 hm2 (hm3 _) ?_;intro v2 w2 hown2 hgrow2 _)
    have hbel2:=(hbel.alloc hszc _).grown hgrow2 (by simpa using Nat.le_succ_of_le hszc) (fun k hk=>hown.row k hk);have hown3:=OwnE.snoc hown2 rfl;clear hown2 hgrow2;go_wp2
    go_meet;exact ⟨by rw [hc,if_pos rfl];exact hown3,hbel2⟩
   case rest =>
    clear hown hbel o1 o2 o3 hszc;obtain ⟨hown,hbel⟩:=hcut
    go_wp2_with fail
    go_loopw [7,9] (fun v i wr=>∃ k:Nat,k<=l.length∧i=.int .i64 k∧OwnE wr (w.heap.size+1) v (((l.takeWhile fun x=>befB x e0) ++ (if (keep || !e0.id.toList.isEmpty) then [e0] else [])) ++ (l.take k).filter fun x=>befB e0 x)∧Below (w.heap.size+1) (w.alloc (.cells #[.string e0.ty,.string e0.key,.string e0.id] 79)) wr) (fun _ i _=>l.length - (intOf i).toNat)
    case atStart=>exact ⟨0,nz,rfl,by simpa using hown,hbel⟩
    case round =>
     clear hown hbel;obtain ⟨k,hk,rfl,hown,hbel⟩:=hrel;have hbox:=box_cells hbel;have hcell:∀ o,wr.cell? ⟨b,o,none⟩=w.cell? ⟨b,o,none⟩:=fun o=>(hbel.cell (by exact Nat.lt_succ_of_lt hb)).trans (World.cell?_alloc_past _ _ _ hb)
     have hszr:w.heap.size+1<=wr.heap.size:=by simpa using hbel.size
     by_cases hlt:k<l.length
     ·have a1:wr.cell? ⟨b,off+k * 3,none⟩=some (.string (eAt l k).ty):=(hcell _).trans (c1 k hlt)
      have a2:wr.cell? ⟨b,off+k * 3+1,none⟩=some (.string (eAt l k).key):=(hcell _).trans (c2 k hlt);have a3:wr.cell? ⟨b,off+k * 3+2,none⟩=some (.string (eAt l k).id):=(hcell _).trans (c3 k hlt);have o1:wr.cell? ⟨w.heap.size,0,none⟩=some (.string e0.ty):=hbox 0;have o2:wr.cell? ⟨w.heap.size,1,none⟩=some (.string e0.key):=hbox 1;have o3:wr.cell? ⟨w.heap.size,2,none⟩=some (.string e0.id):=hbox 2;clear hcell hbox c1 c2 c3
      go_wp2_with fail
      go_region_with (go_at_call 92;refine (before_any e0 (eAt l k) _).mono ?_;rintro e w1 ⟨rfl,hb1⟩)
      all_goals
       have hb2:Below wr.heap.size wr w1:=Below.trans (by first|exact kB|exact kB.drew|exact kB.drew.drew) hb1;have hown1:=hown.below hb2;have hbel1:=hbel.trans (hb2.mono hszr);have hsz1:w.heap.size+1<=w1.heap.size:=by simpa using hbel1.size
       have q1:w1.cell? ⟨b,off+k * 3,none⟩=some (.string (eAt l k).ty):=(hb2.cell (by show b<_;omega)).trans a1;have q2:w1.cell? ⟨b,off+k * 3+1,none⟩=some (.string (eAt l k).key):=(hb2.cell (by show b<_;omega)).trans a2;have q3:w1.cell? ⟨b,off+k * 3+2,none⟩=some (.string (eAt l k).id):=(hb2.cell (by show b<_;omega)).trans a3;clear a1 a2 a3 o1 o2 o3 hb1 hb2 hown hbel hszr;have hll:=setHead_len l e0 keep k;have hm1:(((l.takeWhile fun x=>befB x e0) ++ (if (keep || !e0.id.toList.isEmpty) then [e0] else [])) ++ (l.take k).filter fun x=>befB e0 x).length+1<=maxLen:=by unfold maxLen;omega
       have hm2:((((l.takeWhile fun x=>befB x e0) ++ (if (keep || !e0.id.toList.isEmpty) then [e0] else [])) ++ (l.take k).filter fun x=>befB e0 x).length+1) * 48<=140737488355328:=by omega
       have hm3:∀ o,w.heap.size+1<=(w1.alloc o).heap.size:=fun o=>by simp;omega
       clear hll;cases hB:befB e0 (eAt l k)
       ·go_wp2
        go_roundw
        case rel=>exact ⟨k+1,by omega,by go_num,by rw [filter_snocE l _ k hlt,hB];simpa using hown1,hbel1⟩
        simp [intOf];omega
       go_wp2_with (at_builtin;refine wpList_append_own _ rfl _ _ 26 rfl (w.heap.size+1) 79 i0 (.agg #[.string ByteArray.empty,.string ByteArray.empty,.string ByteArray.empty]) 3 48 Tryz.underlying26 hi hz0 hz1 hz2 rfl (by decide) _ _ _ rfl (hown1.alloc _) ⟨w1.heap.size,0,none⟩ 1 1 (encE (eAt l k)) rfl rfl (encE_cells _ _ _) (encE_one _) hm1 hm2 (hm3 _) ?_;intro v2 w2 hown2 hgrow2 _)
       have hbel2:=(hbel1.alloc hsz1 _).grown hgrow2 (by simpa using Nat.le_succ_of_le hsz1) (fun k hk=>hown1.row k hk);have hown3:=OwnE.snoc hown2 rfl;clear hown2 hgrow2 hown1 hbel1 q1 q2 q3;go_wp2
       go_roundw
       case rel=>exact ⟨k+1,by omega,by go_num,by rw [filter_snocE l _ k hlt,hB,if_pos rfl,<- List.append_assoc];exact hown3,hbel2⟩
       simp [intOf];omega
     clear hcell hbox c1 c2 c3;go_wp2
     go_ret;refine ⟨_,rfl,?_,?_⟩
     ·have e1:setL l e0 keep=((l.takeWhile fun x=>befB x e0) ++ (if (keep || !e0.id.toList.isEmpty) then [e0] else [])) ++ (l.take k).filter fun x=>befB e0 x:=by rw [setL,List.take_of_length_le (by omega),List.append_assoc]
      rw [e1];exact hown.base_le (Nat.le_succ _)
     exact bA.trans (hbel.mono (Nat.le_succ _))
variable {a:Option Addr}{cap:Nat}
theorem set_zero (a:Option Addr)(cap:Nat)(e0:Ent)(keep:Bool)(w:World) :
  Calls Tryz.prog 38 #[.slice a 0 cap,entV e0,.bool keep] w fun e w'=>∃ v,e=.returned v∧OwnE w' w.heap.size v (setL [] e0 keep)∧Below w.heap.size w w':=by
 obtain ⟨i0,hi,hz0,hz1,hz2⟩:=info_parts Tryz.infoEntry
 have hown:OwnE ((w.alloc (.cells #[.string e0.ty,.string e0.key,.string e0.id] 79)).alloc (.cells #[] 79)) (w.heap.size+1) (.slice (some ⟨w.heap.size+1,0,none⟩) 0 0) [] :=
  ⟨rfl,Or.inr ⟨w.heap.size+1,0,#[],rfl,nL,by exact heap_alloc_new2 _ _ _,nL,by decide,rfl,rfl⟩⟩
 have hbel:Below w.heap.size w ((w.alloc (.cells #[.string e0.ty,.string e0.key,.string e0.id] 79)).alloc (.cells #[] 79)):=bA.alloc (by simp) _
 go_enter Tryz.func38,Tryz.ntmps38
 go_wp2
 refine wp_loop_rounds 1 ?_;rw [rounds_succ]
 go_wp2_with fail
 go_quiet (fail)
 have hdr:Below (w.heap.size+1) (w.alloc (.cells #[.string e0.ty,.string e0.key,.string e0.id] 79)) (((w.alloc (.cells #[.string e0.ty,.string e0.key,.string e0.id] 79)).alloc (.cells #[] 79)).drewN nq):=(kB.alloc (by simp) _).trans (Dr.below ⟨_,rfl⟩ _);have hown1:OwnE (((w.alloc (.cells #[.string e0.ty,.string e0.key,.string e0.id] 79)).alloc (.cells #[] 79)).drewN nq) (w.heap.size+1) (.slice (some ⟨w.heap.size+1,0,none⟩) 0 0) []:=hown.below (Dr.below ⟨_,rfl⟩ _);have hbel1:=hbel.trans (Dr.below ⟨nq,rfl⟩ _);clear hown hbel;generalize (((w.alloc (.cells #[.string e0.ty,.string e0.key,.string e0.id] 79)).alloc (.cells #[] 79)).drewN nq)=w1 at *;have hbox:=box_cells hdr;have hsz1:w.heap.size+1<=w1.heap.size:=by simpa using hdr.size
 have o1:w1.cell? ⟨w.heap.size,0,none⟩=some (.string e0.ty):=hbox 0;have o2:w1.cell? ⟨w.heap.size,1,none⟩=some (.string e0.key):=hbox 1;have o3:w1.cell? ⟨w.heap.size,2,none⟩=some (.string e0.id):=hbox 2;clear hbox;cases hc:(keep || !e0.id.toList.isEmpty)
 ·have hc1:keep=false:=by cases keep <;> simp_all
  have hc2:e0.id.toList.isEmpty=true:=by cases h:e0.id.toList.isEmpty <;> simp_all
  subst hc1;go_wp2
  refine wp_loop_rounds 1 ?_;rw [rounds_succ];go_wp2
  go_ret;refine ⟨_,rfl,?_,hbel1⟩;have e1:setL [] e0 false=[]:=by simp only [setL,List.takeWhile_nil,List.filter_nil,List.nil_append,List.append_nil];rw [hc,if_neg (by decide)]
  rw [e1];exact hown1.base_le (Nat.le_succ _)
 have hm1:([]:List Ent).length+1<=maxLen:=by decide
 have hm2:(([]:List Ent).length+1) * 48<=140737488355328:=by decide
 have hm3:∀ o,w.heap.size+1<=(w1.alloc o).heap.size:=fun o=>by simp;omega
 have e1:setL [] e0 keep=[e0]:=by simp only [setL,List.takeWhile_nil,List.filter_nil,List.nil_append,List.append_nil];rw [hc,if_pos rfl]
 have E1:Hid (setL [] e0 keep=[e0]):=e1;clear e1
 by_cases hk:keep=true
 ·subst hk
  clear hc
  go_wp2_with (at_builtin;refine wpList_append_own _ rfl _ _ 26 rfl (w.heap.size+1) 79 i0 (.agg #[.string ByteArray.empty,.string ByteArray.empty,.string ByteArray.empty]) 3 48 Tryz.underlying26 hi hz0 hz1 hz2 rfl (by decide) _ _ _ rfl (hown1.alloc _) ⟨w1.heap.size,0,none⟩ 1 1 (encE e0) rfl rfl (encE_cells _ _ _) (encE_one _) hm1 hm2 (hm3 _) ?_;intro v2 w2 hown2 hgrow2 _)
  have hbel2:=(hdr.alloc hsz1 _).grown hgrow2 (by simpa using Nat.le_succ_of_le hsz1) (fun k hk=>hown1.row k hk);have hown3:=OwnE.snoc (l:=[]) hown2 rfl;clear hown2 hgrow2;go_wp2
  refine wp_loop_rounds 1 ?_;rw [rounds_succ];go_wp2
  go_ret;exact ⟨_,rfl,by rw [E1.out];exact hown3.base_le (Nat.le_succ _),bA.trans (hbel2.mono (Nat.le_succ _))⟩
 have hk1:keep=false:=by simpa using hk
 subst hk1;have hc2:e0.id.toList.isEmpty=false:=by simpa using hc
 clear hc hk
 go_wp2_with (at_builtin;refine wpList_append_own _ rfl _ _ 26 rfl (w.heap.size+1) 79 i0 (.agg #[.string ByteArray.empty,.string ByteArray.empty,.string ByteArray.empty]) 3 48 Tryz.underlying26 hi hz0 hz1 hz2 rfl (by decide) _ _ _ rfl (hown1.alloc _) ⟨w1.heap.size,0,none⟩ 1 1 (encE e0) rfl rfl (encE_cells _ _ _) (encE_one _) hm1 hm2 (hm3 _) ?_;intro v2 w2 hown2 hgrow2 _)
 have hbel2:=(hdr.alloc hsz1 _).grown hgrow2 (by simpa using Nat.le_succ_of_le hsz1) (fun k hk=>hown1.row k hk);have hown3:=OwnE.snoc (l:=[]) hown2 rfl;clear hown2 hgrow2;go_wp2
 refine wp_loop_rounds 1 ?_;rw [rounds_succ];go_wp2
 go_ret;exact ⟨_,rfl,by rw [E1.out];exact hown3.base_le (Nat.le_succ _),bA.trans (hbel2.mono (Nat.le_succ _))⟩
theorem set_sl (e0:Ent)(keep:Bool)(w:World)(hr:l.length<=1000000)(h:SlE w a cap l) :
  Calls Tryz.prog 38 #[.slice a l.length cap,entV e0,.bool keep] w fun e w'=>∃ v,e=.returned v∧OwnE w' w.heap.size v (setL l e0 keep)∧Below w.heap.size w w':=by
 rcases h.cells with rfl|⟨b,off,rfl,hb,c1,c2,c3⟩
 ·exact set_zero a cap e0 keep w
 exact set_any b off cap l e0 keep w hr hb c1 c2 c3
end Go.Proofs.YtkdalopokdhndaaGreat
