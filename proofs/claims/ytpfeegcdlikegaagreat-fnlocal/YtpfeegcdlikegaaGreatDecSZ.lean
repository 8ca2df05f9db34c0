import Derived.Test.YtpfeegcdlikegaaGreatDgGZ
import Derived.Deep.DeepFit
import Derived.Deep.DeepCutAuto
import Derived.Deep.CutBlock
import Derived.Sort.Walk0
set_option maxHeartbeats 16000000
set_option maxRecDepth 100000
namespace Go.Proofs.YtpfeegcdlikegaaGreat
open Go.RowKit Go.Proofs.Tryz
theorem tT (n:Nat)(w:World)(u:n<10) :
  Calls prog 78 #[.int .i64 n] w fun e w'=>e=.returned (.string ⟨(Lib.decDigits n).toArray⟩)/\Below w.heap.size w w':=by
 have G:(convert 22 9 (.slice (some ⟨w.heap.size,0,none⟩) 1 1)).run prog (w.alloc (.cells #[.int .u8 (48+(n:Int))] 5))=.ok (.string ⟨(Lib.decDigits n).toArray⟩) (w.alloc (.cells #[.int .u8 (48+(n:Int))] 5)):=by
  rw [BO _ _ (48+n) (by rw [kA rfl];simp),Lib.decDigits,dif_pos u]
 go_enter func78,ntmps78
 go_wp2_with fail
 go_ret;exact ⟨rfl,bA⟩
theorem LA (n m d:Nat)(X Y:ByteArray)(w:World)(hn:(n:Int)<=100000000000000)(I:(10:Int)<=n)(U:(n:Int) / 10=m)(H:(n:Int) % 10=d)
  (hX:X.size<=20) (hY:Y.size=1)
  (O:∀ (W:World) (B:Nat),W.cell? ⟨B,0,none⟩=some (.int .u8 (48+(d:Int)))->(convert 22 9 (.slice (some ⟨B,0,none⟩) 1 1)).run prog W=.ok (.string Y) W)
  (Z:He (∀ W:World,Calls prog 78 #[.int .i64 m] W fun e w'=>e=.returned (.string X)/\Below W.heap.size W w')) :
  Calls prog 78 #[.int .i64 n] w fun e w'=>e=.returned (.string (X ++ Y))/\Below w.heap.size w w':=by
 have ae:IntKind.i64.wrap ((n:Int) / 10)=m:=by rw [IntKind.wrap_i64];omega
 have ad:(n:Int).tmod 10=d:=by rw [Int.tmod_eq_emod_of_nonneg (by omega),H]
 have N:IntKind.i64.wrap (48+(d:Int))=48+d:=by rw [IntKind.wrap_i64];omega
 have ab:IntKind.u8.wrap (48+(d:Int))=48+d:=by rw [IntKind.wrap_u8];omega
 have J:¬ 9223372036854775807<X.size+Y.size:=by omega
 have G:Below w.heap.size w w:=kB;clear U H hX hY
 go_enter func78,ntmps78
 go_wp2_with fail
 go_region_with (go_at_call 78;go_fit (Z.o _);rintro e w1 ⟨rfl,u⟩;first|(have ah:w1.cell? ⟨w.heap.size,0,none⟩=some (.int .u8 (48+(d:Int))):=(u.cell (by simp)).trans (kA rfl))|skip)
 all_goals
  go_wp2
  go_ret
  first
   | exact ⟨rfl,(G.drew.trans u).alloc (G.drew.trans u).size _⟩
   | exact ⟨rfl,((G.alloc nL _).drew).trans (u.mono (by simp))⟩
theorem BL:∀ (k n:Nat) (w:World),n<=k->(n:Int)<=100000000000000 →
  Calls prog 78 #[.int .i64 n] w fun e w'=>e=.returned (.string ⟨(Lib.decDigits n).toArray⟩)/\Below w.heap.size w w':=by
 intro k
 induction k with
 | zero =>
  intro n w H _
  exact tT n w (by omega)
 | succ k ih =>
  intro n w H I
  by_cases u:n<10
  ·exact tT n w u
  have G:(⟨(Lib.decDigits (n / 10)).toArray⟩:ByteArray).size<=20:=by
   show (Lib.decDigits (n / 10)).toArray.size<=20
   rw [List.size_toArray,Lib.decDigits_length];exact Lib.nDigits_le20 _ (by omega)
  refine (LA n (n / 10) (n % 10) ⟨(Lib.decDigits (n / 10)).toArray⟩ ⟨#[UInt8.ofNat (48+n % 10)]⟩ w I (by omega) (by omega) (by omega) G rfl
   (fun W B h=>BO W B (48+n % 10) (by rw [h];simp)) (fun W=>ih (n / 10) W (by omega) (by omega))).mono ?_
  rintro e w' ⟨rfl,hb⟩;refine ⟨kI ?_,hb⟩;rw [Lib.decDigits.eq_1 n,dif_neg u,ByteArray.mk_append_mk]
variable {m p q q':Nat}{W w W':World}{bs:Nat->Nat}{cs:Array Value}
def vR (k:Nat):ByteArray:=if k % 4=0 then ⟨#[64,97]⟩ else if k % 4=1 then ⟨#[64,98]⟩ else if k % 4=2 then ⟨#[64,99]⟩ else ⟨#[64,100]⟩
theorem OL (k:Nat)(w:World)(G:k<1000):Calls prog 79 #[.int .i64 (k:Int)] w (fun e w'=>e=.returned (.string (vR k))/\Below w.heap.size w w'):=by
 have u:k % 4<4:=Nat.mod_lt _ (by decide);have H:(k:Int) % 4=((k % 4:Nat):Int):=by omega
 unfold vR;generalize k % 4=q at *
 match q,u with
 | 0,_=>go_enter func79,ntmps79;go_wp2;go_ret;exact ⟨by rfl,kB⟩
 | 1,_=>go_enter func79,ntmps79;go_wp2;go_ret;exact ⟨by rfl,kB⟩
 | 2,_=>go_enter func79,ntmps79;go_wp2;go_ret;exact ⟨by rfl,kB⟩
 | 3,_=>go_enter func79,ntmps79;go_wp2;go_ret;exact ⟨by rfl,kB⟩
theorem AC (k:Nat):(vR k).size=2:=by
 unfold vR
 repeat' split
 all_goals rfl
def gY (n:Nat):ByteArray:=⟨(Lib.decDigits n).toArray⟩
theorem VQ (n:Nat)(h:n<=1000)(W:World):Calls prog 78 #[.int .i64 (n:Int)] W fun e w'=>e=.returned (.string (gY n))/\Below W.heap.size W w':=BL n n W nL (by omega)
theorem jS (n:Nat)(h:n<=1000):(gY n).size<=20:=by show (Lib.decDigits n).toArray.size<=20;rw [List.size_toArray,Lib.decDigits_length];exact Lib.nDigits_le20 n (by omega)
def PJ (i:Nat):ByteArray:=if i=0 then ⟨#[106,111,105,110]⟩ else if i=1 then ⟨#[105,110,118,105,116,101]⟩ else if i=2 then ⟨#[108,101,97,118,101]⟩ else ⟨#[98,97,110]⟩
def NG (i:Nat):ByteArray:=if i=0 then ⟨#[112,117,98,108,105,99]⟩ else ⟨#[105,110,118,105,116,101]⟩
def LL (k : Nat) (l : List (ByteArray × Int)) (e : Ev) : Ev :=
  if k % 8 < 3 then
    (if 0 < k % 8 \/ 128 <= k then { e with st := true, ty := ⟨#[109, 101, 109, 98, 101, 114]⟩, key := vR (k / 8), val := PJ (k / 32 % 4) }
     else { e with st := true, ty := ⟨#[109, 101, 109, 98, 101, 114]⟩, key := e.sd, val := ⟨#[106, 111, 105, 110]⟩ })
  else if k % 8 = 3 then { e with st := true, ty := ⟨#[112, 111, 119, 101, 114]⟩, ng := l.length, M := gM l, L := gL l }
  else if k % 8 = 4 then { e with st := true, ty := ⟨#[106, 111, 105, 110, 95, 114, 117, 108, 101, 115]⟩, val := NG (k / 8 % 2) }
  else if k % 8 < 7 then
    (if k % 16 = 5 then { e with st := true, ty := ⟨#[116, 111, 112, 105, 99]⟩, key := vR (k / 16), val := ⟨#[116]⟩ ++ gY (k / 16) }
     else { e with st := true, ty := ⟨#[116, 111, 112, 105, 99]⟩, val := ⟨#[116]⟩ ++ gY (k / 16) })
  else { e with st := false, ty := ⟨#[109, 115, 103]⟩ }
def cnQ (bs:Nat->Nat)(m q k:Nat):Nat:=if k % 8=3 then (vV bs m q).1 else q
def lG (bs:Nat->Nat)(m q:Nat)(e:Ev):Ev:=LL (eD bs m q) (vV bs m (aN m q)).2 e
def nA (bs:Nat->Nat)(m q:Nat):Nat:=cnQ bs m (aN m q) (eD bs m q)
def QM (p:Nat)(w:World)(bs:Nat->Nat)(m q:Nat)(e:Ev)(pa:Option Addr)(cp:Nat)(aa:Option Addr)(ca:Nat)(ga:Option Addr)(cg:Nat)(x:Ending)(w':World):Prop :=
 ∃ u G,x=.returned ((lG bs m q e).val' pa cp aa ca u G)/\((u=ga/\G=cg/\(lG bs m q e).ng=e.ng/\(lG bs m q e).M=e.M/\(lG bs m q e).L=e.L)\/bV w' w.heap.size (.slice u (lG bs m q e).ng G) (lG bs m q e).ng (lG bs m q e).M (lG bs m q e).L)/\bR p w w' bs m (nA bs m q)
structure RA (p:Nat)(w W:World)(bs:Nat->Nat)(m q:Nat)(c:Nat->Value):Prop where
 b:∀ o,o<10->W.cell? ⟨w.heap.size,o,none⟩=some (c o)
 z:∀ o,o<10->∃ v,W.cell? ⟨w.heap.size+1,o,none⟩=some v
 f0:∀ o,W.frozen? ⟨w.heap.size,o,none⟩=false
 f1:∀ o,W.frozen? ⟨w.heap.size+1,o,none⟩=false
 sz:w.heap.size+2<=W.heap.size
 dw:bR p w W bs m q
theorem RA.set {c:Nat->Value}(h:RA p w W bs m q c)(hp:p<w.heap.size)(o:Nat)(G:o<10)(x:Value):RA p w (W.setCell ⟨w.heap.size,o,none⟩ x) bs m q (fun i=>if i=o then x else c i):=by
 refine ⟨fun i hi=>?_,fun i hi=>?_,fun i=>by rw [World.frozen?_setCell];exact h.f0 i,fun i=>by rw [World.frozen?_setCell];exact h.f1 i,by have:=h.sz;simpa [World.setCell] using this,h.dw.own nL hp o x⟩
 ·by_cases e:i=o
  ·subst e;rw [if_pos rfl];exact aZ ⟨_,h.b i hi⟩
  rw [if_neg e,aB (by omega)];exact h.b i hi
 obtain ⟨v,u⟩:=h.z i hi;exact ⟨v,by rw [fJ (by omega)];exact u⟩
theorem RA.below {c:Nat->Value}(h:RA p w W bs m q c)(hb:Below W.heap.size W W'):RA p w W' bs m q c :=
 ⟨fun i hi=>(hb.cell (by show w.heap.size<W.heap.size;have:=h.sz;omega)).trans (h.b i hi),fun i hi=>(h.z i hi).imp fun v u=>(hb.cell (by show w.heap.size+1<W.heap.size;have:=h.sz;omega)).trans u,fun i=>(hb.frozen (by show w.heap.size<W.heap.size;have:=h.sz;omega)).trans (h.f0 i),fun i=>(hb.frozen (by show w.heap.size+1<W.heap.size;have:=h.sz;omega)).trans (h.f1 i),nZ h.sz hb.size,h.dw.below hb⟩
theorem RA.draw {c:Nat->Value}(h:RA p w W bs m q c)(hp:p<w.heap.size)(u:bR p W W' bs m q'):RA p w W' bs m q' c:=by
 have G:∀ b o,w.heap.size<=b->b<w.heap.size+2->W'.cell? ⟨b,o,none⟩=W.cell? ⟨b,o,none⟩:=fun b o H I=>World.cell?_of_block (a:=⟨b,o,none⟩) (u.2.block b (by have:=h.sz;omega) (fun q=>by injection q with q;omega))
 have hz:∀ b o,w.heap.size<=b->b<w.heap.size+2->W'.frozen? ⟨b,o,none⟩=W.frozen? ⟨b,o,none⟩:=fun b o H I=>u.2.frozen_far ⟨b,o,none⟩ (by show b<W.heap.size;have:=h.sz;omega) (fun q=>absurd (Option.some.inj q) (by show b≠p;omega))
 exact ⟨fun i hi=>(G _ _ (by omega) (by omega)).trans (h.b i hi),fun i hi=>(h.z i hi).imp fun v J=>(G _ _ (by omega) (by omega)).trans J,fun i=>(hz _ _ (by omega) (by omega)).trans (h.f0 i),fun i=>(hz _ _ (by omega) (by omega)).trans (h.f1 i),nZ h.sz u.size,h.dw.trans u⟩
theorem SP {t:TypeId}(h:nI w p bs m q)(G:cs.size=10):RA p w ((w.alloc (.cells cs t)).alloc (.cells #[.string ⟨#[]⟩,.string ⟨#[]⟩,.string ⟨#[]⟩,.bool false,.string ⟨#[]⟩,.int .i64 0,.slice none 0 0,.slice none 0 0,.string ⟨#[]⟩,.slice none 0 0] 30)) bs m q (fun o=>cs[o]?.getD undef):=by
 have hb:Below w.heap.size w ((w.alloc (.cells cs t)).alloc (.cells #[.string ⟨#[]⟩,.string ⟨#[]⟩,.string ⟨#[]⟩,.bool false,.string ⟨#[]⟩,.int .i64 0,.slice none 0 0,.slice none 0 0,.string ⟨#[]⟩,.slice none 0 0] 30)):=bA.alloc (by simp) _;refine ⟨fun o u=>?_,fun o u=>?_,fun o=>?_,fun o=>kF (by simp),by simp,(bR.refl h).below hb⟩
 ·rw [World.cell?_alloc_past _ _ _ (by simp),kA rfl,Array.getElem?_eq_getElem (by omega)]
  rfl
 ·rw [kA (by simp)]
  match o,u with
  | 0,_=>exact ⟨_,rfl⟩
  | 1,_=>exact ⟨_,rfl⟩
  | 2,_=>exact ⟨_,rfl⟩
  | 3,_=>exact ⟨_,rfl⟩
  | 4,_=>exact ⟨_,rfl⟩
  | 5,_=>exact ⟨_,rfl⟩
  | 6,_=>exact ⟨_,rfl⟩
  | 7,_=>exact ⟨_,rfl⟩
  | 8,_=>exact ⟨_,rfl⟩
  | 9,_=>exact ⟨_,rfl⟩
 rw [World.frozen?_alloc_past _ _ _ (by simp)];exact kF rfl
theorem Tryz.infoEntry:(prog.info? 66).map (fun i=>(i.zero,i.size,i.bytes))=some (some (.agg #[.string ByteArray.empty,.string ByteArray.empty,.string ByteArray.empty]),3,48):=by kernel_rfl
variable {w':World}{n base size:Nat}{v:Value}{xs:List Value}{l:List aE}
def jM (e:aE):List Value:=[.string e.ty,.string e.key,.string e.id]
def dP (l:List aE):List Value:=l.flatMap jM
theorem pF (l:List aE):(dP l).length=l.length * 3:=by
 induction l with
 | nil=>rfl
 | cons x l ih=>simp only [dP,List.flatMap_cons,List.length_append,List.length_cons] at ih ⊢;rw [ih];simp [jM];omega
theorem JM (l:List aE)(e:aE):dP l ++ jM e=dP (l ++ [e]):=by simp [dP]
theorem lN (l:List aE)(i:Nat)(h:i<l.length):(dP l)[i * 3]?=some (.string (aI l i).ty)/\(dP l)[i * 3+1]?=some (.string (aI l i).key)/\(dP l)[i * 3+2]?=some (.string (aI l i).id):=by
 induction l generalizing i with
 | nil=>exact absurd h (Nat.not_lt_zero _)
 | cons x l ih =>
  cases i with
  | zero=>simp [dP,jM,aI]
  | succ i =>
   have:=ih i (by simpa using h);have u:dP (x :: l)=.string x.ty :: .string x.key :: .string x.id :: dP l:=by simp [dP,jM]
   have G:aI (x :: l) (i+1)=aI l i:=by simp [aI]
   rw [u,G,show (i+1) * 3=i * 3+3 by omega];simpa using this
def aU (w:World)(base:Nat)(v:Value)(l:List aE):Prop:=w.ownsRow base 66 3 v l.length (dP l)
theorem mX {e:Nat}(h:w.ownsRow base e size v n xs)(hb:Below w.heap.size w w'):w'.ownsRow base e size v n xs:=by
 obtain ⟨J,H⟩:=h;refine ⟨J,?_⟩;rcases H with H|⟨g,cap,u,N,hg,hh,r⟩
 ·exact Or.inl H
 have I:g<w.heap.size:=by
  rcases Nat.lt_or_ge g w.heap.size with G|G
  ·exact G
  rw [Array.getElem?_eq_none G] at hh;cases hh
 exact Or.inr ⟨g,cap,u,N,hg,by rw [hb.block g I];exact hh,r⟩
theorem aU.below (h:aU w base v l)(hb:Below w.heap.size w w'):aU w' base v l:=mX h hb
theorem aU.sl (h:aU w base v l)(J:∀ i,i<l.length->(aI l i).ty.size<=maxLen/\(aI l i).key.size<=maxLen/\(aI l i).id.size<=maxLen) :
  ∃ a cap,v=.slice a l.length cap/\dF w a cap l:=by
 obtain ⟨h1,Z⟩:=h;rcases Z with ⟨rfl,G⟩|⟨g,cap,N,rfl,hg,hh,hn,hc,O,U⟩
 ·have:l=[]:=List.eq_nil_of_length_eq_zero G
  subst this;exact ⟨none,0,rfl,⟨nL,by decide,J,Or.inl rfl⟩⟩
 refine ⟨_,cap,rfl,⟨hn,hc,J,?_⟩⟩
 by_cases G:l=[]
 ·exact Or.inl G
 have I:g<w.heap.size:=by
  rcases Nat.lt_or_ge g w.heap.size with H|H
  ·exact H
  rw [Array.getElem?_eq_none H] at hh;cases hh
 have u:∀ j,j<l.length * 3->w.cell? ⟨g,0+j,none⟩=(dP l)[j]?:=by
  intro j Y;rw [<- U,List.getElem?_take,if_pos Y,Nat.zero_add];simp [World.cell?,hh]
 exact Or.inr ⟨g,0,rfl,I,fun i hi=>by rw [u _ (by omega)];exact (lN l i hi).1,fun i hi=>by rw [Nat.add_assoc,u _ (by omega)];exact (lN l i hi).2.1,fun i hi=>by rw [Nat.add_assoc,u _ (by omega)];exact (lN l i hi).2.2⟩
variable {base':Nat}{x:aE}
def dG (l:List aE)(e:aE)(keep:Bool):List aE :=
 (l.takeWhile fun x=>cO x e) ++ ((if keep || !e.id.toList.isEmpty then [e] else []) ++ l.filter fun x=>cO e x)
theorem pB (l:List aE)(p:aE->Bool)(k:Nat)(H:k<=l.length)(G:∀ i,i<k->p (aI l i)=true)(u:k=l.length\/p (aI l k)=false):l.takeWhile p=l.take k:=by
 induction l generalizing k with
 | nil=>simp
 | cons x l ih =>
  cases k with
  | zero =>
   rcases u with u|u
   ·simp at u
   have:p x=false:=by simpa [aI] using u
   simp [this]
  | succ k =>
   have I:p x=true:=by simpa [aI] using G 0 (by omega)
   have:=ih k (by simpa using H) (fun i hi=>by simpa [aI] using G (i+1) (by omega)) (by
    rcases u with u|u
    ·exact Or.inl (by simpa using u)
    exact Or.inr (by simpa [aI] using u))
   simp [I,this]
theorem nR (l:List aE)(k:Nat)(h:k<l.length):l.take (k+1)=l.take k ++ [aI l k]:=by
 rw [List.take_succ_eq_append_getElem h,bP l k h]
theorem pA (l:List aE)(p:aE->Bool)(k:Nat)(h:k<l.length):(l.take (k+1)).filter p=(l.take k).filter p ++ (if p (aI l k) then [aI l k] else []):=by
 rw [nR l k h,List.filter_append];cases hp:p (aI l k) <;> simp [hp]
theorem kW (w:World)(o u:Obj):((w.alloc o).alloc u).heap[w.heap.size+1]?=some u:=by
 show ((w.heap.push o).push u)[w.heap.size+1]?=_
 rw [Array.getElem?_push,if_pos (by simp)]
theorem fF (w1:World)(x:aE)(t:TypeId)(j:Nat)(u:Value)(h:(jM x)[j]?=some u):(w1.alloc (.cells #[.string x.ty,.string x.key,.string x.id] t)).cell? ((⟨w1.heap.size,0,none⟩:Addr).add j)=some u:=by
 have H:j<3:=by
  rcases Nat.lt_or_ge j 3 with G|G
  ·exact G
  rw [List.getElem?_eq_none (by simpa [jM] using G)] at h;cases h
 match j,H,h with
 | 0,_,h=>rw [show (⟨w1.heap.size,0,none⟩:Addr).add 0=⟨w1.heap.size,0,none⟩ from rfl,kA rfl];exact h
 | 1,_,h=>rw [show (⟨w1.heap.size,0,none⟩:Addr).add 1=⟨w1.heap.size,1,none⟩ from rfl,kA rfl];exact h
 | 2,_,h=>rw [show (⟨w1.heap.size,0,none⟩:Addr).add 2=⟨w1.heap.size,2,none⟩ from rfl,kA rfl];exact h
theorem gW (x:aE)(u:Value)(h:u ∈ jM x):u.oneCell'=true:=by
 simp only [jM,List.mem_cons,List.not_mem_nil,or_false] at h;rcases h with rfl|rfl|rfl <;> rfl
theorem aU.row (h:aU w base v l)(k:Nat)(u:v.ownBlock=some k):base<=k:=by
 rcases h.2 with ⟨rfl,_⟩|⟨g,cap,G,rfl,hg,_⟩
 ·cases u
 cases u;exact hg
theorem aU.snoc (h:w.ownsRow base 66 3 v n (dP l ++ jM x))(u:n=l.length+1):aU w base v (l ++ [x]):=by
 subst u;rw [JM] at h;unfold aU;rw [List.length_append];exact h
theorem BU (l:List aE)(e0:aE)(keep:Bool)(k:Nat):(((l.takeWhile fun x=>cO x e0) ++ (if (keep || !e0.id.toList.isEmpty) then [e0] else [])) ++ (l.take k).filter fun x=>cO e0 x).length<=l.length+(1+l.length):=by
 rw [List.length_append,List.length_append];have u:(l.takeWhile fun x=>cO x e0).length<=l.length:=(List.takeWhile_sublist _).length_le;have G:((l.take k).filter fun x=>cO e0 x).length<=l.length:=nZ (List.length_filter_le _ _) (by rw [List.length_take];omega);split
 ·rw [List.length_cons,List.length_nil];omega
 rw [List.length_nil];omega
theorem aU.base_le (h:aU w base v l)(hb:base'<=base):aU w base' v l:=by
 obtain ⟨H,G⟩:=h;refine ⟨H,?_⟩;rcases G with G|⟨g,cap,u,I,hg,r⟩
 ·exact Or.inl G
 exact Or.inr ⟨g,cap,u,I,nZ hb hg,r⟩
theorem RI (b off cap:Nat)(l:List aE)(e0:aE)(keep:Bool)(w:World)(hr:l.length<=1000000)(hb:b<w.heap.size)
  (c1:∀ i,i<l.length->w.cell? ⟨b,off+i * 3,none⟩=some (.string (aI l i).ty)) (c2:∀ i,i<l.length->w.cell? ⟨b,off+i * 3+1,none⟩=some (.string (aI l i).key)) (c3:∀ i,i<l.length->w.cell? ⟨b,off+i * 3+2,none⟩=some (.string (aI l i).id)) :
  Calls prog 24 #[.slice (some ⟨b,off,none⟩) l.length cap,eS e0,.bool keep] w fun e w'=>∃ v,e=.returned v/\aU w' w.heap.size v (dG l e0 keep)/\Below w.heap.size w w':=by
 obtain ⟨i0,hi,aw,an,ax⟩:=info_parts Tryz.infoEntry
 go_enter func24,ntmps24
 go_upto_block 0 with fail
 go_cut [7,8] from 10 (fun v i wr=>∃ k:Nat,k<=l.length/\i=.int .i64 k/\aU wr (w.heap.size+1) v (l.takeWhile fun x=>cO x e0)/\Below (w.heap.size+1) (w.alloc (.cells #[.string e0.ty,.string e0.key,.string e0.id] 66)) wr)
 case first =>
  go_wp2_with fail
  go_loopw [7,8] (fun v i wr=>∃ k:Nat,k<=l.length/\i=.int .i64 k/\aU wr (w.heap.size+1) v (l.take k)/\He (∀ i,i<k->cO (aI l i) e0=true)/\Below (w.heap.size+1) (w.alloc (.cells #[.string e0.ty,.string e0.key,.string e0.id] 66)) wr) (fun _ i _=>l.length - (intOf i).toNat)
  case atStart=>exact ⟨0,nz,rfl,⟨rfl,Or.inr ⟨w.heap.size+1,0,#[],rfl,nL,by exact kW _ _ _,nL,by decide,rfl,rfl⟩⟩,fun i hi=>absurd hi (Nat.not_lt_zero _),kB.alloc (by simp) _⟩
  case round =>
   obtain ⟨k,hk,rfl,H,ao,u⟩:=hrel;have G:=aK u;have ap:b<w.heap.size+1:=by omega
   have I:∀ o,wr.cell? ⟨b,o,none⟩=w.cell? ⟨b,o,none⟩:=fun o=>(u.cell (by exact ap)).trans (World.cell?_alloc_past _ _ _ hb)
   have af:w.heap.size+1<=wr.heap.size:=by simpa using u.size
   by_cases ad:k<l.length
   ·have a1:wr.cell? ⟨b,off+k * 3,none⟩=some (.string (aI l k).ty):=(I _).trans (c1 k ad)
    have a2:wr.cell? ⟨b,off+k * 3+1,none⟩=some (.string (aI l k).key):=(I _).trans (c2 k ad);have a3:wr.cell? ⟨b,off+k * 3+2,none⟩=some (.string (aI l k).id):=(I _).trans (c3 k ad);have o1:wr.cell? ⟨w.heap.size,0,none⟩=some (.string e0.ty):=G 0;have o2:wr.cell? ⟨w.heap.size,1,none⟩=some (.string e0.key):=G 1;have o3:wr.cell? ⟨w.heap.size,2,none⟩=some (.string e0.id):=G 2;have hd:decide ((k:Int)<(l.length:Int))=true:=by simp;omega
    clear I G c1 c2 c3 ap
    go_wp2_with fail
    go_region_with (go_at_call 66;refine (kN (aI l k) e0 _).mono ?_;rintro e w1 ⟨rfl,am⟩)
    all_goals
     have Y:Below wr.heap.size wr w1:=Below.trans (by first|exact kB|exact kB.drew|exact kB.drew.drew) am;have O:=H.below Y;have N:=u.trans (Y.mono af);have ae:w.heap.size+1<=w1.heap.size:=by simpa using N.size
     have q1:w1.cell? ⟨b,off+k * 3,none⟩=some (.string (aI l k).ty):=(Y.cell (by show b<_;omega)).trans a1;have q2:w1.cell? ⟨b,off+k * 3+1,none⟩=some (.string (aI l k).key):=(Y.cell (by show b<_;omega)).trans a2;have q3:w1.cell? ⟨b,off+k * 3+2,none⟩=some (.string (aI l k).id):=(Y.cell (by show b<_;omega)).trans a3;clear a1 a2 a3 o1 o2 o3 am Y H u af hd;have ah:(l.take k).length+1<=maxLen:=by unfold maxLen;rw [List.length_take];omega
     have ai:((l.take k).length+1) * 48<=140737488355328:=by rw [List.length_take];omega
     have aj:∀ o,w.heap.size+1<=(w1.alloc o).heap.size:=fun o=>by simp;omega
     cases hB:cO (aI l k) e0
     ·go_wp2
      go_meet;exact ⟨k,hk,rfl,by rw [pB l _ k hk ao.o (Or.inr hB)];exact O,N⟩
     go_wp2_with (at_builtin;refine wpList_append_own _ rfl _ _ 26 rfl (w.heap.size+1) 66 i0 (.agg #[.string ByteArray.empty,.string ByteArray.empty,.string ByteArray.empty]) 3 48 underlying26 hi aw an ax rfl (by decide) _ _ _ rfl (O.alloc _) ⟨w1.heap.size,0,none⟩ 1 1 (jM (aI l k)) rfl rfl (fF _ _ _) (gW _) ah ai (aj _) ?_;intro v2 w2 U J _)
     have ab:=(N.alloc ae _).grown J (by simpa using Nat.le_succ_of_le ae) (fun k hk=>O.row k hk);have Z:aU w2 (w.heap.size+1) v2 (l.take (k+1)):=by rw [nR l k ad];exact aU.snoc U (by first|rfl|(simp;omega))
     clear U J O N q1 q2 q3;go_wp2
     go_roundw
     case rel=>exact ⟨k+1,by omega,by go_num,Z,fun i hi=>by (by_cases e:i=k;(subst e;exact hB);exact ao.o i (by omega)),ab⟩
     simp [intOf];omega
   have hd:decide ((k:Int)<(l.length:Int))=false:=by simp;omega
   clear I G c1 c2 c3 ap
   go_wp2_with fail
   go_quiet (fail)
   go_wp2
   go_meet;exact ⟨k,hk,rfl,by rw [pB l _ k hk ao.o (Or.inl (by omega))];exact H.below (Dr.below ⟨_,rfl⟩ _),u.trans (Dr.below ⟨_,rfl⟩ _)⟩
 case rest =>
  obtain ⟨k1,bh,rfl,H,u⟩:=hcut;have ag:w.heap.size+1<=wc.heap.size:=by simpa using u.size
  have G:=aK u;have o1:wc.cell? ⟨w.heap.size,0,none⟩=some (.string e0.ty):=G 0;have o2:wc.cell? ⟨w.heap.size,1,none⟩=some (.string e0.key):=G 1;have o3:wc.cell? ⟨w.heap.size,2,none⟩=some (.string e0.id):=G 2;clear G
  go_upto_region 6 with fail
  go_cut [37] from 10 (fun s wx=>s=.bool (keep || !e0.id.toList.isEmpty)/\aU wx (w.heap.size+1) u7 (l.takeWhile fun x=>cO x e0)/\Below (w.heap.size+1) (w.alloc (.cells #[.string e0.ty,.string e0.key,.string e0.id] 66)) wx)
  case first =>
   cases keep
   all_goals
    go_wp2
    go_meet;exact ⟨rfl,H,u⟩
  case rest =>
   clear H u o1 o2 o3 ag;obtain ⟨rfl,H,u⟩:=hcut;have ag:w.heap.size+1<=wc.heap.size:=by simpa using u.size
   have G:=aK u;have o1:wc.cell? ⟨w.heap.size,0,none⟩=some (.string e0.ty):=G 0;have o2:wc.cell? ⟨w.heap.size,1,none⟩=some (.string e0.key):=G 1;have o3:wc.cell? ⟨w.heap.size,2,none⟩=some (.string e0.id):=G 2;clear G
   go_upto_if 37 with fail
   go_cut [7] from 10 (fun v wx=>aU wx (w.heap.size+1) v ((l.takeWhile fun x=>cO x e0) ++ (if (keep || !e0.id.toList.isEmpty) then [e0] else []))/\Below (w.heap.size+1) (w.alloc (.cells #[.string e0.ty,.string e0.key,.string e0.id] 66)) wx)
   case first =>
    have bc:(l.takeWhile fun x=>cO x e0).length<=l.length:=(List.takeWhile_sublist _).length_le;have ah:(l.takeWhile fun x=>cO x e0).length+1<=maxLen:=by unfold maxLen;omega
    have ai:((l.takeWhile fun x=>cO x e0).length+1) * 48<=140737488355328:=by omega
    have aj:∀ o,w.heap.size+1<=(wc.alloc o).heap.size:=fun o=>by simp;omega
    cases hc:(keep || !e0.id.toList.isEmpty)
    ·go_wp2
     go_meet;exact ⟨by rw [hc,if_neg (by decide),List.append_nil];exact H,u⟩
    clear bc
    go_wp2_with (at_builtin;refine wpList_append_own _ rfl _ _ 26 rfl (w.heap.size+1) 66 i0 (.agg #[.string ByteArray.empty,.string ByteArray.empty,.string ByteArray.empty]) 3 48 underlying26 hi aw an ax rfl (by decide) _ _ _ rfl (H.alloc _) ⟨wc.heap.size,0,none⟩ 1 1 (jM e0) rfl rfl (fF _ _ _) (gW _) ah ai (aj _) ?_;intro v2 w2 U J _)
    have ab:=(u.alloc ag _).grown J (by simpa using Nat.le_succ_of_le ag) (fun k hk=>H.row k hk);have Z:=aU.snoc U rfl;clear U J;go_wp2
    go_meet;exact ⟨by rw [hc,if_pos rfl];exact Z,ab⟩
   case rest =>
    clear H u o1 o2 o3 ag;obtain ⟨H,u⟩:=hcut
    go_wp2_with fail
    go_loopw [7,9] (fun v i wr=>∃ k:Nat,k<=l.length/\i=.int .i64 k/\aU wr (w.heap.size+1) v (((l.takeWhile fun x=>cO x e0) ++ (if (keep || !e0.id.toList.isEmpty) then [e0] else [])) ++ (l.take k).filter fun x=>cO e0 x)/\Below (w.heap.size+1) (w.alloc (.cells #[.string e0.ty,.string e0.key,.string e0.id] 66)) wr) (fun _ i _=>l.length - (intOf i).toNat)
    case atStart=>exact ⟨0,nz,rfl,by simpa using H,u⟩
    case round =>
     clear H u;obtain ⟨k,hk,rfl,H,u⟩:=hrel;have G:=aK u;have I:∀ o,wr.cell? ⟨b,o,none⟩=w.cell? ⟨b,o,none⟩:=fun o=>(u.cell (by exact Nat.lt_succ_of_lt hb)).trans (World.cell?_alloc_past _ _ _ hb)
     have af:w.heap.size+1<=wr.heap.size:=by simpa using u.size
     by_cases ad:k<l.length
     ·have a1:wr.cell? ⟨b,off+k * 3,none⟩=some (.string (aI l k).ty):=(I _).trans (c1 k ad)
      have a2:wr.cell? ⟨b,off+k * 3+1,none⟩=some (.string (aI l k).key):=(I _).trans (c2 k ad);have a3:wr.cell? ⟨b,off+k * 3+2,none⟩=some (.string (aI l k).id):=(I _).trans (c3 k ad);have o1:wr.cell? ⟨w.heap.size,0,none⟩=some (.string e0.ty):=G 0;have o2:wr.cell? ⟨w.heap.size,1,none⟩=some (.string e0.key):=G 1;have o3:wr.cell? ⟨w.heap.size,2,none⟩=some (.string e0.id):=G 2;clear I G c1 c2 c3
      go_wp2_with fail
      go_region_with (go_at_call 66;refine (kN e0 (aI l k) _).mono ?_;rintro e w1 ⟨rfl,am⟩)
      all_goals
       have Y:Below wr.heap.size wr w1:=Below.trans (by first|exact kB|exact kB.drew|exact kB.drew.drew) am;have O:=H.below Y;have N:=u.trans (Y.mono af);have ae:w.heap.size+1<=w1.heap.size:=by simpa using N.size
       have q1:w1.cell? ⟨b,off+k * 3,none⟩=some (.string (aI l k).ty):=(Y.cell (by show b<_;omega)).trans a1;have q2:w1.cell? ⟨b,off+k * 3+1,none⟩=some (.string (aI l k).key):=(Y.cell (by show b<_;omega)).trans a2;have q3:w1.cell? ⟨b,off+k * 3+2,none⟩=some (.string (aI l k).id):=(Y.cell (by show b<_;omega)).trans a3;clear a1 a2 a3 o1 o2 o3 am Y H u af;have ba:=BU l e0 keep k;have ah:(((l.takeWhile fun x=>cO x e0) ++ (if (keep || !e0.id.toList.isEmpty) then [e0] else [])) ++ (l.take k).filter fun x=>cO e0 x).length+1<=maxLen:=by unfold maxLen;omega
       have ai:((((l.takeWhile fun x=>cO x e0) ++ (if (keep || !e0.id.toList.isEmpty) then [e0] else [])) ++ (l.take k).filter fun x=>cO e0 x).length+1) * 48<=140737488355328:=by omega
       have aj:∀ o,w.heap.size+1<=(w1.alloc o).heap.size:=fun o=>by simp;omega
       clear ba;cases hB:cO e0 (aI l k)
       ·go_wp2
        go_roundw
        case rel=>exact ⟨k+1,by omega,by go_num,by rw [pA l _ k ad,hB];simpa using O,N⟩
        simp [intOf];omega
       go_wp2_with (at_builtin;refine wpList_append_own _ rfl _ _ 26 rfl (w.heap.size+1) 66 i0 (.agg #[.string ByteArray.empty,.string ByteArray.empty,.string ByteArray.empty]) 3 48 underlying26 hi aw an ax rfl (by decide) _ _ _ rfl (O.alloc _) ⟨w1.heap.size,0,none⟩ 1 1 (jM (aI l k)) rfl rfl (fF _ _ _) (gW _) ah ai (aj _) ?_;intro v2 w2 U J _)
       have ab:=(N.alloc ae _).grown J (by simpa using Nat.le_succ_of_le ae) (fun k hk=>O.row k hk);have Z:=aU.snoc U rfl;clear U J O N q1 q2 q3;go_wp2
       go_roundw
       case rel=>exact ⟨k+1,by omega,by go_num,by rw [pA l _ k ad,hB,if_pos rfl,<- List.append_assoc];exact Z,ab⟩
       simp [intOf];omega
     clear I G c1 c2 c3;go_wp2
     go_ret;refine ⟨_,rfl,?_,?_⟩
     ·have e1:dG l e0 keep=((l.takeWhile fun x=>cO x e0) ++ (if (keep || !e0.id.toList.isEmpty) then [e0] else [])) ++ (l.take k).filter fun x=>cO e0 x:=by rw [dG,List.take_of_length_le (by omega),List.append_assoc]
      rw [e1];exact H.base_le (Nat.le_succ _)
     exact bA.trans (u.mono (Nat.le_succ _))
variable {a:Option Addr}{cap:Nat}
theorem OF (a:Option Addr)(cap:Nat)(e0:aE)(keep:Bool)(w:World) :
  Calls prog 24 #[.slice a 0 cap,eS e0,.bool keep] w fun e w'=>∃ v,e=.returned v/\aU w' w.heap.size v (dG [] e0 keep)/\Below w.heap.size w w':=by
 obtain ⟨i0,hi,ai,af,aj⟩:=info_parts Tryz.infoEntry
 have Z:aU ((w.alloc (.cells #[.string e0.ty,.string e0.key,.string e0.id] 66)).alloc (.cells #[] 66)) (w.heap.size+1) (.slice (some ⟨w.heap.size+1,0,none⟩) 0 0) [] :=
  ⟨rfl,Or.inr ⟨w.heap.size+1,0,#[],rfl,nL,by exact kW _ _ _,nL,by decide,rfl,rfl⟩⟩
 have Y:Below w.heap.size w ((w.alloc (.cells #[.string e0.ty,.string e0.key,.string e0.id] 66)).alloc (.cells #[] 66)):=bA.alloc (by simp) _
 go_enter func24,ntmps24
 go_wp2
 refine wp_loop_rounds 1 ?_;rw [rounds_succ]
 go_wp2_with fail
 go_quiet (fail)
 have U:Below (w.heap.size+1) (w.alloc (.cells #[.string e0.ty,.string e0.key,.string e0.id] 66)) (((w.alloc (.cells #[.string e0.ty,.string e0.key,.string e0.id] 66)).alloc (.cells #[] 66)).drewN nq):=(kB.alloc (by simp) _).trans (Dr.below ⟨_,rfl⟩ _);have H:aU (((w.alloc (.cells #[.string e0.ty,.string e0.key,.string e0.id] 66)).alloc (.cells #[] 66)).drewN nq) (w.heap.size+1) (.slice (some ⟨w.heap.size+1,0,none⟩) 0 0) []:=Z.below (Dr.below ⟨_,rfl⟩ _);have ab:=Y.trans (Dr.below ⟨nq,rfl⟩ _);clear Z Y;generalize (((w.alloc (.cells #[.string e0.ty,.string e0.key,.string e0.id] 66)).alloc (.cells #[] 66)).drewN nq)=w1 at *;have N:=aK U;have O:w.heap.size+1<=w1.heap.size:=by simpa using U.size
 have o1:w1.cell? ⟨w.heap.size,0,none⟩=some (.string e0.ty):=N 0;have o2:w1.cell? ⟨w.heap.size,1,none⟩=some (.string e0.key):=N 1;have o3:w1.cell? ⟨w.heap.size,2,none⟩=some (.string e0.id):=N 2;clear N;cases hc:(keep || !e0.id.toList.isEmpty)
 ·have am:keep=false:=by cases keep <;> simp_all
  have ao:e0.id.toList.isEmpty=true:=by cases h:e0.id.toList.isEmpty <;> simp_all
  subst am;go_wp2
  refine wp_loop_rounds 1 ?_;rw [rounds_succ];go_wp2
  go_ret;refine ⟨_,rfl,?_,ab⟩;have e1:dG [] e0 false=[]:=by simp only [dG,List.takeWhile_nil,List.filter_nil,List.nil_append,List.append_nil];rw [hc,if_neg (by decide)]
  rw [e1];exact H.base_le (Nat.le_succ _)
 have ae:([]:List aE).length+1<=maxLen:=by decide
 have ag:(([]:List aE).length+1) * 48<=140737488355328:=by decide
 have ah:∀ o,w.heap.size+1<=(w1.alloc o).heap.size:=fun o=>by simp;omega
 have e1:dG [] e0 keep=[e0]:=by simp only [dG,List.takeWhile_nil,List.filter_nil,List.nil_append,List.append_nil];rw [hc,if_pos rfl]
 have E1:He (dG [] e0 keep=[e0]):=e1;clear e1
 by_cases hk:keep=true
 ·subst hk
  clear hc
  go_wp2_with (at_builtin;refine wpList_append_own _ rfl _ _ 26 rfl (w.heap.size+1) 66 i0 (.agg #[.string ByteArray.empty,.string ByteArray.empty,.string ByteArray.empty]) 3 48 underlying26 hi ai af aj rfl (by decide) _ _ _ rfl (H.alloc _) ⟨w1.heap.size,0,none⟩ 1 1 (jM e0) rfl rfl (fF _ _ _) (gW _) ae ag (ah _) ?_;intro v2 w2 G u _)
  have J:=(U.alloc O _).grown u (by simpa using Nat.le_succ_of_le O) (fun k hk=>H.row k hk);have I:=aU.snoc (l:=[]) G rfl;clear G u;go_wp2
  refine wp_loop_rounds 1 ?_;rw [rounds_succ];go_wp2
  go_ret;exact ⟨_,rfl,by rw [E1.o];exact I.base_le (Nat.le_succ _),bA.trans (J.mono (Nat.le_succ _))⟩
 have an:keep=false:=by simpa using hk
 subst an;have ao:e0.id.toList.isEmpty=false:=by simpa using hc
 clear hc hk
 go_wp2_with (at_builtin;refine wpList_append_own _ rfl _ _ 26 rfl (w.heap.size+1) 66 i0 (.agg #[.string ByteArray.empty,.string ByteArray.empty,.string ByteArray.empty]) 3 48 underlying26 hi ai af aj rfl (by decide) _ _ _ rfl (H.alloc _) ⟨w1.heap.size,0,none⟩ 1 1 (jM e0) rfl rfl (fF _ _ _) (gW _) ae ag (ah _) ?_;intro v2 w2 G u _)
 have J:=(U.alloc O _).grown u (by simpa using Nat.le_succ_of_le O) (fun k hk=>H.row k hk);have I:=aU.snoc (l:=[]) G rfl;clear G u;go_wp2
 refine wp_loop_rounds 1 ?_;rw [rounds_succ];go_wp2
 go_ret;exact ⟨_,rfl,by rw [E1.o];exact I.base_le (Nat.le_succ _),bA.trans (J.mono (Nat.le_succ _))⟩
theorem nH (e0:aE)(keep:Bool)(w:World)(hr:l.length<=1000000)(h:dF w a cap l) :
  Calls prog 24 #[.slice a l.length cap,eS e0,.bool keep] w fun e w'=>∃ v,e=.returned v/\aU w' w.heap.size v (dG l e0 keep)/\Below w.heap.size w w':=by
 rcases h.cells with rfl|⟨b,off,rfl,hb,c1,c2,c3⟩
 ·exact OF a cap e0 keep w
 exact RI b off cap l e0 keep w hr hb c1 c2 c3
theorem JX {e:aE}(h:cO x e=true):cO e x=false:=by
 unfold cO at h ⊢;rw [ByteArray.toList_eq,ByteArray.toList_eq,ByteArray.toList_eq,ByteArray.toList_eq] at *
 by_cases u:x.ty.data.toList=e.ty.data.toList
 ·rw [u] at h ⊢
  simp only [beq_self_eq_true,if_true,bytesLess_eq,decide_eq_true_eq,decide_eq_false_iff_not] at h ⊢;exact List.lt_asymm h
 have G:(x.ty.data.toList == e.ty.data.toList)=false:=by simpa using u
 have H:(e.ty.data.toList == x.ty.data.toList)=false:=by
  cases hb:(e.ty.data.toList == x.ty.data.toList)
  ·rfl
  exact absurd (eq_of_beq hb).symm u
 rw [G] at h;rw [H];simp only [Bool.false_eq_true,if_false,bytesLess_eq,decide_eq_true_eq,decide_eq_false_iff_not] at h ⊢;exact List.lt_asymm h
theorem IZ {p q:aE->Bool}(h:∀ x,p x=true->q x=false):(l.takeWhile p).length+(l.filter q).length<=l.length:=by
 induction l with
 | nil=>simp
 | cons a l ih =>
  have u:(l.filter q).length<=l.length:=List.length_filter_le _ _;cases hp:p a
  ·rw [List.takeWhile_cons_of_neg (by simp [hp])]
   have:((a :: l).filter q).length<=(a :: l).length:=List.length_filter_le _ _;simpa using this
  rw [List.takeWhile_cons_of_pos hp,List.filter_cons_of_neg (by simp [h a hp])];simp only [List.length_cons];omega
theorem oO (l:List aE)(e:aE)(keep:Bool):(dG l e keep).length<=l.length+1:=by
 have:=IZ (l:=l) (p:=fun x=>cO x e) (q:=fun x=>cO e x) (fun x u=>JX u);unfold dG;rw [List.length_append,List.length_append];split
 ·simp only [List.length_singleton];omega
 simp only [List.length_nil];omega
theorem MQ {e:aE}{keep:Bool}(h:x ∈ dG l e keep):x ∈ l\/x=e:=by
 unfold dG at h;rw [List.mem_append,List.mem_append] at h;rcases h with h|h|h
 ·exact Or.inl ((List.takeWhile_sublist _).subset h)
 ·split at h
  ·exact Or.inr (by simpa using h)
  cases h
 exact Or.inl (List.mem_filter.1 h).1
def bK (l:List aE):Prop:=∀ x ∈ l,x.ty.size<=maxLen/\x.key.size<=maxLen/\x.id.size<=maxLen
theorem bK.at (h:bK l)(i:Nat)(hi:i<l.length):(aI l i).ty.size<=maxLen/\(aI l i).key.size<=maxLen/\(aI l i).id.size<=maxLen:=h _ (fW l i hi)
theorem dF.ok (h:dF w a cap l):bK l:=fun x u=>by
 obtain ⟨i,hi,e⟩:=List.mem_iff_getElem.1 u;rw [<- e,<- bP l i hi];exact h.size i hi
theorem bK.set {e:aE}{keep:Bool}(h:bK l)(G:e.ty.size<=maxLen/\e.key.size<=maxLen/\e.id.size<=maxLen):bK (dG l e keep):=fun x H=>(MQ H).elim (h x) fun u=>u ▸ G
end Go.Proofs.YtpfeegcdlikegaaGreat
