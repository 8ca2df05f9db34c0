import Derived.Deep.RegionLaw
import Derived.Test.YtpfeegcdlikegaaGreatNdSZ
set_option maxHeartbeats 16000000
set_option maxRecDepth 100000
namespace Go.Proofs.YtpfeegcdlikegaaGreat
open Go.RowKit Go.Proofs.Tryz
variable {k n cap:Nat}{a:Option Addr}
def RwT (w:World)(b o:Nat)(l:List ByteArray):Prop:=∃ sa sc,w.cell? ⟨b,o,none⟩=some (.slice sa l.length sc)/\dE w sa l.length sc (aG l)
structure YP (w:World)(a:Option Addr)(n cap:Nat)(L:Nat->List ByteArray):Prop where
 le:n<=cap
 max:cap<=maxLen
 cells:n=0\/∃ b off,a=some ⟨b,off,none⟩/\b<w.heap.size/\∀ i,i<n->RwT w b (off+i) (L i)
def KH (L:Nat->List ByteArray)(s:ByteArray):Nat->Bool
 | 0=>true
 | j+1=>KH L s j && bD (aG (L j)) (L j).length s
theorem mN (l:List ByteArray)(s:ByteArray):bD (aG l) l.length s=true↔s ∈ l:=by
 have:=jK l s l.length nL;rw [List.take_length] at this;exact this
theorem QP (L:Nat->List ByteArray)(s:ByteArray):∀ n,KH L s n=false↔∃ j,j<n/\s ∉ L j
 | 0=>⟨fun h=>(by cases h),fun ⟨j,u,_⟩=>absurd u (Nat.not_lt_zero _)⟩
 | n+1=>by
  rw [KH,Bool.and_eq_false_iff,QP L s n]
  have:bD (aG (L n)) (L n).length s=false↔s ∉ L n:=by rw [<- mN,Bool.not_eq_true]
  rw [this];constructor
  ·rintro (⟨j,u,h⟩|h)
   ·exact ⟨j,by omega,h⟩
   exact ⟨n,by omega,h⟩
  rintro ⟨j,u,h⟩
  by_cases e:j=n
  ·subst e;exact Or.inr h
  exact Or.inl ⟨j,by omega,h⟩
def CB (L:Nat->List ByteArray)(n k t:Nat)(s:ByteArray):Prop:=((∃ i,i<k/\s ∈ L i)\/∃ x,x<t/\aG (L k) x=s)/\KH L s n=false
theorem LZ (L:Nat->List ByteArray)(n:Nat)(s:ByteArray):s ∈ ([]:List ByteArray)↔CB L n 0 0 s:=by
 constructor
 ·intro h;cases h
 rintro ⟨⟨i,hi,_⟩|⟨i,hi,_⟩,_⟩ <;> omega
theorem NS (L:Nat->List ByteArray)(n k:Nat)(s:ByteArray):CB L n k (L k).length s↔CB L n (k+1) 0 s:=by
 unfold CB;refine and_congr_left fun _=>?_
 constructor
 ·rintro (⟨i,hi,h⟩|⟨x,u,rfl⟩)
  ·exact Or.inl ⟨i,by omega,h⟩
  exact Or.inl ⟨k,by omega,bO u⟩
 rintro (⟨i,hi,h⟩|⟨x,u,_⟩)
 ·by_cases e:i=k
  ·subst e
   exact Or.inr (dO h)
  exact Or.inl ⟨i,by omega,h⟩
 omega
theorem TC {L:Nat->List ByteArray}{t:Nat}{l:List ByteArray}(h:∀ s,s ∈ l↔CB L n k t s)(I:KH L (aG (L k) t) n=false)(s:ByteArray):s ∈ l ++ [aG (L k) t]↔CB L n k (t+1) s:=by
 rw [List.mem_append,List.mem_singleton,h];constructor
 ·rintro (⟨G|⟨x,H,e⟩,u⟩|rfl)
  ·exact ⟨Or.inl G,u⟩
  ·exact ⟨Or.inr ⟨x,by omega,e⟩,u⟩
  exact ⟨Or.inr ⟨t,by omega,rfl⟩,I⟩
 rintro ⟨G|⟨x,H,e⟩,u⟩
 ·exact Or.inl ⟨Or.inl G,u⟩
 by_cases J:x=t
 ·subst J;exact Or.inr e.symm
 exact Or.inl ⟨Or.inr ⟨x,by omega,e⟩,u⟩
theorem XQ {L:Nat->List ByteArray}{t:Nat}{l:List ByteArray}(h:∀ s,s ∈ l↔CB L n k t s)(H:KH L (aG (L k) t) n=true)(s:ByteArray):s ∈ l↔CB L n k (t+1) s:=by
 rw [h];constructor
 ·rintro ⟨G|⟨x,I,e⟩,u⟩
  ·exact ⟨Or.inl G,u⟩
  exact ⟨Or.inr ⟨x,by omega,e⟩,u⟩
 rintro ⟨G|⟨x,I,e⟩,u⟩
 ·exact ⟨Or.inl G,u⟩
 by_cases J:x=t
 ·subst J;rw [e,u] at H;cases H
 exact ⟨Or.inr ⟨x,by omega,e⟩,u⟩
theorem RO (L:Nat->List ByteArray)(n:Nat)(s:ByteArray):CB L n n 0 s↔KI (fun i s=>s ∈ L i) n s:=by
 unfold CB KI;rw [QP];refine and_congr_left fun _=>?_
 constructor
 ·rintro (h|⟨x,u,_⟩)
  ·exact h
  omega
 exact Or.inl
def UU (w:World)(L:Nat->List ByteArray)(n k t:Nat)(v:Value)(wr:World):Prop :=
 ∃ (l:List ByteArray) (a:Option Addr) (m cp:Nat),v=.slice a m cp/\He (m=l.length)/\m<=k * 300+t/\aH wr w.heap.size (.slice a m cp) l/\He (∀ s,s ∈ l↔CB L n k t s)/\He (∀ s ∈ l,s.size<=maxLen)/\Below w.heap.size w wr
theorem ND (b off n cap:Nat)(L:Nat->List ByteArray)(w:World)(hn:n<=20)(hl:∀ i,i<n->(L i).length<=300)(hb:0<n->b<w.heap.size)(hc:∀ i,i<n->RwT w b (off+i) (L i)) :
  Calls prog 169 #[.slice (some ⟨b,off,none⟩) n cap] w (gH w (KI (fun i s=>s ∈ L i) n)):=by
 obtain ⟨i0,hi,cb,bz,cd⟩:=info_parts Tryz.infoString;have bc:Below w.heap.size w (w.alloc (.cells #[] 9)):=bA;have bi:aH (w.alloc (.cells #[] 9)) w.heap.size (.slice (some ⟨w.heap.size,0,none⟩) 0 0) []:=aH.new w _ nL;have Hc:He (∀ i,i<n->RwT w b (off+i) (L i)):=hc;have Hb:He (0<n->b<w.heap.size):=hb;have Hl:He (_):=hl;clear hc hb hl
 go_enter func169,ntmps169
 go_wp2_with fail
 go_loopw [3,4] (fun v i wr=>∃ k:Nat,k<=n/\i=.int .i64 (k:Int)/\UU w L n k 0 v wr) (fun _ i _=>n - (intOf i).toNat)
 case atStart=>exact ⟨0,nz,rfl,[],_,_,_,rfl,rfl,nL,bi,LZ L n,fun s hs=>(by cases hs),bc⟩
 case round =>
  clear bc bi;obtain ⟨k,hk,rfl,l,a,m,cp,rfl,hm,ao,G,u,N,hB⟩:=hrel;obtain ⟨wo,rfl⟩:∃ wo:World,wo=wr:=⟨_,rfl⟩
  by_cases ba:k<n
  ·have ae:=Hb.o (by omega)
   have cu:=Hl.o k ba;obtain ⟨sa,sc,a6,bo⟩:=Hc.o k ba;have HS:He (dE w sa (L k).length sc (aG (L k))):=bo;have a8:He (w.cell? ⟨b,off+k,none⟩=some (.slice sa (L k).length sc)):=a6;clear a6 bo
   go_wp2_with fail
   go_loopw [3,5] (fun v i wi=>∃ t:Nat,t<=(L k).length/\i=.int .i64 (t:Int)/\UU w L n k t v wi) (fun _ i _=>(L k).length - (intOf i).toNat)
   case atStart=>exact ⟨0,nz,rfl,l,a,m,cp,rfl,hm.o,ao,G,u.o,N.o,hB⟩
   case round =>
    clear G u N hB ao hm;obtain ⟨t,ht,rfl,l,a,m,cp,rfl,hm,ao,G,u,N,hB⟩:=hrel;obtain ⟨wp,rfl⟩:∃ wp:World,wp=wr:=⟨_,rfl⟩;have ck:=(hB.cell (p:=⟨b,off+k,none⟩) (by exact ae)).trans a8.o
    by_cases ab:t<(L k).length
    ·rcases HS.o.cells with h0|⟨sb,so,rfl,bf,bq⟩
     ·omega
     have bj:=bq t ab;have ak:He ((aG (L k) t).size<=maxLen):=HS.o.size t ab;have HY:He (KH L (aG (L k) t) n=false->∀ s,s ∈ l ++ [aG (L k) t]↔CB L n k (t+1) s):=fun Z=>TC u.o Z
     have HN:He (KH L (aG (L k) t) n=true->∀ s,s ∈ l↔CB L n k (t+1) s):=fun Z=>XQ u.o Z
     clear bq u;obtain ⟨x,hx⟩:∃ x,x=aG (L k) t:=⟨_,rfl⟩;rw [<- hx] at bj HY HN ak;clear hx;obtain ⟨ll,ai⟩:∃ ll,ll=(L k).length:=⟨_,rfl⟩;rw [<- ai] at ck ab ht cu;have df:He (ll=(L k).length):=ai;rw [<- ai];clear ai;have bb:He (aH wp w.heap.size (.slice a m cp) l):=G;clear G
     go_wp2_with fail
     go_loopw [6,7] (fun ev jv wi=>∃ j:Nat,j<=n/\jv=.int .i64 (j:Int)/\ev=.bool (KH L x j)/\Below wp.heap.size wp wi) (fun _ jv _=>n - (intOf jv).toNat)
     case atStart=>exact ⟨0,nz,rfl,rfl,kB⟩
     case round =>
      obtain ⟨j,hj,rfl,rfl,J⟩:=hrel;have I:=hB.trans (J.mono hB.size);have ct:=(I.cell (p:=⟨sb,so+t,none⟩) (by exact bf)).trans bj;have co:=(J.cell (p:=⟨b,off+k,none⟩) (by exact nT ae hB.size)).trans ck
      by_cases b6:j<n
      ·have H:He ((KH L x j && bD (aG (L j)) (L j).length x)=KH L x (j+1)):=rfl
       obtain ⟨ja,jc,bp,am⟩:=Hc.o j b6;have cj:=(I.cell (p:=⟨b,off+j,none⟩) (by exact ae)).trans bp;have a5:He (dE wr ja (L j).length jc (aG (L j))):=am.below I;clear bp am;obtain ⟨lj,aj⟩:∃ lj,lj=(L j).length:=⟨_,rfl⟩;have HH:He (∀ b1,bD (aG (L j)) (L j).length x=b1->∀ W,Below wr.heap.size wr W->Calls prog 80 #[.slice ja (L j).length jc,.string x] W fun e w'=>e=.returned (.bool b1)/\w'=W):=fun b1 e1 W hW=>by rw [<- e1];exact kM x W (a5.o.below hW)
       rw [<- aj] at cj HH H;clear aj a5;cases Z:KH L x j
       case false =>
        rw [Z,Bool.false_and] at H;clear HH
        go_wp2_with fail
        go_region
        all_goals
         go_wp2
         first
          | exact ⟨⟨j+1,by omega,by go_num,congrArg _ H.o,J⟩,by simp [intOf];omega⟩
          | exact ⟨⟨j+1,by omega,by go_num,congrArg _ H.o,J.drew⟩,by simp [intOf];omega⟩
          | exact ⟨⟨j+1,by omega,by go_num,congrArg _ H.o,J.drew.drew⟩,by simp [intOf];omega⟩
       case true =>
        rw [Z,Bool.true_and] at H;obtain ⟨cf,aw⟩:∃ b1,b1=bD (aG (L j)) lj x:=⟨_,rfl⟩;have b4:He (∀ W,Below wr.heap.size wr W->Calls prog 80 #[.slice ja lj jc,.string x] W fun e w'=>e=.returned (.bool cf)/\w'=W):=HH.o _ aw.symm;rw [<- aw] at H;clear HH aw;have an:Below wr.heap.size wr wr:=kB;have HS:He (∀ W,Below wr.heap.size wr W->W.cell? ⟨b,off+j,none⟩=some (.slice ja lj jc)/\W.cell? ⟨b,off+k,none⟩=some (.slice (some ⟨sb,so,none⟩) ll sc)/\W.cell? ⟨sb,so+t,none⟩=some (.string x)):=fun W hW=>⟨(hW.cell (p:=⟨b,off+j,none⟩) (by exact nT ae I.size)).trans cj,(hW.cell (p:=⟨b,off+k,none⟩) (by exact nT ae I.size)).trans co,(hW.cell (p:=⟨sb,so+t,none⟩) (by exact nT bf I.size)).trans ct⟩
        go_wp2_with fail
        refine wp_region_held_drew (S:=fun W=>W.cell? ⟨b,off+j,none⟩=some (.slice ja lj jc)/\W.cell? ⟨b,off+k,none⟩=some (.slice (some ⟨sb,so,none⟩) ll sc)/\W.cell? ⟨sb,so+t,none⟩=some (.string x)) (by kernel_rfl) ?_ (fun hHeld=>?_)
        ·(try dsimp only);exact HS.o _ (by with_reducible (repeat refine .drew ?_);exact an)
        refine tq 0 rfl ?_;simp only [si];refine tq 1 rfl ?_;simp only [si];refine tq 2 rfl ?_;simp only [si];refine tq 3 rfl ?_;simp only [si];refine tq 4 rfl ?_;simp only [si];refine tq 5 rfl ?_;simp only [si];refine tq 6 rfl ?_;simp only [si];refine tq 7 rfl ?_;simp only [si];refine tq 8 rfl ?_;simp only [si];refine tq 9 rfl ?_;simp only [si];refine tq 10 rfl ?_;simp only [si];refine tq 11 rfl ?_;simp only [si];refine tq 12 rfl ?_;simp only [si];refine rd 13 rfl fun K hK=>?_
        go_simp
        go_at_call 80
        refine (b4.o _ (by with_reducible (repeat refine .drew ?_);exact an)).mono ?_;rintro e w3 ⟨rfl,rfl⟩;try dsimp only
        refine hK.out _ _ ?_ (fun hHeld=>?_)
        ·(try dsimp only);exact HS.o _ (by with_reducible (repeat refine .drew ?_);exact an)
        clear hK K;try simp only [si]
        refine tq 14 rfl ?_;simp only [si];refine tq 15 rfl ?_;simp only [si];refine wpAnyH_done (by kernel_rfl) ?_ _
        (try go_wp2)
        first
         | exact ⟨⟨j+1,by omega,by go_num,congrArg _ H.o,J⟩,by simp [intOf];omega⟩
         | exact ⟨⟨j+1,by omega,by go_num,congrArg _ H.o,J.drew⟩,by simp [intOf];omega⟩
         | exact ⟨⟨j+1,by omega,by go_num,congrArg _ H.o,J.drew.drew⟩,by simp [intOf];omega⟩
      have cc:n=j:=by omega
      subst cc;have U:=aH.below bb.o J;cases Z:KH L x n
      case true =>
       have Hn:He (∀ s,s ∈ l↔CB L n k (t+1) s):=HN.o Z;clear HY HN Z;go_wp2
       refine ⟨⟨t+1,by omega,by go_num,l,a,m,cp,rfl,hm.o,by omega,U,Hn.o,N.o,I⟩,by simp [intOf];omega⟩
      case false =>
       have Hn:He (∀ s,s ∈ l ++ [x]↔CB L n k (t+1) s):=HY.o Z;clear HY HN Z;have bx:m+1<=maxLen:=by unfold maxLen;omega
       have ah:(m+1) * 16<=140737488355328:=by omega
       have aq:∀ o,w.heap.size<=(wr.alloc o).heap.size:=fun o=>by have:=I.size;simp;omega
       have a3:He (∀ q,(Value.slice a m cp).ownBlock=some q->w.heap.size<=q):=fun q hq=>(World.ownsRow.lt U q hq).1
       have ad:wr.ownsRow w.heap.size 9 1 (.slice a m cp) m (l.map Value.string):=by have:=U;unfold aH at this;rw [<- hm.o] at this;exact this
       go_wp2_with (at_builtin;refine wpList_append_lies _ rfl _ _ 27 rfl w.heap.size 9 i0 (.string ByteArray.empty) 1 16 underlying27 hi cb bz cd rfl (by decide) _ _ _ rfl (World.ownsRow.alloc ad _) ⟨wr.heap.size,0,none⟩ 1 1 [.string x] rfl rfl (aV _ _ _) (bL _) (by decide) bx ah (aq _) (wr.heap.size+1) (by simp) ?_;intro gg cq w2 O Y bn cy)
       have au:aH w2 w.heap.size (.slice (some ⟨gg,0,none⟩) (m+1) cq) (l ++ [x]):=by
        rw [hm.o] at O ⊢;exact aH.snoc O
       have ap:Below w.heap.size w w2:=(I.alloc I.size _).grown Y (aq _) a3.o;clear O Y bn ad aq a3;refine ⟨⟨t+1,by omega,by go_num,l ++ [x],some ⟨gg,0,none⟩,m+1,cq,rfl,by unfold He;rw [List.length_append,<- hm.o];rfl,by omega,au,Hn.o,fun s hs=>?_,ap⟩,by simp [intOf];omega⟩;rcases List.mem_append.1 hs with h1|h1
       ·exact N.o s h1
       rw [List.mem_singleton] at h1;subst h1;exact ak.o
    have bk:(L k).length=t:=by omega
    have Hn:He (∀ s,s ∈ l↔CB L n (k+1) 0 s):=fun s=>(u.o s).trans (by rw [<- bk];exact NS L n k s)
    clear u;rw [bk] at ck;clear HS a8;go_wp2
    refine ⟨⟨k+1,by omega,by go_num,l,a,m,cp,rfl,hm.o,by omega,G,Hn.o,N.o,hB⟩,by simp [intOf];omega⟩
  have ce:n=k:=by omega
  subst ce;have Hd:He (∀ s,s ∈ l↔KI (fun i s=>s ∈ L i) n s):=fun s=>(u.o s).trans (RO L n s)
  have b5:=hm.o;subst b5;obtain ⟨ua,uc,e1,a2,_⟩:=G.sl N.o;injection e1 with b0 _ cm
  subst b0 cm;have HS:He (Calls prog 132 #[.slice a l.length cp] wo (tE wo (aG l) l.length)):=lP wo (by omega) a2;clear u G a2 N hm;generalize hL:l.length=ll at *;have HL:He (l.length=ll):=hL;clear hL
  go_wp2_with fail
  refine HS.o.mono ?_;rintro e w2 ⟨v2,l2,rfl,cl,b9,ah,cv⟩
  have b2:He (∀ s,s ∈ l2↔KI (fun i s=>s ∈ L i) n s):=fun s=>(ah s).trans (by
   rw [<- Hd.o s,<- HL.o];exact ⟨fun ⟨i,ci,e⟩=>e ▸ bO ci,fun h=>dO h⟩)
  clear ah HS;go_wp2
  go_ret;exact ⟨v2,l2,rfl,cl.mono hB.size,b9,b2.o,hB.trans (cv.mono hB.size)⟩
theorem KA (a:Option Addr)(cap:Nat)(L:Nat->List ByteArray)(w:World) :
  Calls prog 169 #[.slice a 0 cap] w (gH w (KI (fun i s=>s ∈ L i) 0)):=by
 have u:Below w.heap.size w (w.alloc (.cells #[] 9)):=bA
 go_enter func169,ntmps169
 go_wp2_with fail
 refine wp_loop_rounds 1 ?_;rw [rounds_succ]
 go_wp2_with fail
 refine (BJ _ _ (aG []) _).mono ?_;rintro e w2 ⟨Y,U,rfl,O,J,H,N⟩;have I:He (∀ s,s ∈ U↔KI (fun i s=>s ∈ L i) 0 s):=fun s=>(H s).trans ⟨fun ⟨i,G,_⟩=>absurd G (Nat.not_lt_zero _),fun ⟨⟨i,G,_⟩,_⟩=>absurd G (Nat.not_lt_zero _)⟩
 clear H;go_wp2
 go_ret;exact ⟨Y,U,rfl,O.mono u.size,J,I.o,u.trans (N.mono u.size)⟩
theorem TL {L:Nat->List ByteArray}(w:World)(u:n<=20)(H:∀ i,i<n->(L i).length<=300)(h:YP w a n cap L) :
  Calls prog 169 #[.slice a n cap] w (gH w (KI (fun i s=>s ∈ L i) n)):=by
 rcases h.cells with rfl|⟨b,off,rfl,hb,G⟩
 ·exact KA a cap L w
 exact ND b off n cap L w u H (fun _=>hb) G
variable {l:List aE}
theorem LY (l:List aE)(k:Nat)(h:k<l.length):(l.take (k+1)).map aE.id=(l.take k).map aE.id ++ [(aI l k).id]:=by
 rw [nR l k h,List.map_append];rfl
def wX (w:World)(l:List aE)(e:Ending)(w':World):Prop:=∃ g cp,e=.returned (.slice (some ⟨g,0,none⟩) l.length cp)/\aH w' w.heap.size (.slice (some ⟨g,0,none⟩) l.length cp) (l.map aE.id)/\Below w.heap.size w w'
theorem KY (b off cap:Nat)(l:List aE)(w:World)(hl:l.length<=100000)(hc:∀ i,i<l.length->w.cell? ⟨b,off+i * 3+2,none⟩=some (.string (aI l i).id))(hb:b<w.heap.size) :
  Calls prog 168 #[.slice (some ⟨b,off,none⟩) l.length cap] w (wX w l):=by
 obtain ⟨i0,hi,am,aj,an⟩:=info_parts Tryz.infoString;have ae:Below w.heap.size w (w.alloc (.cells #[] 9)):=bA;have af:aH (w.alloc (.cells #[] 9)) w.heap.size (.slice (some ⟨w.heap.size,0,none⟩) 0 0) []:=aH.new w _ nL;have Hc:He (_):=hc;obtain ⟨ll,Y⟩:∃ ll,ll=l.length:=⟨_,rfl⟩;rw [<- Y] at hl ⊢;have O:He (ll=l.length):=Y;clear Y hc
 go_enter func168,ntmps168
 go_wp2_with fail
 go_loopw [3,4] (fun v i wr=>∃ (k g m cp:Nat),k<=ll/\i=.int .i64 (k:Int)/\v=.slice (some ⟨g,0,none⟩) m cp/\He (m=k)/\aH wr w.heap.size (.slice (some ⟨g,0,none⟩) m cp) ((l.take k).map aE.id)/\Below w.heap.size w wr) (fun _ i _=>ll - (intOf i).toNat)
 case atStart=>exact ⟨0,_,_,_,nz,rfl,rfl,rfl,af,ae⟩
 case round =>
  clear ae af;obtain ⟨k,g,m,cp,hk,rfl,rfl,hm,u,hB⟩:=hrel
  by_cases ao:k<ll
  ·have J:k<l.length:=by rw [<- O.o];exact ao
   have ck:=(hB.cell (p:=⟨b,off+k * 3+2,none⟩) (by exact hb)).trans (Hc.o k J);have Hs:He ((l.take (k+1)).map aE.id=(l.take k).map aE.id ++ [(aI l k).id]):=LY l k J;have N:He (m=((l.take k).map aE.id).length):=by unfold He;rw [List.length_map,List.length_take,hm.o];omega
   have a8:m<=100000:=by have:=hm.o;omega
   obtain ⟨x,hx⟩:∃ x,x=(aI l k).id:=⟨_,rfl⟩;rw [<- hx] at ck Hs;clear hx;generalize (l.take k).map aE.id=lk at *;have ai:m+1<=maxLen:=by unfold maxLen;omega
   have ak:(m+1) * 16<=140737488355328:=by omega
   have U:∀ o,w.heap.size<=(wr.alloc o).heap.size:=fun o=>by have:=hB.size;simp;omega
   have ad:He (∀ q,(Value.slice (some ⟨g,0,none⟩) m cp).ownBlock=some q->w.heap.size<=q):=fun q hq=>(World.ownsRow.lt u q hq).1
   have I:wr.ownsRow w.heap.size 9 1 (.slice (some ⟨g,0,none⟩) m cp) m (lk.map Value.string):=by have:=u;unfold aH at this;rw [<- N.o] at this;exact this
   go_wp2_with (at_builtin;refine wpList_append_lies _ rfl _ _ 27 rfl w.heap.size 9 i0 (.string ByteArray.empty) 1 16 underlying27 hi am aj an rfl (by decide) _ _ _ rfl (World.ownsRow.alloc I _) ⟨wr.heap.size,0,none⟩ 1 1 [.string x] rfl rfl (aV _ _ _) (bL _) (by decide) ai ak (U _) (wr.heap.size+1) (by simp) ?_;intro gg cq w2 G H ag ay)
   have Z:aH w2 w.heap.size (.slice (some ⟨gg,0,none⟩) (m+1) cq) ((l.take (k+1)).map aE.id):=by
    rw [Hs.o];rw [N.o] at G ⊢;exact aH.snoc G
   have ab:Below w.heap.size w w2:=(hB.alloc hB.size _).grown H (U _) ad.o;clear G H ag I U ad;go_roundw
   case rel=>exact ⟨k+1,gg,m+1,cq,by omega,by go_num,rfl,by unfold He;rw [hm.o],Z,ab⟩
   simp [intOf];omega
  have J:ll=k:=by omega
  subst J
  have HP:He (wX w l (.returned (.slice (some ⟨g,0,none⟩) m cp)) wr):=by
   have h1:m=l.length:=hm.o.trans O.o;rw [O.o,List.take_length,h1] at u;rw [h1];exact ⟨g,cp,rfl,u,hB⟩
  clear u;go_wp2
  go_ret;exact HP.o
theorem EL (a:Option Addr)(cap:Nat)(w:World) :
  Calls prog 168 #[.slice a 0 cap] w (wX w []):=by
 have u:Below w.heap.size w (w.alloc (.cells #[] 9)):=bA;have G:aH (w.alloc (.cells #[] 9)) w.heap.size (.slice (some ⟨w.heap.size,0,none⟩) 0 0) []:=aH.new w _ nL
 go_enter func168,ntmps168
 go_wp2_with fail
 refine wp_loop_rounds 1 ?_;rw [rounds_succ];go_wp2
 go_ret;exact ⟨_,_,rfl,G,u⟩
theorem QU (w:World)(G:l.length<=100000)(h:dF w a cap l) :
  Calls prog 168 #[.slice a l.length cap] w (wX w l):=by
 rcases h.cells with rfl|⟨b,off,rfl,hb,_,_,u⟩
 ·exact EL a cap w
 exact KY b off cap l w G u hb
def XT (a:Option Addr)(n:Nat)(row:Option Nat):Prop:=n=0\/∀ b off,a=some ⟨b,off,none⟩->row≠some b
structure LC {α:Type}(len:α->Nat)(P:World->Option Addr->Nat->α->Prop):Prop where
 below:∀ {w w':World} {a:Option Addr} {c:Nat} {x:α},P w a c x->Below w.heap.size w w'->P w' a c x
 grown:∀ {w w':World} {a:Option Addr} {c:Nat} {x:α} {row:Option Nat},P w a c x->w.grownBy w' row->XT a (len x) row->P w' a c x
 lt:∀ {w:World} {a:Option Addr} {c:Nat} {x:α},P w a c x->len x=0\/∃ b off,a=some ⟨b,off,none⟩/\b<w.heap.size
def lZ {α:Type}(len:α->Nat)(L:Nat->α)(A:Nat->Option Addr)(C:Nat->Nat)(n:Nat):List Value:=(List.range n).map fun i=>.slice (A i) (len (L i)) (C i)
theorem KU {α:Type}(len:α->Nat)(L:Nat->α)(A:Nat->Option Addr)(C:Nat->Nat)(n:Nat):lZ len L A C n ++ [.slice (A n) (len (L n)) (C n)]=lZ len L A C (n+1):=by simp [lZ,List.range_succ]
theorem LT {α:Type}(len:α->Nat)(L:Nat->α)(A:Nat->Option Addr)(C:Nat->Nat)(n i:Nat)(h:i<n):(lZ len L A C n)[i]?=some (.slice (A i) (len (L i)) (C i)):=by simp [lZ,h]
def bM {β:Type}(f:Nat->β)(n:Nat)(x:β):Nat->β:=fun i=>if i=n then x else f i
theorem cQ {β:Type}(f:Nat->β)(n:Nat)(x:β):bM f n x n=x:=if_pos rfl
theorem cP {β:Type}(f:Nat->β){n i:Nat}(x:β)(h:i<n):bM f n x i=f i:=if_neg (by omega)
theorem CT {α:Type}{len:α->Nat}{L L':Nat->α}{A u:Nat->Option Addr}{C G:Nat->Nat}{n:Nat}(h:∀ i,i<n->L i=L' i/\A i=u i/\C i=G i):lZ len L A C n=lZ len L' u G n:=by
 unfold lZ;refine List.map_congr_left fun i hi=>?_
 obtain ⟨I,J,H⟩:=h i (List.mem_range.1 hi);rw [I,J,H]
structure dQ {α:Type}(len:α->Nat)(P:World->Option Addr->Nat->α->Prop)(t:TypeId)(w:World)(base:Nat)(v:Value)(n:Nat)(L:Nat->α)(A:Nat->Option Addr)(C:Nat->Nat):Prop where
 own:w.ownsRow base t 1 v n (lZ len L A C n)
 sl:∀ i,i<n->P w (A i) (C i) (L i)
 apart:∀ i,i<n->XT (A i) (len (L i)) v.ownBlock
section
variable {α:Type} {len:α->Nat} {P:World->Option Addr->Nat->α->Prop} {t:TypeId}
theorem dQ.below (c:LC len P){w w':World}{base n:Nat}{v:Value}{L:Nat->α}{A:Nat->Option Addr}{C:Nat->Nat}(h:dQ len P t w base v n L A C)(hb:Below w.heap.size w w'):dQ len P t w' base v n L A C :=
 ⟨mX h.own hb,fun i hi=>c.below (h.sl i hi) hb,h.apart⟩
theorem dQ.new (w:World)(base:Nat)(hb:base<=w.heap.size)(L:Nat->α)(A:Nat->Option Addr)(C:Nat->Nat):dQ len P t (w.alloc (.cells #[] t)) base (.slice (some ⟨w.heap.size,0,none⟩) 0 0) 0 L A C :=
 ⟨⟨rfl,Or.inr ⟨w.heap.size,0,#[],rfl,hb,by show (w.heap.push _)[w.heap.size]?=_;simp,nL,by decide,rfl,rfl⟩⟩,fun i hi=>absurd hi (Nat.not_lt_zero _),fun i hi=>absurd hi (Nat.not_lt_zero _)⟩
theorem dQ.mono {w:World}{base base' n:Nat}{v:Value}{L:Nat->α}{A:Nat->Option Addr}{C:Nat->Nat}(h:dQ len P t w base v n L A C)(hb:base'<=base):dQ len P t w base' v n L A C:=by
 refine ⟨?_,h.sl,h.apart⟩;obtain ⟨H,G⟩:=h.own;refine ⟨H,?_⟩;rcases G with G|⟨g,cap,u,I,hg,r⟩
 ·exact Or.inl G
 exact Or.inr ⟨g,cap,u,I,nZ hb hg,r⟩
theorem dQ.snoc (c:LC len P){w w':World}{base n g cap:Nat}{v:Value}{L:Nat->α}{A:Nat->Option Addr}{C:Nat->Nat}{x:α}{a:Option Addr}{k:Nat}(h:dQ len P t w base v n L A C)(O:P w a k x)(u:XT a (len x) v.ownBlock)
  (G:w'.ownsRow base t 1 (.slice (some ⟨g,0,none⟩) (n+1) cap) (n+1) (lZ len L A C n ++ [.slice a (len x) k])) (H:w.grownBy w' v.ownBlock) (hg:v.ownBlock=some g\/w.heap.size<=g):dQ len P t w' base (.slice (some ⟨g,0,none⟩) (n+1) cap) (n+1) (bM L n x) (bM A n a) (bM C n k):=by
 have N:∀ {a:Option Addr} {k:Nat} {x:α},P w a k x->XT a (len x) v.ownBlock->XT a (len x) (Value.slice (some ⟨g,0,none⟩) (n+1) cap).ownBlock:=fun {a k x} hp u=>by
  rcases c.lt hp with J|⟨b,off,e,hb⟩
  ·exact Or.inl J
  rcases u with J|u
  ·exact Or.inl J
  refine Or.inr fun Y U I q=>?_
  have q':some g=some Y:=q;injection q' with q'
  rw [e] at I;injection I with I
  injection I with e1 _ _
  rcases hg with hg|hg
  ·exact u b off e (by rw [hg];congr 1;omega)
  omega
 have Z:∀ i,i<n->L i=bM L n x i/\A i=bM A n a i/\C i=bM C n k i:=fun i hi=>⟨(cP L x hi).symm,(cP A a hi).symm,(cP C k hi).symm⟩
 refine ⟨?_,fun i hi=>?_,fun i hi=>?_⟩
 ·rw [<- KU,<- CT Z,cQ,cQ,cQ]
  exact G
 ·by_cases e:i=n
  ·subst e
   rw [cQ,cQ,cQ];exact c.grown O H u
  rw [cP _ _ (by omega),cP _ _ (by omega),cP _ _ (by omega)];exact c.grown (h.sl i (by omega)) H (h.apart i (by omega))
 by_cases e:i=n
 ·subst e
  rw [cQ,cQ];exact N O u
 rw [cP _ _ (by omega),cP _ _ (by omega)];exact N (h.sl i (by omega)) (h.apart i (by omega))
theorem dQ.cells {w:World}{base n:Nat}{v:Value}{L:Nat->α}{A:Nat->Option Addr}{C:Nat->Nat}(h:dQ len P t w base v n L A C) :
  (v=.slice none 0 0/\n=0)\/∃ g cap,v=.slice (some ⟨g,0,none⟩) n cap/\base<=g/\g<w.heap.size/\n<=cap/\cap<=maxLen/\∀ i,i<n->w.cell? ⟨g,0+i,none⟩=some (.slice (A i) (len (L i)) (C i)):=by
 obtain ⟨Y,N⟩:=h.own;rcases N with ⟨rfl,J⟩|⟨g,cap,G,rfl,hg,hh,O,U,H,I⟩
 ·exact Or.inl ⟨rfl,J⟩
 have u:g<w.heap.size:=(Array.getElem?_eq_some_iff.1 hh).1;refine Or.inr ⟨g,cap,rfl,hg,u,O,U,fun i hi=>?_⟩;rw [<- LT len L A C n i hi,<- I,List.getElem?_take,if_pos (by omega),Nat.zero_add];simp [World.cell?,hh]
end
def PT (w:World)(a:Option Addr)(c:Nat)(l:List ByteArray):Prop:=dE w a l.length c (aG l)
theorem YX:LC List.length PT:=by
 refine ⟨fun h hb=>dE.below h hb,fun {w w' a c x row} h hg G=>?_,fun {w a c x} h=>?_⟩
 ·refine ⟨h.le,h.max,h.size,?_⟩
  rcases h.cells with u|⟨b,off,e,hb,H⟩
  ·exact Or.inl u
  rcases G with u|G
  ·exact Or.inl u
  exact Or.inr ⟨b,off,e,nT hb hg.size,fun i hi=>(World.cell?_of_block (a:=⟨b,off+i,none⟩) (hg.block b hb (fun q=>G b off e q.symm))).trans (H i hi)⟩
 rcases h.cells with u|⟨b,off,e,hb,_⟩
 ·exact Or.inl u
 exact Or.inr ⟨b,off,e,hb⟩
def PE (w:World)(a:Option Addr)(c:Nat)(l:List aE):Prop:=dF w a c l
theorem VG:LC List.length PE:=by
 refine ⟨fun h hb=>dF.below h hb,fun {w w' a c x row} h hg H=>?_,fun {w a c x} h=>?_⟩
 ·refine ⟨h.le,h.max,h.size,?_⟩
  rcases h.cells with u|⟨b,off,e,hb,c1,c2,c3⟩
  ·exact Or.inl u
  rcases H with u|H
  ·exact Or.inl (List.length_eq_zero_iff.1 u)
  have G:∀ o,w'.cell? ⟨b,o,none⟩=w.cell? ⟨b,o,none⟩:=fun o=>World.cell?_of_block (a:=⟨b,o,none⟩) (hg.block b hb (fun q=>H b off e q.symm))
  exact Or.inr ⟨b,off,e,nT hb hg.size,fun i hi=>(G _).trans (c1 i hi),fun i hi=>(G _).trans (c2 i hi),fun i hi=>(G _).trans (c3 i hi)⟩
 rcases h.cells with u|⟨b,off,e,hb,_⟩
 ·exact Or.inl (by rw [u];rfl)
 exact Or.inr ⟨b,off,e,hb⟩
theorem dQ.tt {t:TypeId}{w:World}{base n:Nat}{v:Value}{L:Nat->List ByteArray}{A:Nat->Option Addr}{C:Nat->Nat}(h:dQ List.length PT t w base v n L A C):∃ a cap,v=.slice a n cap/\YP w a n cap L:=by
 rcases h.cells with ⟨rfl,rfl⟩|⟨g,cap,rfl,_,u,G,H,I⟩
 ·exact ⟨none,0,rfl,nL,by decide,Or.inl rfl⟩
 exact ⟨_,cap,rfl,G,H,Or.inr ⟨g,0,rfl,u,fun i hi=>⟨A i,C i,I i hi,h.sl i hi⟩⟩⟩
theorem dQ.ee {t:TypeId}{w:World}{base n:Nat}{v:Value}{L:Nat->List aE}{A:Nat->Option Addr}{C:Nat->Nat}(h:dQ List.length PE t w base v n L A C):∃ a cap,v=.slice a n cap/\jN w a n cap L:=by
 rcases h.cells with ⟨rfl,rfl⟩|⟨g,cap,rfl,_,u,G,H,I⟩
 ·exact ⟨none,0,rfl,nL,by decide,Or.inl rfl⟩
 exact ⟨_,cap,rfl,G,H,Or.inr ⟨g,0,rfl,u,fun i hi=>⟨A i,C i,I i hi,h.sl i hi⟩⟩⟩
theorem mJ (W:World)(v:Value)(ty:TypeId)(j:Nat)(u:Value)(h:[v][j]?=some u):(W.alloc (.cells #[v] ty)).cell? ((⟨W.heap.size,0,none⟩:Addr).add j)=some u:=by
 rw [Addr.add_lit,Nat.zero_add,kA rfl,<- h];rw [List.getElem?_toArray]
theorem SW (W:World)(base H:Nat)(v sv:Value)(l news:List ByteArray)(ty:TypeId)(G:aH W base v l)(Y:aH W H sv news)(hb:base<=W.heap.size)(ab:l.length+news.length<=1000000) :
  ∃ I w',(Builtin.append_ #[27,27] ty #[v,sv]).run prog W=.ok I w'/\aH w' base I (l ++ news)/\W.grownBy w' v.ownBlock:=by
 obtain ⟨U,hi,O,N,J⟩:=info_parts Tryz.infoString;rcases Y.shape with ⟨rfl,rfl⟩|⟨g,cap,rfl,_,_,_,_⟩
 ·refine ⟨v,W,run_append_owned_none W base 27 ty 9 U 1 underlying27 hi v l.length _ G,by rw [List.append_nil];exact G,⟨rfl,rfl,rfl,nL,fun _ _ _=>rfl⟩⟩
 obtain ⟨I,w',hr,h2,Z,_⟩:=run_append_own (P:=prog) W base 27 ty 9 U (.string ByteArray.empty) 1 16 underlying27 hi O N J rfl (by decide) _ _ _ G ⟨g,0,none⟩ news.length cap (news.map Value.string) (by simp) (fun j u hj=>Y.src rfl j u hj) (zD news) (by unfold maxLen;omega) (by omega) hb;refine ⟨I,w',hr,?_,Z⟩;unfold aH;rw [List.length_append,List.map_append];exact h2
end Go.Proofs.YtpfeegcdlikegaaGreat
