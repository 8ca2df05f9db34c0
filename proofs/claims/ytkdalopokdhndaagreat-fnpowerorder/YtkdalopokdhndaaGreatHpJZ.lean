import Derived.Test.YtkdalopokdhndaaGreatHpPZ
set_option maxHeartbeats 16000000
set_option maxRecDepth 100000
namespace Go.Proofs.YtkdalopokdhndaaGreat
open Go.RowKit
variable {D X:Nat->Nat}{c g n p bg bw hb cap len base:Nat}{E:Nat->Ev}{v:Value}
def PuPost (E:Nat->Ev)(D:Nat->Nat)(w:World)(hb base bg bw:Nat)(v:Value)(len x:Nat)(X:Nat->Nat)(e:Ending)(w':World):Prop:=e=.returned (.tuple #[]) ∧
 ∃ g cap X',HpAt w' hb base bg bw (.slice (some ⟨g,0,none⟩) (len+1) cap) (len+1) X'∧(v.ownBlock=some g∨w.heap.size<=g)∧Heap E D (len+1) X'∧(∀ p,MemX X' (len+1) p↔MemX X len p∨p=x)∧(InjX X len->¬ MemX X len x->InjX X' (len+1))∧Kp (HpB hb v) w w'
def PuRel (E:Nat->Ev)(D:Nat->Nat)(w3:World)(hb base bg bw g cap len:Nat)(X1:Nat->Nat)(i:Value)(wr:World):Prop :=
 ∃ (a:Nat) (X':Nat->Nat),i=.int .i64 (a:Int)∧a<len+1∧HpAt wr hb base bg bw (.slice (some ⟨g,0,none⟩) (len+1) cap) (len+1) X'∧Hid (HUp E D (len+1) X' a)∧Hid (∀ p,MemX X' (len+1) p↔MemX X1 (len+1) p)∧Hid (InjX X1 (len+1)->InjX X' (len+1))∧Kp (fun b=>b=g) w3 wr
theorem mem_all (h:∀ p,MemX X len p->p<n):∀ i,i<len->X i<n:=fun i hi=>h _ ⟨i,hi,rfl⟩
def snX (X:Nat->Nat)(len x i:Nat):Nat:=if i=len then x else X i
theorem sn_mem {x:Nat}:MemX (snX X len x) (len+1) p↔MemX X len p∨p=x:=by
 constructor
 ·rintro ⟨i,hi,e⟩
  unfold snX at e
  by_cases h:i=len
  ·rw [if_pos h] at e;exact Or.inr e.symm
  rw [if_neg h] at e;exact Or.inl ⟨i,by omega,e⟩
 rintro (⟨i,hi,e⟩|e)
 ·exact ⟨i,by omega,by unfold snX;rw [if_neg (by omega)];exact e⟩
 exact ⟨len,by omega,by unfold snX;rw [if_pos rfl];exact e.symm⟩
theorem sn_inj {x:Nat}(h:InjX X len)(hx:¬ MemX X len x):InjX (snX X len x) (len+1):=fun i j hi hj e=>by
 unfold snX at e
 by_cases h1:i=len
 ·by_cases h2:j=len
  ·omega
  rw [if_pos h1,if_neg h2] at e;exact absurd ⟨j,by omega,e.symm⟩ hx
 by_cases h2:j=len
 ·rw [if_neg h1,if_pos h2] at e
  exact absurd ⟨i,by omega,e⟩ hx
 rw [if_neg h1,if_neg h2] at e;exact h i j (by omega) (by omega) e
theorem sn_heap {x:Nat}(h:Heap E D len X):HUp E D (len+1) (snX X len x) len:=by
 refine hup_start fun i h0 h1=>?_
 unfold snX;rw [if_neg (by omega),if_neg (by omega)];exact h i h0 h1
theorem push_any (x:Nat)(w:World)(h:HpAt w hb base bg bw v len X)(hc:CmpOk E D n bg bw hb base w)(hX:∀ p,MemX X len p->p<n)(hx:x<n)(hlen:len<=1000000)(hhp:Heap E D len X) :
  Calls Tryz.prog 113 #[.pointer (some ⟨hb,0,none⟩),.int .i64 (x:Int)] w (PuPost E D w hb base bg bw v len x X):=by
 obtain ⟨i0,hi,hz0,hz1,hz2⟩:=info_parts Tryz.infoIntO;have hlt:=h.lt;have c0:=h.c0;have c1:=h.c1;have hm1:len+1<=maxLen:=by unfold maxLen;omega
 have hm2:(len+1) * 8<=140737488355328:=by omega
 have hm3:∀ o,base<=(w.alloc o).heap.size:=fun o=>by have:=h.hs;simp;omega
 have hown:w.ownsRow base 3 1 v len (ints (fun i=>(X i:Int)) len):=h.ow
 have Hfin:Hid (∀ (g cap:Nat) (w2:World),w2.ownsRow base 3 1 (.slice (some ⟨g,0,none⟩) (len+1) cap) (len+1) (ints (fun i=>(X i:Int)) len ++ [.int .i64 (x:Int)])->(w.alloc (.cells #[.int .i64 (x:Int)] 3)).grownBy w2 v.ownBlock->(v.ownBlock=some g∨g=w.heap.size+1) →
   HpAt (w2.setCell ⟨hb,0,none⟩ (.slice (some ⟨g,0,none⟩) (len+1) cap)) hb base bg bw (.slice (some ⟨g,0,none⟩) (len+1) cap) (len+1) (snX X len x)∧Kp (HpB hb v) w (w2.setCell ⟨hb,0,none⟩ (.slice (some ⟨g,0,none⟩) (len+1) cap))∧w2.cell? ⟨hb,0,none⟩=some v∧(∀ o,w2.frozen? ⟨hb,o,none⟩=false)):=fun g cap w2 ho hg hat=>by
  have hK2:Kp (fun b=>v.ownBlock=some b) w w2:=((Kp.refl _ w).alloc _).grown hg (fun k hk _=>hk);have hne:¬ v.ownBlock=some hb:=fun e=>by have:=(World.ownsRow.lt h.ow hb e).1;have:=h.hl;omega
  have e0:=(hK2.cell (p:=⟨hb,0,none⟩) hlt hne).trans c0;have e1:=(hK2.cell (p:=⟨hb,1,none⟩) hlt hne).trans c1;have ef:∀ o,w2.frozen? ⟨hb,o,none⟩=false:=fun o=>(hK2.frozen (p:=⟨hb,o,none⟩) hlt hne).trans (h.fr o)
  have how:OwnI w2 base (.slice (some ⟨g,0,none⟩) (len+1) cap) (len+1) (fun i=>(snX X len x i:Int)):=by
   have h1:ints (fun i=>(X i:Int)) len=ints (fun i=>(snX X len x i:Int)) len:=by
    unfold ints;refine List.map_congr_left fun i hi=>?_
    have:=List.mem_range.1 hi;simp only [snX,if_neg (show ¬ i=len by omega)]
   rw [h1] at ho;exact OwnI.snoc ho (by unfold snX;rw [if_pos rfl])
  have hgb:hb+1<=g:=by have:=(World.ownsRow.lt ho g rfl).1;have:=h.hl;omega
  have hKs:Kp (fun b=>b=hb) w2 (w2.setCell ⟨hb,0,none⟩ (.slice (some ⟨g,0,none⟩) (len+1) cap)):=(Kp.refl (fun b=>b=hb) w2).setCell rfl _;refine ⟨⟨nT hlt (nZ hK2.size hKs.size),h.hl,nZ h.hs (nZ hK2.size hKs.size),set_same ⟨_,e0⟩,(set_far (by decide)).trans e1,fun o=>by rw [World.frozen?_setCell];exact ef o,?_⟩,?_,e0,ef⟩
  ·exact how.kp hKs (fun q hq e=>by
    have:some g=some q:=hq;injection this with this
    omega)
  exact (hK2.mono (fun i _ hi=>Or.inr hi)).trans (hKs.mono (fun i _ hi=>Or.inl hi))
 have HC:Hid (CmpOk E D n bg bw hb base w):=hc;have HX:Hid (∀ p,MemX X len p->p<n):=hX;have Hh:Hid (Heap E D len X):=hhp;have HL:Hid (∀ W,Kp (HpB hb v) w W->Kp (fun b=>b=hb∨base<=b) w W):=fun W hW=>h.lo hW
 clear hc hX hhp h
 go_enter Tryz.func113,Tryz.ntmps113
 go_wp2_with (at_builtin;refine wpList_append_lies _ rfl _ _ 93 rfl base 3 i0 (.int .i64 0) 1 8 Tryz.underlying93 hi hz0 hz1 hz2 rfl (by decide) _ _ _ rfl (World.ownsRow.alloc hown _) ⟨w.heap.size,0,none⟩ 1 1 [.int .i64 (x:Int)] rfl rfl (one_cellsI _ _ _) (one_oneI _) (by decide) hm1 hm2 (hm3 _) (w.heap.size+1) (by simp) ?_;intro g cap w2 hown2 hgrow2 hat2 hlt2;obtain ⟨hH3,hK3,e0,ef⟩:=Hfin.out g cap w2 hown2 hgrow2 hat2;have ef0:=ef 0)
 obtain ⟨w3,hw3⟩:∃ w3,w3=w2.setCell ⟨hb,0,none⟩ (.slice (some ⟨g,0,none⟩) (len+1) cap):=⟨_,rfl⟩;rw [<- hw3] at hH3 hK3 ⊢;have hgs:v.ownBlock=some g∨w.heap.size<=g:=hat2.imp id (fun e=>by omega);have hC3:Hid (CmpOk E D n bg bw hb base w3):=HC.out.on (HL.out _ hK3);clear hw3 hown2 hgrow2 hat2 e0 ef ef0 Hfin c0 c1
 go_loopw [4] (fun i wr=>PuRel E D w3 hb base bg bw g cap len (snX X len x) i wr) (fun i _=>(intOf i).toNat)
 case atStart=>exact ⟨len,snX X len x,by go_num,by omega,hH3,sn_heap Hh.out,fun p=>Iff.rfl,fun h=>h,Kp.refl _ _⟩
 case round =>
  obtain ⟨a,X',rfl,ha,hH,hup,hmem,hinj,hK⟩:=hrel
  have Hend:Hid (∀ W,Below wr.heap.size wr W->Heap E D (len+1) X'->PuPost E D w hb base bg bw v len x X (.returned (.tuple #[])) W):=fun W hW hhp=>by
   refine ⟨rfl,g,cap,X',hH.below hW,hgs,hhp,fun p=>(hmem.out p).trans sn_mem,fun h1 h2=>hinj.out (sn_inj h1 h2),?_⟩
   exact (hK3.transN hK (fun i hi e=>by
    rcases hgs with h1|h1
    ·exact Or.inr (e ▸ h1)
    omega)).trans (Kp.ofB hW)
  have hloW:Kp (fun b=>b=hb∨base<=b) w3 wr:=hK.mono (fun k _ e=>Or.inr (by rw [e];exact (World.ownsRow.lt hH3.ow g rfl).1))
  have hXn:∀ i,i<len+1->X' i<n:=mem_all fun p hp=>by
   rcases sn_mem.1 ((hmem.out p).1 hp) with h1|h1
   ·exact HX.out p h1
   omega
  by_cases h0:a=0
  ·subst h0
   have Hhp:Hid (Heap E D (len+1) X'):=hup_top hup.out;go_wp2
   refine bodyPost_ret (v:=.tuple #[]) (by simp [results,Tryz.results113,go_sem]) rfl (Hend.out _ kB Hhp.out)
  obtain ⟨q,rfl⟩:∃ q,a=q+1:=⟨a - 1,by omega⟩;have hq2:q / 2<len+1:=by omega
  have HB:Hid (Calls Tryz.prog 179 #[.pointer (some ⟨hb,0,none⟩),.int .i64 ((q+1:Nat):Int),.int .i64 ((q / 2:Nat):Int)] wr (BePost E D (X' (q+1)) (X' (q / 2)) wr)):=bef_any (q+1) (q / 2) wr hH (hC3.out.on hloW) hXn ha hq2;have y1:IntKind.i64.wrap ((q:Int)+1 - 1)=(q:Int):=by rw [IntKind.wrap_i64];omega
  have y2:IntKind.i64.wrap (((q+1:Nat):Int) - 1)=(q:Int):=by rw [IntKind.wrap_i64];omega
  have y3:(q:Int).tdiv 2=((q / 2:Nat):Int):=by rw [Int.tdiv_eq_ediv_of_nonneg (by omega)];rfl
  have y4:IntKind.i64.wrap ((q / 2:Nat):Int)=((q / 2:Nat):Int):=by rw [IntKind.wrap_i64];omega
  have y5:IntKind.i64.wrap (q:Int)=(q:Int):=by rw [IntKind.wrap_i64];omega
  have xd1:decide ((0:Int)<((q+1:Nat):Int))=true:=decide_eq_true (by omega);have xd2:decide ((0:Int)<(q:Int)+1)=true:=decide_eq_true (by omega);have hqq:(q+1 - 1) / 2=q / 2:=by rw [Nat.add_sub_cancel]
  go_wp2_with fail
  refine (HB.out).mono ?_;rintro e w4 ⟨bq,rfl,hbq,hb4⟩;clear HB;cases bq
  case false =>
   have Hhp:Hid (Heap E D (len+1) X'):=hup_stop hup.out (by rw [hqq];exact fun h=>by have:=hbq.2 h;cases this);clear hbq;go_wp2
   refine bodyPost_ret (v:=.tuple #[]) (by simp [results,Tryz.results113,go_sem]) rfl (Hend.out _ hb4 Hhp.out)
  case true =>
   have Hup2:Hid (HUp E D (len+1) (swX X' (q+1) (q / 2)) (q / 2)):=by
    have:=hup_step hup.out (by omega) ha (by rw [hqq];exact hbq.1 rfl);rw [hqq] at this;exact this
   have HS:Hid (Calls Tryz.prog 180 #[.pointer (some ⟨hb,0,none⟩),.int .i64 ((q+1:Nat):Int),.int .i64 ((q / 2:Nat):Int)] w4 (SwPost w4 hb base g (len+1) cap (swX X' (q+1) (q / 2)) bg bw)):=swap_any (q+1) (q / 2) w4 (hH.below hb4) ha hq2;clear hbq
   go_wp2_with fail
   refine (HS.out).mono ?_;rintro e w5 ⟨rfl,hH5,hK5⟩;clear HS;go_wp2
   go_roundw
   case rel=>exact ⟨q / 2,swX X' (q+1) (q / 2),by go_num,hq2,hH5,Hup2,fun p=>(mem_sw ha hq2).trans (hmem.out p),fun h=>inj_sw ha hq2 (hinj.out h),(hK.trans (Kp.ofB hb4)).trans hK5⟩
   simp [intOf];omega
def SkPost (E:Nat->Ev)(D:Nat->Nat)(w:World)(hb base bg bw g len cap:Nat)(X:Nat->Nat)(e:Ending)(w':World):Prop:=e=.returned (.tuple #[]) ∧
 ∃ X',HpAt w' hb base bg bw (.slice (some ⟨g,0,none⟩) len cap) len X'∧Heap E D len X'∧(∀ p,MemX X' len p↔MemX X len p)∧(InjX X len->InjX X' len)∧Kp (fun b=>b=g) w w'
def SkRel (E:Nat->Ev)(D:Nat->Nat)(w:World)(hb base bg bw g len cap:Nat)(X:Nat->Nat)(i:Value)(wr:World):Prop :=
 ∃ (a:Nat) (X':Nat->Nat),i=.int .i64 (a:Int)∧(a<len∨a=0)∧HpAt wr hb base bg bw (.slice (some ⟨g,0,none⟩) len cap) len X'∧Hid (HDn E D len X' a)∧Hid (∀ p,MemX X' len p↔MemX X len p)∧Hid (InjX X len->InjX X' len)∧Kp (fun b=>b=g) w wr
def LstH (E:Nat->Ev)(D:Nat->Nat)(X:Nat->Nat)(len a c l:Nat):Prop:=(l=a∨(2 * a+1<=l∧l<c∧l<len∧Bef E D (X l) (X a)))∧∀ j,2 * a+1<=j->j<c->j<len->¬ Bef E D (X j) (X l)
theorem LstH.same {a l:Nat}(h:LstH E D X len a c l)(hn:c<len->¬ Bef E D (X c) (X l)):LstH E D X len a (c+1) l :=
 ⟨h.1.imp id fun ⟨h1,h2,h3⟩=>⟨h1,by omega,h3⟩,fun j h1 h2 h3=>by
  by_cases e:j=c
  ·subst e;exact hn h3
  exact h.2 j h1 (by omega) h3⟩
theorem LstH.next {a l:Nat}(h:LstH E D X len a c l)(hc:2 * a+1<=c)(hl:c<len)(hb:Bef E D (X c) (X l)):LstH E D X len a (c+1) c:=by
 refine ⟨Or.inr ⟨hc,by omega,hl,?_⟩,fun j h1 h2 h3=>?_⟩
 ·rcases h.1 with e|⟨_,_,_,h4⟩
  ·rw [e] at hb;exact hb
  exact hb.trans h4
 by_cases e:j=c
 ·subst e;exact Bef.irrefl _
 exact fun hx=>h.2 j h1 (by omega) h3 (hx.trans hb)
def SiRel (E:Nat->Ev)(D:Nat->Nat)(wo:World)(X:Nat->Nat)(len a:Nat)(lv cv:Value)(wi:World):Prop :=
 ∃ l c:Nat,lv=.int .i64 (l:Int)∧cv=.int .i64 (c:Int)∧2 * a+1<=c∧c<=2 * a+3∧Hid (LstH E D X len a c l)∧Below wo.heap.size wo wi
theorem sink_any (w:World)(h:HpAt w hb base bg bw (.slice (some ⟨g,0,none⟩) len cap) len X)(hc:CmpOk E D n bg bw hb base w)(hX:∀ p,MemX X len p->p<n)(hlen:len<=1000000)(hhp:HDn E D len X 0) :
  Calls Tryz.prog 181 #[.pointer (some ⟨hb,0,none⟩),.int .i64 0] w (SkPost E D w hb base bg bw g len cap X):=by
 have HC:Hid (CmpOk E D n bg bw hb base w):=hc;have HX:Hid (∀ p,MemX X len p->p<n):=hX;have Hh:Hid (HDn E D len X 0):=hhp;have HL:Hid (∀ W,Kp (fun b=>b=g) w W->Kp (fun b=>b=hb∨base<=b) w W):=fun W hW=>hW.mono (fun k _ e=>Or.inr (by rw [e];exact (World.ownsRow.lt h.ow g rfl).1))
 clear hc hX hhp
 go_enter Tryz.func181,Tryz.ntmps181
 go_wp2_with fail
 go_loopw [1] (fun i wr=>SkRel E D w hb base bg bw g len cap X i wr) (fun i _=>len - (intOf i).toNat)
 case atStart=>exact ⟨0,X,rfl,Or.inr rfl,h,Hh,fun p=>Iff.rfl,fun h=>h,Kp.refl _ _⟩
 case round =>
  clear h;obtain ⟨a,X',rfl,ha,hH,hdn,hmem,hinj,hK⟩:=hrel;have ha2:a<=1000000:=by omega
  obtain ⟨wo,hwo⟩:∃ wo:World,wo=wr:=⟨_,rfl⟩;subst hwo;have HCo:Hid (CmpOk E D n bg bw hb base wo):=HC.out.on (HL.out _ hK);have HXn:Hid (∀ i,i<len->X' i<n):=mem_all fun p hp=>HX.out p ((hmem.out p).1 hp)
  have z1:IntKind.i64.wrap (2 * (a:Int))=2 * (a:Int):=by rw [IntKind.wrap_i64];omega
  have z2:IntKind.i64.wrap (2 * (a:Int)+1)=((2 * a+1:Nat):Int):=by rw [IntKind.wrap_i64];omega
  have z3:IntKind.i64.wrap (2 * (a:Int)+2)=((2 * a+2:Nat):Int):=by rw [IntKind.wrap_i64];omega
  go_wp2_with fail
  go_loopw [4,5] (fun lv cv wi=>SiRel E D wo X' len a lv cv wi) (fun _ cv _=>2 * a+3 - (intOf cv).toNat)
  case atStart=>exact ⟨a,2 * a+1,rfl,by go_num,nL,by omega,⟨Or.inl rfl,fun j h1 h2 _=>by omega⟩,kB⟩
  case round =>
   obtain ⟨l,c,rfl,rfl,hc1,hc2,hL,hbi⟩:=hrel;have hHi:=hH.below hbi;have c0:=hHi.c0
   by_cases hcl:c<=2 * a+2
   ·have x1:(c:Int)<=((2 * a+2:Nat):Int):=by omega
    have x2:decide ((c:Int)<=((2 * a+2:Nat):Int))=true:=decide_eq_true x1
    by_cases hcn:c<len
    ·have hll:l<len:=by
      rcases hL.out.1 with e|⟨_,_,e,_⟩
      ·omega
      exact e
     have HB:Hid (Calls Tryz.prog 179 #[.pointer (some ⟨hb,0,none⟩),.int .i64 (c:Int),.int .i64 (l:Int)] wr (BePost E D (X' c) (X' l) wr)):=bef_any c l wr hHi (HCo.out.on (Kp.ofB hbi)) HXn.out hcn hll;have x3:(c:Int)<(len:Int):=by omega
     go_wp2_with fail
     refine (HB.out).mono ?_;rintro e w4 ⟨bq,rfl,hbq,hb4⟩;clear HB;cases bq
     case false =>
      have HL2:Hid (LstH E D X' len a (c+1) l):=hL.out.same (fun _ h=>by have:=hbq.2 h;cases this);clear hbq hL;go_wp2
      go_roundw
      case rel=>exact ⟨l,c+1,rfl,by go_num,by omega,by omega,HL2,hbi.trans (hb4.mono hbi.size)⟩
      simp [intOf];omega
     case true =>
      have HL2:Hid (LstH E D X' len a (c+1) c):=hL.out.next hc1 hcn (hbq.1 rfl);clear hbq hL;go_wp2
      go_roundw
      case rel=>exact ⟨c,c+1,rfl,by go_num,by omega,by omega,HL2,hbi.trans (hb4.mono hbi.size)⟩
      simp [intOf];omega
    have HL2:Hid (LstH E D X' len a (c+1) l):=hL.out.same (fun h=>absurd h hcn);have x3:¬ (c:Int)<(len:Int):=by omega
    clear hL;go_wp2
    go_roundw
    case rel=>exact ⟨l,c+1,rfl,by go_num,by omega,by omega,HL2,hbi⟩
    simp [intOf];omega
   have hce:c=2 * a+3:=by omega
   subst hce;have x1:¬ ((2 * a+3:Nat):Int)<=((2 * a+2:Nat):Int):=by omega
   have x2:decide (((2 * a+3:Nat):Int)<=((2 * a+2:Nat):Int))=false:=decide_eq_false x1
   by_cases hla:l=a
   ·subst hla
    have Hhp:Hid (Heap E D len X'):=hdn_stop hdn.out (fun h1=>hL.out.2 _ nL (by omega) h1) (fun h1=>hL.out.2 _ (by omega) (by omega) h1);go_wp2
    refine bodyPost_ret (v:=.tuple #[]) (by simp [results,Tryz.results181,go_sem]) rfl ⟨rfl,X',hHi,Hhp.out,hmem.out,hinj.out,hK.trans (Kp.ofB hbi)⟩
   obtain ⟨l1,l2,l3,l4⟩:2 * a+1<=l∧l<2 * a+3∧l<len∧Bef E D (X' l) (X' a):=by
    rcases hL.out.1 with e|e
    ·exact absurd e hla
    exact e
   have hal:a<len:=by omega
   have Hdn2:Hid (HDn E D len (swX X' a l) l):=hdn_step hdn.out l3 (by omega) (by omega) l4 (fun i i0 i1 i2=>hL.out.2 i (by omega) (by omega) i1);have HS:Hid (Calls Tryz.prog 180 #[.pointer (some ⟨hb,0,none⟩),.int .i64 (a:Int),.int .i64 (l:Int)] wr (SwPost wr hb base g len cap (swX X' a l) bg bw)):=swap_any a l wr hHi hal l3;have x3:¬ (l:Int)=(a:Int):=by omega
   clear hL l4
   go_wp2_with fail
   refine (HS.out).mono ?_;rintro e w5 ⟨rfl,hH5,hK5⟩;clear HS;go_wp2
   go_roundw
   case rel=>exact ⟨l,swX X' a l,rfl,Or.inl l3,hH5,Hdn2,fun p=>(mem_sw hal l3).trans (hmem.out p),fun h=>inj_sw hal l3 (hinj.out h),(hK.trans (Kp.ofB hbi)).trans hK5⟩
   simp [intOf];omega
def PpPost (E:Nat->Ev)(D:Nat->Nat)(w:World)(hb base bg bw g len cap:Nat)(v:Value)(X:Nat->Nat)(e:Ending)(w':World):Prop:=e=.returned (.int .i64 (X 0:Int)) ∧
 ∃ X',HpAt w' hb base bg bw (.slice (some ⟨g,0,none⟩) len cap) len X'∧Heap E D len X'∧(∀ p,MemX X' len p↔MemX X (len+1) p∧p≠X 0)∧InjX X' len∧Kp (HpB hb v) w w'
theorem pop_any (w:World)(h:HpAt w hb base bg bw (.slice (some ⟨g,0,none⟩) (len+1) cap) (len+1) X)(hc:CmpOk E D n bg bw hb base w)(hX:∀ p,MemX X (len+1) p->p<n)(hlen:len<=1000000)(hhp:Heap E D (len+1) X)(hI:InjX X (len+1)) :
  Calls Tryz.prog 114 #[.pointer (some ⟨hb,0,none⟩)] w (PpPost E D w hb base bg bw g len cap (.slice (some ⟨g,0,none⟩) (len+1) cap) X):=by
 have c0:=h.c0;have HS:Hid (Calls Tryz.prog 180 #[.pointer (some ⟨hb,0,none⟩),.int .i64 ((0:Nat):Int),.int .i64 ((len:Nat):Int)] w (SwPost w hb base g (len+1) cap (swX X 0 len) bg bw)):=swap_any 0 len w h (by omega) (by omega);have HC:Hid (CmpOk E D n bg bw hb base w):=hc;have HX:Hid (∀ p,MemX X (len+1) p->p<n):=hX;have Hh:Hid (HDn E D len (swX X 0 len) 0):=hdn_start hhp;have HI:Hid (InjX X (len+1)):=hI;have hgb:hb+1<=g:=by have:=(World.ownsRow.lt h.ow g rfl).1;have:=h.hl;omega
 have hgb2:base<=g:=(World.ownsRow.lt h.ow g rfl).1;have hlt:=h.lt;have y1:IntKind.i64.wrap ((len:Int)+1 - 1)=(len:Int):=by rw [IntKind.wrap_i64];omega
 have y2:IntKind.i64.wrap (((len+1:Nat):Int) - 1)=(len:Int):=by rw [IntKind.wrap_i64];omega
 have hcap:len+1<=cap:=by
  rcases h.ow.cells with ⟨h0,_⟩|⟨g',cap',hv,_,_,h2,_⟩
  ·cases h0
  injection hv with _ _ hv3
  subst hv3;exact h2
 clear hc hX hhp hI h
 go_enter Tryz.func114,Tryz.ntmps114
 go_wp2_with fail
 refine (HS.out).mono ?_;rintro e w1 ⟨rfl,hH1,hK1⟩;have d0:=hH1.c0;have df:=hH1.fr 0
 have dl:w1.cell? ⟨g,len,none⟩=some (.int .i64 (X 0:Int)):=by
  rcases hH1.ow.cells with ⟨h0,_⟩|⟨g',cap',hv,_,_,_,_,hcs⟩
  ·cases h0
  injection hv with hv1 _ hv3
  injection hv1 with hv1
  injection hv1 with hv1 _
  subst hv1
  have:=hcs len (by omega);rw [Nat.zero_add] at this;rw [this];simp only [swX,swN_b]
 have hH2:HpAt (w1.setCell ⟨hb,0,none⟩ (.slice (some ⟨g,0,none⟩) len cap)) hb base bg bw (.slice (some ⟨g,0,none⟩) len cap) len (swX X 0 len):=by
  have hKs:Kp (fun b=>b=hb) w1 (w1.setCell ⟨hb,0,none⟩ (.slice (some ⟨g,0,none⟩) len cap)):=(Kp.refl (fun b=>b=hb) w1).setCell rfl _;refine ⟨nT hH1.lt hKs.size,hH1.hl,nZ hH1.hs hKs.size,set_same ⟨_,d0⟩,(set_far (by decide)).trans hH1.c1,fun o=>by rw [World.frozen?_setCell];exact hH1.fr o,?_⟩
  exact (OwnI.less hH1.ow (by omega)).kp hKs (fun q hq e=>by
   have:some g=some q:=hq;injection this with this
   omega)
 have hK2:Kp (HpB hb (.slice (some ⟨g,0,none⟩) (len+1) cap)) w (w1.setCell ⟨hb,0,none⟩ (.slice (some ⟨g,0,none⟩) len cap)) :=
  (hK1.mono (Q:=HpB hb (.slice (some ⟨g,0,none⟩) (len+1) cap)) (fun i _ e=>Or.inr (by rw [e];rfl))).setCell (Or.inl rfl) _
 have HK:Hid (Calls Tryz.prog 181 #[.pointer (some ⟨hb,0,none⟩),.int .i64 0] (w1.setCell ⟨hb,0,none⟩ (.slice (some ⟨g,0,none⟩) len cap)) (SkPost E D (w1.setCell ⟨hb,0,none⟩ (.slice (some ⟨g,0,none⟩) len cap)) hb base bg bw g len cap (swX X 0 len))) :=
  sink_any _ hH2 (HC.out.on (hK2.mono (fun k _ e=>e.imp id (fun e=>by
   have:some g=some k:=e;injection this with this
   omega)))) (fun p hp=>HX.out p ((mem_pop HI.out).1 hp).1) hlen Hh.out
 have x1:(len:Int)<=(cap:Int):=by omega
 have x2:(0:Int)<=(len:Int):=by omega
 have x3:(len:Int)<(len:Int)+1:=by omega
 have x4:len<=cap:=by omega
 clear HS hH1 hH2
 go_wp2_with fail
 refine (HK.out).mono ?_;rintro e w3 ⟨rfl,X',hH3,hhp3,hm3,hi3,hK3⟩;have HP:Hid (PpPost E D w hb base bg bw g len cap (.slice (some ⟨g,0,none⟩) (len+1) cap) X (.returned (.int .i64 (X 0:Int))) w3):=⟨rfl,X',hH3,hhp3,fun p=>(hm3 p).trans (mem_pop HI.out),hi3 (inj_less (inj_sw (by omega) (by omega) HI.out) (by omega)),hK2.trans (hK3.mono (fun i _ e=>Or.inr (by rw [e];rfl)))⟩;clear hm3 hi3 hhp3 HK;go_wp2
 go_ret;exact HP.out
variable {w w':World}{b i j k rc:Nat}{a ga ra:Option Addr}
theorem Tryz.infoBoolM:(Tryz.prog.info? 4).map (fun i=>(i.zero,i.size,i.bytes))=some (some (.bool false),1,1):=by kernel_rfl
def BlAt (w:World)(b n:Nat)(M:Nat->Bool):Prop:=b<w.heap.size∧∀ i,i<n->w.cell? ⟨b,i,none⟩=some (.bool (M i))∧w.frozen? ⟨b,i,none⟩=false
theorem BlAt.below {M:Nat->Bool}(h:BlAt w b n M)(hb:Below w.heap.size w w'):BlAt w' b n M :=
 ⟨nT h.1 hb.size,fun i hi=>⟨(hb.cell (by exact h.1)).trans (h.2 i hi).1,(hb.frozen (by exact h.1)).trans (h.2 i hi).2⟩⟩
theorem BlAt.set {M:Nat->Bool}(h:BlAt w b n M)(hj:j<n)(x:Bool):BlAt (w.setCell ⟨b,j,none⟩ (.bool x)) b n (fun i=>if i=j then x else M i):=by
 refine ⟨by simpa [World.setCell] using h.1,fun i hi=>⟨?_,by rw [World.frozen?_setCell];exact (h.2 i hi).2⟩⟩
 by_cases e:i=j
 ·subst e;rw [set_same ⟨_,(h.2 i hi).1⟩];simp
 rw [set_far e,(h.2 i hi).1];simp [e]
theorem BlAt.congr {M M':Nat->Bool}(h:BlAt w b n M)(he:∀ i,i<n->M i=M' i):BlAt w b n M':=⟨h.1,fun i hi=>by rw [<- he i hi];exact h.2 i hi⟩
theorem make_bool (n:Nat)(h:n<=140737488351232)(W:World) :
  (Instr.makeSlice 98 (.int .i64 (n:Int)) (.int .i64 (n:Int))).run Tryz.prog W=.ok (.slice (some ⟨W.heap.size,0,none⟩) n n) (W.alloc (.cells (madeCells #[.bool false] n) 4)):=by
 obtain ⟨i0,hi,hz0,hz1,hz2⟩:=info_parts Tryz.infoBoolM
 have:=run_make (P:=Tryz.prog) W 98 4 i0 (.bool false) Tryz.underlying98 hi hz0 .i64 .i64 (n:Int) (n:Int) (by omega) (by omega) (by rw [hz2];omega) (by omega);rw [this,hz1];simp [Value.cells]
def trues (n k:Nat):List Value:=List.replicate k (.bool true) ++ List.replicate (n - k) (.bool false)
theorem trues_zero (n:Nat):madeCells #[.bool false] n=(trues n 0).toArray:=by
 apply Array.toList_inj.1;rw [toList_madeCells_one];simp [trues]
theorem bl_madeM (W:World)(n:Nat):BlAt (W.alloc (.cells (madeCells #[.bool false] n) 4)) W.heap.size n (fun _=>false):=by
 refine ⟨by simp,fun i hi=>⟨?_,kF rfl⟩⟩;rw [kA rfl,trues_zero];simp [trues,hi]
def hitX (X:Nat->Int)(i:Nat):Nat->Bool
 | 0=>false
 | k+1=>hitX X i k || decide (X k=(i:Int))
theorem hitX_step {X:Nat->Int}(h:X k=(j:Int)):(if i=j then true else hitX X i k)=hitX X i (k+1):=by
 rw [hitX,h]
 by_cases e:i=j
 ·subst e;simp
 have:¬ ((j:Int)=(i:Int)):=by omega
 simp [e,this]
theorem hitX_iff (X:Nat->Int)(i:Nat):∀ k,hitX X i k=true↔∃ j,j<k∧X j=(i:Int)
 | 0=>by simp [hitX]
 | k+1=>by
  unfold hitX;rw [Bool.or_eq_true,hitX_iff X i k,decide_eq_true_eq];constructor
  ·rintro (⟨q,hq,e⟩|e)
   ·exact ⟨q,by omega,e⟩
   exact ⟨k,by omega,e⟩
  rintro ⟨q,hq,e⟩
  by_cases h:q=k
  ·subst h;exact Or.inr e
  exact Or.inl ⟨q,by omega,e⟩
theorem markI_sl {mm:Option Nat}{nr:Nat}{gn gc:Nat}{X:Nat->Int}(w:World)(hn:n<=300)(hg:SlI w ga gn gc X)(hX:∀ i,i<gn->∃ p,p<n∧X i=(p:Int)) :
  Calls Tryz.prog 54 #[.agg #[.slice a n cap,.map mm,.slice ra nr rc],.slice ga gn gc] w fun e w' =>
   ∃ b,e=.returned (.slice (some ⟨b,0,none⟩) n n)∧w.heap.size<=b∧BlAt w' b n (fun i=>hitX X i gn)∧Below w.heap.size w w':=by
 have hgm:=nZ hg.le hg.max;unfold maxLen at hgm;obtain ⟨wb,hwb⟩:∃ wb,wb=w.alloc (.cells #[.slice a n cap,.map mm,.slice ra nr rc] 62):=⟨_,rfl⟩;have hb0:Below w.heap.size w wb:=by rw [hwb];exact bA
 have hs0:wb.heap.size=w.heap.size+1:=by rw [hwb];simp
 have hmk:=make_bool n (by omega) wb;rw [hs0] at hmk;have hmk':(Instr.makeSlice 98 (.int .i64 (n:Int)) (.int .i64 (n:Int))).run Tryz.prog (w.alloc (.cells #[.slice a n cap,.map mm,.slice ra nr rc] 62))=.ok (.slice (some ⟨w.heap.size+1,0,none⟩) n n) (wb.alloc (.cells (madeCells #[.bool false] n) 4)):=by rw [<- hwb];exact hmk
 have hbl0:=bl_madeM wb n;rw [hs0] at hbl0;have hB0:Below (w.heap.size+1) wb (wb.alloc (.cells (madeCells #[.bool false] n) 4)):=kB.alloc (by omega) _;have HX:Hid (_):=hX;clear hX hmk hwb
 go_enter Tryz.func54,Tryz.ntmps54
 go_wp2_with fail
 clear hmk'
 go_loopw [14] (fun i wr=>∃ k:Nat,k<=gn∧i=.int .i64 k∧BlAt wr (w.heap.size+1) n (fun i=>hitX X i k)∧Below (w.heap.size+1) wb wr) (fun i _=>gn - (intOf i).toNat)
 case atStart=>exact ⟨0,nz,rfl,hbl0,hB0⟩
 case round =>
  clear hbl0 hB0;obtain ⟨k,hk,rfl,hbl,hB⟩:=hrel;have hbw:=hb0.trans (hB.mono (by omega))
  by_cases hlt:k<gn
  ·rcases hg.cells with h0|⟨bg,og,rfl,hbg,hcg⟩
   ·omega
   obtain ⟨j,hj,e⟩:=HX.out k hlt;have hck:wr.cell? ⟨bg,og+k,none⟩=some (.int .i64 (j:Int)):=by rw [<- e];exact (hbw.cell (by exact hbg)).trans (hcg k hlt)
   have hm1:=(hbl.2 j hj).1;have hm2:=(hbl.2 j hj).2;have Hbl:Hid (BlAt (wr.setCell ⟨w.heap.size+1,j,none⟩ (.bool true)) (w.heap.size+1) n (fun i=>hitX X i (k+1))):=(hbl.set hj true).congr (fun i _=>hitX_step e);clear hcg hbl e;go_wp2
   go_roundw
   case rel=>exact ⟨k+1,by omega,by go_num,Hbl.out,hB.setCell nL _⟩
   simp [intOf];omega
  have hkn:gn=k:=by omega
  subst hkn;go_wp2
  go_ret;exact ⟨_,rfl,by omega,hbl,hbw⟩
def plsL (M:Nat->Bool):Nat->List Nat
 | 0=>[]
 | k+1=>if M k then plsL M k ++ [k] else plsL M k
theorem plsL_len (M:Nat->Bool):∀ k,(plsL M k).length<=k
 | 0=>nL
 | k+1=>by
  have:=plsL_len M k;unfold plsL;split
  ·simp;exact this
  omega
theorem plsL_mem (M:Nat->Bool)(p:Nat):∀ k,p ∈ plsL M k↔p<k∧M p=true
 | 0=>by simp [plsL]
 | k+1=>by
  have ih:=plsL_mem M p k;unfold plsL;split
  ·rename_i hM
   rw [List.mem_append,ih,List.mem_singleton];constructor
   ·rintro (⟨h1,h2⟩|rfl)
    ·exact ⟨by omega,h2⟩
    exact ⟨by omega,hM⟩
   rintro ⟨h1,h2⟩
   by_cases e:p=k
   ·exact Or.inr e
   exact Or.inl ⟨by omega,h2⟩
  rename_i hM;rw [ih];constructor
  ·rintro ⟨h1,h2⟩;exact ⟨by omega,h2⟩
  rintro ⟨h1,h2⟩
  by_cases e:p=k
  ·subst e;exact absurd h2 hM
  exact ⟨by omega,h2⟩
theorem plsL_pre (M : Nat -> Bool) (k : Nat) : ∀ n, k <= n -> ∃ r, plsL M n = plsL M k ++ r
  | 0, h => by have : k = 0 := by omega
               subst this; exact ⟨[], by simp⟩
  | n + 1, h => by
    by_cases e : k = n + 1
    · subst e; exact ⟨[], by simp⟩
    · obtain ⟨r, hr⟩ := plsL_pre M k n (by omega)
      by_cases hM : M n = true
      · exact ⟨r ++ [n], by rw [plsL, if_pos hM, hr, List.append_assoc]⟩
      · exact ⟨r, by rw [plsL, if_neg hM]; exact hr⟩
theorem plsL_at {M:Nat->Bool}(hk:k<n)(hM:M k=true):lX (plsL M n) (plsL M k).length=(k:Int):=by
 obtain ⟨r,hr⟩:=plsL_pre M (k+1) n (by omega);have e1:plsL M (k+1)=plsL M k ++ [k]:=by rw [plsL,if_pos hM]
 rw [hr,e1,List.append_assoc];simp [lX,List.getD]
theorem plsI_sl {M:Nat->Bool}(w:World)(hn:n<=300)(hM:BlAt w b n M) :
  Calls Tryz.prog 111 #[.slice (some ⟨b,0,none⟩) n n] w fun e w' =>
   ∃ v,e=.returned v∧OwnI w' w.heap.size v (plsL M n).length (lX (plsL M n))∧Below w.heap.size w w':=by
 obtain ⟨i0,hi,hz0,hz1,hz2⟩:=info_parts Tryz.infoIntO;have HM:Hid (BlAt w b n M):=hM;clear hM
 go_enter Tryz.func111,Tryz.ntmps111
 go_wp2_with fail
 go_loopw [3,8] (fun v i wr=>∃ (k c:Nat),k<=n∧i=.int .i64 k∧Hid (c=(plsL M k).length)∧c<=k∧OwnI wr w.heap.size v c (lX (plsL M n))∧Below w.heap.size w wr) (fun _ i _=>n - (intOf i).toNat)
 case atStart=>exact ⟨0,0,nz,rfl,rfl,nL,OwnI.nil _ _ _,kB⟩
 case round =>
  obtain ⟨k,c,hk,rfl,hc,hck,hown,hb⟩:=hrel
  by_cases hlt:k<n
  ·have hmk:=((HM.out.below hb).2 k hlt).1
   cases hf:M k
   case false =>
    rw [hf] at hmk;have Hs:Hid (c=(plsL M (k+1)).length):=by unfold Hid;rw [plsL,if_neg (by simp [hf])];exact hc.out
    clear hc;go_wp2
    go_roundw
    case rel=>exact ⟨k+1,c,by omega,by go_num,Hs,by omega,hown,hb⟩
    simp [intOf];omega
   case true =>
    rw [hf] at hmk;have Hs:Hid (c+1=(plsL M (k+1)).length):=by unfold Hid;rw [plsL,if_pos hf,List.length_append,<- hc.out];rfl
    have Hx:Hid ((k:Int)=lX (plsL M n) c):=by unfold Hid;rw [hc.out];exact (plsL_at hlt hf).symm
    have hm1:c+1<=maxLen:=by unfold maxLen;omega
    have hm2:(c+1) * 8<=140737488355328:=by omega
    have hm3:∀ o,w.heap.size<=(wr.alloc o).heap.size:=fun o=>by have:=hb.size;simp;omega
    have hag:Hid (∀ q',u3.ownBlock=some q'->w.heap.size<=q'):=fun q' hq'=>(World.ownsRow.lt hown q' hq').1
    clear hc hf
    go_wp2_with (at_builtin;refine wpList_append_own _ rfl _ _ 93 rfl w.heap.size 3 i0 (.int .i64 0) 1 8 Tryz.underlying93 hi hz0 hz1 hz2 rfl (by decide) _ _ _ rfl (World.ownsRow.alloc hown _) ⟨wr.heap.size,0,none⟩ 1 1 [.int .i64 (k:Int)] rfl rfl (one_cellsI _ _ _) (one_oneI _) hm1 hm2 (hm3 _) ?_;intro v2 w2 hown2 hgrow2 _)
    have hB2:Below w.heap.size w w2:=(hb.alloc hb.size _).grown hgrow2 (hm3 _) hag.out;have hown3:OwnI w2 w.heap.size v2 (c+1) (lX (plsL M n)):=OwnI.snoc hown2 Hx.out;go_roundw
    case rel=>exact ⟨k+1,c+1,by omega,by go_num,Hs,by omega,hown3,hB2⟩
    simp [intOf];omega
  have hkn:n=k:=by omega
  subst hkn;have hcn:=hc.out;subst hcn;go_wp2
  go_ret;exact ⟨_,rfl,hown,hb⟩
end Go.Proofs.YtkdalopokdhndaaGreat
