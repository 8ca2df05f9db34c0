import Derived.Test.YtkdalopokdhndaaGreatChJZ
import Derived.Shelf.SlSortCmp.QuietGrown
set_option maxHeartbeats 16000000
set_option maxRecDepth 100000
namespace Go.Proofs.YtkdalopokdhndaaGreat
open Go.RowKit
variable {w w' w2:World}{j k m n q y cq gg lo rc cap:Nat}{e:Ev}{E:Nat->Ev}{a ra:Option Addr}
structure RsAt (w:World)(br lo n:Nat)(V:Nat->Value)(R:Nat->List Nat):Prop where
 lt:br<w.heap.size
 hl:br<lo
 hd:∀ i,i<n->w.cell? ⟨br,i,none⟩=some (V i)∧w.frozen? ⟨br,i,none⟩=false
 ow:∀ i,i<n->OwnI w lo (V i) (R i).length (lX (R i))
 ap:∀ i j,i<n->j<n->i≠j->∀ g,(V i).ownBlock=some g->¬ (V j).ownBlock=some g
theorem RsAt.below {br:Nat}{V:Nat->Value}{R:Nat->List Nat}(h:RsAt w br lo n V R)(hb:Below w.heap.size w w'):RsAt w' br lo n V R :=
 ⟨nT h.lt hb.size,h.hl,fun i hi=>⟨(hb.cell (by exact h.lt)).trans (h.hd i hi).1,(hb.frozen (by exact h.lt)).trans (h.hd i hi).2⟩,fun i hi=>(h.ow i hi).below hb,h.ap⟩
theorem RsAt.put {br:Nat}{V:Nat->Value}{R:Nat->List Nat}(h:RsAt w br lo n V R)(hq:q<n)(hK:Kp (fun b=>(V q).ownBlock=some b) w w2)(ho:OwnI w2 lo (.slice (some ⟨gg,0,none⟩) ((R q).length+1) cq) ((R q).length+1) (lX (R q ++ [y])))(hat:(V q).ownBlock=some gg∨w.heap.size<=gg) :
  RsAt (w2.setCell ⟨br,q,none⟩ (.slice (some ⟨gg,0,none⟩) ((R q).length+1) cq)) br lo n (fun i=>if i=q then .slice (some ⟨gg,0,none⟩) ((R q).length+1) cq else V i) (fun i=>if i=q then R q ++ [y] else R i):=by
 have hnb:∀ i,i<n->¬ (V i).ownBlock=some br:=fun i hi e=>by have:=(World.ownsRow.lt (h.ow i hi) br e).1;have:=h.hl;omega
 have hKs:Kp (fun b=>b=br) w2 (w2.setCell ⟨br,q,none⟩ (.slice (some ⟨gg,0,none⟩) ((R q).length+1) cq)):=(Kp.refl (fun b=>b=br) w2).setCell rfl _;have hg1:br+1<=gg:=by have:=(World.ownsRow.lt ho gg rfl).1;have:=h.hl;omega
 have hfar:∀ i,i<n->i≠q->¬ (V i).ownBlock=some gg:=fun i hi hne e=>by
  rcases hat with h1|h1
  ·exact h.ap i q hi hq hne gg e h1
  have:=(World.ownsRow.lt (h.ow i hi) gg e).2;omega
 refine ⟨nT h.lt (nZ hK.size hKs.size),h.hl,fun i hi=>?_,fun i hi=>?_,fun i j hi hj hne g e1 e2=>?_⟩
 ·have hc:=(hK.cell (p:=⟨br,i,none⟩) h.lt (hnb q hq)).trans (h.hd i hi).1
  have hf:=(hK.frozen (p:=⟨br,i,none⟩) h.lt (hnb q hq)).trans (h.hd i hi).2;refine ⟨?_,by rw [World.frozen?_setCell];exact hf⟩
  by_cases e:i=q
  ·subst e;rw [set_same ⟨_,hc⟩,if_pos rfl]
  rw [set_far e,if_neg e];exact hc
 ·by_cases e:i=q
  ·subst e
   simp only [if_pos];have h1:(R i ++ [y]).length=(R i).length+1:=by simp
   rw [h1]
   exact ho.kp hKs (fun g hg e=>by
    have:some gg=some g:=hg;injection this with this
    omega)
  simp only [if_neg e];exact ((h.ow i hi).kp hK (fun g hg e2=>h.ap i q hi hq e g hg e2)).kp hKs (fun g hg e2=>by rw [e2] at hg;exact hnb i hi hg)
 by_cases hi1:i=q
 ·have hj1:j≠q:=fun e=>hne (hi1.trans e.symm)
  simp only [if_pos hi1,if_neg hj1] at e1 e2
  have:some gg=some g:=e1;injection this with this
  subst this;exact hfar j hj hj1 e2
 simp only [if_neg hi1] at e1
 by_cases hj1:j=q
 ·simp only [if_pos hj1] at e2
  have:some gg=some g:=e2;injection this with this
  subst this;exact hfar i hi hi1 e1
 simp only [if_neg hj1] at e2;exact h.ap i j hi hj hne g e1 e2
theorem make_ints (n:Nat)(h:n<=1000000)(W:World) :
  (Instr.makeSlice 60 (.int .i64 (n:Int)) (.int .i64 (n:Int))).run Tryz.prog W=.ok (.slice (some ⟨W.heap.size,0,none⟩) n n) (W.alloc (.cells (madeCells #[.slice none 0 0] n) 93)):=by
 obtain ⟨i0,hi,hz0,hz1,hz2⟩:=info_parts Tryz.infoIntsO
 have:=run_make (P:=Tryz.prog) W 60 93 i0 (.slice none 0 0) Tryz.underlying60 hi hz0 .i64 .i64 (n:Int) (n:Int) (by omega) (by omega) (by rw [hz2];omega) (by omega);rw [this,hz1];simp [Value.cells]
theorem rs_made (W:World)(n lo:Nat)(hl:W.heap.size<lo):RsAt (W.alloc (.cells (madeCells #[.slice none 0 0] n) 93)) W.heap.size lo n (fun _=>.slice none 0 0) (fun _=>[]):=by
 refine ⟨by simp,hl,fun i hi=>⟨?_,kF rfl⟩,fun i hi=>OwnI.nil _ _ _,fun i j _ _ _ g e=>by cases e⟩;rw [kA rfl,<- Array.getElem?_toList,toList_madeCells_one];simp [hi]
theorem refs_ne {S:Nat->ByteArray}{id:ByteArray}:∀ n,refsTo S id n=true->∀ i j,i<j->j<n->S i≠S j
 | n+1,h,i,j,hij,hj=>by
  rw [refsTo,Bool.and_eq_true] at h
  by_cases e:j=n
  ·subst e
   intro he;have h1:=h.2;simp only [Bool.and_eq_true,Bool.not_eq_true'] at h1
   have:=hasB_of S (S j) j i hij (by rw [he];simp);rw [h1.2.2] at this;cases this
  exact refs_ne n h.1 i j hij (by omega)
theorem auth_ne (h:e.code=0):∀ i j,i<j->j<e.na->e.Av i≠e.Av j:=by
 unfold Ev.code evCode at h;split at h;· cases h
 split at h;· cases h
 split at h;· cases h
 split at h;· cases h
 rename_i h4
 have hr:refsB e.Av e.na e.id=true:=by
  cases hq:refsB e.Av e.na e.id
  ·exact absurd (Or.inr hq) h4
  rfl
 unfold refsB at hr;rw [Bool.and_eq_true] at hr;exact refs_ne e.na hr.2
def RstTo (E:Nat->Ev)(n p j q:Nat):Prop:=∃ k,k<j∧posV E n ((E p).Av k)=(q:Int)
structure RsRel (E:Nat->Ev)(n:Nat)(pl:List Nat)(k y j:Nat)(R:Nat->List Nat):Prop where
 mem:∀ q,q<n->∀ p,p ∈ R q↔(p ∈ pl.take k∧Rst E n p q)∨(p=y∧RstTo E n y j q)
 nd:∀ q,q<n->(R q).Nodup
theorem RsRel.len {pl:List Nat}{R:Nat->List Nat}(h:RsRel E n pl k y j R)(hpl:∀ p ∈ pl,p<n)(hy:y<n)(hq:q<n):(R q).length<=n:=by
 have:=(h.nd q hq).length_le_of_subset (l₂:=List.range n) (fun p hp=>by
  rw [List.mem_range];rcases (h.mem q hq p).1 hp with ⟨h1,_⟩|⟨h1,_⟩
  ·exact hpl p (List.mem_of_mem_take h1)
  omega)
 simpa using this
theorem RsRel.next {pl:List Nat}{R:Nat->List Nat}(hr:roomTo E n=true)(hy:y<n)(hnd:pl.Pairwise (· < ·))(hk:k<pl.length)(ey:pl.getD k 0=y)(h:RsRel E n pl k y j R)(hj:j<(E y).na)(hq:posV E n ((E y).Av j)=(q:Int)):RsRel E n pl k y (j+1) (fun i=>if i=q then R q ++ [y] else R i):=by
 have hyn:y ∉ pl.take k:=fun hm=>by
  obtain ⟨i,hi,e⟩:=List.mem_iff_getElem.1 hm;rw [List.length_take] at hi;rw [List.getElem_take] at e
  have:=List.pairwise_iff_getElem.1 hnd i k (by omega) hk (by omega);rw [List.getD,List.getElem?_eq_getElem hk] at ey;have ey':pl[k]=y:=ey;omega
 have hnot:¬ RstTo E n y j q:=by
  rintro ⟨i,hi,e⟩;obtain ⟨_,h1⟩:=auth_at hr hy (show i<(E y).na by omega) e;obtain ⟨_,h2⟩:=auth_at hr hy hj hq;exact auth_ne (room_code hr hy) i j hi hj (h1.symm.trans h2)
 have hstep:∀ x,RstTo E n y (j+1) x↔RstTo E n y j x∨x=q:=fun x=>by
  constructor
  ·rintro ⟨i,hi,e⟩
   by_cases ei:i=j
   ·subst ei;exact Or.inr (by omega)
   exact Or.inl ⟨i,by omega,e⟩
  rintro (⟨i,hi,e⟩|rfl)
  ·exact ⟨i,by omega,e⟩
  exact ⟨j,by omega,hq⟩
 refine ⟨fun x hx p=>?_,fun x hx=>?_⟩
 ·by_cases e:x=q
  ·subst e
   simp only [if_pos];rw [List.mem_append,List.mem_singleton,h.mem x hx p,hstep];constructor
   ·rintro ((h1|⟨h1,h2⟩)|h1)
    ·exact Or.inl h1
    ·exact Or.inr ⟨h1,Or.inl h2⟩
    exact Or.inr ⟨h1,Or.inr rfl⟩
   rintro (h1|⟨h1,_⟩)
   ·exact Or.inl (Or.inl h1)
   exact Or.inr h1
  simp only [if_neg e];rw [h.mem x hx p,hstep];constructor
  ·rintro (h1|⟨h1,h2⟩)
   ·exact Or.inl h1
   exact Or.inr ⟨h1,Or.inl h2⟩
  rintro (h1|⟨h1,h2|h2⟩)
  ·exact Or.inl h1
  ·exact Or.inr ⟨h1,h2⟩
  exact absurd h2 e
 by_cases e:x=q
 ·subst e
  simp only [if_pos];refine List.nodup_append.2 ⟨h.nd x hx,by simp,fun p hp z hz e2=>?_⟩;rw [List.mem_singleton] at hz;subst hz e2;rcases (h.mem x hx p).1 hp with ⟨h1,_⟩|⟨_,h1⟩
  ·exact hyn h1
  exact hnot h1
 simp only [if_neg e];exact h.nd x hx
theorem RsRel.done {pl:List Nat}{y':Nat}{R:Nat->List Nat}(hk:k<pl.length)(ey:pl.getD k 0=y)(h:RsRel E n pl k y (E y).na R):RsRel E n pl (k+1) y' 0 R:=by
 refine ⟨fun q hq p=>?_,h.nd⟩;rw [h.mem q hq p,take_mem hk,ey];constructor
 ·rintro (⟨h1,h2⟩|⟨rfl,h2⟩)
  ·exact Or.inl ⟨Or.inl h1,h2⟩
  exact Or.inl ⟨Or.inr rfl,h2⟩
 rintro (⟨h1|rfl,h2⟩|⟨_,i,hi,_⟩)
 ·exact Or.inl ⟨h1,h2⟩
 ·exact Or.inr ⟨rfl,h2⟩
 omega
theorem RsRel.turn {pl:List Nat}{y':Nat}{R:Nat->List Nat}(h:RsRel E n pl k y 0 R):RsRel E n pl k y' 0 R:=by
 refine ⟨fun q hq p=>?_,h.nd⟩;rw [h.mem q hq p];constructor
 ·rintro (h1|⟨_,i,hi,_⟩)
  ·exact Or.inl h1
  omega
 rintro (h1|⟨_,i,hi,_⟩)
 ·exact Or.inl h1
 omega
def RoPost (w:World)(E:Nat->Ev)(n:Nat)(T:Nat->Bool)(e:Ending)(w':World):Prop:=∃ br lo V R,e=.returned (.slice (some ⟨br,0,none⟩) n n)∧w.heap.size<=br∧RsAt w' br lo n V R∧(∀ q,q<n->∀ p,p ∈ R q↔(p<n∧T p=true)∧Rst E n p q)∧(∀ q,q<n->(R q).Nodup)∧Below w.heap.size w w'
def RsLp (w1:World)(E:Nat->Ev)(n br:Nat)(pl:List Nat)(i:Value)(wr:World):Prop:=∃ (k:Nat) (V:Nat->Value) (R:Nat->List Nat),k<=pl.length∧i=.int .i64 (k:Int)∧RsAt wr br w1.heap.size n V R∧Hid (RsRel E n pl k 0 0 R)∧Kp (fun b=>b=br) w1 wr
def RsLq (w1:World)(E:Nat->Ev)(n br:Nat)(pl:List Nat)(k y:Nat)(i:Value)(wr:World):Prop:=∃ (j:Nat) (V:Nat->Value) (R:Nat->List Nat),j<=(E y).na∧i=.int .i64 (j:Int)∧RsAt wr br w1.heap.size n V R∧Hid (RsRel E n pl k y j R)∧Kp (fun b=>b=br) w1 wr
theorem rsI_sl {bm:Nat}{T:Nat->Bool}(w:World)(hroom:roomTo E n=true)(hr:SlL w ra n rc (restN E) (restV E))(hM:BlAt w bm n T) :
  Calls Tryz.prog 108 #[.agg #[.slice a n cap,.map (some m),.slice ra n rc],.slice (some ⟨bm,0,none⟩) n n] w (RoPost w E n T):=by
 obtain ⟨i0,hi,hz0,hz1,hz2⟩:=info_parts Tryz.infoIntO;have h300:=room_300 hroom;obtain ⟨wb,hwb⟩:∃ wb,wb=w.alloc (.cells #[.slice a n cap,.map (some m),.slice ra n rc] 62):=⟨_,rfl⟩;have hb0:Below w.heap.size w wb:=by rw [hwb];exact bA
 have hs0:wb.heap.size=w.heap.size+1:=by rw [hwb];simp
 have hbx:Hid (∀ wx,Below wb.heap.size wb wx->∀ o,wx.cell? ⟨w.heap.size,o,none⟩=(#[.slice a n cap,.map (some m),.slice ra n rc]:Array Value)[o]?):=fun wx hx=>by subst hwb;exact box_cells (hx.mono (by simp))
 have hmk:=make_ints n (by omega) wb;have hrs0:=fun lo=>rs_made wb n lo
 obtain ⟨wc,hwc⟩:∃ wc,wc=wb.alloc (.cells (madeCells #[.slice none 0 0] n) 93):=⟨_,rfl⟩;rw [<- hwc] at hmk hrs0;have hB0:Below wb.heap.size wb wc:=by rw [hwc];exact bA
 have hB0z:wb.heap.size<wc.heap.size:=by rw [hwc];simp
 have g0:wb.cell? ⟨w.heap.size,0,none⟩=some (.slice a n cap):=hbx.out wb kB 0;have hbw0:=hb0.trans (hB0.mono hb0.size);have Hroom:Hid (_):=hroom;have HR:Hid (SlL w ra n rc (restN E) (restV E)):=hr;have HP:Hid (Calls Tryz.prog 111 #[.slice (some ⟨bm,0,none⟩) n n] wc fun e w'=>∃ v,e=.returned v∧OwnI w' wc.heap.size v (plsL T n).length (lX (plsL T n))∧Below wc.heap.size wc w'):=plsI_sl wc h300 (hM.below hbw0);have Hpl:Hid (∀ q,q ∈ plsL T n↔q<n∧T q=true):=fun q=>plsL_mem T q n
 have Hlt:Hid ((plsL T n).Pairwise (· < ·)):=by
  have key:∀ k,(plsL T k).Pairwise (· < ·):=fun k=>by
   induction k with
   | zero=>exact List.Pairwise.nil
   | succ k ih =>
    unfold plsL;split
    ·refine List.pairwise_append.2 ⟨ih,List.pairwise_singleton _ _,fun p hp q hq=>?_⟩
     rw [List.mem_singleton] at hq;rw [hq];exact ((plsL_mem T p k).1 hp).1
    exact ih
  exact key n
 have hpll:=plsL_len T n;clear hroom hr hM;generalize plsL T n=pl at *
 go_enter Tryz.func108,Tryz.ntmps108
 go_upto_region 1 with fail
 rw [<- hwb];clear hwb hwc
 go_wp2_with fail
 clear hmk;refine (HP.out).mono ?_;rintro e w1 ⟨v1,rfl,ho1,hb1⟩;have hB1:=hB0.trans (hb1.mono hB0.size);have hw1z:wb.heap.size<w1.heap.size:=by have:=hB0z;have:=hb1.size;omega
 have hrs1:=(hrs0 w1.heap.size hw1z).below hb1;obtain ⟨pa,pc,rfl,hps⟩:=ho1.sl
 have HPs:Hid (pl.length=0∨∃ bp op,pa=some ⟨bp,op,none⟩∧bp<w1.heap.size∧bp≠wb.heap.size∧∀ i,i<pl.length->w1.cell? ⟨bp,op+i,none⟩=some (.int .i64 (lX pl i))):=by
  rcases hps.cells with h0|⟨bp,op,rfl,h1,h2⟩
  ·exact Or.inl h0
  refine Or.inr ⟨bp,op,rfl,h1,?_,h2⟩
  have:=(World.ownsRow.lt ho1 bp rfl).1;omega
 have hlo:Hid (∀ W,Kp (fun b=>b=wb.heap.size) w1 W->Below wb.heap.size wb W):=fun W hW=>hB1.trans (hW.below (Nat.le_of_lt hw1z) (fun k hk e=>by omega))
 clear ho1 hps hrs0 hb1 HP g0 hbw0
 go_wp2_with fail
 go_loopw [17] (fun i wr=>RsLp w1 E n wb.heap.size pl i wr) (fun i _=>pl.length - (intOf i).toNat)
 case atStart=>exact ⟨0,_,_,nz,rfl,hrs1,⟨fun q hq p=>by simp [RstTo],fun q hq=>List.nodup_nil⟩,Kp.refl _ _⟩
 case round =>
  clear hrs1;obtain ⟨k,V,R,hk,rfl,hrs,hrel',hK⟩:=hrel;have hBb:=hlo.out _ hK;have hbw:=hb0.trans (hBb.mono hb0.size);have x2:=hbx.out _ hBb 2
  by_cases hlt:k<pl.length
  ·rcases HPs.out with h0|⟨bp,op,rfl,hbp,hbne,hcp⟩
   ·omega
   obtain ⟨y,hy,ey⟩:∃ y,y<n∧pl.getD k 0=y:=⟨_,((Hpl.out _).1 (getD_mem hlt)).1,rfl⟩
   have hcy:wr.cell? ⟨bp,op+k,none⟩=some (.int .i64 (y:Int)):=by
    rw [<- ey];exact (hK.cell (p:=⟨bp,op+k,none⟩) hbp hbne).trans (hcp k hlt)
   rcases HR.out.cells with h0|⟨br,orr,rfl,hbr,hrc⟩
   ·omega
   obtain ⟨xa,xc,hx1,hx2⟩:=hrc y hy;have hcx:wr.cell? ⟨br,orr+y,none⟩=some (.slice xa (E y).na xc):=(hbw.cell (by exact hbr)).trans hx1;have Hxs:Hid (SlI w xa (E y).na xc (restV E y)):=hx2;have Hey:Hid (pl.getD k 0=y):=ey;have hy0:(0:Int)<=(y:Int):=by omega
   have hy1:(y:Int)<(n:Int):=by omega
   have Hst:Hid (RsRel E n pl k y 0 R):=hrel'.out.turn;have hna:(E y).na<=10:=(code_refs (room_code Hroom.out hy)).2;clear hcp ey hx1 hx2 hrc hrel';obtain ⟨wo,hwo⟩:∃ wo:World,wo=wr:=⟨_,rfl⟩;subst hwo
   go_wp2_with fail
   go_loopw [27] (fun i wr=>RsLq w1 E n wb.heap.size pl k y i wr) (fun i _=>(E y).na - (intOf i).toNat)
   case atStart=>exact ⟨0,V,R,nz,rfl,hrs,Hst,hK⟩
   case round =>
    clear hrs Hst hK hBb hbw x2 hcy hcx;obtain ⟨j,V,R,hj,rfl,hrs,hst,hK⟩:=hrel;have hBb:=hlo.out _ hK;have hbw:=hb0.trans (hBb.mono hb0.size)
    by_cases hlj:j<(E y).na
    ·rcases Hxs.out.cells with h0|⟨bx,ox,rfl,hbx',hcx⟩
     ·exact absurd h0 (by omega)
     obtain ⟨q,hq,eq,_⟩:=auth_there Hroom.out hy hlj;have hqr:posV E y ((E y).Av j)=(q:Int):=(room_auth Hroom.out hy hlj).2.2.trans eq
     have hcq:wr.cell? ⟨bx,ox+j,none⟩=some (.int .i64 (q:Int)):=by
      have:(restV E y) j=(q:Int):=hqr;rw [<- this];exact (hbw.cell (by exact hbx')).trans (hcx j hlj)
     have hqn:q<n:=by omega
     have hq0:(0:Int)<=(q:Int):=by omega
     have hq1:(q:Int)<(n:Int):=by omega
     have hvq:=(hrs.hd q hqn).1;have hvf:=(hrs.hd q hqn).2;have hlen:=hst.out.len (fun p hp=>((Hpl.out p).1 hp).1) hy hqn;have Hnx:Hid (RsRel E n pl k y (j+1) (fun i=>if i=q then R q ++ [y] else R i)):=hst.out.next Hroom.out hy Hlt.out hlt Hey.out hlj eq;have hownq:wr.ownsRow w1.heap.size 3 1 (V q) (R q).length (ints (lX (R q)) (R q).length):=hrs.ow q hqn;have hm1:(R q).length+1<=maxLen:=by unfold maxLen;omega
     have hm2:((R q).length+1) * 8<=140737488355328:=by omega
     have hm3:∀ o,w1.heap.size<=(wr.alloc o).heap.size:=fun o=>by have:=hK.size;simp;omega
     have Hfin:Hid (∀ (gg cq:Nat) (w2:World),w2.ownsRow w1.heap.size 3 1 (.slice (some ⟨gg,0,none⟩) ((R q).length+1) cq) ((R q).length+1) (ints (lX (R q)) (R q).length ++ [.int .i64 (y:Int)])->(wr.alloc (.cells #[.int .i64 (y:Int)] 3)).grownBy w2 (V q).ownBlock->((V q).ownBlock=some gg∨gg=wr.heap.size+1) →
       RsAt (w2.setCell ⟨wb.heap.size,q,none⟩ (.slice (some ⟨gg,0,none⟩) ((R q).length+1) cq)) wb.heap.size w1.heap.size n (fun i=>if i=q then .slice (some ⟨gg,0,none⟩) ((R q).length+1) cq else V i) (fun i=>if i=q then R q ++ [y] else R i)∧Kp (fun b=>b=wb.heap.size) w1 (w2.setCell ⟨wb.heap.size,q,none⟩ (.slice (some ⟨gg,0,none⟩) ((R q).length+1) cq))∧w2.cell? ⟨wb.heap.size,q,none⟩=some (V q)∧w2.frozen? ⟨wb.heap.size,q,none⟩=false):=fun gg cq w2 ho hg hat=>by
      have hK2:Kp (fun b=>(V q).ownBlock=some b) wr w2:=((Kp.refl _ wr).alloc _).grown hg (fun k hk _=>hk);have hnb:¬ (V q).ownBlock=some wb.heap.size:=fun e=>by have:=(World.ownsRow.lt hownq _ e).1;omega
      have hoI:OwnI w2 w1.heap.size (.slice (some ⟨gg,0,none⟩) ((R q).length+1) cq) ((R q).length+1) (lX (R q ++ [y])):=by
       have h1:ints (lX (R q)) (R q).length=ints (lX (R q ++ [y])) (R q).length:=by
        unfold ints;refine List.map_congr_left fun i hi=>?_
        rw [(lX_snoc (R q) y).1 i (List.mem_range.1 hi)]
       rw [h1] at ho;exact OwnI.snoc ho (lX_snoc (R q) y).2.symm
      refine ⟨hrs.put hqn hK2 hoI (hat.imp id (fun e=>by omega)),?_,(hK2.cell (p:=⟨wb.heap.size,q,none⟩) hrs.lt hnb).trans hvq,(hK2.frozen (p:=⟨wb.heap.size,q,none⟩) hrs.lt hnb).trans hvf⟩;exact (hK.transN hK2 (fun i hi e=>by have:=(World.ownsRow.lt hownq i e).1;omega)).setCell rfl _
     clear hcx eq hqr hst;rw [hs0] at hvq hvf Hfin
     go_wp2_with (at_builtin;refine wpList_append_lies _ rfl _ _ 93 rfl w1.heap.size 3 i0 (.int .i64 0) 1 8 Tryz.underlying93 hi hz0 hz1 hz2 rfl (by decide) _ _ _ rfl (World.ownsRow.alloc hownq _) ⟨wr.heap.size,0,none⟩ 1 1 [.int .i64 (y:Int)] rfl rfl (one_cellsI _ _ _) (one_oneI _) (by decide) hm1 hm2 (hm3 _) (wr.heap.size+1) (by simp) ?_;intro gg cq w2 hown2 hgrow2 hat2 hlt2;obtain ⟨hr2,hk2,hc2,hf2⟩:=Hfin.out gg cq w2 hown2 hgrow2 hat2)
     have hr3:=hr2;have hk3:=hk2;rw [<- hs0] at hr3 hk3;clear hr2 hk2 Hfin;rw [<- hs0];go_roundw
     case rel=>exact ⟨j+1,_,_,by omega,by go_num,hr3,Hnx,hk3⟩
     simp [intOf];omega
    have hjn:(E y).na=j:=by omega
    subst hjn;have Hdn:Hid (RsRel E n pl (k+1) 0 0 R):=hst.out.done hlt Hey.out;clear hst;go_wp2
    exact ⟨⟨k+1,V,R,by omega,by go_num,hrs,Hdn,hK⟩,by simp [intOf];omega⟩
  have hkn:pl.length=k:=by omega
  subst hkn
  have HP:Hid (RoPost w E n T (.returned (.slice (some ⟨wb.heap.size,0,none⟩) n n)) wr):=⟨wb.heap.size,w1.heap.size,V,R,rfl,by omega,hrs,fun q hq p=>by
   rw [hrel'.out.mem q hq p,List.take_length,Hpl.out];constructor
   ·rintro (h1|⟨_,i,hi',_⟩)
    ·exact h1
    omega
   exact Or.inl,hrel'.out.nd,hbw⟩
  clear hrel';rw [hs0] at HP;have hs0':=hs0;go_wp2
  go_ret;exact HP.out
variable {b p bw:Nat}
theorem rdC_any {Wt:Nat->Bool}(w:World)(hc:w.cell? ⟨bw,0,none⟩=some (.slice (some ⟨b,0,none⟩) n n))(hq:q<n)(hb:w.cell? ⟨b,q,none⟩=some (.bool (Wt q))) :
  Calls Tryz.prog 177 #[.int .i64 (q:Int),.pointer (some ⟨bw,0,none⟩)] w fun e w'=>e=.returned (.bool (Wt q))∧w'=w:=by
 have hx1:(0:Int)<=(q:Int):=by omega
 have hx2:(q:Int)<(n:Int):=by omega
 generalize Wt q=bq at *
 go_enter Tryz.func177,Tryz.ntmps177
 go_wp2
 go_ret;exact ⟨rfl,rfl⟩
def anyTo (Wt:Nat->Bool)(X:Nat->Int):Nat->Bool
 | 0=>false
 | k+1=>anyTo Wt X k || Wt (X k).toNat
theorem anyTo_le (Wt:Nat->Bool)(X:Nat->Int):∀ m k,k<m->Wt (X k).toNat=true->anyTo Wt X m=true
 | m+1,k,hk,e=>by
  rw [anyTo]
  by_cases h:k=m
  ·subst h;rw [e,Bool.or_true]
  rw [anyTo_le Wt X m k (by omega) e];rfl
theorem anyTo_iff (Wt:Nat->Bool)(X:Nat->Int):∀ m,anyTo Wt X m=true↔∃ k,k<m∧Wt (X k).toNat=true
 | 0=>by simp [anyTo]
 | m+1=>by
  rw [anyTo,Bool.or_eq_true,anyTo_iff Wt X m];constructor
  ·rintro (⟨k,hk,e⟩|e)
   ·exact ⟨k,by omega,e⟩
   exact ⟨m,by omega,e⟩
  rintro ⟨k,hk,e⟩
  by_cases h:k=m
  ·subst h;exact Or.inr e
  exact Or.inl ⟨k,by omega,e⟩
theorem idxR_sl {X:Nat->Int}{Wt:Nat->Bool}(w:World)(hX:SlI w a m cap X)(hXn:∀ k,k<m->∃ q,q<n∧X k=(q:Int))(hc:w.cell? ⟨bw,0,none⟩=some (.slice (some ⟨b,0,none⟩) n n))(hM:BlAt w b n Wt) :
  Calls Tryz.prog 217 #[.slice a m cap,.func (.func 177) #[] #[.pointer (some ⟨bw,0,none⟩)]] w fun e w'=>∃ z:Int,e=.returned (.int .i64 z)∧Hid (decide (0<=z)=anyTo Wt X m)∧w'=w:=by
 have hmx:=nZ hX.le hX.max;unfold maxLen at hmx;have HX:Hid (SlI w a m cap X):=hX;have Hn:Hid (∀ k,k<m->∃ q,q<n∧X k=(q:Int)):=hXn;have HC:Hid (∀ q,q<n->Calls Tryz.prog 177 #[.int .i64 (q:Int),.pointer (some ⟨bw,0,none⟩)] w fun e w'=>e=.returned (.bool (Wt q))∧w'=w):=fun q hq=>rdC_any w hc hq (hM.2 q hq).1
 clear hX hXn hc hM
 go_enter Tryz.func217,Tryz.ntmps217
 go_wp2
 go_loopw [8] (fun i wr=>∃ k:Nat,k<=m∧i=.int .i64 k∧Hid (anyTo Wt X k=false)∧wr=w) (fun i _=>m - (intOf i).toNat)
 case atStart=>exact ⟨0,nz,rfl,rfl,rfl⟩
 case round =>
  obtain ⟨k,hk,rfl,hto,hwr⟩:=hrel;subst hwr
  by_cases hlt:k<m
  ·rcases HX.out.cells with h0|⟨ba,oa,rfl,hba,hca⟩
   ·omega
   obtain ⟨q,hq,eq⟩:=Hn.out k hlt;have hck:wr.cell? ⟨ba,oa+k,none⟩=some (.int .i64 (q:Int)):=by rw [<- eq];exact hca k hlt
   have HQ:Hid (∀ b1,Wt q=b1->Calls Tryz.prog 177 #[.int .i64 (q:Int),.pointer (some ⟨bw,0,none⟩)] wr fun e w'=>e=.returned (.bool b1)∧w'=wr):=fun b1 e1=>by rw [<- e1];exact HC.out q hq
   have HS:Hid (∀ b1,Wt q=b1->anyTo Wt X (k+1)=b1):=fun b1 e1=>by rw [anyTo,hto.out,eq,Int.toNat_natCast,e1];rfl
   have HT:Hid (Wt q=true->anyTo Wt X m=true):=fun e1=>anyTo_le Wt X m k hlt (by rw [eq,Int.toNat_natCast];exact e1)
   clear hca eq hto;cases he:Wt q
   case false =>
    have HQ':Hid (Calls Tryz.prog 177 #[.int .i64 (q:Int),.pointer (some ⟨bw,0,none⟩)] wr fun e w'=>e=.returned (.bool false)∧w'=wr):=HQ.out _ he;have hto2:Hid (anyTo Wt X (k+1)=false):=HS.out _ he;clear HQ HS HT he
    go_wp2_with (go_at_call 177;refine (HQ'.out).mono ?_;rintro e w1 ⟨rfl,rfl⟩)
    go_roundw
    case rel=>exact ⟨k+1,by omega,by go_num,hto2,by first|rfl|trivial⟩
    simp [intOf];omega
   case true =>
    have HQ':Hid (Calls Tryz.prog 177 #[.int .i64 (q:Int),.pointer (some ⟨bw,0,none⟩)] wr fun e w'=>e=.returned (.bool true)∧w'=wr):=HQ.out _ he;have hto2:Hid (anyTo Wt X m=true):=HT.out he;clear HQ HS HT he
    go_wp2_with (go_at_call 177;refine (HQ'.out).mono ?_;rintro e w1 ⟨rfl,rfl⟩)
    go_ret;exact ⟨(k:Int),rfl,by unfold Hid;rw [hto2.out];simp,rfl⟩
  have hkn:m=k:=by omega
  have hto2:Hid (anyTo Wt X m=false):=by rw [hkn];exact hto
  clear hto;go_wp2
  go_ret;exact ⟨-1,rfl,by unfold Hid;rw [hto2.out];rfl,rfl⟩
theorem contR_sl {X:Nat->Int}{Wt:Nat->Bool}(w:World)(hX:SlI w a m cap X)(hXn:∀ k,k<m->∃ q,q<n∧X k=(q:Int))(hc:w.cell? ⟨bw,0,none⟩=some (.slice (some ⟨b,0,none⟩) n n))(hM:BlAt w b n Wt) :
  Calls Tryz.prog 178 #[.slice a m cap,.func (.func 177) #[] #[.pointer (some ⟨bw,0,none⟩)]] w fun e w'=>e=.returned (.bool (anyTo Wt X m))∧w'=w:=by
 have HI:Hid (Calls Tryz.prog 217 #[.slice a m cap,.func (.func 177) #[] #[.pointer (some ⟨bw,0,none⟩)]] w fun e w'=>∃ z:Int,e=.returned (.int .i64 z)∧Hid (decide (0<=z)=anyTo Wt X m)∧w'=w):=idxR_sl w hX hXn hc hM;clear hX hXn hc hM
 go_enter Tryz.func178,Tryz.ntmps178
 go_wp2_with fail
 refine (HI.out).mono ?_;rintro e w1 ⟨z,rfl,hz,rfl⟩;go_wp2
 go_ret;exact ⟨ret_bool hz.out,rfl⟩
def RdPost (w:World)(E:Nat->Ev)(n p:Nat)(Wt:Nat->Bool)(e:Ending)(w':World):Prop:=∃ q,e=.returned (.bool q)∧(q=true↔∀ r,Rst E n p r->Wt r=false)∧Below w.heap.size w w'
theorem rdI_sl {mm:Option Nat}{Wt:Nat->Bool}(w:World)(hroom:roomTo E n=true)(hp:p<n)(hr:SlL w ra n rc (restN E) (restV E))(hM:BlAt w b n Wt) :
  Calls Tryz.prog 112 #[.agg #[.slice a n cap,.map mm,.slice ra n rc],.int .i64 (p:Int),.slice (some ⟨b,0,none⟩) n n] w (RdPost w E n p Wt):=by
 rcases hr.cells with h0|⟨br,orr,rfl,hbr,hrc⟩
 ·omega
 obtain ⟨xa,xc,hx1,hx2⟩:=hrc p hp;obtain ⟨wb,hwb⟩:∃ wb,wb=(w.alloc (.cells #[.slice a n cap,.map mm,.slice (some ⟨br,orr,none⟩) n rc] 62)).alloc (.cells #[.slice (some ⟨b,0,none⟩) n n] 98):=⟨_,rfl⟩;have hb0:Below w.heap.size w wb:=by rw [hwb];exact bA.alloc (by simp) _
 have g2:wb.cell? ⟨w.heap.size,2,none⟩=some (.slice (some ⟨br,orr,none⟩) n rc):=by
  rw [hwb];exact box_cells (kB.alloc (by simp) _) 2
 have w0:wb.cell? ⟨w.heap.size+1,0,none⟩=some (.slice (some ⟨b,0,none⟩) n n):=by rw [hwb];exact kA (by simp)
 have hcp:wb.cell? ⟨br,orr+p,none⟩=some (.slice xa (E p).na xc):=(hb0.cell (by exact hbr)).trans hx1;have hX:SlI wb xa (E p).na xc (restV E p):=SlI.below hx2 hb0
 have HCf:Hid (Calls Tryz.prog 178 #[.slice xa (E p).na xc,.func (.func 177) #[] #[.pointer (some ⟨w.heap.size+1,0,none⟩)]] wb fun e w'=>e=.returned (.bool (anyTo Wt (restV E p) (E p).na))∧w'=wb):=contR_sl wb hX (fun k hk=>by
  obtain ⟨j,hj,e,_⟩:=auth_there hroom hp hk;exact ⟨j,by omega,(room_auth hroom hp hk).2.2.trans e⟩) w0 (hM.below hb0)
 have Hiff:Hid ((!anyTo Wt (restV E p) (E p).na)=true↔∀ r,Rst E n p r->Wt r=false):=by
  unfold Hid;rw [Bool.not_eq_true',<- Bool.not_eq_true,anyTo_iff];constructor
  ·rintro h r ⟨k,hk,e⟩
   cases hw:Wt r
   ·rfl
   refine absurd ⟨k,hk,?_⟩ h
   have:restV E p k=(r:Int):=(room_auth hroom hp hk).2.2.trans e;rw [this,Int.toNat_natCast];exact hw
  rintro h ⟨k,hk,e⟩;obtain ⟨j,hj,ej,_⟩:=auth_there hroom hp hk;have h1:restV E p k=(j:Int):=(room_auth hroom hp hk).2.2.trans ej;rw [h1,Int.toNat_natCast,h j ⟨k,hk,ej⟩] at e;cases e
 have hi1:(0:Int)<=(p:Int):=by omega
 have hi2:(p:Int)<(n:Int):=by omega
 clear hX hx1 hx2 hrc hr hM hroom;generalize anyTo Wt (restV E p) (E p).na=av at *;generalize (E p).na=na at *
 go_enter Tryz.func112,Tryz.ntmps112
 go_upto_region 2 with fail
 rw [<- hwb];clear hwb
 go_wp2_with fail
 refine (HCf.out).mono ?_;rintro e w1 ⟨rfl,rfl⟩;go_wp2
 go_ret;exact ⟨_,rfl,Hiff.out,hb0⟩
end Go.Proofs.YtkdalopokdhndaaGreat
namespace Go.Proofs.YtkdalopokdhndaaGreat
open Go.RowKit Go.Maps Go.ChangeMaps
variable {e:Ev}{a ra:Option Addr}{m n p rc cap:Nat}{E:Nat->Ev}
theorem isPow_ty {b:Bool}(h:isPow e=b):(e.ty.toList == [112,111,119,101,114])=b:=h
theorem powI_sl (w:World)(hroom:roomTo E n=true)(hp:p<n)(h:SlV w a n cap E)(hr:SlL w ra n rc (restN E) (restV E)) :
  Calls Tryz.prog 117 #[.agg #[.slice a n cap,.map (some m),.slice ra n rc],.int .i64 (p:Int)] w fun e w'=>e=.returned (.int .i64 (pwV E n p))∧Below w.heap.size w w':=by
 have h300:=room_300 hroom;rcases h.cells with h0|⟨b,off,rfl,hb,hc⟩
 ·omega
 rcases hr.cells with h0|⟨br,orr,rfl,hbr,hcr⟩
 ·omega
 obtain ⟨xa,xc,hx0,hxs⟩:=hcr p hp;have hx:w.cell? ⟨br,orr+p,none⟩=some (.slice xa (E p).na xc):=hx0;have hna:(E p).na<=maxLen:=nZ hxs.le hxs.max;unfold maxLen at hna;have hb0:Below w.heap.size w (w.alloc (.cells #[.slice (some ⟨b,off,none⟩) n cap,.map (some m),.slice (some ⟨br,orr,none⟩) n rc] 62)):=bA;have Hroom:Hid (_):=hroom;have Hend:Hid (∀ x,x=pwV E n p->Ending.returned (.int .i64 x)=.returned (.int .i64 (pwV E n p))):=fun x hx=>by rw [hx]
 clear hx0 hcr h hr hroom
 go_enter Tryz.func117,Tryz.ntmps117
 go_wp2_with fail
 go_loop [13] (fun i=>∃ k:Nat,k<=(E p).na∧i=.int .i64 k∧Hid (∀ i,i<k->isPow (E (posV E n ((E p).Av i)).toNat)=false)) (fun i=>(E p).na - (intOf i).toNat)
 case atStart=>exact ⟨0,nz,rfl,fun i hi=>absurd hi (Nat.not_lt_zero _)⟩
 case round =>
  obtain ⟨k,hk,rfl,hto⟩:=hrel
  by_cases hlt:k<(E p).na
  ·rcases hxs.cells with h0|⟨bx,ox,rfl,hbx,hcx⟩
   ·exact absurd h0 (by show ¬ (E p).na=0;omega)
   obtain ⟨y,hy,ey,_⟩:=auth_there Hroom.out hp hlt;have hyr:posV E p ((E p).Av k)=(y:Int):=(room_auth Hroom.out hp hlt).2.2.trans ey;have hcy:w.cell? ⟨bx,ox+k,none⟩=some (.int .i64 (y:Int)):=by rw [<- hyr];exact hcx k hlt
   have hyn:y<n:=by omega
   obtain ⟨_,_,_,_,_,_,hec,_⟩:=hc y hyn;have hty:=hec.c2;have Hey:Hid (_=_):=ey;clear hcx hec ey hyr hc hxs;cases hq:isPow (E y)
   case false =>
    have hqt:=isPow_ty hq
    have Hto:Hid (∀ i,i<k+1->isPow (E (posV E n ((E p).Av i)).toNat)=false):=fun i hi=>by
     by_cases e:i=k
     ·subst e;rw [Hey.out,Int.toNat_natCast];exact hq
     exact hto.out i (by omega)
    clear hto hq;go_wp2
    go_round
    case rel=>exact ⟨k+1,by omega,by go_num,Hto⟩
    simp [intOf];omega
   case true =>
    have hqt:=isPow_ty hq;have Hh:Hid ((y:Int)=pwV E n p):=(scTo_hit hlt hto.out Hey.out hq).symm;clear hto hq;go_wp2
    go_ret;exact ⟨Hend.out _ Hh.out,hb0⟩
  have Hh:Hid ((-1:Int)=pwV E n p):=(scTo_miss _ (fun i hi=>hto.out i (by omega))).symm;go_wp2
  go_ret;exact ⟨Hend.out _ Hh.out,hb0⟩
def IaPost (w:World)(E:Nat->Ev)(X:Nat->Int)(m:Nat)(e:Ending)(w':World):Prop :=
 ∃ v,e=.returned v∧OwnT w' w.heap.size v m (fun k=>(E (X k).toNat).id)∧Below w.heap.size w w'
theorem idsI_any (b off n cap:Nat)(E:Nat->Ev)(mm:Option Nat)(ra:Option Addr)(nr rc:Nat)(B O m cb:Nat)(X:Nat->Int)(w:World)(hm:m<=1048576)(hb:b<w.heap.size)(hB:B<w.heap.size)
  (hc:∀ i,i<n->w.cell? ⟨b,off+i * 10,none⟩=some (.string (E i).id)) (hX:∀ k,k<m->w.cell? ⟨B,O+k,none⟩=some (.int .i64 (X k))) (hXn:∀ k,k<m->∃ p,p<n∧X k=(p:Int)) :
  Calls Tryz.prog 52 #[.agg #[.slice (some ⟨b,off,none⟩) n cap,.map mm,.slice ra nr rc],.slice (some ⟨B,O,none⟩) m cb] w (IaPost w E X m):=by
 obtain ⟨i0,hi,hz0,hz1,hz2⟩:=info_parts Tryz.infoString;obtain ⟨wb,hwb⟩:∃ wb,wb=w.alloc (.cells #[.slice (some ⟨b,off,none⟩) n cap,.map mm,.slice ra nr rc] 62):=⟨_,rfl⟩;have hb0:Below w.heap.size w wb:=by rw [hwb];exact bA
 have hs0:wb.heap.size=w.heap.size+1:=by rw [hwb];simp
 have hbx:Hid (∀ wx,Below (w.heap.size+1) wb wx->wx.cell? ⟨w.heap.size,0,none⟩=some (.slice (some ⟨b,off,none⟩) n cap)):=fun wx hx=>by subst hwb;exact box_cells hx 0
 have HX:Hid (_):=hX;have HXn:Hid (_):=hXn;clear hX hXn
 go_enter Tryz.func52,Tryz.ntmps52
 go_wp2_with fail
 rw [<- hwb]
 go_loopw [5,10] (fun v i wr=>∃ k:Nat,k<=m∧i=.int .i64 k∧OwnT wr (w.heap.size+1) v k (fun k=>(E (X k).toNat).id)∧Below (w.heap.size+1) wb wr) (fun _ i _=>m - (intOf i).toNat)
 case atStart=>exact ⟨0,nz,rfl,OwnT.nil _ _ _,kB⟩
 case round =>
  obtain ⟨k,hk,rfl,hown,hbl⟩:=hrel;have hbw:=hb0.trans (hbl.mono (by omega));have hbx0:=hbx.out _ hbl;have hso:w.heap.size+1<=wr.heap.size:=by have:=hbl.size;omega
  by_cases hlt:k<m
  ·obtain ⟨p,hp,ep⟩:=HXn.out k hlt
   have hxk:wr.cell? ⟨B,O+k,none⟩=some (.int .i64 (p:Int)):=by rw [<- ep];exact (hbw.cell (by exact hB)).trans (HX.out k hlt)
   have hek:wr.cell? ⟨b,off+p * 10,none⟩=some (.string (E p).id):=(hbw.cell (by exact hb)).trans (hc p hp);have Hx:Hid ((E p).id=(E (X k).toNat).id):=by show _=_;rw [ep,Int.toNat_natCast]
   have hm1:k+1<=maxLen:=by unfold maxLen;omega
   have hm2:(k+1) * 16<=140737488355328:=by omega
   have hm3:∀ o,w.heap.size+1<=(wr.alloc o).heap.size:=fun o=>by simp;omega
   have hag:Hid (∀ q',u5.ownBlock=some q'->w.heap.size+1<=q'):=fun q' hq'=>(World.ownsRow.lt hown q' hq').1
   clear hc ep
   go_wp2_with (at_builtin;refine wpList_append_own _ rfl _ _ 27 rfl (w.heap.size+1) 9 i0 (.string ByteArray.empty) 1 16 Tryz.underlying27 hi hz0 hz1 hz2 rfl (by decide) _ _ _ rfl (World.ownsRow.alloc hown _) ⟨wr.heap.size,0,none⟩ 1 1 [.string (E p).id] rfl rfl (one_cells _ _ _) (one_one _) hm1 hm2 (hm3 _) ?_;intro v2 w2 hown2 hgrow2 _)
   have hown3:OwnT w2 (w.heap.size+1) v2 (k+1) (fun k=>(E (X k).toNat).id):=OwnT.snoc hown2 Hx.out;have hB2:Below (w.heap.size+1) wb w2:=(hbl.alloc (by omega) _).grown hgrow2 (hm3 _) hag.out;go_roundw
   case rel=>exact ⟨k+1,by omega,by go_num,hown3,hB2⟩
   simp [intOf];omega
  have hkm:k=m:=by omega
  subst hkm;go_wp2
  go_ret;exact ⟨_,rfl,hown.mono (by omega),hbw⟩
theorem idsI_zero (a:Option Addr)(n cap:Nat)(E:Nat->Ev)(mm:Option Nat)(ra:Option Addr)(nr rc:Nat)(B:Option Addr)(cb:Nat)(X:Nat->Int)(w:World) :
  Calls Tryz.prog 52 #[.agg #[.slice a n cap,.map mm,.slice ra nr rc],.slice B 0 cb] w (IaPost w E X 0):=by
 go_enter Tryz.func52,Tryz.ntmps52
 go_wp2_with fail
 refine wp_loop_rounds 1 ?_;rw [rounds_succ];go_wp2
 go_ret;exact ⟨_,rfl,OwnT.nil _ _ _,bA⟩
theorem idsI_sl {mm:Option Nat}{nr:Nat}{B:Option Addr}{cb:Nat}{X:Nat->Int}(w:World)(hm:m<=1048576)(h:SlV w a n cap E)(hX:SlI w B m cb X)(hXn:∀ k,k<m->∃ p,p<n∧X k=(p:Int)) :
  Calls Tryz.prog 52 #[.agg #[.slice a n cap,.map mm,.slice ra nr rc],.slice B m cb] w (IaPost w E X m):=by
 rcases hX.cells with rfl|⟨g,O,rfl,hg,hc⟩
 ·exact idsI_zero a n cap E mm ra nr rc B cb X w
 rcases h.ids with rfl|⟨b,off,rfl,hb,hcs⟩
 ·rcases Nat.eq_zero_or_pos m with rfl|h0
  ·exact idsI_zero a 0 cap E mm ra nr rc _ cb X w
  obtain ⟨p,hp,_⟩:=hXn 0 h0;omega
 exact idsI_any b off n cap E mm ra nr rc g O m cb X w hm hb hg hcs hc hXn
end Go.Proofs.YtkdalopokdhndaaGreat
namespace Go.Proofs.YtkdalopokdhndaaGreat
open Go.RowKit
variable {w w':World}
theorem Grw.cell (h:Grw w w'){p:Addr}(hp:p.block<w.heap.size):w'.cell? p=w.cell? p:=h.below.cell hp
end Go.Proofs.YtkdalopokdhndaaGreat
