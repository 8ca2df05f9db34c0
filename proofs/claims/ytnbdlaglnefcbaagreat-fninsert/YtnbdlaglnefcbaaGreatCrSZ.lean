import Derived.Test.YtnbdlaglnefcbaaGreatCpS
import Derived.Deep.RegionLaw
namespace Go.Proofs.YtnbdlaglnefcbaaGreat
open Go.RowKit
structure CR (w wr:World)(a:Option Addr)(n cap:Nat)(v:Value):Prop where
 x0:wr.cell? ⟨w.heap.size,0,none⟩=some (.slice a n cap)
 x1:∃ u,wr.cell? ⟨w.heap.size+1,0,none⟩=some u
 x3:wr.cell? ⟨w.heap.size+1+1+1,0,none⟩=some v
 f1:wr.frozen? ⟨w.heap.size+1,0,none⟩=false
 f3:wr.frozen? ⟨w.heap.size+1+1+1,0,none⟩=false
 sz:w.heap.size+1+1+1<wr.heap.size
 bel:Below w.heap.size w wr
set_option maxRecDepth 100000 in
set_option maxHeartbeats 4000000 in
theorem l2Cr_q {Q:World->Ev->Ls->Prop}(hQ:QS Q)(b off n cap:Nat)(E:Nat->Ev)(w:World)(hr:n * 168<=140737488351232)(hR:∀ i,i<n->EvReach (E i))(h:SlV w (some ⟨b,off,none⟩) n cap E)(hb0:0<n->b<w.heap.size)(hc:∀ i,i<n->EvAt w b (off+i * 10) (E i)) :
  Calls Tryz.prog 15 #[.agg #[.slice (some ⟨b,off,none⟩) n cap]] w fun x w'=>∃ v T,x=.returned (.agg #[v])∧Hid (RowV Q w' (w.heap.size+2) v n E T)∧Below w.heap.size w w':=by
 obtain ⟨i0,hi,hz0,hz1,hz2⟩:=info_parts Tryz.infoEvent
 have hmx:=Nat.le_trans h.le h.max
 have hnn:=hmx
 unfold maxLen at hnn
 obtain ⟨wa,hwa⟩:∃ wa,wa=(((w.alloc (.cells #[.slice (some ⟨b,off,none⟩) n cap] 25)).alloc (.cells #[.slice none 0 0] 25)).alloc (.cells #[] 29)).alloc (.cells #[.slice (some ⟨w.heap.size+1+1,0,none⟩) 0 0] 25):=⟨_,rfl⟩
 have hC0:CR w wa (some ⟨b,off,none⟩) n cap (.slice (some ⟨w.heap.size+1+1,0,none⟩) 0 0):=by
  rw [hwa]
  refine ⟨?_,⟨.slice none 0 0,?_⟩,World.cell?_alloc_at _ _ _ _ (by simp),?_,World.frozen?_alloc_at _ _ _ _ (by simp),by simp,((bA.alloc (by simp) _).alloc (by simp;omega) _).alloc (by simp;omega) _⟩
  ·rw [World.cell?_alloc_past _ _ _ (by simp;omega),World.cell?_alloc_past _ _ _ (by simp;omega),World.cell?_alloc_past _ _ _ (by simp)]
   exact World.cell?_alloc_at _ _ _ _ rfl
  ·rw [World.cell?_alloc_past _ _ _ (by simp),World.cell?_alloc_past _ _ _ (by simp)]
   exact World.cell?_alloc_at _ _ _ _ (by simp)
  ·rw [World.frozen?_alloc_past _ _ _ (by simp),World.frozen?_alloc_past _ _ _ (by simp)]
   exact World.frozen?_alloc_at _ _ _ _ (by simp)
 have hV0:RowV Q wa (w.heap.size+2) (.slice (some ⟨w.heap.size+1+1,0,none⟩) 0 0) 0 E (fun _=>⟨none,0,none,0,none,0,0,0,0,0⟩):=by
  have:=RowV.new (Q:=Q) ((w.alloc (.cells #[.slice (some ⟨b,off,none⟩) n cap] 25)).alloc (.cells #[.slice none 0 0] 25)) (w.heap.size+2) (by simp) E (fun _=>⟨none,0,none,0,none,0,0,0,0,0⟩)
  simp only [World.size_alloc] at this
  rw [hwa]
  exact this.below hQ.c bA
 have HC:Hid (_):=hc
 have HR:Hid (_):=hR
 clear hc hR h
 go_enter Tryz.func15,Tryz.ntmps15
 go_wp2_with fail
 rw [<- hwa]
 clear hwa
 go_loopw [4] (fun iv wr=>∃ k:Nat,k<=n∧iv=.int .i64 (k:Int)∧∃ g c T,Hid (CR w wr (some ⟨b,off,none⟩) n cap (.slice (some ⟨g,0,none⟩) k c))∧Hid (RowV Q wr (w.heap.size+2) (.slice (some ⟨g,0,none⟩) k c) k E T)∧g≠w.heap.size+1+1+1∧w.heap.size+2<=g∧Hid (∀ i,i<k->w.heap.size+1+1+1<(T i).lo)) (fun iv _=>n - (intOf iv).toNat)
 case atStart=>exact ⟨0,Nat.zero_le _,rfl,w.heap.size+1+1,0,_,hC0,hV0,by omega,by omega,fun i hi=>absurd hi (Nat.not_lt_zero _)⟩
 case round =>
  clear hC0 hV0
  obtain ⟨k,hk,rfl,g,c,T,hCR,hV,hg1,hg2,hT⟩:=hrel
  obtain ⟨x0,⟨u1,x1⟩,x3,f1,f3,hz3,hbel⟩:=hCR.out
  by_cases hlt:k<n
  ·have hb:b<w.heap.size:=hb0 (by omega)
   obtain ⟨pa,cp,aa,ca,ga,cg,hcs,hok⟩:=HC.out k hlt
   obtain ⟨c0,c1,c2,c3,c4,c5,c6,c7,c8,c9⟩:=hcs.below hbel hb
   have hbr:b<wr.heap.size:=Nat.lt_of_lt_of_le hb hbel.size
   have hzr:w.heap.size<wr.heap.size:=by omega
   have hne:b≠w.heap.size+1+1+1:=by omega
   have hbg:b≠g:=by omega
   have Hcp:Hid (∀ W,Below wr.heap.size wr W->Calls Tryz.prog 17 #[.agg #[.string (E k).id,.string (E k).sd,.string (E k).ty,.bool (E k).st,.string (E k).key,.int .i64 (E k).tm,.slice pa (E k).np cp,.slice aa (E k).na ca,.string (E k).val,.slice ga (E k).ng cg]] W fun x w'=>∃ t:Ls,x=.returned (.agg #[.string (E k).id,.string (E k).sd,.string (E k).ty,.bool (E k).st,.string (E k).key,.int .i64 (E k).tm,.slice t.pa (E k).np t.cp,.slice t.aa (E k).na t.ca,.string (E k).val,.slice t.ga (E k).ng t.cg])∧Hid (Q w' (E k) t)∧wr.heap.size<=t.lo∧Below wr.heap.size wr w'):=fun W hW=>by
    refine (hQ.cp (E k) W (HR.out k hlt) (hok.below (hbel.trans (hW.mono hbel.size)))).mono ?_
    rintro x w' ⟨t,h1,h2,h3,h4⟩
    exact ⟨t,h1,h2,Nat.le_trans hW.size h3,hW.trans (h4.mono hW.size)⟩
   have HZ:Hid (∀ (w1 X w3:World) (t:Ls) (gg cc:Nat),Below wr.heap.size wr w1->Q w1 (E k) t->wr.heap.size<=t.lo->Below w1.heap.size w1 X->w3.ownsRow (w.heap.size+2) 29 10 (.slice (some ⟨gg,0,none⟩) (k+1) cc) (k+1) (encV E T k ++ evL (E k) t)->X.grownBy w3 (some g)->(some g=some gg∨X.heap.size<=gg)->CR w (w3.setCell ⟨w.heap.size+1+1+1,0,none⟩ (.slice (some ⟨gg,0,none⟩) (k+1) cc)) (some ⟨b,off,none⟩) n cap (.slice (some ⟨gg,0,none⟩) (k+1) cc)∧RowV Q (w3.setCell ⟨w.heap.size+1+1+1,0,none⟩ (.slice (some ⟨gg,0,none⟩) (k+1) cc)) (w.heap.size+2) (.slice (some ⟨gg,0,none⟩) (k+1) cc) (k+1) E (extT T k t)∧gg≠w.heap.size+1+1+1∧w.heap.size+2<=gg∧(∀ i,i<k+1->w.heap.size+1+1+1<(extT T k t i).lo)):=fun w1 X w3 t gg cc h1 hq hlo hX hown hgr hgg=>by
    have hwX:=h1.trans (hX.mono h1.size)
    have hqX:=hQ.c.below hq hX
    have hVX:=hV.out.below hQ.c hwX
    have hgsz:g<wr.heap.size:=by
     rcases hV.out.cells with ⟨q,_⟩|⟨g',cap',q,_,q2,_⟩
     ·injection q with q;cases q
     ·injection q with q
      injection q with q
      injection q with q
      omega
    have hVs:=hVX.snoc hQ.c hqX (by omega) (fun i hi=>Nat.le_trans (hQ.c.hi (hV.out.q i hi)).2 hlo) (fun q hq=>Or.inl (by
     have:some g=some q:=hq
     injection this with this
     omega)) hown hgr (by
     rcases hgg with q|q
     ·exact Or.inl q
     ·exact Or.inr q)
    have hsX:wr.heap.size<=X.heap.size:=hwX.size
    have hs3:X.heap.size<=w3.heap.size:=hgr.size
    have hg3:gg≠w.heap.size+1+1+1:=by
     rcases hgg with q|q
     ·injection q with q;omega
     ·omega
    have hg4:w.heap.size+2<=gg:=by
     rcases hgg with q|q
     ·injection q with q;omega
     ·omega
    have far:∀ q,q<wr.heap.size->q≠g->∀ o,w3.cell? ⟨q,o,none⟩=wr.cell? ⟨q,o,none⟩:=fun q h2 h3 o=>(hgr.cell_far _ (by show q<X.heap.size;omega) (fun e=>by
     have e2:some q=some g:=e
     injection e2 with e2
     omega)).trans (hwX.cell (by exact h2))
    have farz:∀ q,q<wr.heap.size->q≠g->∀ o,w3.frozen? ⟨q,o,none⟩=wr.frozen? ⟨q,o,none⟩:=fun q h2 h3 o=>(hgr.frozen_far _ (by show q<X.heap.size;omega) (fun e=>by
     have e2:some q=some g:=e
     injection e2 with e2
     omega)).trans (hwX.frozen (by exact h2))
    have hT2:∀ i,i<k+1->w.heap.size+1+1+1<(extT T k t i).lo:=fun i hi=>by
     unfold extT
     by_cases e:i=k
     ·rw [if_pos e];omega
     ·rw [if_neg e];exact hT.out i (by omega)
    refine ⟨⟨?_,⟨u1,?_⟩,?_,?_,?_,by simp [World.setCell];omega,?_⟩,⟨own_kept hVs.own (fun q hq=>Below.heap_setCell _ _ _ _ (by
     have:some gg=some q:=hq
     injection this with this
     show q≠w.heap.size+1+1+1
     omega)),fun i hi=>?_,hVs.low,hVs.ord,hVs.apart⟩,hg3,hg4,hT2⟩
    ·rw [far_block (by omega),far _ (by omega) (by omega)];exact x0
    ·rw [far_block (by omega),far _ (by omega) (by omega)];exact x1
    ·exact set_same ⟨_,(far _ (by omega) (by omega) 0).trans x3⟩
    ·rw [World.frozen?_setCell,farz _ (by omega) (by omega)];exact f1
    ·rw [World.frozen?_setCell,farz _ (by omega) (by omega)];exact f3
    ·refine Below.setCell ?_ (by show w.heap.size<=w.heap.size+1+1+1;omega) _
     exact (hbel.trans (hwX.mono hbel.size)).grown hgr (by omega) (fun q hq=>by
      have:some g=some q:=hq
      injection this with this
      omega)
    ·have q:=hVs.q i hi
     have l:=hT2 i hi
     exact hQ.s q (Or.inl l)
   have HO:Hid (∀ X,Below wr.heap.size wr X->X.ownsRow (w.heap.size+2) 29 10 (.slice (some ⟨g,0,none⟩) k c) k (encV E T k)):=fun X hX=>ownsRow_blw hV.out.own hX
   have HF:Hid (∀ (X w3:World),Below wr.heap.size wr X->X.grownBy w3 (some g)->(∀ o,w3.cell? ⟨w.heap.size,o,none⟩=wr.cell? ⟨w.heap.size,o,none⟩)∧(∀ o,w3.cell? ⟨b,o,none⟩=wr.cell? ⟨b,o,none⟩)∧w3.cell? ⟨w.heap.size+1+1+1,0,none⟩=some (.slice (some ⟨g,0,none⟩) k c)∧w3.frozen? ⟨w.heap.size+1+1+1,0,none⟩=false):=fun X w3 hX hgr=>by
    have hsX:=hX.size
    have far:∀ q,q<wr.heap.size->q≠g->∀ o,w3.cell? ⟨q,o,none⟩=wr.cell? ⟨q,o,none⟩:=fun q h2 h3 o=>(hgr.cell_far _ (by show q<X.heap.size;omega) (fun e=>by
     have e2:some q=some g:=e
     injection e2 with e2
     omega)).trans (hX.cell (by exact h2))
    refine ⟨fun o=>far _ (by omega) (by omega) o,fun o=>far _ hbr (by omega) o,(far _ hz3 (by omega) 0).trans x3,?_⟩
    exact (hgr.frozen_far _ (by show w.heap.size+1+1+1<X.heap.size;omega) (fun e=>by
     have e2:some (w.heap.size+1+1+1)=some g:=e
     injection e2 with e2
     omega)).trans ((hX.frozen (by exact hz3)).trans f3)
   clear hcs hok hCR hT
   have hm1:k+1<=maxLen:=by unfold maxLen;omega
   have hm2:(k+1) * 168<=140737488355328:=by omega
   have hrf:Below wr.heap.size wr wr:=Below.refl _ _
   have hkn:(k:Int)<(n:Int):=by omega
   have hk0:(0:Int)<=(k:Int):=by omega
   clear hV
   generalize E k=e at *
   go_wp2_with fail
   go_region_law ((first
     | (refine step_append_lies _ (by rfl) _ _ _ (by rfl) (w.heap.size+2) 29 i0 _ 10 168 Tryz.underlying23 hi hz0 hz1 hz2 rfl (by decide) (.slice (some ⟨g,0,none⟩) k c) k (encV E T k) (by rfl) (HO.out _ (by first|exact hb1.alloc hb1.size _|exact (hb1.alloc hb1.size _).drew|exact (hb1.drew.alloc hb1.size _)|exact ((hb1.alloc hb1.size _).drew).drew)) ⟨w1.heap.size,0,none⟩ 1 1 (evL e t) (by rfl) (by rfl) (fun j u hj=>evL_cells w1 e t _ j u hj) (evL_one e t) (by decide) hm1 hm2 (by simp;have:=hb1.size;omega) (w1.heap.size+1) (by simp) ?_;intro gg cc w3 hown3 hgrow hat hlt3;obtain ⟨-,-,F3,Z3⟩:=HF.out _ w3 (by first|exact hb1.alloc hb1.size _|exact (hb1.alloc hb1.size _).drew|exact (hb1.drew.alloc hb1.size _)|exact ((hb1.alloc hb1.size _).drew).drew) hgrow)
     | (go_simp;go_at_call 17;refine (Hcp.out _ (by with_reducible first|exact hrf|exact hrf.drew|exact hrf.drew.drew|exact hrf.drew.drew.drew|exact hrf.drew.drew.drew.drew)).mono ?_;rintro x w1 ⟨t,rfl,hq1,ht1,hb1⟩;have q1v:=(hb1.cell (by exact hz3)).trans x3;have qva:∀ Z,(w1.alloc Z).cell? ⟨w.heap.size+1+1+1,0,none⟩=some (.slice (some ⟨g,0,none⟩) k c):=fun Z=>(bA.cell (by show w.heap.size+1+1+1<w1.heap.size;have:=hb1.size;omega)).trans q1v;dsimp only)))
   all_goals
    obtain ⟨z1,z2,z4,z5,z6⟩:=HZ.out w1 _ w3 t gg cc hb1 hq1.out ht1 (by first|exact bA|exact bA.drew) hown3 hgrow (hat.imp (fun q=>q) (fun q=>by simp;omega))
    have Y1:Hid (_):=z1
    have Y2:Hid (_):=z2
    have Y6:Hid (_):=z6
    clear z1 z2 z6 hown3 hgrow
    go_wp2
    go_roundw
    case rel=>exact ⟨k+1,by omega,by go_num,gg,cc,_,Y1,Y2,z4,z5,Y6⟩
    case measure=>simp [intOf];omega
  ·have hkn:k=n:=by omega
   subst hkn
   have hbz:Below w.heap.size w (wr.setCell ⟨w.heap.size+1,0,none⟩ (.slice (some ⟨g,0,none⟩) k c)):=hbel.setCell (by exact Nat.le_add_right _ _) _
   have hVz:Hid (RowV Q (wr.setCell ⟨w.heap.size+1,0,none⟩ (.slice (some ⟨g,0,none⟩) k c)) (w.heap.size+2) (.slice (some ⟨g,0,none⟩) k c) k E T):=by
    refine ⟨own_kept hV.out.own (fun q hq=>Below.heap_setCell _ _ _ _ (by
     have:some g=some q:=hq
     injection this with this
     show q≠w.heap.size+1
     omega)),fun i hi=>?_,hV.out.low,hV.out.ord,hV.out.apart⟩
    have q:=hV.out.q i hi
    have l:=hV.out.low i hi
    exact hQ.s q (Or.inl (by omega))
   clear hV HC HR
   go_wp2
   refine bodyPost_ret (v:=.agg #[.slice (some ⟨g,0,none⟩) k c]) (by simp [results,Tryz.results15,go_sem,x1]) rfl ⟨_,T,rfl,hVz,hbz⟩
theorem RowV.setB {Q:World->Ev->Ls->Prop}(hs:∀ {w:World} {e:Ev} {t:Ls} {C j:Nat} {x:Value},Q w e t->(C<t.lo∨t.hi<=C)->Q (w.setCell ⟨C,j,none⟩ x) e t){w:World}{base n C j:Nat}{v x:Value}{E:Nat->Ev}{T:Nat->Ls}(h:RowV Q w base v n E T)(h1:∀ g,v.ownBlock=some g->g≠C)(h2:∀ i,i<n->C<(T i).lo∨(T i).hi<=C):RowV Q (w.setCell ⟨C,j,none⟩ x) base v n E T :=
 ⟨own_kept h.own (fun g hg=>Below.heap_setCell _ _ _ _ (by exact h1 g hg)),fun i hi=>hs (h.q i hi) (h2 i hi),h.low,h.ord,h.apart⟩
theorem RowV.base_le {Q:World->Ev->Ls->Prop}{w:World}{base base' n:Nat}{v:Value}{E:Nat->Ev}{T:Nat->Ls}(h:RowV Q w base v n E T)(hb:base'<=base):RowV Q w base' v n E T:=by
 refine ⟨?_,h.q,fun i hi=>Nat.le_trans hb (h.low i hi),h.ord,h.apart⟩
 obtain ⟨h1,h2⟩:=h.own
 refine ⟨h1,?_⟩
 rcases h2 with h2|⟨g,cap,cur,hv,hg,r⟩
 ·exact Or.inl h2
 ·exact Or.inr ⟨g,cap,cur,hv,Nat.le_trans hb hg,r⟩
def extE (E:Nat->Ev)(n:Nat)(e:Ev):Nat->Ev:=fun i=>if i=n then e else E i
theorem encV_congE {E E':Nat->Ev}{T:Nat->Ls}:∀ {n},(∀ i,i<n->E i=E' i)->encV E T n=encV E' T n
 | 0,_=>rfl
 | n+1,h=>by rw [<- encV_snoc,<- encV_snoc,encV_congE (fun i hi=>h i (by omega)),h n (by omega)]
theorem RowV.congE {Q:World->Ev->Ls->Prop}{w:World}{base n:Nat}{v:Value}{E E':Nat->Ev}{T:Nat->Ls}(h:RowV Q w base v n E T)(hE:∀ i,i<n->E i=E' i):RowV Q w base v n E' T :=
 ⟨by rw [<- encV_congE hE];exact h.own,fun i hi=>by rw [<- hE i hi];exact h.q i hi,h.low,h.ord,h.apart⟩
def insN (E:Nat->Ev)(n:Nat)(e:Ev):Nat:=if insCode E n e=0 then n+1 else n
def InPost (Q:World->Ev->Ls->Prop)(E:Nat->Ev)(n:Nat)(e:Ev)(w:World)(x:Ending)(w':World):Prop :=
 ∃ v T,x=.returned (.tuple #[.agg #[v],.int .i64 (insCode E n e)])∧Hid (RowV Q w' w.heap.size v (insN E n e) (extE E n e) T)∧Below w.heap.size w w'
set_option maxRecDepth 100000 in
set_option maxHeartbeats 4000000 in
theorem inS_q {Q:World->Ev->Ls->Prop}(hQ:QS Q)(b off n cap:Nat)(E:Nat->Ev)(e:Ev){pa aa ga:Option Addr}{cp ca cg:Nat}(w:World)(hr:n * 168<=140737488351232)(hR:∀ i,i<n->EvReach (E i))(hRe:EvReach e)(h:SlV w (some ⟨b,off,none⟩) n cap E)(hb:0<n->b<w.heap.size)(hc:∀ i,i<n->EvAt w b (off+i * 10) (E i))(he:EvOk w e pa cp aa ca ga cg) :
  Calls Tryz.prog 5 #[.agg #[.slice (some ⟨b,off,none⟩) n cap],.agg #[.string e.id,.string e.sd,.string e.ty,.bool e.st,.string e.key,.int .i64 e.tm,.slice pa e.np cp,.slice aa e.na ca,.string e.val,.slice ga e.ng cg]] w (InPost Q E n e w):=by
 obtain ⟨i0,hi,hz0,hz1,hz2⟩:=info_parts Tryz.infoEvent
 have hmx:=Nat.le_trans h.le h.max
 have hnn:=hmx
 unfold maxLen at hnn
 obtain ⟨wa,hwa⟩:∃ wa,wa=((w.alloc (.cells #[.slice (some ⟨b,off,none⟩) n cap] 25)).alloc (.cells #[.string e.id,.string e.sd,.string e.ty,.bool e.st,.string e.key,.int .i64 e.tm,.slice pa e.np cp,.slice aa e.na ca,.string e.val,.slice ga e.ng cg] 29)).alloc (.cells #[.slice none 0 0] 25):=⟨_,rfl⟩
 have hsa:wa.heap.size=w.heap.size+3:=by rw [hwa];simp
 have hba:Below w.heap.size w wa:=by rw [hwa];exact (bA.alloc (by simp) _).alloc (by simp;omega) _
 have hca:Hid (∀ W,Below wa.heap.size wa W->(W.cell? ⟨w.heap.size,0,none⟩=some (.slice (some ⟨b,off,none⟩) n cap))∧(∀ i,W.cell? ⟨w.heap.size+1,i,none⟩=(#[.string e.id,.string e.sd,.string e.ty,.bool e.st,.string e.key,.int .i64 e.tm,.slice pa e.np cp,.slice aa e.na ca,.string e.val,.slice ga e.ng cg]:Array Value)[i]?)∧W.cell? ⟨w.heap.size+1+1,0,none⟩=some (.slice none 0 0)∧W.frozen? ⟨w.heap.size+1+1,0,none⟩=false):=fun W hW=>by
  refine ⟨(hW.cell (by show w.heap.size<wa.heap.size;omega)).trans ?_,fun i=>(hW.cell (by show w.heap.size+1<wa.heap.size;omega)).trans ?_,(hW.cell (by show w.heap.size+1+1<wa.heap.size;omega)).trans ?_,(hW.frozen (by show w.heap.size+1+1<wa.heap.size;omega)).trans ?_⟩
  ·rw [hwa,World.cell?_alloc_past _ _ _ (by simp;omega),World.cell?_alloc_past _ _ _ (by simp)]
   exact World.cell?_alloc_at _ _ _ _ rfl
  ·rw [hwa,World.cell?_alloc_past _ _ _ (by simp)]
   exact World.cell?_alloc_at _ _ _ _ (by simp)
  ·rw [hwa];exact World.cell?_alloc_at _ _ _ _ (by simp)
  ·rw [hwa];exact World.frozen?_alloc_at _ _ _ _ (by simp)
 have r0:(((w.alloc (.cells #[.slice (some ⟨b,off,none⟩) n cap] 25)).alloc (.cells #[.string e.id,.string e.sd,.string e.ty,.bool e.st,.string e.key,.int .i64 e.tm,.slice pa e.np cp,.slice aa e.na ca,.string e.val,.slice ga e.ng cg] 29)).alloc (.cells #[.slice none 0 0] 25)).cell? ⟨w.heap.size,0,none⟩=some (.slice (some ⟨b,off,none⟩) n cap):=by rw [<- hwa];exact (hca.out _ (Below.refl _ _)).1
 go_enter Tryz.func5,Tryz.ntmps5
 go_wp2_with fail
 rw [<- hwa]
 clear hwa r0
 refine (l2Cr_q hQ b off n cap E wa hr hR (h.below hba) (fun hn=>Nat.lt_of_lt_of_le (hb hn) hba.size) (fun i hi=>(hc i hi).below hba (hb (by omega)))).mono ?_
 rintro x w1 ⟨v0,T,rfl,hV0,hb1⟩
 have hV:Hid (RowV Q w1 wa.heap.size v0 n E T):=hV0.out.base_le (Nat.le_add_right _ 2)
 clear hV0
 obtain ⟨va,vc,rfl,-⟩:=hV.out.slv hQ.c
 obtain ⟨wb,hwb⟩:∃ wb,wb=w1.alloc (.cells #[.slice va n vc] 25):=⟨_,rfl⟩
 have hs1:wa.heap.size<=w1.heap.size:=hb1.size
 have h1b:Below w1.heap.size w1 wb:=by rw [hwb];exact bA
 have hsb:wb.heap.size=w1.heap.size+1:=by rw [hwb];simp
 have hab:Below wa.heap.size wa wb:=hb1.trans (h1b.mono hb1.size)
 have hO:wb.cell? ⟨w1.heap.size,0,none⟩=some (.slice va n vc):=by rw [hwb];exact World.cell?_alloc_at _ _ _ _ rfl
 have hOz:wb.frozen? ⟨w1.heap.size,0,none⟩=false:=by rw [hwb];exact World.frozen?_alloc_at _ _ _ _ rfl
 have z0:(w1.alloc (.cells #[.slice va n vc] 25)).cell? ⟨w.heap.size,0,none⟩=some (.slice (some ⟨b,off,none⟩) n cap):=by rw [<- hwb];exact (hca.out _ hab).1
 have zc:∀ i,(w1.alloc (.cells #[.slice va n vc] 25)).cell? ⟨w.heap.size+1,i,none⟩=(#[.string e.id,.string e.sd,.string e.ty,.bool e.st,.string e.key,.int .i64 e.tm,.slice pa e.np cp,.slice aa e.na ca,.string e.val,.slice ga e.ng cg]:Array Value)[i]?:=fun i=>by rw [<- hwb];exact (hca.out _ hab).2.1 i
 have z1:=zc 0
 have z2:=zc 1
 have z3:=zc 2
 have z4:=zc 3
 have z5:=zc 4
 have z6:=zc 5
 have z7:=zc 6
 have z8:=zc 7
 have z9:=zc 8
 have z10:=zc 9
 have hne0:w.heap.size≠w1.heap.size:=by omega
 have hne1:w.heap.size+1≠w1.heap.size:=by omega
 clear zc
 have hwb0:=hba.trans (hab.mono hba.size)
 have HC:Hid (Calls Tryz.prog 16 #[.agg #[.slice (some ⟨b,off,none⟩) n cap],.agg #[.string e.id,.string e.sd,.string e.ty,.bool e.st,.string e.key,.int .i64 e.tm,.slice pa e.np cp,.slice aa e.na ca,.string e.val,.slice ga e.ng cg]] wb fun x w'=>x=.returned (.int .i64 (insCode E n e))∧Below wb.heap.size wb w'):=l2Code_any e wb (h.below hwb0) (he.below hwb0)
 have hT:Hid (∀ i,i<n->wa.heap.size<=(T i).lo∧(T i).hi<=w1.heap.size):=fun i hi=>⟨hV.out.low i hi,(hQ.c.hi (hV.out.q i hi)).2⟩
 have hvg:Hid (∀ g,(Value.slice va n vc).ownBlock=some g->wa.heap.size<=g∧g<w1.heap.size):=fun g hg=>by
  rcases hV.out.cells with ⟨q,_⟩|⟨g',cap',q,q1,q2,_⟩
  ·rw [q] at hg;cases hg
  ·rw [q] at hg
   have:some g'=some g:=hg
   injection this with this
   omega
 go_wp2_with fail
 rw [<- hwb]
 clear hwb z1 z2 z3 z4 z5 z6 z7 z8 z9 z10 z0
 refine HC.out.mono ?_
 rintro x w2 ⟨rfl,hb2⟩
 have hab2:=hab.trans (hb2.mono hab.size)
 have h12:=h1b.trans (hb2.mono h1b.size)
 have hs2:w1.heap.size+1<=w2.heap.size:=by have:=hb2.size;omega
 have y0:=(hb2.cell (by show w1.heap.size<wb.heap.size;omega)).trans hO
 have yz:=(hb2.frozen (by show w1.heap.size<wb.heap.size;omega)).trans hOz
 obtain ⟨-,cE,cR,cF⟩:=hca.out _ hab2
 have hV2:Hid (RowV Q w2 wa.heap.size (.slice va n vc) n E T):=hV.out.below hQ.c h12
 have hw2:=hba.trans (hab2.mono hba.size)
 have he2:=he.below hw2
 clear HC hV
 by_cases hcode:insCode E n e=0
 case neg =>
  have hcb:(insCode E n e == 0)=false:=by simpa using hcode
  have hN:insN E n e=n:=if_neg hcode
  have hfin:Hid (RowV Q (w2.setCell ⟨w.heap.size+1+1,0,none⟩ (.slice va n vc)) w.heap.size (.slice va n vc) (insN E n e) (extE E n e) T):=by
   rw [hN]
   exact ((hV2.out.setB hQ.s (fun g hg=>by have:=hvg.out g hg;omega) (fun i hi=>Or.inl (by have:=hT.out i hi;omega))).base_le (by omega)).congE (fun i hi=>(if_neg (by omega)).symm)
  have hbz:Below w.heap.size w (w2.setCell ⟨w.heap.size+1+1,0,none⟩ (.slice va n vc)):=hw2.setCell (by exact Nat.le_add_right _ 2) _
  clear hN hcode hT hvg hV2
  have hE0:Hid (InPost Q E n e w (.returned (.tuple #[.agg #[.slice va n vc],.int .i64 (insCode E n e)])) (w2.setCell ⟨w.heap.size+1+1,0,none⟩ (.slice va n vc))):=⟨_,T,rfl,hfin,hbz⟩
  clear hfin hbz
  go_wp2
  refine bodyPost_ret (v:=.tuple #[.agg #[.slice va n vc],.int .i64 (insCode E n e)]) (by simp [results,Tryz.results5,go_sem,cR]) rfl hE0.out
 case pos =>
  have hcb:(insCode E n e == 0)=true:=by simpa using hcode
  have hN:insN E n e=n+1:=if_pos hcode
  have HcF:Hid (∀ W,Below w2.heap.size w2 W->Calls Tryz.prog 17 #[.agg #[.string e.id,.string e.sd,.string e.ty,.bool e.st,.string e.key,.int .i64 e.tm,.slice pa e.np cp,.slice aa e.na ca,.string e.val,.slice ga e.ng cg]] W fun x w'=>∃ t:Ls,x=.returned (.agg #[.string e.id,.string e.sd,.string e.ty,.bool e.st,.string e.key,.int .i64 e.tm,.slice t.pa e.np t.cp,.slice t.aa e.na t.ca,.string e.val,.slice t.ga e.ng t.cg])∧Hid (Q w' e t)∧w2.heap.size<=t.lo∧Below w2.heap.size w2 w'):=fun W hW=>by
   refine (hQ.cp e W hRe (he2.below hW)).mono ?_
   rintro x w' ⟨t,h1,h2,h3,h4⟩
   exact ⟨t,h1,h2,Nat.le_trans hW.size h3,hW.trans (h4.mono hW.size)⟩
  have HO:Hid (∀ X,Below w2.heap.size w2 X->X.ownsRow wa.heap.size 29 10 (.slice va n vc) n (encV E T n)):=fun X hX=>ownsRow_blw hV2.out.own hX
  have HF:Hid (∀ (X w3:World),Below w2.heap.size w2 X->X.grownBy w3 (Value.slice va n vc).ownBlock->w3.cell? ⟨w1.heap.size,0,none⟩=some (.slice va n vc)∧w3.frozen? ⟨w1.heap.size,0,none⟩=false∧w3.cell? ⟨w.heap.size+1+1,0,none⟩=some (.slice none 0 0)∧w3.frozen? ⟨w.heap.size+1+1,0,none⟩=false):=fun X w3 hX hgr=>by
   have hsX:=hX.size
   have n1:some w1.heap.size≠(Value.slice va n vc).ownBlock:=fun q=>by have:=hvg.out _ q.symm;omega
   have n2:some (w.heap.size+1+1)≠(Value.slice va n vc).ownBlock:=fun q=>by have:=hvg.out _ q.symm;omega
   exact ⟨(hgr.cell_far _ (by show w1.heap.size<X.heap.size;omega) n1).trans ((hX.cell (by show w1.heap.size<w2.heap.size;omega)).trans y0),(hgr.frozen_far _ (by show w1.heap.size<X.heap.size;omega) n1).trans ((hX.frozen (by show w1.heap.size<w2.heap.size;omega)).trans yz),(hgr.cell_far _ (by show w.heap.size+1+1<X.heap.size;omega) n2).trans ((hX.cell (by show w.heap.size+1+1<w2.heap.size;omega)).trans cR),(hgr.frozen_far _ (by show w.heap.size+1+1<X.heap.size;omega) n2).trans ((hX.frozen (by show w.heap.size+1+1<w2.heap.size;omega)).trans cF)⟩
  have HZ:Hid (∀ (w3 X w4:World) (t:Ls) (gg cc:Nat),Below w2.heap.size w2 w3->Q w3 e t->w2.heap.size<=t.lo->Below w3.heap.size w3 X->w4.ownsRow wa.heap.size 29 10 (.slice (some ⟨gg,0,none⟩) (n+1) cc) (n+1) (encV E T n ++ evL e t)->X.grownBy w4 (Value.slice va n vc).ownBlock->((Value.slice va n vc).ownBlock=some gg∨X.heap.size<=gg)->InPost Q E n e w (.returned (.tuple #[.agg #[.slice (some ⟨gg,0,none⟩) (n+1) cc],.int .i64 (insCode E n e)])) ((w4.setCell ⟨w1.heap.size,0,none⟩ (.slice (some ⟨gg,0,none⟩) (n+1) cc)).setCell ⟨w.heap.size+1+1,0,none⟩ (.slice (some ⟨gg,0,none⟩) (n+1) cc))):=fun w3 X w4 t gg cc h1 hq hlo hX hown hgr hgg=>by
   have hwX:=h1.trans (hX.mono h1.size)
   have hEx:∀ i,i<n->E i=extE E n e i:=fun i hi=>(if_neg (by omega)).symm
   have hEn:extE E n e n=e:=if_pos rfl
   have hVX:=(hV2.out.below hQ.c hwX).congE hEx
   have hqX:Q X (extE E n e n) t:=by rw [hEn];exact hQ.c.below hq hX
   have hsX:w2.heap.size<=X.heap.size:=hwX.size
   have hVs:=hVX.snoc hQ.c hqX (by omega) (fun i hi=>by have:=hT.out i hi;omega) (fun q hq=>Or.inl (by have:=hvg.out q hq;omega)) (by rw [hEn,<- encV_congE hEx];exact hown) hgr hgg
   have hgg2:w1.heap.size≠gg∧w.heap.size+1+1≠gg:=by
    rcases hgg with q|q
    ·have:=hvg.out gg q;omega
    ·omega
   have hT2:∀ i,i<n+1->(w1.heap.size<(extT T n t i).lo∨(extT T n t i).hi<=w1.heap.size)∧w.heap.size+1+1<(extT T n t i).lo:=fun i hi=>by
    unfold extT
    by_cases q:i=n
    ·rw [if_pos q];exact ⟨Or.inl (by omega),by omega⟩
    ·rw [if_neg q];have:=hT.out i (by omega);exact ⟨Or.inr this.2,by omega⟩
   have hs4:=hgr.size
   refine ⟨_,extT T n t,rfl,?_,?_⟩
   ·unfold Hid
    rw [hN]
    exact (((hVs.setB hQ.s (fun q hq=>by
     have:some gg=some q:=hq
     injection this with this
     omega) (fun i hi=>(hT2 i hi).1)).setB hQ.s (fun q hq=>by
     have:some gg=some q:=hq
     injection this with this
     omega) (fun i hi=>Or.inl (hT2 i hi).2)).base_le (by omega))
   ·refine Below.setCell (Below.setCell ?_ (by show w.heap.size<=w1.heap.size;omega) _) (by exact Nat.le_add_right _ 2) _
    exact (hw2.trans (hwX.mono hw2.size)).grown hgr (by have:=hw2.size;omega) (fun q hq=>by have:=hvg.out q hq;omega)
  clear hN hcode hT hvg hV2 he2
  have hm1:n+1<=maxLen:=by unfold maxLen;omega
  have hm2:(n+1) * 168<=140737488355328:=by omega
  have hrf:Below w2.heap.size w2 w2:=Below.refl _ _
  have hwz:w1.heap.size<w2.heap.size:=by omega
  go_wp2_with fail
  go_region_law ((first
   | (refine step_append_lies _ (by rfl) _ _ _ (by rfl) wa.heap.size 29 i0 _ 10 168 Tryz.underlying23 hi hz0 hz1 hz2 rfl (by decide) (.slice va n vc) n (encV E T n) (by rfl) (HO.out _ (by first|exact hb3.alloc hb3.size _|exact (hb3.alloc hb3.size _).drew|exact (hb3.drew.alloc hb3.size _))) ⟨w3.heap.size,0,none⟩ 1 1 (evL e t) (by rfl) (by rfl) (fun j u hj=>evL_cells w3 e t _ j u hj) (evL_one e t) (by decide) hm1 hm2 (by simp;have:=hb3.size;omega) (w3.heap.size+1) (by simp) ?_;intro gg cc w4 hown4 hgrow hat hlt4;obtain ⟨F0,F1,F2,F3⟩:=HF.out _ w4 (by first|exact hb3.alloc hb3.size _|exact (hb3.alloc hb3.size _).drew|exact (hb3.drew.alloc hb3.size _)) hgrow)
   | (go_simp;go_at_call 17;refine (HcF.out _ (by with_reducible first|exact hrf|exact hrf.drew|exact hrf.drew.drew|exact hrf.drew.drew.drew|exact hrf.drew.drew.drew.drew)).mono ?_;rintro x w3 ⟨t,rfl,hq3,ht3,hb3⟩;have q1v:=(hb3.cell (by exact hwz)).trans y0;have qva:∀ Z,(w3.alloc Z).cell? ⟨w1.heap.size,0,none⟩=some (.slice va n vc):=fun Z=>(bA.cell (by show w1.heap.size<w3.heap.size;have:=hb3.size;omega)).trans q1v;dsimp only)))
  all_goals
   have hz:=HZ.out w3 _ w4 t gg cc hb3 hq3.out ht3 (by first|exact bA|exact bA.drew) hown4 hgrow (hat.imp (fun q=>q) (fun q=>by simp;omega))
   have Hz:Hid (_):=hz
   clear hz hown4 hgrow
   go_wp2
   refine bodyPost_ret (v:=.tuple #[.agg #[.slice (some ⟨gg,0,none⟩) (n+1) cc],.int .i64 (insCode E n e)]) (by simp [results,Tryz.results5,go_sem,F2]) rfl Hz.out
theorem inS_any (b off n cap:Nat)(E:Nat->Ev)(e:Ev){pa aa ga:Option Addr}{cp ca cg:Nat}(w:World)(hr:n * 168<=140737488351232)(hR:∀ i,i<n->EvReach (E i))(hRe:EvReach e)(h:SlV w (some ⟨b,off,none⟩) n cap E)(hb:0<n->b<w.heap.size)(hc:∀ i,i<n->EvAt w b (off+i * 10) (E i))(he:EvOk w e pa cp aa ca ga cg) :
  Calls Tryz.prog 5 #[.agg #[.slice (some ⟨b,off,none⟩) n cap],.agg #[.string e.id,.string e.sd,.string e.ty,.bool e.st,.string e.key,.int .i64 e.tm,.slice pa e.np cp,.slice aa e.na ca,.string e.val,.slice ga e.ng cg]] w (InPost QJ E n e w):=inS_q qsJJ b off n cap E e w hr hR hRe h hb hc he
end Go.Proofs.YtnbdlaglnefcbaaGreat
