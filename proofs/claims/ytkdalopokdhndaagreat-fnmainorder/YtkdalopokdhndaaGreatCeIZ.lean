import Derived.Test.YtkdalopokdhndaaGreatAfSZ
set_option maxHeartbeats 16000000
set_option maxRecDepth 100000
namespace Go.Proofs.YtkdalopokdhndaaGreat
open Go.RowKit
variable {w wx:World}{B j n cap base:Nat}{a:Option Addr}{S:Nat->ByteArray}
def Iv (a:Option Addr)(n lo hi:Nat):Prop:=n=0∨∃ b off,a=some ⟨b,off,none⟩∧lo<=b∧b<hi
theorem SlW.iv {sz:Nat}(h:SlW w base a n sz):Iv a n base w.heap.size :=
 h.imp id fun ⟨b,off,e,h1,h2,_⟩=>⟨b,off,e,h1,h2⟩
theorem Iv.wide {lo hi lo' hi':Nat}(h:Iv a n lo hi)(h1:lo'<=lo)(h2:hi<=hi'):Iv a n lo' hi' :=
 h.imp id fun ⟨b,off,e,q1,q2⟩=>⟨b,off,e,by omega,by omega⟩
theorem SlS.setF {C lo hi:Nat}(h:SlS w a n cap S)(hv:Iv a n lo hi)(hC:C<lo∨hi<=C)(x:Value):SlS (w.setCell ⟨C,j,none⟩ x) a n cap S:=by
 refine ⟨h.le,h.max,h.size,?_⟩;rcases hv with h0|⟨b,off,rfl,h1,h2⟩
 ·exact Or.inl h0
 refine h.cells.imp id fun ⟨b',off',e,hlt,hc⟩=>⟨b',off',e,by simpa [World.setCell] using hlt,fun i hi=>?_⟩
 have e2:b=b':=by injection e with e;injection e
 rw [far_block (by omega)];exact hc i hi
structure CE (w:World)(B:Nat)(c0:Array Value)(wx:World):Prop where
 a0:∀ o,wx.cell? ⟨B,o,none⟩=c0[o]?
 a1:∀ o,o<10->∃ v,wx.cell? ⟨B+1,o,none⟩=some v
 f0:∀ o,wx.frozen? ⟨B,o,none⟩=false
 f1:∀ o,wx.frozen? ⟨B+1,o,none⟩=false
 size:B+1<wx.heap.size
 hB:B=w.heap.size
 below:Below w.heap.size w wx
theorem CE.mono {wy:World}{c0:Array Value}(h:CE w B c0 wx)(hb:Below wx.heap.size wx wy):CE w B c0 wy :=
 have hs:=h.size
 ⟨fun o=>(hb.cell (by show B<_;omega)).trans (h.a0 o),fun o ho=>(h.a1 o ho).imp fun _ hv=>(hb.cell (by exact hs)).trans hv,
  fun o=>(hb.frozen (by show B<_;omega)).trans (h.f0 o),fun o=>(hb.frozen (by exact hs)).trans (h.f1 o),nT hs hb.size,h.hB,h.below.trans (hb.mono h.below.size)⟩
theorem CE.set {c0:Array Value}(h:CE w B c0 wx)(j:Nat)(hj:j<c0.size)(x:Value):CE w B (c0.setIfInBounds j x) (wx.setCell ⟨B,j,none⟩ x):=by
 refine ⟨fun o=>?_,fun o ho=>by rw [far_block (by omega)];exact h.a1 o ho,fun o=>by rw [World.frozen?_setCell];exact h.f0 o,fun o=>by rw [World.frozen?_setCell];exact h.f1 o,by simpa [World.setCell] using h.size,h.hB,h.below.setCell (by have:=h.hB;show _<=B;omega) _⟩
 by_cases e:o=j
 ·subst e
  rw [set_same ⟨c0[o],by rw [h.a0];exact Array.getElem?_eq_getElem hj⟩];simp [hj]
 rw [set_far e,h.a0,Array.getElem?_setIfInBounds_ne (by omega)]
theorem CE.start {c0 c1:Array Value}{t0 t1:TypeId}(h:c1.size=10):CE w w.heap.size c0 ((w.alloc (.cells c0 t0)).alloc (.cells c1 t1)):=by
 refine ⟨fun o=>?_,fun o ho=>⟨c1[o],?_⟩,fun o=>?_,fun o=>kF (by simp),by simp,rfl,bA.alloc (by simp) _⟩
 ·rw [World.cell?_alloc_past _ _ _ (by simp),kA rfl]
 ·rw [kA (by simp)]
  exact Array.getElem?_eq_getElem (by omega)
 rw [World.frozen?_alloc_past _ _ _ (by simp)];exact kF rfl
def blk (a:Option Addr):Option Nat:=a.map (·.block)
theorem grown_refl (w:World)(row:Option Nat):w.grownBy w row:=⟨rfl,rfl,rfl,nL,fun _ _ _=>rfl⟩
variable {w':World}{M:Nat->ByteArray}{row:Option Nat}
structure Ls where
 pa:Option Addr
 cp:Nat
 aa:Option Addr
 ca:Nat
 ga:Option Addr
 cg:Nat
 lo:Nat
 m1:Nat
 m2:Nat
 hi:Nat
theorem SlS.grownI {lo hi:Nat}(h:SlS w a n cap S)(hg:w.grownBy w' row)(hv:Iv a n lo hi)(hr:∀ b,row=some b->b<lo∨hi<=b):SlS w' a n cap S:=by
 refine ⟨h.le,h.max,h.size,?_⟩;rcases hv with h0|⟨b,off,rfl,h1,h2⟩
 ·exact Or.inl h0
 refine h.cells.imp id fun ⟨b',off',e,hlt,hc⟩=>⟨b',off',e,nT hlt hg.size,fun i hi=>?_⟩
 have e2:b=b':=by injection e with e;injection e
 exact (hg.cell_far _ hlt (fun e3=>by have:=hr b' e3.symm;omega)).trans (hc i hi)
theorem SlG.grownI {lo hi:Nat}{L:Nat->Int}(h:SlG w a n cap M L)(hg:w.grownBy w' row)(hv:Iv a n lo hi)(hr:∀ b,row=some b->b<lo∨hi<=b):SlG w' a n cap M L:=by
 refine ⟨h.le,h.max,h.size,?_⟩;rcases hv with h0|⟨b,off,rfl,h1,h2⟩
 ·exact Or.inl h0
 refine h.cells.imp id fun ⟨b',off',e,hlt,hc,hl⟩=>⟨b',off',e,nT hlt hg.size,fun i hi=>?_,fun i hi=>?_⟩
 all_goals
  have e2:b=b':=by injection e with e;injection e
 ·exact (hg.cell_far _ hlt (fun e3=>by have:=hr b' e3.symm;omega)).trans (hc i hi)
 exact (hg.cell_far _ hlt (fun e3=>by have:=hr b' e3.symm;omega)).trans (hl i hi)
variable {Q:World->Ev->Ls->Prop}{g:Nat}{v:Value}{E:Nat->Ev}{T:Nat->Ls}{t:Ls}
def evL (e:Ev)(t:Ls):List Value:=[.string e.id,.string e.sd,.string e.ty,.bool e.st,.string e.key,.int .i64 e.tm,.slice t.pa e.np t.cp,.slice t.aa e.na t.ca,.string e.val,.slice t.ga e.ng t.cg]
def encV (E:Nat->Ev)(T:Nat->Ls)(n:Nat):List Value:=(List.range n).flatMap fun i=>evL (E i) (T i)
theorem encV_snoc (E:Nat->Ev)(T:Nat->Ls)(n:Nat):encV E T n ++ evL (E n) (T n)=encV E T (n+1):=by simp [encV,List.range_succ]
theorem encV_len (E:Nat->Ev)(T:Nat->Ls)(n:Nat):(encV E T n).length=n * 10:=by
 induction n with
 | zero=>rfl
 | succ n ih=>rw [<- encV_snoc,List.length_append,ih];simp [evL];omega
theorem encV_get (E:Nat->Ev)(T:Nat->Ls):∀ n i r,i<n->r<10->(encV E T n)[i * 10+r]?=(evL (E i) (T i))[r]?
 | 0,_,_,h,_=>absurd h (Nat.not_lt_zero _)
 | n+1,i,r,h,hr=>by
  rw [<- encV_snoc]
  by_cases e:i=n
  ·subst e
   rw [List.getElem?_append_right (by rw [encV_len];omega),encV_len]
   congr 1
   omega
  rw [List.getElem?_append_left (by rw [encV_len];omega)];exact encV_get E T n i r (by omega) hr
theorem encV_congr {E:Nat->Ev}{T T':Nat->Ls}:∀ {n},(∀ i,i<n->T i=T' i)->encV E T n=encV E T' n
 | 0,_=>rfl
 | n+1,h=>by rw [<- encV_snoc,<- encV_snoc,encV_congr (fun i hi=>h i (by omega)),h n (by omega)]
theorem evL_one (e:Ev)(t:Ls)(u:Value)(h:u ∈ evL e t):u.oneCell'=true:=by
 unfold evL at h;simp only [List.mem_cons,List.not_mem_nil,or_false] at h;rcases h with rfl|rfl|rfl|rfl|rfl|rfl|rfl|rfl|rfl|rfl <;> rfl
theorem evL_cells (W:World)(e:Ev)(t:Ls)(ty:TypeId)(j:Nat)(u:Value)(h:(evL e t)[j]?=some u):(W.alloc (.cells (ec e t.pa t.cp t.aa t.ca t.ga t.cg) ty)).cell? ((⟨W.heap.size,0,none⟩:Addr).add j)=some u:=by
 rw [Addr.add_lit,Nat.zero_add,kA rfl];rw [<- h];unfold evL;rw [List.getElem?_toArray]
structure QC (Q:World->Ev->Ls->Prop):Prop where
 below:∀ {w w':World} {e:Ev} {t:Ls},Q w e t->Below w.heap.size w w'->Q w' e t
 grown:∀ {w w':World} {e:Ev} {t:Ls} {row:Option Nat},Q w e t->w.grownBy w' row->(∀ b,row=some b->b<t.lo∨t.hi<=b)->Q w' e t
 ok:∀ {w:World} {e:Ev} {t:Ls},Q w e t->EvOk w e t.pa t.cp t.aa t.ca t.ga t.cg
 hi:∀ {w:World} {e:Ev} {t:Ls},Q w e t->t.lo<=t.hi∧t.hi<=w.heap.size
structure QJ (w:World)(e:Ev)(t:Ls):Prop where
 ok:EvOk w e t.pa t.cp t.aa t.ca t.ga t.cg
 ip:Iv t.pa e.np t.lo t.hi
 ia:Iv t.aa e.na t.lo t.hi
 ig:Iv t.ga e.ng t.lo t.hi
 hh:t.lo<=t.hi∧t.hi<=w.heap.size
theorem qcJ:QC QJ:=⟨fun h hb=>⟨h.ok.below hb,h.ip,h.ia,h.ig,h.hh.1,nZ h.hh.2 hb.size⟩,
 fun h hg hr=>⟨⟨h.ok.hid,h.ok.hsd,h.ok.hty,h.ok.hkey,h.ok.hval,h.ok.hp.grownI hg h.ip hr,h.ok.ha.grownI hg h.ia hr,h.ok.hg.grownI hg h.ig hr⟩,h.ip,h.ia,h.ig,h.hh.1,nZ h.hh.2 hg.size⟩,fun h=>h.ok,fun h=>h.hh⟩
structure RowV (Q:World->Ev->Ls->Prop)(w:World)(base:Nat)(v:Value)(n:Nat)(E:Nat->Ev)(T:Nat->Ls):Prop where
 own:w.ownsRow base 30 10 v n (encV E T n)
 q:∀ i,i<n->Q w (E i) (T i)
 low:∀ i,i<n->base<=(T i).lo
 ord:∀ i j,i<j->j<n->(T i).hi<=(T j).lo
 apart:∀ g,v.ownBlock=some g->∀ i,i<n->g<(T i).lo∨(T i).hi<=g
theorem RowV.below (c:QC Q)(h:RowV Q w base v n E T)(hb:Below w.heap.size w w'):RowV Q w' base v n E T :=
 ⟨ownsRow_blw h.own hb,fun i hi=>c.below (h.q i hi) hb,h.low,h.ord,h.apart⟩
theorem RowV.new (w:World)(base:Nat)(hb:base<=w.heap.size)(E:Nat->Ev)(T:Nat->Ls):RowV Q (w.alloc (.cells #[] 30)) base (.slice (some ⟨w.heap.size,0,none⟩) 0 0) 0 E T :=
 ⟨⟨rfl,Or.inr ⟨w.heap.size,0,#[],rfl,hb,by show (w.heap.push _)[w.heap.size]?=_;simp,nL,by decide,rfl,rfl⟩⟩,fun i hi=>absurd hi (Nat.not_lt_zero _),fun i hi=>absurd hi (Nat.not_lt_zero _),fun i j _ hj=>absurd hj (Nat.not_lt_zero _),fun g _ i hi=>absurd hi (Nat.not_lt_zero _)⟩
def extT (T:Nat->Ls)(n:Nat)(t:Ls):Nat->Ls:=fun i=>if i=n then t else T i
theorem RowV.snoc (c:QC Q)(h:RowV Q w base v n E T)(ht:Q w (E n) t)(h1:base<=t.lo)(h2:∀ i,i<n->(T i).hi<=t.lo)(h3:∀ g,v.ownBlock=some g->g<t.lo∨t.hi<=g)
  (hown:w'.ownsRow base 30 10 (.slice (some ⟨g,0,none⟩) (n+1) cap) (n+1) (encV E T n ++ evL (E n) t)) (hgr:w.grownBy w' v.ownBlock) (hg:v.ownBlock=some g∨w.heap.size<=g):RowV Q w' base (.slice (some ⟨g,0,none⟩) (n+1) cap) (n+1) E (extT T n t):=by
 have e1:extT T n t n=t:=if_pos rfl;have e2:∀ i,i<n->extT T n t i=T i:=fun i hi=>if_neg (by omega)
 have e3:encV E T n=encV E (extT T n t) n:=encV_congr fun i hi=>(e2 i hi).symm
 have hrow:∀ i,i<n->∀ b,v.ownBlock=some b->b<(T i).lo∨(T i).hi<=b:=fun i hi b hb=>h.apart b hb i hi
 have hgi:∀ i,i<n->g<(T i).lo∨(T i).hi<=g:=fun i hi=>by
  rcases hg with q|q
  ·exact h.apart g q i hi
  exact Or.inr (nZ (c.hi (h.q i hi)).2 q)
 have hgt:g<t.lo∨t.hi<=g:=by
  rcases hg with q|q
  ·exact h3 g q
  exact Or.inr (nZ (c.hi ht).2 q)
 refine ⟨?_,fun i hi=>?_,fun i hi=>?_,fun i j hij hj=>?_,fun g' hg' i hi=>?_⟩
 ·rw [<- encV_snoc,e1,<- e3];exact hown
 ·by_cases e:i=n
  ·subst e;rw [e1];exact c.grown ht hgr h3
  rw [e2 i (by omega)];exact c.grown (h.q i (by omega)) hgr (hrow i (by omega))
 ·by_cases e:i=n
  ·subst e;rw [e1];exact h1
  rw [e2 i (by omega)];exact h.low i (by omega)
 ·by_cases e:j=n
  ·subst e;rw [e1,e2 i hij];exact h2 i hij
  rw [e2 i (by omega),e2 j (by omega)];exact h.ord i j hij (by omega)
 have hgg:g=g':=by
  have:some g=some g':=hg';injection this
 subst hgg
 by_cases e:i=n
 ·subst e;rw [e1];exact hgt
 rw [e2 i (by omega)];exact hgi i (by omega)
theorem RowV.cells (h:RowV Q w base v n E T) :
  (v=.slice none 0 0∧n=0)∨∃ g cap,v=.slice (some ⟨g,0,none⟩) n cap∧base<=g∧g<w.heap.size∧n<=cap∧cap<=maxLen∧(∀ i,i<n->EvCells w g (i * 10) (E i) (T i).pa (T i).cp (T i).aa (T i).ca (T i).ga (T i).cg)∧∀ o,w.frozen? ⟨g,o,none⟩=false:=by
 rcases row_cells h.own with h0|⟨g,cap,hv,hg,hlt,hn,hc,hx,hf⟩
 ·exact Or.inl h0
 refine Or.inr ⟨g,cap,hv,hg,hlt,hn,hc,fun i hi=>?_,hf⟩
 have hr:∀ r,r<10->w.cell? ⟨g,i * 10+r,none⟩=(evL (E i) (T i))[r]?:=fun r hr=>by
  have:=hx (i * 10+r) (by omega);rw [Nat.zero_add] at this;rw [this];exact encV_get E T n i r hi hr
 exact ⟨hr 0 (by decide),hr 1 (by decide),hr 2 (by decide),hr 3 (by decide),hr 4 (by decide),hr 5 (by decide),hr 6 (by decide),hr 7 (by decide),hr 8 (by decide),hr 9 (by decide)⟩
theorem RowV.slv (c:QC Q)(h:RowV Q w base v n E T):∃ a cap,v=.slice a n cap∧SlV w a n cap E:=by
 rcases h.cells with ⟨rfl,rfl⟩|⟨g,cap,rfl,hg,hlt,hn,hc,hx,hf⟩
 ·exact ⟨none,0,rfl,⟨nL,by decide,Or.inl rfl⟩⟩
 exact ⟨_,cap,rfl,⟨hn,hc,Or.inr ⟨g,0,rfl,hlt,fun i hi=>by rw [Nat.zero_add];exact ⟨_,_,_,_,_,_,hx i hi,c.ok (h.q i hi)⟩⟩⟩⟩
variable {xs:List Value}
theorem own_kept {e size:Nat}(h:w.ownsRow base e size v n xs)(hk:∀ g,v.ownBlock=some g->w'.heap[g]?=w.heap[g]?):w'.ownsRow base e size v n xs:=by
 obtain ⟨h1,h2⟩:=h;refine ⟨h1,?_⟩;rcases h2 with h2|⟨g,cap,cur,rfl,hg,hh,r⟩
 ·exact Or.inl h2
 exact Or.inr ⟨g,cap,cur,rfl,hg,(hk g rfl).trans hh,r⟩
def Bk (a:Option Addr)(n g s:Nat):Prop:=n=0∨∃ b off,a=some ⟨b,off,none⟩∧(b=g∨b=s)
theorem Bk.of {c s lo hi:Nat}(hv:Iv a n lo hi)(h:(Value.slice a n c).ownBlock=some g∨(Value.slice a n c).ownBlock=some s):Bk a n g s:=by
 rcases hv with h0|⟨b,off,rfl,_,_⟩
 ·exact Or.inl h0
 refine Or.inr ⟨b,off,rfl,?_⟩;rcases h with h|h
 ·have:some b=some g:=h
  injection this with this
  exact Or.inl this
 have:some b=some s:=h;injection this with this
 exact Or.inr this
theorem SlS.grownN {s r:Nat}(h:SlS w a n cap S)(hg:w.grownBy w' (some r))(hv:Bk a n g s)(h1:r≠g)(h2:r≠s):SlS w' a n cap S:=by
 refine ⟨h.le,h.max,h.size,?_⟩;rcases hv with h0|⟨b,off,rfl,hb⟩
 ·exact Or.inl h0
 refine h.cells.imp id fun ⟨b',off',e,hlt,hc⟩=>⟨b',off',e,nT hlt hg.size,fun i hi=>?_⟩
 have e2:b=b':=by injection e with e;injection e
 exact (hg.cell_far _ hlt (fun e3=>by
  have e4:some b'=some r:=e3;injection e4 with e4
  omega)).trans (hc i hi)
theorem CE.grown {wy:World}{c0:Array Value}(h:CE w B c0 wx)(hg:wx.grownBy wy (some g))(h1:B+1<g):CE w B c0 wy:=by
 have hs:=h.size;have n0:some B≠some g:=fun e=>by injection e;omega
 have n1:some (B+1)≠some g:=fun e=>by injection e;omega
 exact ⟨fun o=>(hg.cell_far _ (by show B<_;omega) n0).trans (h.a0 o),fun o ho=>(h.a1 o ho).imp fun _ hv=>(hg.cell_far _ (by exact hs) n1).trans hv,
  fun o=>(hg.frozen_far _ (by show B<_;omega) n0).trans (h.f0 o),fun o=>(hg.frozen_far _ (by exact hs) n1).trans (h.f1 o),nT hs hg.size,h.hB,h.below.grown hg h.below.size (fun k hk=>by injection hk with hk;have:=h.hB;omega)⟩
def CpQ (Q:World->Ev->Ls->Prop)(w:World)(e:Ev)(x:Ending)(w':World):Prop:=∃ t:Ls,x=.returned (.agg (ec e t.pa t.cp t.aa t.ca t.ga t.cg))∧Q w' e t∧w.heap.size<=t.lo∧Below w.heap.size w w'
structure QS (Q:World->Ev->Ls->Prop):Prop where
 c:QC Q
 s:∀ {w:World} {e:Ev} {t:Ls} {C j:Nat} {x:Value},Q w e t->(C<t.lo∨t.hi<=C)->Q (w.setCell ⟨C,j,none⟩ x) e t
 cp:∀ (e:Ev) {pa aa ga:Option Addr} {cp ca cg:Nat} (w:World),EvReach e->EvOk w e pa cp aa ca ga cg->Calls Tryz.prog 187 #[.agg (ec e pa cp aa ca ga cg)] w (CpQ Q w e)
structure CR (w wr:World)(a:Option Addr)(n cap:Nat)(v:Value):Prop where
 x0:wr.cell? ⟨w.heap.size,0,none⟩=some (.slice a n cap)
 x1:∃ u,wr.cell? ⟨w.heap.size+1,0,none⟩=some u
 x3:wr.cell? ⟨w.heap.size+1+1+1,0,none⟩=some v
 f1:wr.frozen? ⟨w.heap.size+1,0,none⟩=false
 f3:wr.frozen? ⟨w.heap.size+1+1+1,0,none⟩=false
 sz:w.heap.size+1+1+1<wr.heap.size
 bel:Below w.heap.size w wr
theorem l2Cr_q (hQ:QS Q)(b off n cap:Nat)(E:Nat->Ev)(w:World)(hr:n * 168<=140737488351232)(hR:∀ i,i<n->EvReach (E i))(h:SlV w (some ⟨b,off,none⟩) n cap E)(hb0:0<n->b<w.heap.size)(hc:∀ i,i<n->EvAt w b (off+i * 10) (E i)) :
  Calls Tryz.prog 186 #[.agg #[.slice (some ⟨b,off,none⟩) n cap]] w fun x w'=>∃ v T,x=.returned (.agg #[v])∧Hid (RowV Q w' (w.heap.size+2) v n E T)∧Below w.heap.size w w':=by
 obtain ⟨i0,hi,hz0,hz1,hz2⟩:=info_parts Tryz.infoEvent;have hmx:=nZ h.le h.max;have hnn:=hmx;unfold maxLen at hnn;obtain ⟨wa,hwa⟩:∃ wa,wa=(((w.alloc (.cells #[.slice (some ⟨b,off,none⟩) n cap] 25)).alloc (.cells #[.slice none 0 0] 25)).alloc (.cells #[] 30)).alloc (.cells #[.slice (some ⟨w.heap.size+1+1,0,none⟩) 0 0] 25):=⟨_,rfl⟩
 have hC0:CR w wa (some ⟨b,off,none⟩) n cap (.slice (some ⟨w.heap.size+1+1,0,none⟩) 0 0):=by
  rw [hwa];refine ⟨?_,⟨.slice none 0 0,?_⟩,kA (by simp),?_,kF (by simp),by simp,((bA.alloc (by simp) _).alloc (by simp;omega) _).alloc (by simp;omega) _⟩
  ·rw [World.cell?_alloc_past _ _ _ (by simp;omega),World.cell?_alloc_past _ _ _ (by simp;omega),World.cell?_alloc_past _ _ _ (by simp)]
   exact kA rfl
  ·rw [World.cell?_alloc_past _ _ _ (by simp),World.cell?_alloc_past _ _ _ (by simp)]
   exact kA (by simp)
  rw [World.frozen?_alloc_past _ _ _ (by simp),World.frozen?_alloc_past _ _ _ (by simp)];exact kF (by simp)
 have hV0:RowV Q wa (w.heap.size+2) (.slice (some ⟨w.heap.size+1+1,0,none⟩) 0 0) 0 E (fun _=>⟨none,0,none,0,none,0,0,0,0,0⟩):=by
  have:=RowV.new (Q:=Q) ((w.alloc (.cells #[.slice (some ⟨b,off,none⟩) n cap] 25)).alloc (.cells #[.slice none 0 0] 25)) (w.heap.size+2) (by simp) E (fun _=>⟨none,0,none,0,none,0,0,0,0,0⟩);simp only [World.size_alloc] at this;rw [hwa];exact this.below hQ.c bA
 have HC:Hid (_):=hc;have HR:Hid (_):=hR;clear hc hR h
 go_enter Tryz.func186,Tryz.ntmps186
 go_wp2_with fail
 rw [<- hwa];clear hwa
 go_loopw [4] (fun iv wr=>∃ k:Nat,k<=n∧iv=.int .i64 (k:Int)∧∃ g c T,Hid (CR w wr (some ⟨b,off,none⟩) n cap (.slice (some ⟨g,0,none⟩) k c))∧Hid (RowV Q wr (w.heap.size+2) (.slice (some ⟨g,0,none⟩) k c) k E T)∧g≠w.heap.size+1+1+1∧w.heap.size+2<=g∧Hid (∀ i,i<k->w.heap.size+1+1+1<(T i).lo)) (fun iv _=>n - (intOf iv).toNat)
 case atStart=>exact ⟨0,nz,rfl,w.heap.size+1+1,0,_,hC0,hV0,by omega,by omega,fun i hi=>absurd hi (Nat.not_lt_zero _)⟩
 case round =>
  clear hC0 hV0;obtain ⟨k,hk,rfl,g,c,T,hCR,hV,hg1,hg2,hT⟩:=hrel;obtain ⟨x0,⟨u1,x1⟩,x3,f1,f3,hz3,hbel⟩:=hCR.out
  by_cases hlt:k<n
  ·have hb:b<w.heap.size:=hb0 (by omega)
   obtain ⟨pa,cp,aa,ca,ga,cg,hcs,hok⟩:=HC.out k hlt;obtain ⟨c0,c1,c2,c3,c4,c5,c6,c7,c8,c9⟩:=hcs.below hbel hb;have hbr:b<wr.heap.size:=nT hb hbel.size;have hzr:w.heap.size<wr.heap.size:=by omega
   have hne:b≠w.heap.size+1+1+1:=by omega
   have hbg:b≠g:=by omega
   have Hcp:Hid (∀ W,Below wr.heap.size wr W->Calls Tryz.prog 187 #[.agg (ec (E k) pa cp aa ca ga cg)] W fun x w'=>∃ t:Ls,x=.returned (.agg (ec (E k) t.pa t.cp t.aa t.ca t.ga t.cg))∧Hid (Q w' (E k) t)∧wr.heap.size<=t.lo∧Below wr.heap.size wr w'):=fun W hW=>by
    refine (hQ.cp (E k) W (HR.out k hlt) (hok.below (hbel.trans (hW.mono hbel.size)))).mono ?_;rintro x w' ⟨t,h1,h2,h3,h4⟩;exact ⟨t,h1,h2,nZ hW.size h3,hW.trans (h4.mono hW.size)⟩
   have HZ:Hid (∀ (w1 X w3:World) (t:Ls) (gg cc:Nat),Below wr.heap.size wr w1->Q w1 (E k) t->wr.heap.size<=t.lo->Below w1.heap.size w1 X->w3.ownsRow (w.heap.size+2) 30 10 (.slice (some ⟨gg,0,none⟩) (k+1) cc) (k+1) (encV E T k ++ evL (E k) t)->X.grownBy w3 (some g)->(some g=some gg∨X.heap.size<=gg)->CR w (w3.setCell ⟨w.heap.size+1+1+1,0,none⟩ (.slice (some ⟨gg,0,none⟩) (k+1) cc)) (some ⟨b,off,none⟩) n cap (.slice (some ⟨gg,0,none⟩) (k+1) cc)∧RowV Q (w3.setCell ⟨w.heap.size+1+1+1,0,none⟩ (.slice (some ⟨gg,0,none⟩) (k+1) cc)) (w.heap.size+2) (.slice (some ⟨gg,0,none⟩) (k+1) cc) (k+1) E (extT T k t)∧gg≠w.heap.size+1+1+1∧w.heap.size+2<=gg∧(∀ i,i<k+1->w.heap.size+1+1+1<(extT T k t i).lo)):=fun w1 X w3 t gg cc h1 hq hlo hX hown hgr hgg=>by
    have hwX:=h1.trans (hX.mono h1.size);have hqX:=hQ.c.below hq hX;have hVX:=hV.out.below hQ.c hwX
    have hgsz:g<wr.heap.size:=by
     rcases hV.out.cells with ⟨q,_⟩|⟨g',cap',q,_,q2,_⟩
     ·injection q with q;cases q
     injection q with q
     injection q with q
     injection q with q
     omega
    have hVs:=hVX.snoc hQ.c hqX (by omega) (fun i hi=>nZ (hQ.c.hi (hV.out.q i hi)).2 hlo) (fun q hq=>Or.inl (by
     have:some g=some q:=hq;injection this with this
     omega)) hown hgr (by
     rcases hgg with q|q
     ·exact Or.inl q
     exact Or.inr q)
    have hsX:wr.heap.size<=X.heap.size:=hwX.size;have hs3:X.heap.size<=w3.heap.size:=hgr.size
    have hg3:gg≠w.heap.size+1+1+1:=by
     rcases hgg with q|q
     ·injection q with q;omega
     omega
    have hg4:w.heap.size+2<=gg:=by
     rcases hgg with q|q
     ·injection q with q;omega
     omega
    have far:∀ q,q<wr.heap.size->q≠g->∀ o,w3.cell? ⟨q,o,none⟩=wr.cell? ⟨q,o,none⟩:=fun q h2 h3 o=>(hgr.cell_far _ (by show q<X.heap.size;omega) (fun e=>by
     have e2:some q=some g:=e;injection e2 with e2
     omega)).trans (hwX.cell (by exact h2))
    have farz:∀ q,q<wr.heap.size->q≠g->∀ o,w3.frozen? ⟨q,o,none⟩=wr.frozen? ⟨q,o,none⟩:=fun q h2 h3 o=>(hgr.frozen_far _ (by show q<X.heap.size;omega) (fun e=>by
     have e2:some q=some g:=e;injection e2 with e2
     omega)).trans (hwX.frozen (by exact h2))
    have hT2:∀ i,i<k+1->w.heap.size+1+1+1<(extT T k t i).lo:=fun i hi=>by
     unfold extT
     by_cases e:i=k
     ·rw [if_pos e];omega
     rw [if_neg e];exact hT.out i (by omega)
    refine ⟨⟨?_,⟨u1,?_⟩,?_,?_,?_,by simp [World.setCell];omega,?_⟩,⟨own_kept hVs.own (fun q hq=>Below.heap_setCell _ _ _ _ (by
     have:some gg=some q:=hq;injection this with this
     show q≠w.heap.size+1+1+1
     omega)),fun i hi=>?_,hVs.low,hVs.ord,hVs.apart⟩,hg3,hg4,hT2⟩
    ·rw [far_block (by omega),far _ (by omega) (by omega)];exact x0
    ·rw [far_block (by omega),far _ (by omega) (by omega)];exact x1
    ·exact set_same ⟨_,(far _ (by omega) (by omega) 0).trans x3⟩
    ·rw [World.frozen?_setCell,farz _ (by omega) (by omega)];exact f1
    ·rw [World.frozen?_setCell,farz _ (by omega) (by omega)];exact f3
    ·refine Below.setCell ?_ (by show w.heap.size<=w.heap.size+1+1+1;omega) _
     exact (hbel.trans (hwX.mono hbel.size)).grown hgr (by omega) (fun q hq=>by
      have:some g=some q:=hq;injection this with this
      omega)
    have q:=hVs.q i hi;have l:=hT2 i hi;exact hQ.s q (Or.inl l)
   have HO:Hid (∀ X,Below wr.heap.size wr X->X.ownsRow (w.heap.size+2) 30 10 (.slice (some ⟨g,0,none⟩) k c) k (encV E T k)):=fun X hX=>ownsRow_blw hV.out.own hX
   have HF:Hid (∀ (X w3:World),Below wr.heap.size wr X->X.grownBy w3 (some g)->(∀ o,w3.cell? ⟨w.heap.size,o,none⟩=wr.cell? ⟨w.heap.size,o,none⟩)∧(∀ o,w3.cell? ⟨b,o,none⟩=wr.cell? ⟨b,o,none⟩)∧w3.cell? ⟨w.heap.size+1+1+1,0,none⟩=some (.slice (some ⟨g,0,none⟩) k c)∧w3.frozen? ⟨w.heap.size+1+1+1,0,none⟩=false):=fun X w3 hX hgr=>by
    have hsX:=hX.size
    have far:∀ q,q<wr.heap.size->q≠g->∀ o,w3.cell? ⟨q,o,none⟩=wr.cell? ⟨q,o,none⟩:=fun q h2 h3 o=>(hgr.cell_far _ (by show q<X.heap.size;omega) (fun e=>by
     have e2:some q=some g:=e;injection e2 with e2
     omega)).trans (hX.cell (by exact h2))
    refine ⟨fun o=>far _ (by omega) (by omega) o,fun o=>far _ hbr (by omega) o,(far _ hz3 (by omega) 0).trans x3,?_⟩
    exact (hgr.frozen_far _ (by show w.heap.size+1+1+1<X.heap.size;omega) (fun e=>by
     have e2:some (w.heap.size+1+1+1)=some g:=e;injection e2 with e2
     omega)).trans ((hX.frozen (by exact hz3)).trans f3)
   clear hcs hok hCR hT;have hm1:k+1<=maxLen:=by unfold maxLen;omega
   have hm2:(k+1) * 168<=140737488355328:=by omega
   have hrf:Below wr.heap.size wr wr:=kB;have hkn:(k:Int)<(n:Int):=by omega
   have hk0:(0:Int)<=(k:Int):=by omega
   clear hV;generalize E k=e at *
   go_wp2_with fail
   go_region_law ((first
     | (refine step_append_lies _ (by rfl) _ _ _ (by rfl) (w.heap.size+2) 30 i0 _ 10 168 Tryz.underlying23 hi hz0 hz1 hz2 rfl (by decide) (.slice (some ⟨g,0,none⟩) k c) k (encV E T k) (by rfl) (HO.out _ (by first|exact hb1.alloc hb1.size _|exact (hb1.alloc hb1.size _).drew|exact (hb1.drew.alloc hb1.size _)|exact ((hb1.alloc hb1.size _).drew).drew)) ⟨w1.heap.size,0,none⟩ 1 1 (evL e t) (by rfl) (by rfl) (fun j u hj=>evL_cells w1 e t _ j u hj) (evL_one e t) (by decide) hm1 hm2 (by simp;have:=hb1.size;omega) (w1.heap.size+1) (by simp) ?_;intro gg cc w3 hown3 hgrow hat hlt3;obtain ⟨-,-,F3,Z3⟩:=HF.out _ w3 (by first|exact hb1.alloc hb1.size _|exact (hb1.alloc hb1.size _).drew|exact (hb1.drew.alloc hb1.size _)|exact ((hb1.alloc hb1.size _).drew).drew) hgrow)
     | (go_simp;go_at_call 187;refine (Hcp.out _ (by with_reducible first|exact hrf|exact hrf.drew|exact hrf.drew.drew|exact hrf.drew.drew.drew|exact hrf.drew.drew.drew.drew)).mono ?_;rintro x w1 ⟨t,rfl,hq1,ht1,hb1⟩;have q1v:=(hb1.cell (by exact hz3)).trans x3;have qva:∀ Z,(w1.alloc Z).cell? ⟨w.heap.size+1+1+1,0,none⟩=some (.slice (some ⟨g,0,none⟩) k c):=fun Z=>(bA.cell (by show w.heap.size+1+1+1<w1.heap.size;have:=hb1.size;omega)).trans q1v;dsimp only)))
   all_goals
    obtain ⟨z1,z2,z4,z5,z6⟩:=HZ.out w1 _ w3 t gg cc hb1 hq1.out ht1 (by first|exact bA|exact bA.drew) hown3 hgrow (hat.imp (fun q=>q) (fun q=>by simp;omega));have Y1:Hid (_):=z1;have Y2:Hid (_):=z2;have Y6:Hid (_):=z6;clear z1 z2 z6 hown3 hgrow;go_wp2
    go_roundw
    case rel=>exact ⟨k+1,by omega,by go_num,gg,cc,_,Y1,Y2,z4,z5,Y6⟩
    simp [intOf];omega
  have hkn:k=n:=by omega
  subst hkn;have hbz:Below w.heap.size w (wr.setCell ⟨w.heap.size+1,0,none⟩ (.slice (some ⟨g,0,none⟩) k c)):=hbel.setCell (by exact Nat.le_add_right _ _) _
  have hVz:Hid (RowV Q (wr.setCell ⟨w.heap.size+1,0,none⟩ (.slice (some ⟨g,0,none⟩) k c)) (w.heap.size+2) (.slice (some ⟨g,0,none⟩) k c) k E T):=by
   refine ⟨own_kept hV.out.own (fun q hq=>Below.heap_setCell _ _ _ _ (by
    have:some g=some q:=hq;injection this with this
    show q≠w.heap.size+1
    omega)),fun i hi=>?_,hV.out.low,hV.out.ord,hV.out.apart⟩
   have q:=hV.out.q i hi;have l:=hV.out.low i hi;exact hQ.s q (Or.inl (by omega))
  clear hV HC HR;go_wp2
  refine bodyPost_ret (v:=.agg #[.slice (some ⟨g,0,none⟩) k c]) (by simp [results,Tryz.results186,go_sem,x1]) rfl ⟨_,T,rfl,hVz,hbz⟩
end Go.Proofs.YtkdalopokdhndaaGreat
