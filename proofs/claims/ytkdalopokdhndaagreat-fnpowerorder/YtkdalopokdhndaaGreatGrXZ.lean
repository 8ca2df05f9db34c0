import Derived.Test.YtkdalopokdhndaaGreatEvIZ
set_option maxHeartbeats 16000000
set_option maxRecDepth 100000
namespace Go.Proofs.YtkdalopokdhndaaGreat
open Go.RowKit Go.Maps Go.ChangeMaps
variable {w w' w2 wx:World}{E:Nat->Ev}{v sv:Value}{B g k n rc cap base:Nat}{a ra:Option Addr}{xs:List Value}{rn:Nat->Nat}{Kn:ByteArray->Bool}{e:Ev}{row:Option Nat}
theorem Tryz.infoIntsO:(Tryz.prog.info? 93).map (fun i=>(i.zero,i.size,i.bytes))=some (some (.slice none 0 0),1,24):=by kernel_rfl
structure GB (w:World)(E:Nat->Ev)(sv:Value)(k:Nat)(wx:World):Prop where
 r1:∀ o,o<3->∃ v,wx.cell? ⟨w.heap.size+1,o,none⟩=some v
 f1:∀ o,wx.frozen? ⟨w.heap.size+1,o,none⟩=false
 mp:MapAt wx (w.heap.size+1+1) k (knE E k) (posV E k)
 g0:wx.cell? ⟨w.heap.size+1+1+1,0,none⟩=some sv
 g1:wx.cell? ⟨w.heap.size+1+1+1,1,none⟩=some (.map (some (w.heap.size+1+1)))
 g2:∃ v,wx.cell? ⟨w.heap.size+1+1+1,2,none⟩=some v
 gf:∀ o,wx.frozen? ⟨w.heap.size+1+1+1,o,none⟩=false
 size:w.heap.size+1+1+1<wx.heap.size
 below:Below w.heap.size w wx
theorem GB.mono4 {wy:World}(h:GB w E sv k wx)(hb:Below (w.heap.size+1+1+1+1) wx wy):GB w E sv k wy:=by
 have hs:=h.size
 exact ⟨fun o ho=>(h.r1 o ho).imp fun _ hv=>(hb.cell (by show w.heap.size+1<_;omega)).trans hv,fun o=>(hb.frozen (by show w.heap.size+1<_;omega)).trans (h.f1 o),h.mp.kept (hb.block _ (by omega)),
  (hb.cell (by show w.heap.size+1+1+1<_;omega)).trans h.g0,(hb.cell (by show w.heap.size+1+1+1<_;omega)).trans h.g1,h.g2.imp fun _ hv=>(hb.cell (by show w.heap.size+1+1+1<_;omega)).trans hv,fun o=>(hb.frozen (by show w.heap.size+1+1+1<_;omega)).trans (h.gf o),nT hs hb.size,h.below.trans (hb.mono (by omega))⟩
theorem GB.mono {wy:World}(h:GB w E sv k wx)(hb:Below wx.heap.size wx wy):GB w E sv k wy:=h.mono4 (hb.mono h.size)
theorem GB.set2 (h:GB w E sv k wx)(x:Value):GB w E sv k (wx.setCell ⟨w.heap.size+1+1+1,2,none⟩ x) :=
 ⟨fun o ho=>by rw [far_block (by omega)];exact h.r1 o ho,fun o=>by rw [World.frozen?_setCell];exact h.f1 o,h.mp.set (by omega) _,by rw [set_far (by decide)];exact h.g0,by rw [set_far (by decide)];exact h.g1,
  ⟨x,set_same h.g2⟩,fun o=>by rw [World.frozen?_setCell];exact h.gf o,by simpa [World.setCell] using h.size,h.below.setCell (by show _<=w.heap.size+1+1+1;omega) _⟩
theorem GB.put {wy:World}(h:GB w E sv k wx)(hg:wx.grownBy wy (some (w.heap.size+1+1)))(hm:MapAt wy (w.heap.size+1+1) (k+1) (knE E (k+1)) (posV E (k+1))):GB w E sv (k+1) wy:=by
 have hs:=h.size;have e1:wy.heap[w.heap.size+1]?=wx.heap[w.heap.size+1]?:=hg.block _ (by omega) (fun e=>by injection e;omega);have e3:wy.heap[w.heap.size+1+1+1]?=wx.heap[w.heap.size+1+1+1]?:=hg.block _ (by omega) (fun e=>by injection e;omega)
 exact ⟨fun o ho=>(h.r1 o ho).imp fun _ hv=>(World.cell?_of_block e1).trans hv,fun o=>(World.frozen?_of_block e1).trans (h.f1 o),hm,(World.cell?_of_block e3).trans h.g0,(World.cell?_of_block e3).trans h.g1,
  h.g2.imp fun _ hv=>(World.cell?_of_block e3).trans hv,fun o=>(World.frozen?_of_block e3).trans (h.gf o),nT hs hg.size,h.below.grown hg h.below.size (fun q hq=>by injection hq;omega)⟩
def LowI (a:Option Addr)(n base:Nat):Prop:=n=0∨∃ b off,a=some ⟨b,off,none⟩∧base<=b
theorem SlI.keptLow {X:Nat->Int}(h:SlI w a n cap X)(hl:LowI a n base)(hs:w.heap.size<=w'.heap.size)(hb:∀ g,base<=g->g<w.heap.size->w'.heap[g]?=w.heap[g]?):SlI w' a n cap X:=by
 refine ⟨h.le,h.max,?_⟩;rcases hl with h0|⟨b,off,e,hlow⟩
 ·exact Or.inl h0
 rcases h.cells with h0|⟨b',off',e',hlt,hc⟩
 ·exact Or.inl h0
 rw [e] at e';injection e' with e';injection e' with e1 e2 _
 subst e1 e2;exact Or.inr ⟨b,off,e,nT hlt hs,fun i hi=>by rw [World.cell?_of_block (a:=⟨b,off+i,none⟩) (hb b hlow hlt)];exact hc i hi⟩
theorem ownsRow_kept {e size:Nat}(h:w.ownsRow base e size v n xs)(hb:∀ g,base<=g->g<w.heap.size->w'.heap[g]?=w.heap[g]?):w'.ownsRow base e size v n xs:=by
 obtain ⟨h1,h2⟩:=h;refine ⟨h1,?_⟩;rcases h2 with h2|⟨g,cap,cur,hv,hg,hh,r⟩
 ·exact Or.inl h2
 have hlt:g<w.heap.size:=by
  rcases Nat.lt_or_ge g w.heap.size with h'|h'
  ·exact h'
  rw [Array.getElem?_eq_none h'] at hh;cases hh
 exact Or.inr ⟨g,cap,cur,hv,hg,by rw [hb g hg hlt];exact hh,r⟩
def RowsX (w:World)(base:Nat)(v:Value)(n:Nat)(rn:Nat->Nat)(X:Nat->Nat->Int):Prop :=
 ∃ R:Nat->Value,w.ownsRow base 93 1 v n ((List.range n).map R)∧∀ i,i<n->∃ a cap,R i=.slice a (rn i) cap∧SlI w a (rn i) cap (X i)∧(∀ q,v.ownBlock=some q->ApartI a (rn i) q)∧LowI a (rn i) base
theorem RowsX.plain {X:Nat->Nat->Int}(h:RowsX w base v n rn X):RowsOwn w base v n rn X:=by
 obtain ⟨R,h1,h2⟩:=h;refine ⟨R,h1,fun i hi=>?_⟩;obtain ⟨a,cap,e,hs,hA,_⟩:=h2 i hi;exact ⟨a,cap,e,hs,hA⟩
theorem RowsX.nil (w:World)(base:Nat)(rn:Nat->Nat)(X:Nat->Nat->Int):RowsX w base (.slice none 0 0) 0 rn X :=
 ⟨fun _=>.slice none 0 0,⟨rfl,Or.inl ⟨rfl,rfl⟩⟩,fun _ hi=>absurd hi (Nat.not_lt_zero _)⟩
theorem RowsX.kept {X:Nat->Nat->Int}(h:RowsX w base v n rn X)(hs:w.heap.size<=w'.heap.size)(hb:∀ g,base<=g->g<w.heap.size->w'.heap[g]?=w.heap[g]?):RowsX w' base v n rn X:=by
 obtain ⟨R,h1,h2⟩:=h;refine ⟨R,ownsRow_kept h1 hb,fun i hi=>?_⟩;obtain ⟨a,cap,e,hsl,hA,hL⟩:=h2 i hi;exact ⟨a,cap,e,hsl.keptLow hL hs hb,hA,hL⟩
theorem RowsX.below {X:Nat->Nat->Int}(h:RowsX w base v n rn X)(hb:Below w.heap.size w w'):RowsX w' base v n rn X:=h.kept hb.size fun g _ hg=>hb.block g hg
theorem RowsX.snoc {w0 w3:World}{cap':Nat}{X:Nat->Nat->Int}{t:TypeId}(hb:Below w0.heap.size w0 w2)(hbase:base<=w0.heap.size)
  (hr:OwnI w2 w0.heap.size (.slice ra (rn n) rc) (rn n) (X n))
  (R:Nat->Value) (hR:∀ i,i<n->∃ a cap,R i=.slice a (rn i) cap∧SlI w0 a (rn i) cap (X i)∧(∀ q,v.ownBlock=some q->ApartI a (rn i) q)∧LowI a (rn i) base)
  (hvlt:∀ q,v.ownBlock=some q->q<w0.heap.size)
  (hown:w3.ownsRow base 93 1 (.slice (some ⟨g,0,none⟩) (n+1) cap') (n+1) ((List.range n).map R ++ [.slice ra (rn n) rc]))
  (hgrow:(w2.alloc (.cells #[.slice ra (rn n) rc] t)).grownBy w3 v.ownBlock) (hg:v.ownBlock=some g∨g=w2.heap.size+1):RowsX w3 base (.slice (some ⟨g,0,none⟩) (n+1) cap') (n+1) rn X:=by
 have hbA:Below w2.heap.size w2 (w2.alloc (.cells #[.slice ra (rn n) rc] t)):=bA;refine ⟨fun i=>if i=n then .slice ra (rn n) rc else R i,?_,fun i hi=>?_⟩
 ·have:(List.range (n+1)).map (fun i=>if i=n then (.slice ra (rn n) rc:Value) else R i)=(List.range n).map R ++ [.slice ra (rn n) rc]:=by
   rw [List.range_succ,List.map_append]
   congr 1
   ·exact List.map_congr_left fun i hi=>by rw [if_neg (by have:=List.mem_range.1 hi;omega)]
   simp
  rw [this];exact hown
 by_cases e:i=n
 ·subst e
  refine ⟨ra,rc,by simp,?_,fun q hq=>?_,?_⟩
  ·obtain ⟨a',cap'',e',hs⟩:=hr.sl
   injection e' with e1 _ e2
   subst e1 e2;refine (hs.below hbA).grown hgrow fun q hq=>?_
   rcases hr.cells with ⟨_,h0⟩|⟨gr,cp,e3,hgr,_⟩
   ·exact Or.inl h0
   injection e3 with e4 _ _
   exact Or.inr ⟨gr,0,e4,by have:=hvlt q hq;omega⟩
  ·have hq':g=q:=by simpa [Value.ownBlock] using hq
   subst hq';rcases hr.cells with ⟨_,h0⟩|⟨gr,cp,e3,hgr,hgl,_⟩
   ·exact Or.inl h0
   injection e3 with e4 _ _
   refine Or.inr ⟨gr,0,e4,?_⟩;rcases hg with hg|hg
   ·have:=hvlt g hg;omega
   omega
  rcases hr.cells with ⟨_,h0⟩|⟨gr,cp,e3,hgr,hgl,_⟩
  ·exact Or.inl h0
  injection e3 with e4 _ _
  exact Or.inr ⟨gr,0,e4,by omega⟩
 obtain ⟨a,cap,eR,hs,hA,hL⟩:=hR i (by omega);refine ⟨a,cap,by simp [e,eR],((hs.below hb).below hbA).grown hgrow hA,fun q hq=>?_,hL⟩;have hq':g=q:=by simpa [Value.ownBlock] using hq
 subst hq';rcases hg with hg|hg
 ·exact hA g hg
 rcases hs.cells with h0|⟨b,off,e3,hlt,_⟩
 ·exact Or.inl h0
 exact Or.inr ⟨b,off,e3,by have:=hb.size;omega⟩
abbrev restN (E:Nat->Ev):Nat->Nat:=fun i=>(E i).na
abbrev restV (E:Nat->Ev):Nat->Nat->Int:=fun i j=>posV E i ((E i).Av j)
def GR (w:World)(E:Nat->Ev)(k:Nat)(wx:World):Prop:=∃ rv,wx.cell? ⟨w.heap.size+1+1+1,2,none⟩=some rv∧RowsX wx (w.heap.size+1+1+1+1) rv k (restN E) (restV E)
theorem GB.start (w:World)(E:Nat->Ev)(sv:Value)(t0 t1 t2:TypeId)(c0 c1:Array Value)(h1:c1.size=3) :
  GB w E sv 0 ((((w.alloc (.cells c0 t0)).alloc (.cells c1 t1)).alloc (.map #[] 0)).alloc (.cells #[sv,.map (some (w.heap.size+1+1)),.slice none 0 0] t2)):=by
 refine ⟨fun o ho=>⟨c1[o],?_⟩,fun o=>?_,?_,?_,?_,⟨.slice none 0 0,?_⟩,fun o=>?_,by simp,((bA.alloc (by simp) _).alloc (by simp;omega) _).alloc (by simp;omega) _⟩
 ·rw [World.cell?_alloc_past _ _ _ (by simp),World.cell?_alloc_past _ _ _ (by simp),kA (by simp)]
  exact Array.getElem?_eq_getElem (by omega)
 ·rw [World.frozen?_alloc_past _ _ _ (by simp),World.frozen?_alloc_past _ _ _ (by simp)]
  exact kF (by simp)
 ·have:=MapAt.made ((w.alloc (.cells c0 t0)).alloc (.cells c1 t1))
  have h2:=this.below (kB.alloc nL (.cells #[sv,.map (some (w.heap.size+1+1)),.slice none 0 0] t2));simp only [World.size_alloc] at h2;exact h2.congr (fun s=>by simp [knE,posV]) (fun s hs=>by simp [knE,posV] at hs)
 ·exact kA (by simp)
 ·exact kA (by simp)
 ·exact kA (by simp)
 exact kF (by simp)
theorem GR.start (w:World)(E:Nat->Ev)(sv:Value)(t0 t1 t2:TypeId)(c0 c1:Array Value) :
  GR w E 0 ((((w.alloc (.cells c0 t0)).alloc (.cells c1 t1)).alloc (.map #[] 0)).alloc (.cells #[sv,.map (some (w.heap.size+1+1)),.slice none 0 0] t2)) :=
 ⟨.slice none 0 0,kA (by simp),RowsX.nil _ _ _ _⟩
theorem one_slice (x:Value)(h:∃ a n c,x=.slice a n c)(u:Value)(hu:u ∈ [x]):u.oneCell'=true:=by
 simp only [List.mem_cons,List.not_mem_nil,or_false] at hu;obtain ⟨a,n,c,rfl⟩:=h;subst hu;rfl
def GrPost (w : World) (E : Nat -> Ev) (a : Option Addr) (n cap : Nat) (q : Bool) (e : Ending) (w' : World) : Prop := Below w.heap.size w w' ∧
  ((q = true ∧ ∃ m ra rc, e = .returned (.tuple #[.agg #[.slice a n cap, .map (some m), .slice ra n rc], .bool true]) ∧ MapAt w' m n (knE E n) (posV E n) ∧ SlL w' ra n rc (restN E) (restV E)) ∨
   (q = false ∧ e = .returned (.tuple #[.agg #[.slice none 0 0, .map none, .slice none 0 0], .bool false])))
theorem insC_all {size:Nat}(h:insC Kn size e=0):allTo Kn e.Pv e.np=true∧allTo Kn e.Av e.na=true:=by
 unfold insC at h;split at h
 ·rename_i h1;exact absurd h h1
 split at h;· cases h
 split at h;· cases h
 rename_i h7;cases h1:allTo Kn e.Pv e.np
 ·exact absurd (Or.inl h1) h7
 cases h2:allTo Kn e.Av e.na
 ·exact absurd (Or.inr h2) h7
 exact ⟨rfl,rfl⟩
theorem gr_app {w3:World}{o:Obj}{x:Value}(hg2:GB w E sv k w2)(hgrow:(w2.alloc o).grownBy w3 row)
  (hrow:∀ q,row=some q->w.heap.size+1+1+1+1<=q∧q<B) (hB:B<w2.heap.size) (hB':w.heap.size+1+1+1<B) (hid:w2.cell? ⟨B,0,none⟩=some x) (v:Value) :
  GB w E sv k w3∧GB w E sv k (w3.setCell ⟨w.heap.size+1+1+1,2,none⟩ v)∧(w3.setCell ⟨w.heap.size+1+1+1,2,none⟩ v).cell? ⟨B,0,none⟩=some x:=by
 have hbA:Below w2.heap.size w2 (w2.alloc o):=bA;have hs2:=hg2.size;have hbl3:Below (w.heap.size+1+1+1+1) (w2.alloc o) w3:=kB.grown hgrow (by rw [World.size_alloc];omega) (fun q hq=>(hrow q hq).1);have hg3:=(hg2.mono hbA).mono4 hbl3;have e0:w3.heap[B]?=w2.heap[B]?:=(hgrow.block _ (by rw [World.size_alloc];omega) (fun e=>by have:=(hrow _ e.symm).2;omega)).trans (hbA.block _ hB);refine ⟨hg3,hg3.set2 v,?_⟩;rw [far_block (by omega),World.cell?_of_block (a:=⟨B,0,none⟩) e0];exact hid
theorem graph_any (b off n cap:Nat)(E:Nat->Ev)(w:World)(h:SlV w (some ⟨b,off,none⟩) n cap E)(hb:b<w.heap.size)(hc:∀ i,i<n->EvAt w b (off+i * 10) (E i)) :
  Calls Tryz.prog 31 #[.agg #[.slice (some ⟨b,off,none⟩) n cap]] w (GrPost w E (some ⟨b,off,none⟩) n cap (roomTo E n)):=by
 have hmm:=@run_makeMap Tryz.prog;have hn:=nZ h.le h.max;unfold maxLen at hn;obtain ⟨i0,hi,hz0,hz1,hz2⟩:=info_parts Tryz.infoIntsO
 go_enter Tryz.func31,Tryz.ntmps31
 go_wp2_with fail
 clear hmm
 go_loopw [16] (fun i wr=>∃ k:Nat,k<=n∧i=.int .i64 k∧Hid (roomTo E k=true)∧GB w E (.slice (some ⟨b,off,none⟩) n cap) k wr∧GR w E k wr) (fun i _=>n - (intOf i).toNat)
 case atStart=>exact ⟨0,nz,rfl,rfl,GB.start w E _ _ _ _ _ _ rfl,GR.start w E _ _ _ _ _ _⟩
 case round =>
  obtain ⟨k,hk,rfl,hto,hg,rv,q1,hrows⟩:=hrel;obtain ⟨ra,rc,rfl,_⟩:=hrows.plain.sl
  by_cases hlt:k<n
  ·obtain ⟨pa,cp,aa,ca,ga,cg,hcs,hok⟩:=hc k hlt
   have hcs1:=hcs.below hg.below hb;obtain ⟨c0,c1,c2,c3,c4,c5,c6,c7,c8,c9⟩:=hcs1;have hok1:=hok.below hg.below;have g1:=hg.g1;have gz:=hg.size;clear hcs hok hc;have hbA:Below wr.heap.size wr (wr.alloc (.cells (evCs (E k) pa cp aa ca ga cg) 30)):=bA;have g1a:=(hg.mono hbA).g1
   go_wp2_with fail
   refine (insC_any (w.heap.size+1+1) k (knE E k) (posV E k) k (E k) pa cp aa ca ga cg _ (hg.mono hbA).mp (hok1.below hbA)).mono ?_;rintro e w1 ⟨rfl,hb1⟩;rw [insC_code];have hbX:=hb1.mono (B':=wr.heap.size+1) (by simp);have hb1':=hbA.trans (hb1.mono hbA.size);have hg1:=hg.mono hb1';clear c0 c1 c2 c3 c4 c5 c6 c7 c8 c9 g1 g1a hb1
   by_cases h0:insCode E k (E k)=0
   ·obtain ⟨hfresh,hcode,h300⟩:=ins_fresh h0
    obtain ⟨_,hna⟩:=code_refs hcode;have hall:=(insC_all ((insC_code E k (E k)).trans h0)).2;have hbx:=box_cells hbX;have g1:=hg1.g1
    go_wp2_with fail
    refine (find_sl _ hg1.mp (by omega) (hok1.below hb1').ha).mono ?_;rintro e w2 ⟨hb2,hpost⟩
    obtain ⟨v9,rfl,hown9⟩:∃ v,e=.returned (.tuple #[v,.bool true])∧OwnI w2 w1.heap.size v (E k).na (fun i=>posV E k ((E k).Av i)):=by
     rcases hpost with ⟨_,v,he,ho⟩|⟨hf,_⟩
     ·exact ⟨v,he,ho⟩
     rw [hall] at hf;cases hf
    obtain ⟨a9,c9,rfl,_⟩:=hown9.sl;obtain ⟨R,hRo,hRr⟩:=hrows.below hb1';have Hb2:Hid (Below w1.heap.size w1 w2):=hb2;have Hn9:Hid (OwnI w2 w1.heap.size (.slice a9 (restN E k) c9) (restN E k) (restV E k)):=hown9;have HR:Hid (_):=hRr;have Hsz1:Hid (w.heap.size+1+1+1+1<=w1.heap.size):=by have:=hg1.size;exact this
    have hg2:=hg1.mono hb2;have hb12:=hb1'.trans (hb2.mono hb1'.size);have hbX2:=hbX.trans (hb2.mono (by simpa using hbX.size));have q1':w2.cell? ⟨w.heap.size+1+1+1,2,none⟩=some (.slice ra k rc):=(hb12.cell (by exact gz)).trans q1;have q2':=ownsRow_blwI hRo hb2;have hlt2:=World.ownsRow.lt (hrows.choose_spec.1);have Hlt1:Hid (∀ q,(Value.slice ra k rc).ownBlock=some q->q<w1.heap.size):=fun q hq=>(World.ownsRow.lt hRo q hq).2
    have hsz2:wr.heap.size<w2.heap.size:=by have:=hbX2.size;simp at this;omega
    clear hbx g1 hg1 hb2 hpost q1 hg hbX hRr hown9 hRo hrows hall;have hbx:=box_cells hbX2;have g1:=hg2.g1;have gf:=hg2.gf;have hm1:k+1<=maxLen:=by unfold maxLen;omega
    have hm2:(k+1) * 24<=140737488355328:=by omega
    have hm3:∀ o,w.heap.size+1+1+1+1<=(w2.alloc o).heap.size:=fun o=>by have:=hg2.size;simp;omega
    have hmx:k<maxLen:=by unfold maxLen;omega
    have hwf:(Lit.int .i64 (k:Int)).wf=true:=WalkArith.wf_i64 (by omega);have hkey:keyOf Tryz.prog 9 (.string (E k).id)=some (.string (E k).id.data.toList):=Go.WideMaps.keyOf_string_mk Tryz.underlying9 hok1.hid;have hto2:Hid (roomTo E (k+1)=true):=by unfold Hid;rw [roomTo,hto.out,h0];rfl
    have hid:=hbx 0
    go_wp2_with (first
     | (at_builtin;refine wpList_append_lies _ rfl _ _ 60 rfl (w.heap.size+1+1+1+1) 93 i0 (.slice none 0 0) 1 24 Tryz.underlying60 hi hz0 hz1 hz2 rfl (by decide) _ _ _ rfl (World.ownsRow.alloc q2' _) ⟨w2.heap.size,0,none⟩ 1 1 [.slice a9 (E k).na c9] rfl rfl (one_cellsI _ _ _) (one_slice _ ⟨_,_,_,rfl⟩) (by decide) hm1 hm2 (hm3 _) (w2.heap.size+1) (by simp) ?_;intro gg vc w3 hown3 hgrow3 hat3 hlt3;obtain ⟨hg3,hg4,e1⟩:=gr_app hg2 hgrow3 hlt2 hsz2 gz hid (.slice (some ⟨gg,0,none⟩) (k+1) vc);have k1:=hg4.g1;have gf3:=hg3.gf;obtain ⟨g2v,hg2v⟩:=hg3.g2;obtain ⟨D,hD,hK⟩:=hg4.mp)
     | (at_mapUpdate;refine wpList_mapUpdate_own _ rfl _ _ _ 59 rfl 9 3 lawStr Tryz.underlying59 _ (w.heap.size+1+1) k D rfl hD hmx _ _ _ rfl rfl hkey _ [] (plainElem_int Tryz.underlying3 hwf) ?_;intro w5 hown5 hgrow5))
    go_roundw
    case rel =>
     have hrow3:RowsX w3 (w.heap.size+1+1+1+1) (.slice (some ⟨gg,0,none⟩) (k+1) vc) (k+1) (restN E) (restV E):=RowsX.snoc Hb2.out Hsz1.out Hn9.out R HR.out Hlt1.out hown3 hgrow3 hat3;refine ⟨k+1,by omega,by go_num,hto2,hg4.put hgrow5 ((mapAt_put hD.isMap hown5 hK).congr (knE_succ E k) (fun s hs=>posV_succ E k s hfresh hs)),.slice (some ⟨gg,0,none⟩) (k+1) vc,?_,RowsX.kept (RowsX.kept hrow3 (w':=w3.setCell ⟨w.heap.size+1+1+1,2,none⟩ (.slice (some ⟨gg,0,none⟩) (k+1) vc)) (by simp [World.setCell]) (fun g hg _=>RowKit.Below.heap_setCell _ _ _ _ (by show g≠w.heap.size+1+1+1;omega))) hgrow5.size (fun g hg hl=>hgrow5.block g hl (fun e=>by injection e;omega))⟩;rw [World.cell?_of_block (hgrow5.block _ hg4.size (fun e=>by injection e with e;have e':w.heap.size+1+1+1=w.heap.size+1+1:=e;omega))];exact set_same ⟨g2v,hg2v⟩
    simp [intOf];omega
   have h0b:(insCode E k (E k) != 0)=true:=by simpa using h0
   have hv:Hid (false=roomTo E n):=(roomTo_le E n k hlt (by rw [roomTo];simp [h0])).symm;obtain ⟨x0,y0⟩:=hg1.r1 0 (by decide);obtain ⟨x1,y1⟩:=hg1.r1 1 (by decide);obtain ⟨x2,y2⟩:=hg1.r1 2 (by decide);have f1:=hg1.f1;have hbw:=hg1.below;go_wp2
   refine bodyPost_ret (v:=.tuple #[.agg #[.slice none 0 0,.map none,.slice none 0 0],.bool false]) (by simp [results,Tryz.results31,go_sem,y0,y1,y2]) rfl ⟨?_,Or.inr ⟨hv.out.symm,rfl⟩⟩
   iterate 3 (refine Below.setCell ?_ (show _<=w.heap.size+1 from Nat.le_succ _) _)
   exact hbw
  have hkn:k=n:=by omega
  subst hkn;have hv:Hid (true=roomTo E k):=hto.out.symm;have g0:=hg.g0;have g1:=hg.g1;obtain ⟨x0,y0⟩:=hg.r1 0 (by decide);obtain ⟨x1,y1⟩:=hg.r1 1 (by decide);obtain ⟨x2,y2⟩:=hg.r1 2 (by decide);have f1:=hg.f1;have hbw:=hg.below;have hmp:=hg.mp;have Hr:Hid (RowsX wr (w.heap.size+1+1+1+1) (.slice ra k rc) k (restN E) (restV E)):=hrows;clear hrows;go_wp2
  refine bodyPost_ret (v:=.tuple #[.agg #[.slice (some ⟨b,off,none⟩) k cap,.map (some (w.heap.size+1+1)),.slice ra k rc],.bool true]) (by simp [results,Tryz.results31,go_sem,y0,y1,y2]) rfl ⟨?_,Or.inl ⟨hv.out.symm,_,_,_,rfl,?_,?_⟩⟩
  ·iterate 3 (refine Below.setCell ?_ (show _<=w.heap.size+1 from Nat.le_succ _) _)
   exact hbw
  ·iterate 3 (refine MapAt.set ?_ (by omega) _)
   exact hmp
  have hK:∀ {wz:World} {j:Nat} {x:Value},RowsX wz (w.heap.size+1+1+1+1) (.slice ra k rc) k (restN E) (restV E)->RowsX (wz.setCell ⟨w.heap.size+1,j,none⟩ x) (w.heap.size+1+1+1+1) (.slice ra k rc) k (restN E) (restV E):=fun h=>h.kept (by simp [World.setCell]) (fun g hg _=>RowKit.Below.heap_setCell _ _ _ _ (by show g≠w.heap.size+1;omega))
  obtain ⟨a8,c8,e8,h8⟩:=(hK (hK (hK Hr.out))).plain.sl;injection e8 with e8 _ e9
  subst e8 e9;exact h8
theorem graph_zero (a:Option Addr)(cap:Nat)(E:Nat->Ev)(w:World) :
  Calls Tryz.prog 31 #[.agg #[.slice a 0 cap]] w (GrPost w E a 0 cap true):=by
 have hmm:=@run_makeMap Tryz.prog
 go_enter Tryz.func31,Tryz.ntmps31
 go_wp2
 clear hmm;refine wp_loop_rounds 1 ?_;rw [rounds_succ];go_wp2
 refine bodyPost_ret (v:=.tuple #[.agg #[.slice a 0 cap,.map (some (w.heap.size+1+1)),.slice none 0 0],.bool true]) (by simp [results,Tryz.results31,go_sem]) rfl ⟨?_,Or.inl ⟨rfl,_,_,_,rfl,?_,⟨nL,by decide,Or.inl rfl⟩⟩⟩
 case refine_2=>exact (GB.start w E _ _ _ _ _ _ rfl).mp
 repeat' (first|exact kB|exact nL|(refine Below.alloc ?_ ?_ _)|(simp;done)|(simp;omega))
theorem graph_sl (w:World)(h:SlV w a n cap E) :
  Calls Tryz.prog 31 #[.agg #[.slice a n cap]] w (GrPost w E a n cap (roomTo E n)):=by
 rcases h.cells with rfl|⟨b,off,rfl,hb,hc⟩
 ·exact graph_zero a cap E w
 exact graph_any b off n cap E w h hb hc
end Go.Proofs.YtkdalopokdhndaaGreat
namespace Go.Proofs.YtkdalopokdhndaaGreat
open Go.RowKit
variable {E:Nat->Ev}{i k n p:Nat}{Kn:ByteArray->Bool}{S:Nat->ByteArray}
theorem room_ins (E:Nat->Ev):∀ n k,k<n->roomTo E n=true->insCode E k (E k)=0
 | 0,_,h,_=>absurd h (Nat.not_lt_zero _)
 | n+1,k,h,e=>by
  unfold roomTo at e;rw [Bool.and_eq_true] at e
  by_cases hk:k=n
  ·subst hk;exact of_decide_eq_true e.2
  exact room_ins E n k (by omega) e.1
theorem room_300 (h:roomTo E n=true):n<=300:=by
 rcases Nat.eq_zero_or_pos n with h0|h0
 ·omega
 have:=(ins_fresh (room_ins E n (n - 1) (by omega) h)).2.2;omega
theorem posV_neg {E:Nat->Ev}{s:ByteArray}:∀ n,posV E n s<0->∀ i,i<n->((E i).id.toList == s.toList)=false
 | 0,_,i,hi=>absurd hi (Nat.not_lt_zero _)
 | n+1,h,i,hi=>by
  rw [posV_step] at h
  by_cases h0:0<=posV E n s
  ·rw [if_pos h0] at h;omega
  rw [if_neg h0] at h
  by_cases e:i=n
  ·subst e
   cases hb:((E i).id.toList == s.toList)
   ·rfl
   rw [hb,if_pos rfl] at h;omega
  exact posV_neg n (by omega) i (by omega)
theorem posV_found (E:Nat->Ev)(s:ByteArray):∀ n,0<=posV E n s->∃ i,i<n∧posV E n s=(i:Int)∧((E i).id.toList == s.toList)=true
 | 0,h=>by simp [posV] at h
 | n+1,h=>by
  rw [posV_step] at h ⊢
  by_cases h0:0<=posV E n s
  ·rw [if_pos h0]
   obtain ⟨i,hi,e,hb⟩:=posV_found E s n h0;exact ⟨i,by omega,e,hb⟩
  rw [if_neg h0] at h ⊢;cases hb:((E n).id.toList == s.toList)
  ·rw [hb] at h;simp at h
  exact ⟨n,by omega,by simp,hb⟩
theorem posV_here (h:roomTo E n=true)(hi:i<n):posV E n (E i).id=(i:Int) :=
 posV_hit E _ n i hi (posV_neg i (ins_fresh (room_ins E n i hi h)).1) (by simp)
theorem allTo_at (hk:k<n)(h:allTo Kn S n=true):Kn (S k)=true:=by
 cases hb:Kn (S k)
 ·rw [allTo_le Kn S n k hk hb] at h;cases h
 rfl
theorem room_prev (h:roomTo E n=true)(hk:k<n)(hp:p<(E k).np):0<=posV E n ((E k).Pv p)∧posV E n ((E k).Pv p)<k:=by
 have h1:=allTo_at hp (insC_all ((insC_code E k (E k)).trans (room_ins E n k hk h))).1;have h2:0<=posV E k ((E k).Pv p):=by simpa [knE] using h1
 rw [posV_stay E _ k h2 n (by omega)];exact ⟨h2,(posV_bd E _ k).2⟩
theorem room_auth (h:roomTo E n=true)(hk:k<n)(hp:p<(E k).na):0<=posV E n ((E k).Av p)∧posV E n ((E k).Av p)<k∧posV E k ((E k).Av p)=posV E n ((E k).Av p):=by
 have h1:=allTo_at hp (insC_all ((insC_code E k (E k)).trans (room_ins E n k hk h))).2;have h2:0<=posV E k ((E k).Av p):=by simpa [knE] using h1
 rw [posV_stay E _ k h2 n (by omega)];exact ⟨h2,(posV_bd E _ k).2,rfl⟩
variable {j m:Nat}{s:ByteArray}
inductive Chn (E:Nat->Ev) (n:Nat) (S:Nat->ByteArray) (m:Nat):ByteArray->Prop
 | base {i k p:Nat}:i<m->p<n->(E p).id=S i->k<(E p).na->Chn E n S m ((E p).Av k)
 | step {s:ByteArray} {k p:Nat}:Chn E n S m s->p<n->(E p).id=s->k<(E p).na->Chn E n S m ((E p).Av k)
def hitS (E:Nat->Ev)(n:Nat)(S:Nat->ByteArray)(j:Nat):Nat->Bool
 | 0=>false
 | p+1=>hitS E n S j p || decide (posV E n (S p)=(j:Int))
theorem hitS_iff (E:Nat->Ev)(n:Nat)(S:Nat->ByteArray)(j:Nat):∀ p,hitS E n S j p=true↔∃ q,q<p∧posV E n (S q)=(j:Int)
 | 0=>by simp [hitS]
 | p+1=>by
  unfold hitS;rw [Bool.or_eq_true,hitS_iff E n S j p,decide_eq_true_eq];constructor
  ·rintro (⟨q,hq,e⟩|e)
   ·exact ⟨q,by omega,e⟩
   exact ⟨p,by omega,e⟩
  rintro ⟨q,hq,e⟩
  by_cases h:q=p
  ·subst h;exact Or.inr e
  exact Or.inl ⟨q,by omega,e⟩
def rchT (E:Nat->Ev)(n:Nat)(B:Nat->Bool):Nat->Nat->Bool
 | 0,_=>false
 | t+1,j=>rchT E n B t j || ((B (n - 1 - t) || rchT E n B t (n - 1 - t)) && hitS E n (E (n - 1 - t)).Av j (E (n - 1 - t)).na)
theorem rchT_mono {E : Nat -> Ev} {n : Nat} {B : Nat -> Bool} {j : Nat} {t : Nat} (h : rchT E n B t j = true) : ∀ t', t <= t' -> rchT E n B t' j = true
  | 0, h' => by have : t = 0 := by omega
                subst this; exact h
  | t' + 1, h' => by
    by_cases e : t = t' + 1
    · subst e; exact h
    · rw [rchT, rchT_mono h t' (by omega)]; rfl
theorem auth_at (h:roomTo E n=true)(hp:p<n)(hk:k<(E p).na)(e:posV E n ((E p).Av k)=(j:Int)):j<p∧(E j).id=(E p).Av k:=by
 obtain ⟨h0,h1,_⟩:=room_auth h hp hk;obtain ⟨i,hi,e1,hb⟩:=posV_found E ((E p).Av k) n h0
 have:i=j:=by omega
 subst this;exact ⟨by omega,ba_of_toList hb⟩
theorem auth_there (h:roomTo E n=true)(hp:p<n)(hk:k<(E p).na):∃ j,j<p∧posV E n ((E p).Av k)=(j:Int)∧(E j).id=(E p).Av k:=by
 obtain ⟨h0,h1,_⟩:=room_auth h hp hk;obtain ⟨i,hi,e1,hb⟩:=posV_found E ((E p).Av k) n h0;exact ⟨i,by omega,e1,ba_of_toList hb⟩
theorem rchT_late {E : Nat -> Ev} {n : Nat} {B : Nat -> Bool} {p : Nat} (h : roomTo E n = true) (hp : p < n) : ∀ t, n - 1 - p <= t -> t <= n -> rchT E n B t p = rchT E n B (n - 1 - p) p
  | 0, h1, _ => by have : n - 1 - p = 0 := by omega
                   rw [this]
  | t + 1, h1, h2 => by
    by_cases e : n - 1 - p = t + 1
    · rw [e]
    · rw [rchT, rchT_late h hp t (by omega) (by omega)]
      have : hitS E n (E (n - 1 - t)).Av p (E (n - 1 - t)).na = false := by
        cases hb : hitS E n (E (n - 1 - t)).Av p (E (n - 1 - t)).na
        · rfl
        · obtain ⟨q, hq, e2⟩ := (hitS_iff _ _ _ _ _).1 hb
          have := (auth_at h (by omega) hq e2).1
          omega
      rw [this, Bool.and_false, Bool.or_false]
theorem rchT_sound {E:Nat->Ev}{n:Nat}{B:Nat->Bool}{S:Nat->ByteArray}{m:Nat}(h:roomTo E n=true)(hB:∀ i,i<n->B i=true->∃ q,q<m∧(E i).id=S q):∀ t,t<=n->∀ j,rchT E n B t j=true->Chn E n S m (E j).id
 | 0,_,j,e=>by cases e
 | t+1,ht,j,e=>by
  rw [rchT,Bool.or_eq_true,Bool.and_eq_true,Bool.or_eq_true] at e;rcases e with e|⟨e1,e2⟩
  ·exact rchT_sound h hB t (by omega) j e
  obtain ⟨q,hq,e3⟩:=(hitS_iff _ _ _ _ _).1 e2;rw [(auth_at h (by omega) hq e3).2];rcases e1 with e1|e1
  ·obtain ⟨q',hq',e4⟩:=hB _ (by omega) e1
   exact Chn.base hq' (by omega) e4 hq
  exact Chn.step (rchT_sound h hB t (by omega) _ e1) (by omega) rfl hq
theorem rchT_done {B:Nat->Bool}(h:roomTo E n=true)(hp:p<n)(hj:j<n)(hk:k<(E p).na)(e:(E j).id=(E p).Av k)(hb:B p=true∨rchT E n B n p=true):rchT E n B n j=true:=by
 have hb':(B p || rchT E n B (n - 1 - p) p)=true:=by
  rw [Bool.or_eq_true];exact hb.imp id fun h1=>by rw [<- rchT_late h hp n (by omega) nL];exact h1
 refine rchT_mono (t:=n - 1 - p+1) ?_ n (by omega);have e1:n - 1 - (n - 1 - p)=p:=by omega
 rw [rchT,e1,hb',(hitS_iff _ _ _ _ _).2 ⟨k,hk,by rw [<- e];exact posV_here h hj⟩];simp
theorem rchT_all {B:Nat->Bool}(h:roomTo E n=true)(hB:∀ i q,i<n->q<m->(E i).id=S q->B i=true)(hs:Chn E n S m s):∀ j,j<n->(E j).id=s->rchT E n B n j=true:=by
 induction hs with
 | base hi hp e hk=>exact fun j hj ej=>rchT_done h hp hj hk ej (Or.inl (hB _ _ hp hi e))
 | step _ hp e hk ih=>exact fun j hj ej=>rchT_done h hp hj hk ej (Or.inr (ih _ hp e))
theorem chn_id (h:roomTo E n=true)(hs:Chn E n S m s):∃ j,j<n∧(E j).id=s:=by
 cases hs with
 | base hi hp e hk=>obtain ⟨j,hj,_,e1⟩:=auth_there h hp hk;exact ⟨j,by omega,e1⟩
 | step _ hp e hk=>obtain ⟨j,hj,_,e1⟩:=auth_there h hp hk;exact ⟨j,by omega,e1⟩
theorem rchT_chn (h:roomTo E n=true)(s:ByteArray) :
  (∃ j,j<n∧rchT E n (fun i=>hitS E n S i m) n j=true∧(E j).id=s)↔Chn E n S m s:=by
 constructor
 ·rintro ⟨j,hj,e,rfl⟩
  refine rchT_sound h (fun i hi hb=>?_) n nL j e;obtain ⟨q,hq,e1⟩:=(hitS_iff _ _ _ _ _).1 hb;obtain ⟨i',_,e2,hb2⟩:=posV_found E (S q) n (by omega)
  have:i'=i:=by omega
  subst this;exact ⟨q,hq,ba_of_toList hb2⟩
 intro hs;obtain ⟨j,hj,e⟩:=chn_id h hs;refine ⟨j,hj,rchT_all h (fun i q hi hq e1=>?_) hs j hj e,e⟩;exact (hitS_iff _ _ _ _ _).2 ⟨q,hq,by rw [<- e1];exact posV_here h hi⟩
def addL (l:List ByteArray)(x:ByteArray):List ByteArray:=if hasB (getL l) l.length x then l else l ++ [x]
theorem hasL (l:List ByteArray)(x:ByteArray):hasB (getL l) l.length x=true↔x ∈ l:=by
 have:=hasB_mem l x l.length nL;rw [List.take_length] at this;exact this
def addTo (l:List ByteArray)(A:Nat->ByteArray):Nat->List ByteArray
 | 0=>l
 | k+1=>addL (addTo l A k) (A k)
theorem addL_mem (l:List ByteArray)(x s:ByteArray):s ∈ addL l x↔s ∈ l∨s=x:=by
 unfold addL;split
 ·rename_i h
  exact ⟨Or.inl,fun h'=>h'.elim id fun e=>e ▸ (hasL l x).1 h⟩
 simp
theorem addTo_mem (l:List ByteArray)(A:Nat->ByteArray)(s:ByteArray):∀ k,s ∈ addTo l A k↔s ∈ l∨∃ q,q<k∧A q=s
 | 0=>by simp [addTo]
 | k+1=>by
  rw [addTo,addL_mem,addTo_mem l A s k];constructor
  ·rintro ((h|⟨q,hq,e⟩)|rfl)
   ·exact Or.inl h
   ·exact Or.inr ⟨q,by omega,e⟩
   exact Or.inr ⟨k,by omega,rfl⟩
  rintro (h|⟨q,hq,e⟩)
  ·exact Or.inl (Or.inl h)
  by_cases h:q=k
  ·subst h;exact Or.inr e.symm
  exact Or.inl (Or.inr ⟨q,by omega,e⟩)
theorem addL_nodup {l:List ByteArray}(h:l.Nodup)(x:ByteArray):(addL l x).Nodup:=by
 unfold addL;split
 ·exact h
 rename_i hx;refine List.nodup_append.2 ⟨h,by simp,fun a ha b hb=>?_⟩;rw [List.mem_singleton] at hb;subst hb;rintro rfl;exact hx ((hasL l _).2 ha)
theorem addTo_nodup {l:List ByteArray}(h:l.Nodup)(A:Nat->ByteArray):∀ k,(addTo l A k).Nodup
 | 0=>h
 | k+1=>addL_nodup (addTo_nodup h A k) _
theorem addTo_pre (l:List ByteArray)(A:Nat->ByteArray):∀ k,∃ r,addTo l A k=l ++ r
 | 0=>⟨[],by simp [addTo]⟩
 | k+1=>by
  obtain ⟨r,e⟩:=addTo_pre l A k;rw [addTo,e];unfold addL;split
  ·exact ⟨r,rfl⟩
  exact ⟨r ++ [A k],by simp⟩
structure ChA (E:Nat->Ev)(n:Nat)(S:Nat->ByteArray)(m:Nat)(P:ByteArray->Prop)(l:List ByteArray):Prop where
 nodup:l.Nodup
 sound:∀ s,s ∈ l->Chn E n S m s
 closed:∀ p,p<n->P (E p).id->∀ k,k<(E p).na->(E p).Av k ∈ l
theorem ids_len {l:List ByteArray}(h:roomTo E n=true)(hn:l.Nodup)(hs:∀ s,s ∈ l->∃ j,j<n∧(E j).id=s):l.length<=n:=by
 have h1:(l.map fun s=>(posV E n s).toNat).Nodup:=by
  refine List.pairwise_map.2 (List.Pairwise.imp_of_mem (R:=fun a b=>a≠b) (fun {a b} ha hb hab e=>hab ?_) hn);obtain ⟨i,hi,rfl⟩:=hs a ha;obtain ⟨j,hj,rfl⟩:=hs b hb;rw [posV_here h hi,posV_here h hj] at e
  have:i=j:=by simpa using e
  rw [this]
 have:=List.Nodup.length_le_of_subset (l₂:=List.range n) h1 (fun x hx=>by
  obtain ⟨s,hs',rfl⟩:=List.mem_map.1 hx;obtain ⟨i,hi,rfl⟩:=hs s hs';rw [posV_here h hi];exact List.mem_range.2 (by simpa using hi))
 simpa using this
theorem ChA.add {P P':ByteArray->Prop}{l:List ByteArray}(h:ChA E n S m P l)(hr:roomTo E n=true)(hp:p<n)(hc:∀ k,k<(E p).na->Chn E n S m ((E p).Av k))(hP:∀ s,P' s->P s∨s=(E p).id):ChA E n S m P' (addTo l (E p).Av (E p).na):=by
 refine ⟨addTo_nodup h.nodup _ _,fun s hs=>?_,fun p' hp' hq k hk=>?_⟩
 ·rcases (addTo_mem _ _ _ _).1 hs with h1|⟨q,hq,rfl⟩
  ·exact h.sound s h1
  exact hc q hq
 rw [addTo_mem];rcases hP _ hq with h1|h1
 ·exact Or.inl (h.closed p' hp' h1 k hk)
 have e1:=posV_here hr hp';have e2:=posV_here hr hp;rw [h1] at e1
 have:p=p':=by omega
 subst this;exact Or.inr ⟨k,hk,rfl⟩
theorem ChA.addLen {P:ByteArray->Prop}{l:List ByteArray}(h:ChA E n S m P l)(hr:roomTo E n=true)(hp:p<n)(hk:k<=(E p).na):(addTo l (E p).Av k).length<=n :=
 ids_len hr (addTo_nodup h.nodup _ _) fun s hs=>by
  rcases (addTo_mem _ _ _ _).1 hs with h1|⟨q,hq,rfl⟩
  ·exact chn_id hr (h.sound s h1)
  obtain ⟨j,hj,_,e⟩:=auth_there hr hp (show q<(E p).na by omega);exact ⟨j,by omega,e⟩
theorem ChA.mem {l:List ByteArray}(h:ChA E n S m (fun s=>(∃ i,i<m∧S i=s)∨∃ i,i<l.length∧getL l i=s) l)(s:ByteArray):s ∈ l↔Chn E n S m s:=by
 refine ⟨h.sound s,fun hs=>?_⟩
 induction hs with
 | base hi hp e hk=>exact h.closed _ hp (Or.inl ⟨_,hi,e.symm⟩) _ hk
 | step _ hp e hk ih =>
  obtain ⟨i,hi,e1⟩:=mem_getL ih;exact h.closed _ hp (Or.inr ⟨i,hi,e1.trans e.symm⟩) _ hk
end Go.Proofs.YtkdalopokdhndaaGreat
