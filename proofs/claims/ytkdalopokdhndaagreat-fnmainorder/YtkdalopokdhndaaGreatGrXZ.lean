import Derived.Test.YtkdalopokdhndaaGreatEvIZ
import Derived.Lib.Join
import Derived.Lib.ItoaNum
import Derived.Lib.ItoaLen
set_option maxHeartbeats 16000000
set_option maxRecDepth 100000
namespace Go.Proofs.YtkdalopokdhndaaGreat
open Go.RowKit Go.Maps Go.ChangeMaps
variable {w w' w2 wx:World}{E:Nat->Ev}{v sv:Value}{B g k n rc cap base:Nat}{X:Nat->Int}{xs:List Value}{rn:Nat->Nat}{ra:Option Addr}{Kn:ByteArray->Bool}{e:Ev}{row:Option Nat}
theorem Tryz.infoIntsO:(Tryz.prog.info? 93).map (fun i=>(i.zero,i.size,i.bytes))=some (some (.slice none 0 0),1,24):=by kernel_rfl
structure GB (w:World)(E:Nat->Ev)(sv:Value)(k:Nat)(wx:World):Prop where
 r1:∀ o,o<3->∃ v,wx.cell? ⟨w.heap.size+1,o,none⟩=some v
 f1:∀ o,wx.frozen? ⟨w.heap.size+1,o,none⟩=false
 mp:MapAt wx (w.heap.size+1+1) k (knE E k) (posV E k)
 g0:wx.cell? ⟨w.heap.size+1+1+1,0,none⟩=some sv
 g1:wx.cell? ⟨w.heap.size+1+1+1,1,none⟩=some (.map (some (w.heap.size+1+1)))
 g2:∃ v,wx.cell? ⟨w.heap.size+1+1+1,2,none⟩=some v
 gf:∀ o,wx.frozen? ⟨w.heap.size+1+1+1,o,none⟩=false
 size:w.heap.size+1+1+1<wx.heap.size
 below:Below w.heap.size w wx
theorem GB.mono4 {wy:World}(h:GB w E sv k wx)(hb:Below (w.heap.size+1+1+1+1) wx wy):GB w E sv k wy:=by
 have hs:=h.size
 exact ⟨fun o ho=>(h.r1 o ho).imp fun _ hv=>(hb.cell (by show w.heap.size+1<_;omega)).trans hv,fun o=>(hb.frozen (by show w.heap.size+1<_;omega)).trans (h.f1 o),h.mp.kept (hb.block _ (by omega)),
  (hb.cell (by show w.heap.size+1+1+1<_;omega)).trans h.g0,(hb.cell (by show w.heap.size+1+1+1<_;omega)).trans h.g1,h.g2.imp fun _ hv=>(hb.cell (by show w.heap.size+1+1+1<_;omega)).trans hv,fun o=>(hb.frozen (by show w.heap.size+1+1+1<_;omega)).trans (h.gf o),nT hs hb.size,h.below.trans (hb.mono (by omega))⟩
theorem GB.mono {wy:World}(h:GB w E sv k wx)(hb:Below wx.heap.size wx wy):GB w E sv k wy:=h.mono4 (hb.mono h.size)
theorem GB.set2 (h:GB w E sv k wx)(x:Value):GB w E sv k (wx.setCell ⟨w.heap.size+1+1+1,2,none⟩ x) :=
 ⟨fun o ho=>by rw [far_block (by omega)];exact h.r1 o ho,fun o=>by rw [World.frozen?_setCell];exact h.f1 o,h.mp.set (by omega) _,by rw [set_far (by decide)];exact h.g0,by rw [set_far (by decide)];exact h.g1,
  ⟨x,set_same h.g2⟩,fun o=>by rw [World.frozen?_setCell];exact h.gf o,by simpa [World.setCell] using h.size,h.below.setCell (by show _<=w.heap.size+1+1+1;omega) _⟩
theorem GB.put {wy:World}(h:GB w E sv k wx)(hg:wx.grownBy wy (some (w.heap.size+1+1)))(hm:MapAt wy (w.heap.size+1+1) (k+1) (knE E (k+1)) (posV E (k+1))):GB w E sv (k+1) wy:=by
 have hs:=h.size;have e1:wy.heap[w.heap.size+1]?=wx.heap[w.heap.size+1]?:=hg.block _ (by omega) (fun e=>by injection e;omega);have e3:wy.heap[w.heap.size+1+1+1]?=wx.heap[w.heap.size+1+1+1]?:=hg.block _ (by omega) (fun e=>by injection e;omega)
 exact ⟨fun o ho=>(h.r1 o ho).imp fun _ hv=>(World.cell?_of_block e1).trans hv,fun o=>(World.frozen?_of_block e1).trans (h.f1 o),hm,(World.cell?_of_block e3).trans h.g0,(World.cell?_of_block e3).trans h.g1,
  h.g2.imp fun _ hv=>(World.cell?_of_block e3).trans hv,fun o=>(World.frozen?_of_block e3).trans (h.gf o),nT hs hg.size,h.below.grown hg h.below.size (fun q hq=>by injection hq;omega)⟩
def LowI (a:Option Addr)(n base:Nat):Prop:=n=0∨∃ b off,a=some ⟨b,off,none⟩∧base<=b
theorem SlI.keptLow {a:Option Addr}(h:SlI w a n cap X)(hl:LowI a n base)(hs:w.heap.size<=w'.heap.size)(hb:∀ g,base<=g->g<w.heap.size->w'.heap[g]?=w.heap[g]?):SlI w' a n cap X:=by
 refine ⟨h.le,h.max,?_⟩;rcases hl with h0|⟨b,off,e,hlow⟩
 ·exact Or.inl h0
 rcases h.cells with h0|⟨b',off',e',hlt,hc⟩
 ·exact Or.inl h0
 rw [e] at e';injection e' with e';injection e' with e1 e2 _
 subst e1 e2;exact Or.inr ⟨b,off,e,nT hlt hs,fun i hi=>by rw [World.cell?_of_block (a:=⟨b,off+i,none⟩) (hb b hlow hlt)];exact hc i hi⟩
theorem ownsRow_kept {e size:Nat}(h:w.ownsRow base e size v n xs)(hb:∀ g,base<=g->g<w.heap.size->w'.heap[g]?=w.heap[g]?):w'.ownsRow base e size v n xs:=by
 obtain ⟨h1,h2⟩:=h;refine ⟨h1,?_⟩;rcases h2 with h2|⟨g,cap,cur,hv,hg,hh,r⟩
 ·exact Or.inl h2
 have hlt:g<w.heap.size:=by
  rcases Nat.lt_or_ge g w.heap.size with h'|h'
  ·exact h'
  rw [Array.getElem?_eq_none h'] at hh;cases hh
 exact Or.inr ⟨g,cap,cur,hv,hg,by rw [hb g hg hlt];exact hh,r⟩
def RowsX (w:World)(base:Nat)(v:Value)(n:Nat)(rn:Nat->Nat)(X:Nat->Nat->Int):Prop :=
 ∃ R:Nat->Value,w.ownsRow base 93 1 v n ((List.range n).map R)∧∀ i,i<n->∃ a cap,R i=.slice a (rn i) cap∧SlI w a (rn i) cap (X i)∧(∀ q,v.ownBlock=some q->ApartI a (rn i) q)∧LowI a (rn i) base
theorem RowsX.plain {X:Nat->Nat->Int}(h:RowsX w base v n rn X):RowsOwn w base v n rn X:=by
 obtain ⟨R,h1,h2⟩:=h;refine ⟨R,h1,fun i hi=>?_⟩;obtain ⟨a,cap,e,hs,hA,_⟩:=h2 i hi;exact ⟨a,cap,e,hs,hA⟩
theorem RowsX.nil (w:World)(base:Nat)(rn:Nat->Nat)(X:Nat->Nat->Int):RowsX w base (.slice none 0 0) 0 rn X :=
 ⟨fun _=>.slice none 0 0,⟨rfl,Or.inl ⟨rfl,rfl⟩⟩,fun _ hi=>absurd hi (Nat.not_lt_zero _)⟩
theorem RowsX.kept {X:Nat->Nat->Int}(h:RowsX w base v n rn X)(hs:w.heap.size<=w'.heap.size)(hb:∀ g,base<=g->g<w.heap.size->w'.heap[g]?=w.heap[g]?):RowsX w' base v n rn X:=by
 obtain ⟨R,h1,h2⟩:=h;refine ⟨R,ownsRow_kept h1 hb,fun i hi=>?_⟩;obtain ⟨a,cap,e,hsl,hA,hL⟩:=h2 i hi;exact ⟨a,cap,e,hsl.keptLow hL hs hb,hA,hL⟩
theorem RowsX.below {X:Nat->Nat->Int}(h:RowsX w base v n rn X)(hb:Below w.heap.size w w'):RowsX w' base v n rn X:=h.kept hb.size fun g _ hg=>hb.block g hg
theorem RowsX.snoc {w0 w3:World}{cap':Nat}{X:Nat->Nat->Int}{t:TypeId}(hb:Below w0.heap.size w0 w2)(hbase:base<=w0.heap.size)
  (hr:OwnI w2 w0.heap.size (.slice ra (rn n) rc) (rn n) (X n))
  (R:Nat->Value) (hR:∀ i,i<n->∃ a cap,R i=.slice a (rn i) cap∧SlI w0 a (rn i) cap (X i)∧(∀ q,v.ownBlock=some q->ApartI a (rn i) q)∧LowI a (rn i) base)
  (hvlt:∀ q,v.ownBlock=some q->q<w0.heap.size)
  (hown:w3.ownsRow base 93 1 (.slice (some ⟨g,0,none⟩) (n+1) cap') (n+1) ((List.range n).map R ++ [.slice ra (rn n) rc]))
  (hgrow:(w2.alloc (.cells #[.slice ra (rn n) rc] t)).grownBy w3 v.ownBlock) (hg:v.ownBlock=some g∨g=w2.heap.size+1):RowsX w3 base (.slice (some ⟨g,0,none⟩) (n+1) cap') (n+1) rn X:=by
 have hbA:Below w2.heap.size w2 (w2.alloc (.cells #[.slice ra (rn n) rc] t)):=bA;refine ⟨fun i=>if i=n then .slice ra (rn n) rc else R i,?_,fun i hi=>?_⟩
 ·have:(List.range (n+1)).map (fun i=>if i=n then (.slice ra (rn n) rc:Value) else R i)=(List.range n).map R ++ [.slice ra (rn n) rc]:=by
   rw [List.range_succ,List.map_append]
   congr 1
   ·exact List.map_congr_left fun i hi=>by rw [if_neg (by have:=List.mem_range.1 hi;omega)]
   simp
  rw [this];exact hown
 by_cases e:i=n
 ·subst e
  refine ⟨ra,rc,by simp,?_,fun q hq=>?_,?_⟩
  ·obtain ⟨a',cap'',e',hs⟩:=hr.sl
   injection e' with e1 _ e2
   subst e1 e2;refine (hs.below hbA).grown hgrow fun q hq=>?_
   rcases hr.cells with ⟨_,h0⟩|⟨gr,cp,e3,hgr,_⟩
   ·exact Or.inl h0
   injection e3 with e4 _ _
   exact Or.inr ⟨gr,0,e4,by have:=hvlt q hq;omega⟩
  ·have hq':g=q:=by simpa [Value.ownBlock] using hq
   subst hq';rcases hr.cells with ⟨_,h0⟩|⟨gr,cp,e3,hgr,hgl,_⟩
   ·exact Or.inl h0
   injection e3 with e4 _ _
   refine Or.inr ⟨gr,0,e4,?_⟩;rcases hg with hg|hg
   ·have:=hvlt g hg;omega
   omega
  rcases hr.cells with ⟨_,h0⟩|⟨gr,cp,e3,hgr,hgl,_⟩
  ·exact Or.inl h0
  injection e3 with e4 _ _
  exact Or.inr ⟨gr,0,e4,by omega⟩
 obtain ⟨a,cap,eR,hs,hA,hL⟩:=hR i (by omega);refine ⟨a,cap,by simp [e,eR],((hs.below hb).below hbA).grown hgrow hA,fun q hq=>?_,hL⟩;have hq':g=q:=by simpa [Value.ownBlock] using hq
 subst hq';rcases hg with hg|hg
 ·exact hA g hg
 rcases hs.cells with h0|⟨b,off,e3,hlt,_⟩
 ·exact Or.inl h0
 exact Or.inr ⟨b,off,e3,by have:=hb.size;omega⟩
abbrev restN (E:Nat->Ev):Nat->Nat:=fun i=>(E i).na
abbrev restV (E:Nat->Ev):Nat->Nat->Int:=fun i j=>posV E i ((E i).Av j)
def GR (w:World)(E:Nat->Ev)(k:Nat)(wx:World):Prop:=∃ rv,wx.cell? ⟨w.heap.size+1+1+1,2,none⟩=some rv∧RowsX wx (w.heap.size+1+1+1+1) rv k (restN E) (restV E)
theorem GB.start (w:World)(E:Nat->Ev)(sv:Value)(t0 t1 t2:TypeId)(c0 c1:Array Value)(h1:c1.size=3) :
  GB w E sv 0 ((((w.alloc (.cells c0 t0)).alloc (.cells c1 t1)).alloc (.map #[] 0)).alloc (.cells #[sv,.map (some (w.heap.size+1+1)),.slice none 0 0] t2)):=by
 refine ⟨fun o ho=>⟨c1[o],?_⟩,fun o=>?_,?_,?_,?_,⟨.slice none 0 0,?_⟩,fun o=>?_,by simp,((bA.alloc (by simp) _).alloc (by simp;omega) _).alloc (by simp;omega) _⟩
 ·rw [World.cell?_alloc_past _ _ _ (by simp),World.cell?_alloc_past _ _ _ (by simp),kA (by simp)]
  exact Array.getElem?_eq_getElem (by omega)
 ·rw [World.frozen?_alloc_past _ _ _ (by simp),World.frozen?_alloc_past _ _ _ (by simp)]
  exact kF (by simp)
 ·have:=MapAt.made ((w.alloc (.cells c0 t0)).alloc (.cells c1 t1))
  have h2:=this.below (kB.alloc nL (.cells #[sv,.map (some (w.heap.size+1+1)),.slice none 0 0] t2));simp only [World.size_alloc] at h2;exact h2.congr (fun s=>by simp [knE,posV]) (fun s hs=>by simp [knE,posV] at hs)
 ·exact kA (by simp)
 ·exact kA (by simp)
 ·exact kA (by simp)
 exact kF (by simp)
theorem GR.start (w:World)(E:Nat->Ev)(sv:Value)(t0 t1 t2:TypeId)(c0 c1:Array Value) :
  GR w E 0 ((((w.alloc (.cells c0 t0)).alloc (.cells c1 t1)).alloc (.map #[] 0)).alloc (.cells #[sv,.map (some (w.heap.size+1+1)),.slice none 0 0] t2)) :=
 ⟨.slice none 0 0,kA (by simp),RowsX.nil _ _ _ _⟩
theorem one_slice (x:Value)(h:∃ a n c,x=.slice a n c)(u:Value)(hu:u ∈ [x]):u.oneCell'=true:=by
 simp only [List.mem_cons,List.not_mem_nil,or_false] at hu;obtain ⟨a,n,c,rfl⟩:=h;subst hu;rfl
def GrPost (w : World) (E : Nat -> Ev) (a : Option Addr) (n cap : Nat) (q : Bool) (e : Ending) (w' : World) : Prop := Below w.heap.size w w' ∧
  ((q = true ∧ ∃ m ra rc, e = .returned (.tuple #[.agg #[.slice a n cap, .map (some m), .slice ra n rc], .bool true]) ∧ MapAt w' m n (knE E n) (posV E n) ∧ SlL w' ra n rc (restN E) (restV E)) ∨
   (q = false ∧ e = .returned (.tuple #[.agg #[.slice none 0 0, .map none, .slice none 0 0], .bool false])))
theorem insC_all {size:Nat}(h:insC Kn size e=0):allTo Kn e.Pv e.np=true∧allTo Kn e.Av e.na=true:=by
 unfold insC at h;split at h
 ·rename_i h1;exact absurd h h1
 split at h;· cases h
 split at h;· cases h
 rename_i h7;cases h1:allTo Kn e.Pv e.np
 ·exact absurd (Or.inl h1) h7
 cases h2:allTo Kn e.Av e.na
 ·exact absurd (Or.inr h2) h7
 exact ⟨rfl,rfl⟩
theorem gr_app {w3:World}{o:Obj}{x:Value}(hg2:GB w E sv k w2)(hgrow:(w2.alloc o).grownBy w3 row)
  (hrow:∀ q,row=some q->w.heap.size+1+1+1+1<=q∧q<B) (hB:B<w2.heap.size) (hB':w.heap.size+1+1+1<B) (hid:w2.cell? ⟨B,0,none⟩=some x) (v:Value) :
  GB w E sv k w3∧GB w E sv k (w3.setCell ⟨w.heap.size+1+1+1,2,none⟩ v)∧(w3.setCell ⟨w.heap.size+1+1+1,2,none⟩ v).cell? ⟨B,0,none⟩=some x:=by
 have hbA:Below w2.heap.size w2 (w2.alloc o):=bA;have hs2:=hg2.size;have hbl3:Below (w.heap.size+1+1+1+1) (w2.alloc o) w3:=kB.grown hgrow (by rw [World.size_alloc];omega) (fun q hq=>(hrow q hq).1);have hg3:=(hg2.mono hbA).mono4 hbl3;have e0:w3.heap[B]?=w2.heap[B]?:=(hgrow.block _ (by rw [World.size_alloc];omega) (fun e=>by have:=(hrow _ e.symm).2;omega)).trans (hbA.block _ hB);refine ⟨hg3,hg3.set2 v,?_⟩;rw [far_block (by omega),World.cell?_of_block (a:=⟨B,0,none⟩) e0];exact hid
theorem graph_any (b off n cap:Nat)(E:Nat->Ev)(w:World)(h:SlV w (some ⟨b,off,none⟩) n cap E)(hb:b<w.heap.size)(hc:∀ i,i<n->EvAt w b (off+i * 10) (E i)) :
  Calls Tryz.prog 31 #[.agg #[.slice (some ⟨b,off,none⟩) n cap]] w (GrPost w E (some ⟨b,off,none⟩) n cap (roomTo E n)):=by
 have hmm:=@run_makeMap Tryz.prog;have hn:=nZ h.le h.max;unfold maxLen at hn;obtain ⟨i0,hi,hz0,hz1,hz2⟩:=info_parts Tryz.infoIntsO
 go_enter Tryz.func31,Tryz.ntmps31
 go_wp2_with fail
 clear hmm
 go_loopw [16] (fun i wr=>∃ k:Nat,k<=n∧i=.int .i64 k∧Hid (roomTo E k=true)∧GB w E (.slice (some ⟨b,off,none⟩) n cap) k wr∧GR w E k wr) (fun i _=>n - (intOf i).toNat)
 case atStart=>exact ⟨0,nz,rfl,rfl,GB.start w E _ _ _ _ _ _ rfl,GR.start w E _ _ _ _ _ _⟩
 case round =>
  obtain ⟨k,hk,rfl,hto,hg,rv,q1,hrows⟩:=hrel;obtain ⟨ra,rc,rfl,_⟩:=hrows.plain.sl
  by_cases hlt:k<n
  ·obtain ⟨pa,cp,aa,ca,ga,cg,hcs,hok⟩:=hc k hlt
   have hcs1:=hcs.below hg.below hb;obtain ⟨c0,c1,c2,c3,c4,c5,c6,c7,c8,c9⟩:=hcs1;have hok1:=hok.below hg.below;have g1:=hg.g1;have gz:=hg.size;clear hcs hok hc;have hbA:Below wr.heap.size wr (wr.alloc (.cells (evCs (E k) pa cp aa ca ga cg) 30)):=bA;have g1a:=(hg.mono hbA).g1
   go_wp2_with fail
   refine (insC_any (w.heap.size+1+1) k (knE E k) (posV E k) k (E k) pa cp aa ca ga cg _ (hg.mono hbA).mp (hok1.below hbA)).mono ?_;rintro e w1 ⟨rfl,hb1⟩;rw [insC_code];have hbX:=hb1.mono (B':=wr.heap.size+1) (by simp);have hb1':=hbA.trans (hb1.mono hbA.size);have hg1:=hg.mono hb1';clear c0 c1 c2 c3 c4 c5 c6 c7 c8 c9 g1 g1a hb1
   by_cases h0:insCode E k (E k)=0
   ·obtain ⟨hfresh,hcode,h300⟩:=ins_fresh h0
    obtain ⟨_,hna⟩:=code_refs hcode;have hall:=(insC_all ((insC_code E k (E k)).trans h0)).2;have hbx:=box_cells hbX;have g1:=hg1.g1
    go_wp2_with fail
    refine (find_sl _ hg1.mp (by omega) (hok1.below hb1').ha).mono ?_;rintro e w2 ⟨hb2,hpost⟩
    obtain ⟨v9,rfl,hown9⟩:∃ v,e=.returned (.tuple #[v,.bool true])∧OwnI w2 w1.heap.size v (E k).na (fun i=>posV E k ((E k).Av i)):=by
     rcases hpost with ⟨_,v,he,ho⟩|⟨hf,_⟩
     ·exact ⟨v,he,ho⟩
     rw [hall] at hf;cases hf
    obtain ⟨a9,c9,rfl,_⟩:=hown9.sl;obtain ⟨R,hRo,hRr⟩:=hrows.below hb1';have Hb2:Hid (Below w1.heap.size w1 w2):=hb2;have Hn9:Hid (OwnI w2 w1.heap.size (.slice a9 (restN E k) c9) (restN E k) (restV E k)):=hown9;have HR:Hid (_):=hRr;have Hsz1:Hid (w.heap.size+1+1+1+1<=w1.heap.size):=by have:=hg1.size;exact this
    have hg2:=hg1.mono hb2;have hb12:=hb1'.trans (hb2.mono hb1'.size);have hbX2:=hbX.trans (hb2.mono (by simpa using hbX.size));have q1':w2.cell? ⟨w.heap.size+1+1+1,2,none⟩=some (.slice ra k rc):=(hb12.cell (by exact gz)).trans q1;have q2':=ownsRow_blwI hRo hb2;have hlt2:=World.ownsRow.lt (hrows.choose_spec.1);have Hlt1:Hid (∀ q,(Value.slice ra k rc).ownBlock=some q->q<w1.heap.size):=fun q hq=>(World.ownsRow.lt hRo q hq).2
    have hsz2:wr.heap.size<w2.heap.size:=by have:=hbX2.size;simp at this;omega
    clear hbx g1 hg1 hb2 hpost q1 hg hbX hRr hown9 hRo hrows hall;have hbx:=box_cells hbX2;have g1:=hg2.g1;have gf:=hg2.gf;have hm1:k+1<=maxLen:=by unfold maxLen;omega
    have hm2:(k+1) * 24<=140737488355328:=by omega
    have hm3:∀ o,w.heap.size+1+1+1+1<=(w2.alloc o).heap.size:=fun o=>by have:=hg2.size;simp;omega
    have hmx:k<maxLen:=by unfold maxLen;omega
    have hwf:(Lit.int .i64 (k:Int)).wf=true:=WalkArith.wf_i64 (by omega);have hkey:keyOf Tryz.prog 9 (.string (E k).id)=some (.string (E k).id.data.toList):=Go.WideMaps.keyOf_string_mk Tryz.underlying9 hok1.hid;have hto2:Hid (roomTo E (k+1)=true):=by unfold Hid;rw [roomTo,hto.out,h0];rfl
    have hid:=hbx 0
    go_wp2_with (first
     | (at_builtin;refine wpList_append_lies _ rfl _ _ 60 rfl (w.heap.size+1+1+1+1) 93 i0 (.slice none 0 0) 1 24 Tryz.underlying60 hi hz0 hz1 hz2 rfl (by decide) _ _ _ rfl (World.ownsRow.alloc q2' _) ⟨w2.heap.size,0,none⟩ 1 1 [.slice a9 (E k).na c9] rfl rfl (one_cellsI _ _ _) (one_slice _ ⟨_,_,_,rfl⟩) (by decide) hm1 hm2 (hm3 _) (w2.heap.size+1) (by simp) ?_;intro gg vc w3 hown3 hgrow3 hat3 hlt3;obtain ⟨hg3,hg4,e1⟩:=gr_app hg2 hgrow3 hlt2 hsz2 gz hid (.slice (some ⟨gg,0,none⟩) (k+1) vc);have k1:=hg4.g1;have gf3:=hg3.gf;obtain ⟨g2v,hg2v⟩:=hg3.g2;obtain ⟨D,hD,hK⟩:=hg4.mp)
     | (at_mapUpdate;refine wpList_mapUpdate_own _ rfl _ _ _ 59 rfl 9 3 lawStr Tryz.underlying59 _ (w.heap.size+1+1) k D rfl hD hmx _ _ _ rfl rfl hkey _ [] (plainElem_int Tryz.underlying3 hwf) ?_;intro w5 hown5 hgrow5))
    go_roundw
    case rel =>
     have hrow3:RowsX w3 (w.heap.size+1+1+1+1) (.slice (some ⟨gg,0,none⟩) (k+1) vc) (k+1) (restN E) (restV E):=RowsX.snoc Hb2.out Hsz1.out Hn9.out R HR.out Hlt1.out hown3 hgrow3 hat3;refine ⟨k+1,by omega,by go_num,hto2,hg4.put hgrow5 ((mapAt_put hD.isMap hown5 hK).congr (knE_succ E k) (fun s hs=>posV_succ E k s hfresh hs)),.slice (some ⟨gg,0,none⟩) (k+1) vc,?_,RowsX.kept (RowsX.kept hrow3 (w':=w3.setCell ⟨w.heap.size+1+1+1,2,none⟩ (.slice (some ⟨gg,0,none⟩) (k+1) vc)) (by simp [World.setCell]) (fun g hg _=>RowKit.Below.heap_setCell _ _ _ _ (by show g≠w.heap.size+1+1+1;omega))) hgrow5.size (fun g hg hl=>hgrow5.block g hl (fun e=>by injection e;omega))⟩;rw [World.cell?_of_block (hgrow5.block _ hg4.size (fun e=>by injection e with e;have e':w.heap.size+1+1+1=w.heap.size+1+1:=e;omega))];exact set_same ⟨g2v,hg2v⟩
    simp [intOf];omega
   have h0b:(insCode E k (E k) != 0)=true:=by simpa using h0
   have hv:Hid (false=roomTo E n):=(roomTo_le E n k hlt (by rw [roomTo];simp [h0])).symm;obtain ⟨x0,y0⟩:=hg1.r1 0 (by decide);obtain ⟨x1,y1⟩:=hg1.r1 1 (by decide);obtain ⟨x2,y2⟩:=hg1.r1 2 (by decide);have f1:=hg1.f1;have hbw:=hg1.below;go_wp2
   refine bodyPost_ret (v:=.tuple #[.agg #[.slice none 0 0,.map none,.slice none 0 0],.bool false]) (by simp [results,Tryz.results31,go_sem,y0,y1,y2]) rfl ⟨?_,Or.inr ⟨hv.out.symm,rfl⟩⟩
   iterate 3 (refine Below.setCell ?_ (show _<=w.heap.size+1 from Nat.le_succ _) _)
   exact hbw
  have hkn:k=n:=by omega
  subst hkn;have hv:Hid (true=roomTo E k):=hto.out.symm;have g0:=hg.g0;have g1:=hg.g1;obtain ⟨x0,y0⟩:=hg.r1 0 (by decide);obtain ⟨x1,y1⟩:=hg.r1 1 (by decide);obtain ⟨x2,y2⟩:=hg.r1 2 (by decide);have f1:=hg.f1;have hbw:=hg.below;have hmp:=hg.mp;have Hr:Hid (RowsX wr (w.heap.size+1+1+1+1) (.slice ra k rc) k (restN E) (restV E)):=hrows;clear hrows;go_wp2
  refine bodyPost_ret (v:=.tuple #[.agg #[.slice (some ⟨b,off,none⟩) k cap,.map (some (w.heap.size+1+1)),.slice ra k rc],.bool true]) (by simp [results,Tryz.results31,go_sem,y0,y1,y2]) rfl ⟨?_,Or.inl ⟨hv.out.symm,_,_,_,rfl,?_,?_⟩⟩
  ·iterate 3 (refine Below.setCell ?_ (show _<=w.heap.size+1 from Nat.le_succ _) _)
   exact hbw
  ·iterate 3 (refine MapAt.set ?_ (by omega) _)
   exact hmp
  have hK:∀ {wz:World} {j:Nat} {x:Value},RowsX wz (w.heap.size+1+1+1+1) (.slice ra k rc) k (restN E) (restV E)->RowsX (wz.setCell ⟨w.heap.size+1,j,none⟩ x) (w.heap.size+1+1+1+1) (.slice ra k rc) k (restN E) (restV E):=fun h=>h.kept (by simp [World.setCell]) (fun g hg _=>RowKit.Below.heap_setCell _ _ _ _ (by show g≠w.heap.size+1;omega))
  obtain ⟨a8,c8,e8,h8⟩:=(hK (hK (hK Hr.out))).plain.sl;injection e8 with e8 _ e9
  subst e8 e9;exact h8
theorem graph_zero (a:Option Addr)(cap:Nat)(E:Nat->Ev)(w:World) :
  Calls Tryz.prog 31 #[.agg #[.slice a 0 cap]] w (GrPost w E a 0 cap true):=by
 have hmm:=@run_makeMap Tryz.prog
 go_enter Tryz.func31,Tryz.ntmps31
 go_wp2
 clear hmm;refine wp_loop_rounds 1 ?_;rw [rounds_succ];go_wp2
 refine bodyPost_ret (v:=.tuple #[.agg #[.slice a 0 cap,.map (some (w.heap.size+1+1)),.slice none 0 0],.bool true]) (by simp [results,Tryz.results31,go_sem]) rfl ⟨?_,Or.inl ⟨rfl,_,_,_,rfl,?_,⟨nL,by decide,Or.inl rfl⟩⟩⟩
 case refine_2=>exact (GB.start w E _ _ _ _ _ _ rfl).mp
 repeat' (first|exact kB|exact nL|(refine Below.alloc ?_ ?_ _)|(simp;done)|(simp;omega))
theorem graph_sl {a:Option Addr}(w:World)(h:SlV w a n cap E) :
  Calls Tryz.prog 31 #[.agg #[.slice a n cap]] w (GrPost w E a n cap (roomTo E n)):=by
 rcases h.cells with rfl|⟨b,off,rfl,hb,hc⟩
 ·exact graph_zero a cap E w
 exact graph_any b off n cap E w h hb hc
end Go.Proofs.YtkdalopokdhndaaGreat
namespace Go.Proofs.YtkdalopokdhndaaGreat
def joinB (S:Nat->ByteArray)(sep:ByteArray):Nat->ByteArray
 | 0=>ByteArray.empty
 | k+1=>if k=0 then S 0 else joinB S sep k ++ sep ++ S k
theorem joinB_size_le (S : Nat -> ByteArray) (sep : ByteArray) : ∀ {n k : Nat}, k <= n -> (joinB S sep k).size <= (joinB S sep n).size
  | 0, k, h => by have : k = 0 := by omega
                  subst this; exact nL
  | n + 1, k, h => by
    by_cases e : k = n + 1
    · subst e; exact nL
    · refine nZ (joinB_size_le S sep (n := n) (by omega)) ?_
      by_cases h0 : n = 0
      · subst h0; simp [joinB]
      · rw [joinB, if_neg h0, ByteArray.size_append, ByteArray.size_append]; omega
variable {s:ByteArray}{na:Nat}{M:Nat->ByteArray}
structure Bds (id sd ty key val:ByteArray)(tm:Int)(np na ng:Nat)(Pv Av M:Nat->ByteArray)(L:Nat->Int):Prop where
 hid:id.size<=40
 hsd:sd.size<=40
 hty:ty.size<=40
 hkey:key.size<=40
 hval:val.size<=40
 t0:0<=tm
 t1:tm<=1000000000000
 hnp:np<=10
 hna:na<=10
 hng:ng<=50
 p:∀ i,i<np->(Pv i).size<=40
 a:∀ i,i<na->(Av i).size<=40
 m:∀ i,i<ng->(M i).size<=41
 l0:∀ i,i<ng->-1000000<=L i
 l1:∀ i,i<ng->L i<=1000000
theorem isW_size (h:isW s=true):s.size<=40:=by
 simp only [isW,Bool.and_eq_true,decide_eq_true_eq] at h;exact h.2
theorem size_list (s:ByteArray):s.size=s.toList.length:=by
 rw [ByteArray.toList_eq,Array.length_toList];rfl
theorem size_beq {l:List UInt8}(h:(s.toList == l)=true):s.size=l.length:=by
 rw [size_list,eq_of_beq h]
theorem size_empty (h:s.toList.isEmpty=true):s.size=0:=by
 rw [size_list,List.isEmpty_iff.1 h];rfl
theorem refsTo_size (S:Nat->ByteArray)(id:ByteArray):∀ n,refsTo S id n=true->∀ i,i<n->(S i).size<=40
 | 0,_,i,hi=>absurd hi (Nat.not_lt_zero _)
 | n+1,h,i,hi=>by
  unfold refsTo at h;simp only [Bool.and_eq_true] at h
  by_cases e:i=n
  ·subst e;exact isW_size h.2.1
  exact refsTo_size S id n h.1 i (by omega)
theorem bare_size (s:ByteArray):s.size<=(bareS s).size+1:=by
 unfold bareS;split
 ·rw [ByteArray.size_extract];omega
 omega
theorem grTo_size (M:Nat->ByteArray)(L:Nat->Int):∀ n,grTo M L n=true->∀ i,i<n->(M i).size<=41∧-1000000<=L i∧L i<=1000000
 | 0,_,i,hi=>absurd hi (Nat.not_lt_zero _)
 | n+1,h,i,hi=>by
  unfold grTo at h;simp only [Bool.and_eq_true,Bool.not_eq_true',decide_eq_false_iff_not] at h
  by_cases e:i=n
  ·subst e
   refine ⟨?_,by omega,by omega⟩
   have:=isW_size h.2.1
   have:=bare_size (M i);omega
  exact grTo_size M L n h.1 i (by omega)
theorem memB_size {v:ByteArray}(h:memB v=true):v.size<=40:=by
 simp only [memB,Bool.or_eq_true] at h;rcases h with h|h|h|h <;> (rw [size_beq h];decide)
theorem rulB_size {v:ByteArray}(h:rulB v=true):v.size<=40:=by
 simp only [rulB,Bool.or_eq_true] at h;rcases h with h|h <;> (rw [size_beq h];decide)
theorem ct_bds {ty key val:ByteArray}{st:Bool}{np ng:Nat}{L:Nat->Int}(h:ctB ty key val st np na ng M L=true) :
  val.size<=40∧ng<=50∧∀ i,i<ng->(M i).size<=41∧-1000000<=L i∧L i<=1000000:=by
 unfold ctB at h;split at h
 ·simp only [Bool.and_eq_true,beq_iff_eq] at h
  have h0:ng=0:=h.1.1.1.2;subst h0;exact ⟨by rw [size_empty h.2];decide,by decide,fun i hi=>absurd hi (Nat.not_lt_zero _)⟩
 split at h
 ·simp only [Bool.and_eq_true,beq_iff_eq] at h
  have h0:ng=0:=h.1.2;subst h0;exact ⟨memB_size h.2,by decide,fun i hi=>absurd hi (Nat.not_lt_zero _)⟩
 split at h
 ·simp only [Bool.and_eq_true,beq_iff_eq] at h
  have h0:ng=0:=h.1.2;subst h0;exact ⟨rulB_size h.2,by decide,fun i hi=>absurd hi (Nat.not_lt_zero _)⟩
 split at h
 ·simp only [Bool.and_eq_true,grB,decide_eq_true_eq] at h
  exact ⟨by rw [size_empty h.1.2];decide,h.2.2,grTo_size M L ng h.2.1⟩
 simp only [Bool.and_eq_true,Bool.or_eq_true,beq_iff_eq] at h;have h0:ng=0:=h.1;subst h0;refine ⟨?_,by decide,fun i hi=>absurd hi (Nat.not_lt_zero _)⟩;rcases h.2 with h|h
 ·rw [size_empty h];decide
 exact isW_size h
theorem evCode_bds {id sd ty key val:ByteArray}{st:Bool}{tm:Int}{np ng:Nat}{Pv Av:Nat->ByteArray}{L:Nat->Int}
  (h:evCode id sd ty key val st tm np na ng Pv Av M L=0):Bds id sd ty key val tm np na ng Pv Av M L:=by
 unfold evCode at h;split at h
 ·cases h
 rename_i h1;split at h
 ·cases h
 rename_i h2;split at h
 ·cases h
 rename_i h3;split at h
 ·cases h
 rename_i h4;split at h
 ·cases h
 rename_i h5;have w1:isW id=true:=by simpa using fun e=>h1 (Or.inl e)
 have w2:isW sd=true:=by simpa using fun e=>h1 (Or.inr (Or.inl e))
 have w3:isW ty=true:=by simpa using fun e=>h1 (Or.inr (Or.inr e))
 have r1:refsB Pv np id=true:=by simpa using fun e=>h4 (Or.inl e)
 have r2:refsB Av na id=true:=by simpa using fun e=>h4 (Or.inr e)
 have c:=ct_bds (by simpa using h5);simp only [refsB,Bool.and_eq_true,decide_eq_true_eq] at r1 r2;refine ⟨isW_size w1,isW_size w2,isW_size w3,?_,c.1,by omega,by omega,r1.1,r2.1,c.2.1,refsTo_size _ _ _ r1.2,refsTo_size _ _ _ r2.2,fun i hi=>(c.2.2 i hi).1,fun i hi=>(c.2.2 i hi).2.1,fun i hi=>(c.2.2 i hi).2.2⟩;cases hk:key.toList.isEmpty
 ·exact isW_size (by simpa using fun e=>h2 ⟨hk,Or.inr e⟩)
 rw [size_empty hk];decide
end Go.Proofs.YtkdalopokdhndaaGreat
namespace Go.Proofs.YtkdalopokdhndaaGreat
open Go.RowKit
variable {w w':World}{n base:Nat}{v:Value}{xs:List Value}{S:Nat->ByteArray}{x:ByteArray}
theorem Tryz.infoString:(Tryz.prog.info? 9).map (fun i=>(i.zero,i.size,i.bytes))=some (some (.string ByteArray.empty),1,16):=by kernel_rfl
theorem ownsRow_blw {e size:Nat}(h:w.ownsRow base e size v n xs)(hb:Below w.heap.size w w'):w'.ownsRow base e size v n xs:=by
 obtain ⟨h1,h2⟩:=h;refine ⟨h1,?_⟩;rcases h2 with h2|⟨g,cap,cur,hv,hg,hh,r⟩
 ·exact Or.inl h2
 have hlt:g<w.heap.size:=by
  rcases Nat.lt_or_ge g w.heap.size with h'|h'
  ·exact h'
  rw [Array.getElem?_eq_none h'] at hh;cases hh
 exact Or.inr ⟨g,cap,cur,hv,hg,by rw [hb.block g hlt];exact hh,r⟩
def strs (S:Nat->ByteArray)(n:Nat):List Value:=(List.range n).map fun i=>.string (S i)
theorem strs_len (S:Nat->ByteArray)(n:Nat):(strs S n).length=n:=by simp [strs]
theorem strs_get (S:Nat->ByteArray)(n i:Nat)(h:i<n):(strs S n)[i]?=some (.string (S i)):=by simp [strs,h]
theorem strs_snoc (S:Nat->ByteArray)(n:Nat):strs S n ++ [.string (S n)]=strs S (n+1):=by simp [strs,List.range_succ]
def OwnT (w:World)(base:Nat)(v:Value)(n:Nat)(S:Nat->ByteArray):Prop:=w.ownsRow base 9 1 v n (strs S n)
theorem OwnT.below (h:OwnT w base v n S)(hb:Below w.heap.size w w'):OwnT w' base v n S:=ownsRow_blw h hb
theorem OwnT.snoc (h:w.ownsRow base 9 1 v (n+1) (strs S n ++ [.string x]))(hx:x=S n):OwnT w base v (n+1) S:=by
 subst hx;rw [strs_snoc] at h;exact h
theorem OwnT.nil (w:World)(base:Nat)(S:Nat->ByteArray):OwnT w base (.slice none 0 0) 0 S:=⟨rfl,Or.inl ⟨rfl,rfl⟩⟩
theorem OwnT.new (w:World)(base:Nat)(hb:base<=w.heap.size)(S:Nat->ByteArray):OwnT (w.alloc (.cells #[] 9)) base (.slice (some ⟨w.heap.size,0,none⟩) 0 0) 0 S :=
 ⟨rfl,Or.inr ⟨w.heap.size,0,#[],rfl,hb,by show (w.heap.push _)[w.heap.size]?=_;simp,nL,by decide,rfl,rfl⟩⟩
theorem OwnT.cells (h:OwnT w base v n S) :
  (v=.slice none 0 0∧n=0)∨∃ g cap,v=.slice (some ⟨g,0,none⟩) n cap∧base<=g∧g<w.heap.size∧n<=cap∧cap<=maxLen∧∀ i,i<n->w.cell? ⟨g,0+i,none⟩=some (.string (S i)):=by
 obtain ⟨h1,h2⟩:=h;rcases h2 with ⟨rfl,h0⟩|⟨g,cap,cur,rfl,hg,hh,hn,hc,hcs,hx⟩
 ·exact Or.inl ⟨rfl,h0⟩
 have hlt:g<w.heap.size:=by
  rcases Nat.lt_or_ge g w.heap.size with h'|h'
  ·exact h'
  rw [Array.getElem?_eq_none h'] at hh;cases hh
 refine Or.inr ⟨g,cap,rfl,hg,hlt,hn,hc,fun j hj=>?_⟩;rw [<- strs_get S n j hj,<- hx,List.getElem?_take,if_pos (by omega),Nat.zero_add];simp [World.cell?,hh]
theorem OwnT.sl (h:OwnT w base v n S)(hs:∀ i,i<n->(S i).size<=maxLen) :
  ∃ a cap,v=.slice a n cap∧SlS w a n cap S:=by
 rcases h.cells with ⟨rfl,rfl⟩|⟨g,cap,rfl,hg,hlt,hn,hc,hx⟩
 ·exact ⟨none,0,rfl,⟨nL,by decide,hs,Or.inl rfl⟩⟩
 exact ⟨_,cap,rfl,⟨hn,hc,hs,Or.inr ⟨g,0,rfl,hlt,hx⟩⟩⟩
theorem one_cells (w1:World)(x:Value)(t:TypeId)(j:Nat)(u:Value)(h:[x][j]?=some u):(w1.alloc (.cells #[x] t)).cell? ((⟨w1.heap.size,0,none⟩:Addr).add j)=some u:=by
 have hj:j<1:=by
  rcases Nat.lt_or_ge j 1 with h'|h'
  ·exact h'
  rw [List.getElem?_eq_none (by simpa using h')] at h;cases h
 match j,hj,h with
 | 0,_,h=>rw [show (⟨w1.heap.size,0,none⟩:Addr).add 0=⟨w1.heap.size,0,none⟩ from rfl,kA rfl];exact h
theorem one_one (x:ByteArray)(u:Value)(h:u ∈ [Value.string x]):u.oneCell'=true:=by
 simp only [List.mem_cons,List.not_mem_nil,or_false] at h;subst h;rfl
def Wr0 (w:World)(lo:Nat)(a:Option Addr)(n:Nat):Prop :=
 n=0∨∃ b off,a=some ⟨b,off,none⟩∧lo<=b∧b<w.heap.size∧∀ i,i<n->(∃ v,w.cell? ⟨b,off+i,none⟩=some v)∧w.frozen? ⟨b,off+i,none⟩=false
end Go.Proofs.YtkdalopokdhndaaGreat
