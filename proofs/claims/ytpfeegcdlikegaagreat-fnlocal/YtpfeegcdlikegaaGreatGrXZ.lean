import Derived.Test.YtpfeegcdlikegaaGreatEvSZ
set_option maxHeartbeats 16000000
set_option maxRecDepth 100000
namespace Go.Proofs.YtpfeegcdlikegaaGreat
open Go.RowKit Go.Maps Go.ChangeMaps Go.Proofs.Tryz
variable {w w' w2 wx:World}{E:Nat->Ev}{v sv:Value}{B g k n rc cap base:Nat}{a ra:Option Addr}{xs:List Value}{Kn:ByteArray->Bool}{e:Ev}{row:Option Nat}
theorem Tryz.infoIntsO:(prog.info? 98).map (fun i=>(i.zero,i.size,i.bytes))=some (some (.slice none 0 0),1,24):=by kernel_rfl
structure GB (w:World)(E:Nat->Ev)(sv:Value)(k:Nat)(wx:World):Prop where
 r1:∀ o,o<3->∃ v,wx.cell? ⟨w.heap.size+1,o,none⟩=some v
 f1:∀ o,wx.frozen? ⟨w.heap.size+1,o,none⟩=false
 mp:cY wx (w.heap.size+1+1) k (jV E k) (aL E k)
 g0:wx.cell? ⟨w.heap.size+1+1+1,0,none⟩=some sv
 g1:wx.cell? ⟨w.heap.size+1+1+1,1,none⟩=some (.map (some (w.heap.size+1+1)))
 g2:∃ v,wx.cell? ⟨w.heap.size+1+1+1,2,none⟩=some v
 gf:∀ o,wx.frozen? ⟨w.heap.size+1+1+1,o,none⟩=false
 size:w.heap.size+1+1+1<wx.heap.size
 below:Below w.heap.size w wx
theorem GB.mono4 {G:World}(h:GB w E sv k wx)(hb:Below (w.heap.size+1+1+1+1) wx G):GB w E sv k G:=by
 have H:=h.size
 exact ⟨fun o I=>(h.r1 o I).imp fun _ u=>(hb.cell (by show w.heap.size+1<_;omega)).trans u,fun o=>(hb.frozen (by show w.heap.size+1<_;omega)).trans (h.f1 o),h.mp.kept (hb.block _ (by omega)),
  (hb.cell (by show w.heap.size+1+1+1<_;omega)).trans h.g0,(hb.cell (by show w.heap.size+1+1+1<_;omega)).trans h.g1,h.g2.imp fun _ u=>(hb.cell (by show w.heap.size+1+1+1<_;omega)).trans u,fun o=>(hb.frozen (by show w.heap.size+1+1+1<_;omega)).trans (h.gf o),nT H hb.size,h.below.trans (hb.mono (by omega))⟩
theorem GB.mono {u:World}(h:GB w E sv k wx)(hb:Below wx.heap.size wx u):GB w E sv k u:=h.mono4 (hb.mono h.size)
theorem GB.set2 (h:GB w E sv k wx)(x:Value):GB w E sv k (wx.setCell ⟨w.heap.size+1+1+1,2,none⟩ x) :=
 ⟨fun o u=>by rw [fJ (by omega)];exact h.r1 o u,fun o=>by rw [World.frozen?_setCell];exact h.f1 o,h.mp.set (by omega) _,by rw [aB (by decide)];exact h.g0,by rw [aB (by decide)];exact h.g1,
  ⟨x,aZ h.g2⟩,fun o=>by rw [World.frozen?_setCell];exact h.gf o,by simpa [World.setCell] using h.size,h.below.setCell (by show _<=w.heap.size+1+1+1;omega) _⟩
theorem GB.put {u:World}(h:GB w E sv k wx)(hg:wx.grownBy u (some (w.heap.size+1+1)))(N:cY u (w.heap.size+1+1) (k+1) (jV E (k+1)) (aL E (k+1))):GB w E sv (k+1) u:=by
 have J:=h.size;have I:u.heap[w.heap.size+1]?=wx.heap[w.heap.size+1]?:=hg.block _ (by omega) (fun e=>by injection e;omega);have G:u.heap[w.heap.size+1+1+1]?=wx.heap[w.heap.size+1+1+1]?:=hg.block _ (by omega) (fun e=>by injection e;omega)
 exact ⟨fun o O=>(h.r1 o O).imp fun _ H=>(World.cell?_of_block I).trans H,fun o=>(World.frozen?_of_block I).trans (h.f1 o),N,(World.cell?_of_block G).trans h.g0,(World.cell?_of_block G).trans h.g1,
  h.g2.imp fun _ H=>(World.cell?_of_block G).trans H,fun o=>(World.frozen?_of_block G).trans (h.gf o),nT J hg.size,h.below.grown hg h.below.size (fun q hq=>by injection hq;omega)⟩
def VY (a:Option Addr)(n base:Nat):Prop:=n=0\/∃ b off,a=some ⟨b,off,none⟩/\base<=b
theorem ID.keptLow {X:Nat->Int}(h:ID w a n cap X)(Z:VY a n base)(N:w.heap.size<=w'.heap.size)(hb:∀ g,base<=g->g<w.heap.size->w'.heap[g]?=w.heap[g]?):ID w' a n cap X:=by
 refine ⟨h.le,h.max,?_⟩;rcases Z with I|⟨b,off,e,u⟩
 ·exact Or.inl I
 rcases h.cells with I|⟨b',J,H,G,Y⟩
 ·exact Or.inl I
 rw [e] at H;injection H with H;injection H with U O _
 subst U O;exact Or.inr ⟨b,off,e,nT G N,fun i hi=>by rw [World.cell?_of_block (a:=⟨b,off+i,none⟩) (hb b u G)];exact Y i hi⟩
theorem xD {e size:Nat}(h:w.ownsRow base e size v n xs)(hb:∀ g,base<=g->g<w.heap.size->w'.heap[g]?=w.heap[g]?):w'.ownsRow base e size v n xs:=by
 obtain ⟨J,H⟩:=h;refine ⟨J,?_⟩;rcases H with H|⟨g,cap,u,N,hg,hh,r⟩
 ·exact Or.inl H
 have I:g<w.heap.size:=by
  rcases Nat.lt_or_ge g w.heap.size with G|G
  ·exact G
  rw [Array.getElem?_eq_none G] at hh;cases hh
 exact Or.inr ⟨g,cap,u,N,hg,by rw [hb g hg I];exact hh,r⟩
def eV (w:World)(base:Nat)(v:Value)(n:Nat)(u:Nat->Nat)(X:Nat->Nat->Int):Prop :=
 ∃ R:Nat->Value,w.ownsRow base 98 1 v n ((List.range n).map R)/\∀ i,i<n->∃ a cap,R i=.slice a (u i) cap/\ID w a (u i) cap (X i)/\(∀ q,v.ownBlock=some q->wK a (u i) q)/\VY a (u i) base
theorem eV.plain {u:Nat->Nat}{X:Nat->Nat->Int}(h:eV w base v n u X):wG w base v n u X:=by
 obtain ⟨R,H,I⟩:=h;refine ⟨R,H,fun i hi=>?_⟩;obtain ⟨a,cap,e,G,J,_⟩:=I i hi;exact ⟨a,cap,e,G,J⟩
theorem eV.nil (w:World)(base:Nat)(u:Nat->Nat)(X:Nat->Nat->Int):eV w base (.slice none 0 0) 0 u X :=
 ⟨fun _=>.slice none 0 0,⟨rfl,Or.inl ⟨rfl,rfl⟩⟩,fun _ hi=>absurd hi (Nat.not_lt_zero _)⟩
theorem eV.kept {G:Nat->Nat}{X:Nat->Nat->Int}(h:eV w base v n G X)(I:w.heap.size<=w'.heap.size)(hb:∀ g,base<=g->g<w.heap.size->w'.heap[g]?=w.heap[g]?):eV w' base v n G X:=by
 obtain ⟨R,J,N⟩:=h;refine ⟨R,xD J hb,fun i hi=>?_⟩;obtain ⟨a,cap,e,u,O,H⟩:=N i hi;exact ⟨a,cap,e,u.keptLow H I hb,O,H⟩
theorem eV.below {u:Nat->Nat}{X:Nat->Nat->Int}(h:eV w base v n u X)(hb:Below w.heap.size w w'):eV w' base v n u X:=h.kept hb.size fun g _ hg=>hb.block g hg
theorem eV.snoc {U w3:World}{H:Nat}{u:Nat->Nat}{X:Nat->Nat->Int}{t:TypeId}(hb:Below U.heap.size U w2)(ag:base<=U.heap.size)
  (hr:mV w2 U.heap.size (.slice ra (u n) rc) (u n) (X n))
  (R:Nat->Value) (hR:∀ i,i<n->∃ a cap,R i=.slice a (u i) cap/\ID U a (u i) cap (X i)/\(∀ q,v.ownBlock=some q->wK a (u i) q)/\VY a (u i) base)
  (I:∀ q,v.ownBlock=some q->q<U.heap.size)
  (ab:w3.ownsRow base 98 1 (.slice (some ⟨g,0,none⟩) (n+1) H) (n+1) ((List.range n).map R ++ [.slice ra (u n) rc]))
  (G:(w2.alloc (.cells #[.slice ra (u n) rc] t)).grownBy w3 v.ownBlock) (hg:v.ownBlock=some g\/g=w2.heap.size+1):eV w3 base (.slice (some ⟨g,0,none⟩) (n+1) H) (n+1) u X:=by
 have ad:Below w2.heap.size w2 (w2.alloc (.cells #[.slice ra (u n) rc] t)):=bA;refine ⟨fun i=>if i=n then .slice ra (u n) rc else R i,?_,fun i hi=>?_⟩
 ·have:(List.range (n+1)).map (fun i=>if i=n then (.slice ra (u n) rc:Value) else R i)=(List.range n).map R ++ [.slice ra (u n) rc]:=by
   rw [List.range_succ,List.map_append]
   congr 1
   ·exact List.map_congr_left fun i hi=>by rw [if_neg (by have:=List.mem_range.1 hi;omega)]
   simp
  rw [this];exact ab
 by_cases e:i=n
 ·subst e
  refine ⟨ra,rc,by simp,?_,fun q hq=>?_,?_⟩
  ·obtain ⟨a',ai,e',hs⟩:=hr.sl
   injection e' with e1 _ e2
   subst e1 e2;refine (hs.below ad).grown G fun q hq=>?_
   rcases hr.cells with ⟨_,J⟩|⟨Y,cp,O,Z,_⟩
   ·exact Or.inl J
   injection O with e4 _ _
   exact Or.inr ⟨Y,0,e4,by have:=I q hq;omega⟩
  ·have N:g=q:=by simpa [Value.ownBlock] using hq
   subst N;rcases hr.cells with ⟨_,J⟩|⟨Y,cp,O,Z,ah,_⟩
   ·exact Or.inl J
   injection O with e4 _ _
   refine Or.inr ⟨Y,0,e4,?_⟩;rcases hg with hg|hg
   ·have:=I g hg;omega
   omega
  rcases hr.cells with ⟨_,J⟩|⟨Y,cp,O,Z,ah,_⟩
  ·exact Or.inl J
  injection O with e4 _ _
  exact Or.inr ⟨Y,0,e4,by omega⟩
 obtain ⟨a,cap,eR,hs,hA,hL⟩:=hR i (by omega);refine ⟨a,cap,by simp [e,eR],((hs.below hb).below ad).grown G hA,fun q hq=>?_,hL⟩;have N:g=q:=by simpa [Value.ownBlock] using hq
 subst N;rcases hg with hg|hg
 ·exact hA g hg
 rcases hs.cells with J|⟨b,off,O,au,_⟩
 ·exact Or.inl J
 exact Or.inr ⟨b,off,O,by have:=hb.size;omega⟩
abbrev qN (E:Nat->Ev):Nat->Nat:=fun i=>(E i).na
abbrev rP (E:Nat->Ev):Nat->Nat->Int:=fun i j=>aL E i ((E i).Av j)
def GR (w:World)(E:Nat->Ev)(k:Nat)(wx:World):Prop:=∃ rv,wx.cell? ⟨w.heap.size+1+1+1,2,none⟩=some rv/\eV wx (w.heap.size+1+1+1+1) rv k (qN E) (rP E)
theorem GB.start (w:World)(E:Nat->Ev)(sv:Value)(t0 t1 G:TypeId)(c0 c1:Array Value)(I:c1.size=3) :
  GB w E sv 0 ((((w.alloc (.cells c0 t0)).alloc (.cells c1 t1)).alloc (.map #[] 0)).alloc (.cells #[sv,.map (some (w.heap.size+1+1)),.slice none 0 0] G)):=by
 refine ⟨fun o J=>⟨c1[o],?_⟩,fun o=>?_,?_,?_,?_,⟨.slice none 0 0,?_⟩,fun o=>?_,by simp,((bA.alloc (by simp) _).alloc (by simp;omega) _).alloc (by simp;omega) _⟩
 ·rw [World.cell?_alloc_past _ _ _ (by simp),World.cell?_alloc_past _ _ _ (by simp),kA (by simp)]
  exact Array.getElem?_eq_getElem (by omega)
 ·rw [World.frozen?_alloc_past _ _ _ (by simp),World.frozen?_alloc_past _ _ _ (by simp)]
  exact kF (by simp)
 ·have:=cY.made ((w.alloc (.cells c0 t0)).alloc (.cells c1 t1))
  have u:=this.below (kB.alloc nL (.cells #[sv,.map (some (w.heap.size+1+1)),.slice none 0 0] G));simp only [World.size_alloc] at u;exact u.congr (fun s=>by simp [jV,aL]) (fun s H=>by simp [jV,aL] at H)
 ·exact kA (by simp)
 ·exact kA (by simp)
 ·exact kA (by simp)
 exact kF (by simp)
theorem GR.start (w:World)(E:Nat->Ev)(sv:Value)(t0 t1 u:TypeId)(c0 c1:Array Value) :
  GR w E 0 ((((w.alloc (.cells c0 t0)).alloc (.cells c1 t1)).alloc (.map #[] 0)).alloc (.cells #[sv,.map (some (w.heap.size+1+1)),.slice none 0 0] u)) :=
 ⟨.slice none 0 0,kA (by simp),eV.nil _ _ _ _⟩
theorem jT (x:Value)(h:∃ a n c,x=.slice a n c)(u:Value)(G:u ∈ [x]):u.oneCell'=true:=by
 simp only [List.mem_cons,List.not_mem_nil,or_false] at G;obtain ⟨a,n,c,rfl⟩:=h;subst G;rfl
def CX (w : World) (E : Nat -> Ev) (a : Option Addr) (n cap : Nat) (q : Bool) (e : Ending) (w' : World) : Prop := Below w.heap.size w w' /\
  ((q = true /\ ∃ m ra rc, e = .returned (.tuple #[.agg #[.slice a n cap, .map (some m), .slice ra n rc], .bool true]) /\ cY w' m n (jV E n) (aL E n) /\ SlL w' ra n rc (qN E) (rP E)) \/
   (q = false /\ e = .returned (.tuple #[.agg #[.slice none 0 0, .map none, .slice none 0 0], .bool false])))
theorem tU {size:Nat}(h:iH Kn size e=0):bW Kn e.Pv e.np=true/\bW Kn e.Av e.na=true:=by
 unfold iH at h;split at h
 ·rename_i h1;exact absurd h h1
 split at h;· cases h
 split at h;· cases h
 rename_i h7;cases h1:bW Kn e.Pv e.np
 ·exact absurd (Or.inl h1) h7
 cases h2:bW Kn e.Av e.na
 ·exact absurd (Or.inr h2) h7
 exact ⟨rfl,rfl⟩
theorem XB {w3:World}{o:Obj}{x:Value}(I:GB w E sv k w2)(u:(w2.alloc o).grownBy w3 row)
  (G:∀ q,row=some q->w.heap.size+1+1+1+1<=q/\q<B) (hB:B<w2.heap.size) (U:w.heap.size+1+1+1<B) (hid:w2.cell? ⟨B,0,none⟩=some x) (v:Value) :
  GB w E sv k w3/\GB w E sv k (w3.setCell ⟨w.heap.size+1+1+1,2,none⟩ v)/\(w3.setCell ⟨w.heap.size+1+1+1,2,none⟩ v).cell? ⟨B,0,none⟩=some x:=by
 have J:Below w2.heap.size w2 (w2.alloc o):=bA;have O:=I.size;have H:Below (w.heap.size+1+1+1+1) (w2.alloc o) w3:=kB.grown u (by rw [World.size_alloc];omega) (fun q hq=>(G q hq).1);have N:=(I.mono J).mono4 H;have e0:w3.heap[B]?=w2.heap[B]?:=(u.block _ (by rw [World.size_alloc];omega) (fun e=>by have:=(G _ e.symm).2;omega)).trans (J.block _ hB);refine ⟨N,N.set2 v,?_⟩;rw [fJ (by omega),World.cell?_of_block (a:=⟨B,0,none⟩) e0];exact hid
theorem KN (b off n cap:Nat)(E:Nat->Ev)(w:World)(h:dW w (some ⟨b,off,none⟩) n cap E)(hb:b<w.heap.size)(hc:∀ i,i<n->mT w b (off+i * 10) (E i)) :
  Calls prog 17 #[.agg #[.slice (some ⟨b,off,none⟩) n cap]] w (CX w E (some ⟨b,off,none⟩) n cap (aF E n)):=by
 have cb:=@run_makeMap prog;have hn:=nZ h.le h.max;unfold maxLen at hn;obtain ⟨i0,hi,bw,bo,bx⟩:=info_parts Tryz.infoIntsO
 go_enter func17,ntmps17
 go_wp2_with fail
 clear cb
 go_loopw [16] (fun i wr=>∃ k:Nat,k<=n/\i=.int .i64 k/\He (aF E k=true)/\GB w E (.slice (some ⟨b,off,none⟩) n cap) k wr/\GR w E k wr) (fun i _=>n - (intOf i).toNat)
 case atStart=>exact ⟨0,nz,rfl,rfl,GB.start w E _ _ _ _ _ _ rfl,GR.start w E _ _ _ _ _ _⟩
 case round =>
  obtain ⟨k,hk,rfl,bc,hg,rv,q1,u⟩:=hrel;obtain ⟨ra,rc,rfl,_⟩:=u.plain.sl
  by_cases a4:k<n
  ·obtain ⟨pa,cp,aa,ca,ga,cg,aw,bf⟩:=hc k a4
   have bb:=aw.below hg.below hb;obtain ⟨c0,c1,c2,c3,c4,c5,c6,c7,c8,c9⟩:=bb;have Y:=bf.below hg.below;have g1:=hg.g1;have gz:=hg.size;clear aw bf hc;have Z:Below wr.heap.size wr (wr.alloc (.cells (YD (E k) pa cp aa ca ga cg) 30)):=bA;have br:=(hg.mono Z).g1
   go_wp2_with fail
   refine (MK (w.heap.size+1+1) k (jV E k) (aL E k) k (E k) pa cp aa ca ga cg _ (hg.mono Z).mp (Y.below Z)).mono ?_;rintro e w1 ⟨rfl,am⟩;rw [mM];have af:=am.mono (B':=wr.heap.size+1) (by simp);have I:=Z.trans (am.mono Z.size);have H:=hg.mono I;clear c0 c1 c2 c3 c4 c5 c6 c7 c8 c9 g1 br am
   by_cases h0:aO E k (E k)=0
   ·obtain ⟨ad,ai,cd⟩:=mC h0
    obtain ⟨_,hna⟩:=mP ai;have ag:=(tU ((mM E k (E k)).trans h0)).2;have an:=aK af;have g1:=H.g1
    go_wp2_with fail
    refine (IT _ H.mp (by omega) (Y.below I).ha).mono ?_;rintro e w2 ⟨O,U⟩
    obtain ⟨v9,rfl,J⟩:∃ v,e=.returned (.tuple #[v,.bool true])/\mV w2 w1.heap.size v (E k).na (fun i=>aL E k ((E k).Av i)):=by
     rcases U with ⟨_,v,he,ho⟩|⟨hf,_⟩
     ·exact ⟨v,he,ho⟩
     rw [ag] at hf;cases hf
    obtain ⟨a9,c9,rfl,_⟩:=J.sl;obtain ⟨R,ak,ax⟩:=u.below I;have bv:He (Below w1.heap.size w1 w2):=O;have bp:He (mV w2 w1.heap.size (.slice a9 (qN E k) c9) (qN E k) (rP E k)):=J;have HR:He (_):=ax;have a3:He (w.heap.size+1+1+1+1<=w1.heap.size):=by have:=H.size;exact this
    have ab:=H.mono O;have ba:=I.trans (O.mono I.size);have ah:=af.trans (O.mono (by simpa using af.size));have cx:w2.cell? ⟨w.heap.size+1+1+1,2,none⟩=some (.slice ra k rc):=(ba.cell (by exact gz)).trans q1;have bu:=wF ak O;have a2:=World.ownsRow.lt (u.choose_spec.1);have bg:He (∀ q,(Value.slice ra k rc).ownBlock=some q->q<w1.heap.size):=fun q hq=>(World.ownsRow.lt ak q hq).2
    have bh:wr.heap.size<w2.heap.size:=by have:=ah.size;simp at this;omega
    clear an g1 H O U q1 hg af ax J ak u ag;have an:=aK ah;have g1:=ab.g1;have gf:=ab.gf;have bn:k+1<=maxLen:=by unfold maxLen;omega
    have b2:(k+1) * 24<=140737488355328:=by omega
    have b4:∀ o,w.heap.size+1+1+1+1<=(w2.alloc o).heap.size:=fun o=>by have:=ab.size;simp;omega
    have bm:k<maxLen:=by unfold maxLen;omega
    have b8:(Lit.int .i64 (k:Int)).wf=true:=WalkArith.wf_i64 (by omega);have hkey:keyOf prog 9 (.string (E k).id)=some (.string (E k).id.data.toList):=Go.WideMaps.keyOf_string_mk underlying9 Y.hid;have ay:He (aF E (k+1)=true):=by unfold He;rw [aF,bc.o,h0];rfl
    have hid:=an 0
    go_wp2_with (first
     | (at_builtin;refine wpList_append_lies _ rfl _ _ 47 rfl (w.heap.size+1+1+1+1) 98 i0 (.slice none 0 0) 1 24 underlying47 hi bw bo bx rfl (by decide) _ _ _ rfl (World.ownsRow.alloc bu _) ⟨w2.heap.size,0,none⟩ 1 1 [.slice a9 (E k).na c9] rfl rfl (tX _ _ _) (jT _ ⟨_,_,_,rfl⟩) (by decide) bn b2 (b4 _) (w2.heap.size+1) (by simp) ?_;intro gg vc w3 ao N au cf;obtain ⟨bi,ae,e1⟩:=XB ab N a2 bh gz hid (.slice (some ⟨gg,0,none⟩) (k+1) vc);have k1:=ae.g1;have cj:=bi.gf;obtain ⟨b9,a6⟩:=bi.g2;obtain ⟨D,hD,hK⟩:=ae.mp)
     | (at_mapUpdate;refine wpList_mapUpdate_own _ rfl _ _ _ 46 rfl 9 3 pQ underlying46 _ (w.heap.size+1+1) k D rfl hD bm _ _ _ rfl rfl hkey _ [] (plainElem_int underlying3 b8) ?_;intro w5 ap G))
    go_roundw
    case rel =>
     have aq:eV w3 (w.heap.size+1+1+1+1) (.slice (some ⟨gg,0,none⟩) (k+1) vc) (k+1) (qN E) (rP E):=eV.snoc bv.o a3.o bp.o R HR.o bg.o ao N au;refine ⟨k+1,by omega,by go_num,ay,ae.put G ((JU hD.isMap ap hK).congr (BI E k) (fun s hs=>KR E k s ad hs)),.slice (some ⟨gg,0,none⟩) (k+1) vc,?_,eV.kept (eV.kept aq (w':=w3.setCell ⟨w.heap.size+1+1+1,2,none⟩ (.slice (some ⟨gg,0,none⟩) (k+1) vc)) (by simp [World.setCell]) (fun g hg _=>RowKit.Below.heap_setCell _ _ _ _ (by show g≠w.heap.size+1+1+1;omega))) G.size (fun g hg hl=>G.block g hl (fun e=>by injection e;omega))⟩;rw [World.cell?_of_block (G.block _ ae.size (fun e=>by injection e with e;have e':w.heap.size+1+1+1=w.heap.size+1+1:=e;omega))];exact aZ ⟨b9,a6⟩
    simp [intOf];omega
   have cy:(aO E k (E k) != 0)=true:=by simpa using h0
   have hv:He (false=aF E n):=(qI E n k a4 (by rw [aF];simp [h0])).symm;obtain ⟨x0,y0⟩:=H.r1 0 (by decide);obtain ⟨x1,y1⟩:=H.r1 1 (by decide);obtain ⟨x2,y2⟩:=H.r1 2 (by decide);have f1:=H.f1;have aj:=H.below;go_wp2
   refine bodyPost_ret (v:=.tuple #[.agg #[.slice none 0 0,.map none,.slice none 0 0],.bool false]) (by simp [results,results17,go_sem,y0,y1,y2]) rfl ⟨?_,Or.inr ⟨hv.o.symm,rfl⟩⟩
   iterate 3 (refine Below.setCell ?_ (show _<=w.heap.size+1 from Nat.le_succ _) _)
   exact aj
  have bz:k=n:=by omega
  subst bz;have hv:He (true=aF E k):=bc.o.symm;have g0:=hg.g0;have g1:=hg.g1;obtain ⟨x0,y0⟩:=hg.r1 0 (by decide);obtain ⟨x1,y1⟩:=hg.r1 1 (by decide);obtain ⟨x2,y2⟩:=hg.r1 2 (by decide);have f1:=hg.f1;have aj:=hg.below;have b0:=hg.mp;have Hr:He (eV wr (w.heap.size+1+1+1+1) (.slice ra k rc) k (qN E) (rP E)):=u;clear u;go_wp2
  refine bodyPost_ret (v:=.tuple #[.agg #[.slice (some ⟨b,off,none⟩) k cap,.map (some (w.heap.size+1+1)),.slice ra k rc],.bool true]) (by simp [results,results17,go_sem,y0,y1,y2]) rfl ⟨?_,Or.inl ⟨hv.o.symm,_,_,_,rfl,?_,?_⟩⟩
  ·iterate 3 (refine Below.setCell ?_ (show _<=w.heap.size+1 from Nat.le_succ _) _)
   exact aj
  ·iterate 3 (refine cY.set ?_ (by omega) _)
   exact b0
  have hK:∀ {wz:World} {j:Nat} {x:Value},eV wz (w.heap.size+1+1+1+1) (.slice ra k rc) k (qN E) (rP E)->eV (wz.setCell ⟨w.heap.size+1,j,none⟩ x) (w.heap.size+1+1+1+1) (.slice ra k rc) k (qN E) (rP E):=fun h=>h.kept (by simp [World.setCell]) (fun g hg _=>RowKit.Below.heap_setCell _ _ _ _ (by show g≠w.heap.size+1;omega))
  obtain ⟨a8,c8,e8,h8⟩:=(hK (hK (hK Hr.o))).plain.sl;injection e8 with e8 _ e9
  subst e8 e9;exact h8
theorem CU (a:Option Addr)(cap:Nat)(E:Nat->Ev)(w:World) :
  Calls prog 17 #[.agg #[.slice a 0 cap]] w (CX w E a 0 cap true):=by
 have u:=@run_makeMap prog
 go_enter func17,ntmps17
 go_wp2
 clear u;refine wp_loop_rounds 1 ?_;rw [rounds_succ];go_wp2
 refine bodyPost_ret (v:=.tuple #[.agg #[.slice a 0 cap,.map (some (w.heap.size+1+1)),.slice none 0 0],.bool true]) (by simp [results,results17,go_sem]) rfl ⟨?_,Or.inl ⟨rfl,_,_,_,rfl,?_,⟨nL,by decide,Or.inl rfl⟩⟩⟩
 case refine_2=>exact (GB.start w E _ _ _ _ _ _ rfl).mp
 repeat' (first|exact kB|exact nL|(refine Below.alloc ?_ ?_ _)|(simp;done)|(simp;omega))
theorem zA (w:World)(h:dW w a n cap E) :
  Calls prog 17 #[.agg #[.slice a n cap]] w (CX w E a n cap (aF E n)):=by
 rcases h.cells with rfl|⟨b,off,rfl,hb,u⟩
 ·exact CU a cap E w
 exact KN b off n cap E w h hb u
end Go.Proofs.YtpfeegcdlikegaaGreat
namespace Go.Proofs.YtpfeegcdlikegaaGreat
open Go.RowKit Go.Proofs.Tryz
variable {E:Nat->Ev}{i k n p:Nat}{Kn:ByteArray->Bool}{S:Nat->ByteArray}
theorem jP (E:Nat->Ev):∀ n k,k<n->aF E n=true->aO E k (E k)=0
 | 0,_,h,_=>absurd h (Nat.not_lt_zero _)
 | n+1,k,h,e=>by
  unfold aF at e;rw [Bool.and_eq_true] at e
  by_cases u:k=n
  ·subst u;exact of_decide_eq_true e.2
  exact jP E n k (by omega) e.1
theorem dJ (h:aF E n=true):n<=300:=by
 rcases Nat.eq_zero_or_pos n with u|u
 ·omega
 have:=(mC (jP E n (n - 1) (by omega) h)).2.2;omega
theorem zE {E:Nat->Ev}{s:ByteArray}:∀ n,aL E n s<0->∀ i,i<n->((E i).id.toList == s.toList)=false
 | 0,_,i,hi=>absurd hi (Nat.not_lt_zero _)
 | n+1,h,i,hi=>by
  rw [jO] at h
  by_cases u:0<=aL E n s
  ·rw [if_pos u] at h;omega
  rw [if_neg u] at h
  by_cases e:i=n
  ·subst e
   cases hb:((E i).id.toList == s.toList)
   ·rfl
   rw [hb,if_pos rfl] at h;omega
  exact zE n (by omega) i (by omega)
theorem dU (E:Nat->Ev)(s:ByteArray):∀ n,0<=aL E n s->∃ i,i<n/\aL E n s=(i:Int)/\((E i).id.toList == s.toList)=true
 | 0,h=>by simp [aL] at h
 | n+1,h=>by
  rw [jO] at h ⊢
  by_cases u:0<=aL E n s
  ·rw [if_pos u]
   obtain ⟨i,hi,e,hb⟩:=dU E s n u;exact ⟨i,by omega,e,hb⟩
  rw [if_neg u] at h ⊢;cases hb:((E n).id.toList == s.toList)
  ·rw [hb] at h;simp at h
  exact ⟨n,by omega,by simp,hb⟩
theorem aP (h:aF E n=true)(hi:i<n):aL E n (E i).id=(i:Int) :=
 zZ E _ n i hi (zE i (mC (jP E n i hi h)).1) (by simp)
theorem AE (u:k<n)(h:bW Kn S n=true):Kn (S k)=true:=by
 cases hb:Kn (S k)
 ·rw [rT Kn S n k u hb] at h;cases h
 rfl
theorem pZ (h:aF E n=true)(G:k<n)(hp:p<(E k).np):0<=aL E n ((E k).Pv p)/\aL E n ((E k).Pv p)<k:=by
 have H:=AE hp (tU ((mM E k (E k)).trans (jP E n k G h))).1;have u:0<=aL E k ((E k).Pv p):=by simpa [jV] using H
 rw [mD E _ k u n (by omega)];exact ⟨u,(cJ E _ k).2⟩
theorem vY (h:aF E n=true)(G:k<n)(hp:p<(E k).na):0<=aL E n ((E k).Av p)/\aL E n ((E k).Av p)<k/\aL E k ((E k).Av p)=aL E n ((E k).Av p):=by
 have H:=AE hp (tU ((mM E k (E k)).trans (jP E n k G h))).2;have u:0<=aL E k ((E k).Av p):=by simpa [jV] using H
 rw [mD E _ k u n (by omega)];exact ⟨u,(cJ E _ k).2,rfl⟩
variable {j m:Nat}
inductive Chn (E:Nat->Ev) (n:Nat) (S:Nat->ByteArray) (m:Nat):ByteArray->Prop
 | base {i k p:Nat}:i<m->p<n->(E p).id=S i->k<(E p).na->Chn E n S m ((E p).Av k)
 | step {s:ByteArray} {k p:Nat}:Chn E n S m s->p<n->(E p).id=s->k<(E p).na->Chn E n S m ((E p).Av k)
theorem GD (h:aF E n=true)(hp:p<n)(G:k<(E p).na)(e:aL E n ((E p).Av k)=(j:Int)):j<p/\(E j).id=(E p).Av k:=by
 obtain ⟨u,H,_⟩:=vY h hp G;obtain ⟨i,hi,I,hb⟩:=dU E ((E p).Av k) n u
 have:i=j:=by omega
 subst this;exact ⟨by omega,bC hb⟩
theorem cZ (h:aF E n=true)(hp:p<n)(G:k<(E p).na):∃ j,j<p/\aL E n ((E p).Av k)=(j:Int)/\(E j).id=(E p).Av k:=by
 obtain ⟨u,I,_⟩:=vY h hp G;obtain ⟨i,hi,H,hb⟩:=dU E ((E p).Av k) n u;exact ⟨i,by omega,H,bC hb⟩
theorem sM (h:aF E n=true){s:ByteArray}(G:Chn E n S m s):∃ j,j<n/\(E j).id=s:=by
 cases G with
 | base hi hp e hk=>obtain ⟨j,H,_,u⟩:=cZ h hp hk;exact ⟨j,by omega,u⟩
 | step _ hp e hk=>obtain ⟨j,H,_,u⟩:=cZ h hp hk;exact ⟨j,by omega,u⟩
def zN (l:List ByteArray)(x:ByteArray):List ByteArray:=if bD (aG l) l.length x then l else l ++ [x]
theorem ZB (l:List ByteArray)(x:ByteArray):bD (aG l) l.length x=true↔x ∈ l:=by
 have:=jK l x l.length nL;rw [List.take_length] at this;exact this
def bI (l:List ByteArray)(A:Nat->ByteArray):Nat->List ByteArray
 | 0=>l
 | k+1=>zN (bI l A k) (A k)
theorem PQ (l:List ByteArray)(x s:ByteArray):s ∈ zN l x↔s ∈ l\/s=x:=by
 unfold zN;split
 ·rename_i h
  exact ⟨Or.inl,fun u=>u.elim id fun e=>e ▸ (ZB l x).1 h⟩
 simp
theorem mL (l:List ByteArray)(A:Nat->ByteArray)(s:ByteArray):∀ k,s ∈ bI l A k↔s ∈ l\/∃ q,q<k/\A q=s
 | 0=>by simp [bI]
 | k+1=>by
  rw [bI,PQ,mL l A s k];constructor
  ·rintro ((h|⟨q,hq,e⟩)|rfl)
   ·exact Or.inl h
   ·exact Or.inr ⟨q,by omega,e⟩
   exact Or.inr ⟨k,by omega,rfl⟩
  rintro (h|⟨q,hq,e⟩)
  ·exact Or.inl (Or.inl h)
  by_cases h:q=k
  ·subst h;exact Or.inr e.symm
  exact Or.inl (Or.inr ⟨q,by omega,e⟩)
theorem DZ {l:List ByteArray}(h:l.Nodup)(x:ByteArray):(zN l x).Nodup:=by
 unfold zN;split
 ·exact h
 rename_i hx;refine List.nodup_append.2 ⟨h,by simp,fun a ha b hb=>?_⟩;rw [List.mem_singleton] at hb;subst hb;rintro rfl;exact hx ((ZB l _).2 ha)
theorem lI {l:List ByteArray}(h:l.Nodup)(A:Nat->ByteArray):∀ k,(bI l A k).Nodup
 | 0=>h
 | k+1=>DZ (lI h A k) _
theorem qL (l:List ByteArray)(A:Nat->ByteArray):∀ k,∃ r,bI l A k=l ++ r
 | 0=>⟨[],by simp [bI]⟩
 | k+1=>by
  obtain ⟨r,e⟩:=qL l A k;rw [bI,e];unfold zN;split
  ·exact ⟨r,rfl⟩
  exact ⟨r ++ [A k],by simp⟩
structure QY (E:Nat->Ev)(n:Nat)(S:Nat->ByteArray)(m:Nat)(P:ByteArray->Prop)(l:List ByteArray):Prop where
 nodup:l.Nodup
 sound:∀ s,s ∈ l->Chn E n S m s
 closed:∀ p,p<n->P (E p).id->∀ k,k<(E p).na->(E p).Av k ∈ l
theorem gO {l:List ByteArray}(h:aF E n=true)(O:l.Nodup)(u:∀ s,s ∈ l->∃ j,j<n/\(E j).id=s):l.length<=n:=by
 have N:(l.map fun s=>(aL E n s).toNat).Nodup:=by
  refine List.pairwise_map.2 (List.Pairwise.imp_of_mem (R:=fun a b=>a≠b) (fun {a b} ha hb H e=>H ?_) O);obtain ⟨i,hi,rfl⟩:=u a ha;obtain ⟨j,J,rfl⟩:=u b hb;rw [aP h hi,aP h J] at e
  have:i=j:=by simpa using e
  rw [this]
 have:=List.Nodup.length_le_of_subset (l₂:=List.range n) N (fun x I=>by
  obtain ⟨s,G,rfl⟩:=List.mem_map.1 I;obtain ⟨i,hi,rfl⟩:=u s G;rw [aP h hi];exact List.mem_range.2 (by simpa using hi))
 simpa using this
theorem QY.add {P J:ByteArray->Prop}{l:List ByteArray}(h:QY E n S m P l)(hr:aF E n=true)(hp:p<n)(U:∀ k,k<(E p).na->Chn E n S m ((E p).Av k))(Y:∀ s,J s->P s\/s=(E p).id):QY E n S m J (bI l (E p).Av (E p).na):=by
 refine ⟨lI h.nodup _ _,fun s N=>?_,fun H u hq k I=>?_⟩
 ·rcases (mL _ _ _ _).1 N with G|⟨q,hq,rfl⟩
  ·exact h.sound s G
  exact U q hq
 rw [mL];rcases Y _ hq with G|G
 ·exact Or.inl (h.closed H u G k I)
 have O:=aP hr u;have Z:=aP hr hp;rw [G] at O
 have:p=H:=by omega
 subst this;exact Or.inr ⟨k,I,rfl⟩
theorem QY.addLen {P:ByteArray->Prop}{l:List ByteArray}(h:QY E n S m P l)(hr:aF E n=true)(hp:p<n)(H:k<=(E p).na):(bI l (E p).Av k).length<=n :=
 gO hr (lI h.nodup _ _) fun s u=>by
  rcases (mL _ _ _ _).1 u with G|⟨q,hq,rfl⟩
  ·exact sM hr (h.sound s G)
  obtain ⟨j,I,_,e⟩:=cZ hr hp (show q<(E p).na by omega);exact ⟨j,by omega,e⟩
theorem QY.mem {l:List ByteArray}(h:QY E n S m (fun s=>(∃ i,i<m/\S i=s)\/∃ i,i<l.length/\aG l i=s) l)(s:ByteArray):s ∈ l↔Chn E n S m s:=by
 refine ⟨h.sound s,fun u=>?_⟩
 induction u with
 | base hi hp e hk=>exact h.closed _ hp (Or.inl ⟨_,hi,e.symm⟩) _ hk
 | step _ hp e hk ih =>
  obtain ⟨i,hi,G⟩:=dO ih;exact h.closed _ hp (Or.inr ⟨i,hi,G.trans e.symm⟩) _ hk
variable {base base':Nat}{e:Ev}{w:World}{v:Value}
def hZ (E:Nat->Ev)(n:Nat)(P:Ev->Bool)(e:Ev):Nat->Int
 | 0=>-1
 | j+1=>if 0<=hZ E n P e j then hZ E n P e j else if P (E (aL E n (e.Av j)).toNat) then aL E n (e.Av j) else -1
theorem qM {E:Nat->Ev}{n:Nat}{P:Ev->Bool}{e:Ev}:∀ j,(∀ i,i<j->P (E (aL E n (e.Av i)).toNat)=false)->hZ E n P e j=-1
 | 0,_=>rfl
 | j+1,h=>by
  rw [hZ,qM j (fun i hi=>h i (by omega)),if_neg (by omega),h j (by omega)];simp
theorem vG {E : Nat -> Ev} {n : Nat} {P : Ev -> Bool} {e : Ev} (k : Nat) (u : 0 <= hZ E n P e k) : ∀ j, k <= j -> hZ E n P e j = hZ E n P e k
  | 0, h => by have : k = 0 := by omega
               subst this; rfl
  | j + 1, h => by
    by_cases G : k = j + 1
    · subst G; rfl
    · have := vG k u j (by omega)
      rw [hZ, this, if_pos u]
theorem OJ {P:Ev->Bool}(I:k<j)(G:∀ i,i<k->P (E (aL E n (e.Av i)).toNat)=false)(hp:aL E n (e.Av k)=(p:Int))(H:P (E p)=true):hZ E n P e j=(p:Int):=by
 have u:hZ E n P e (k+1)=(p:Int):=by rw [hZ,qM k G,if_neg (by omega),hp,Int.toNat_natCast,H];simp
 rw [vG (k+1) (by omega) j (by omega),u]
theorem wC (E:Nat->Ev)(n:Nat)(P:Ev->Bool)(e:Ev):∀ j,hZ E n P e j=-1\/∃ i,i<j/\hZ E n P e j=aL E n (e.Av i)/\P (E (aL E n (e.Av i)).toNat)=true/\(0<=aL E n (e.Av i)\/hZ E n P e j<0)
 | 0=>Or.inl rfl
 | j+1=>by
  rw [hZ]
  by_cases u:0<=hZ E n P e j
  ·rw [if_pos u]
   rcases wC E n P e j with h|⟨i,hi,r⟩
   ·omega
   exact Or.inr ⟨i,by omega,r⟩
  rw [if_neg u];cases hP:P (E (aL E n (e.Av j)).toNat)
  ·exact Or.inl (by simp)
  refine Or.inr ⟨j,by omega,by simp,hP,?_⟩;rw [if_pos rfl];omega
theorem xP {P:Ev->Bool}(h:aF E n=true)(hp:p<n):hZ E n P (E p) (E p).na=-1\/∃ q,q<p/\hZ E n P (E p) (E p).na=(q:Int)/\P (E q)=true:=by
 rcases wC E n P (E p) (E p).na with H|⟨i,hi,e,G,_⟩
 ·exact Or.inl H
 obtain ⟨j,I,u,_⟩:=cZ h hp hi;refine Or.inr ⟨j,I,e.trans u,?_⟩;rw [u,Int.toNat_natCast] at G;exact G
theorem sI {E:Nat->Ev}{n p:Nat}{P Q:Ev->Bool}(h:aF E n=true)(hp:p<n)(u:∀ i,i<n->P (E i)=Q (E i)):∀ j,j<=(E p).na->hZ E n P (E p) j=hZ E n Q (E p) j
 | 0,_=>rfl
 | j+1,hj=>by
  rw [hZ,hZ,sI h hp u j (by omega)];obtain ⟨i,hi,e,_⟩:=cZ h hp (show j<(E p).na by omega);rw [e,Int.toNat_natCast,u i (by omega)]
def aT (e:Ev):Bool:=e.ty.toList == [112,111,119,101,114]
def pI (E:Nat->Ev)(n p:Nat):Int:=hZ E n aT (E p) (E p).na
theorem kU (h:aF E n=true)(hp:p<n):-1<=pI E n p/\pI E n p<p:=by
 rcases xP (P:=aT) h hp with u|⟨q,hq,e,_⟩
 ·unfold pI;omega
 unfold pI;omega
def GW (E:Nat->Ev)(n:Nat):Nat->Int->List Nat
 | 0,_=>[]
 | f+1,q=>if q<0 then [] else q.toNat :: GW E n f (pI E n q.toNat)
theorem yB (E:Nat->Ev)(n:Nat){q:Int}(hq:q<0):∀ f,GW E n f q=[]
 | 0=>rfl
 | f+1=>by rw [GW,if_pos hq]
theorem AN {E:Nat->Ev}{n:Nat}(h:aF E n=true):∀ (f u:Nat) (q:Int),q<f->q<n->f<=u->GW E n u q=GW E n f q
 | 0,u,q,hq,_,_=>by rw [yB E n (by omega),yB E n (by omega)]
 | f+1,0,q,_,_,hf=>by omega
 | f+1,u+1,q,hq,hn,hf=>by
  rw [GW,GW]
  by_cases G:q<0
  ·rw [if_pos G,if_pos G]
  rw [if_neg G,if_neg G]
  have:=kU h (show q.toNat<n by omega);rw [AN h f u _ (by omega) (by omega) (by omega)]
theorem GO (E:Nat->Ev)(n:Nat):∀ (f:Nat) (q:Int),(GW E n f q).length<=f
 | 0,_=>nL
 | f+1,q=>by
  rw [GW];split
  ·simp
  have:=GO E n f (pI E n q.toNat);simp;exact this
theorem IV {E:Nat->Ev}{n:Nat}(h:aF E n=true):∀ (f:Nat) (q:Int),q<n->∀ i ∈ GW E n f q,i<n
 | 0,_,_,i,hi=>by simp [GW] at hi
 | f+1,q,hq,i,hi=>by
  rw [GW] at hi
  by_cases u:q<0
  ·rw [if_pos u] at hi;cases hi
  rw [if_neg u] at hi;rcases List.mem_cons.1 hi with rfl|hi
  ·omega
  exact IV h f _ (by have:=kU h (show q.toNat<n by omega);omega) i hi
def ln (E:Nat->Ev)(n:Nat)(q:Int):List Nat:=GW E n n q
theorem WL (E:Nat->Ev)(n:Nat){q:Int}(hq:q<0):ln E n q=[]:=yB E n hq n
theorem NN (E:Nat->Ev)(n:Nat)(q:Int):(ln E n q).length<=n:=GO E n n q
theorem VK (h:aF E n=true){q:Int}(hq:q<n):∀ i ∈ ln E n q,i<n:=IV h n q hq
theorem TU (h:aF E n=true)(hp:p<n):ln E n (p:Int)=p :: ln E n (pI E n p):=by
 obtain ⟨m,rfl⟩:∃ m,n=m+1:=⟨n - 1,by omega⟩;have hb:=kU h hp;unfold ln;rw [AN h m (m+1) (pI E (m+1) p) (by omega) (by omega) (by omega),GW,if_neg (by omega),Int.toNat_natCast]
def lX (l:List Nat)(k:Nat):Int:=((l.getD k 0:Nat):Int)
theorem aa0 {l:List Nat}{r:List Nat}(h:l.drop k=p :: r):lX l k=(p:Int)/\l.drop (k+1)=r/\k<l.length:=by
 have u:l[k]?=some p:=by
  have:(l.drop k)[0]?=some p:=by rw [h];rfl
  simpa using this
 refine ⟨by simp [lX,List.getD,u],?_,?_⟩
 ·rw [<- List.drop_drop,h];rfl
 rcases Nat.lt_or_ge k l.length with G|G
 ·exact G
 rw [List.getElem?_eq_none G] at u;cases u
theorem XP {l:List Nat}(h:l.drop k=[])(u:k<=l.length):k=l.length:=by
 have:=List.drop_eq_nil_iff.1 h;omega
theorem aj0 {l:List Nat}(h:∀ i ∈ l,i<n)(u:k<l.length):∃ p,p<n/\lX l k=(p:Int):=by
 refine ⟨l[k],h _ (List.getElem_mem u),?_⟩;simp [lX,List.getD,List.getElem?_eq_getElem u]
theorem BQ (h:e.code=0):e.id.toList.isEmpty=false:=by
 unfold Ev.code bF at h;split at h
 ·cases h
 rename_i h1
 have u:cU e.id=true:=by
  cases hq:cU e.id
  ·exact absurd (Or.inl hq) h1
  rfl
 unfold cU at u;simp only [Bool.and_eq_true,decide_eq_true_eq] at u;cases hq:e.id.toList.isEmpty
 ·rfl
 have G:e.id.toList=[]:=by simpa using hq
 have:e.id.size=0:=by rw [qJ,G];rfl
 omega
theorem WY (h:e.code=0)(H:aT e=true):e.st=true/\e.key.toList.isEmpty=true:=by
 unfold aT at H;unfold Ev.code bF at h;split at h
 ·cases h
 split at h
 ·cases h
 split at h
 ·cases h
 split at h
 ·cases h
 split at h
 ·cases h
 rename_i h5
 have u:kT e.ty e.key e.val e.st e.np e.na e.ng e.M e.L=true:=by
  cases hq:kT e.ty e.key e.val e.st e.np e.na e.ng e.M e.L
  ·exact absurd hq h5
  rfl
 have G:e.ty.toList=[112,111,119,101,114]:=by simpa using H
 unfold kT at u;rw [G] at u;have N:(([112,111,119,101,114]:List UInt8) == [99,114,101,97,116,101])=false:=by decide
 have I:(([112,111,119,101,114]:List UInt8) == [109,101,109,98,101,114])=false:=by decide
 have J:(([112,111,119,101,114]:List UInt8) == [106,111,105,110,95,114,117,108,101,115])=false:=by decide
 rw [N,I,J] at u;simp at u;exact ⟨u.1.1.1,by simp [u.1.1.2]⟩
theorem cL (h:aF E n=true)(hi:i<n):(E i).code=0:=(mC (jP E n i hi h)).2.1
theorem kV {s:ByteArray}(h:aF E n=true)(G:s.toList.isEmpty=true):aL E n s=-1 :=
 mO E s n fun i hi=>by
  have u:=BQ (cL h hi);have H:s.toList=[]:=by simpa using G
  rw [H];cases hq:(E i).id.toList
  ·rw [hq] at u;cases u
  rfl
theorem bU.mono (h:bU w base v n S)(hb:base'<=base):bU w base' v n S:=by
 obtain ⟨G,H⟩:=h;exact ⟨G,H.imp id fun ⟨g,cap,u,e,hg,r⟩=>⟨g,cap,u,e,nZ hb hg,r⟩⟩
end Go.Proofs.YtpfeegcdlikegaaGreat
