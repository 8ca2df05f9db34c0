import Derived.Test.YtkdalopokdhndaaGreatGrFZ
import Derived.Laws.EntriesVeiled
set_option maxHeartbeats 16000000
set_option maxRecDepth 100000
namespace Go.Proofs.YtkdalopokdhndaaGreat
open Go.RowKit
variable {w w2 w4 wx:World}{c m n bg bw dc hb lo rc cap base:Nat}{a ra:Option Addr}{E:Nat->Ev}{v:Value}{S:Nat->ByteArray}
theorem cellLt {o:Nat}{x:Value}(h:w.cell? ⟨c,o,none⟩=some x):c<w.heap.size:=World.block_lt_of_cell? w ⟨c,o,none⟩ h
def AuP (W:World)(E:Nat->Ev)(n:Nat)(e:Ending)(w':World):Prop:=∃ da dc,e=.returned (.slice da n dc)∧(n=0∨∃ db,da=some ⟨db,0,none⟩∧W.heap.size<=db∧db<w'.heap.size∧∀ p,p<n->w'.cell? ⟨db,0+p,none⟩=some (.int .i64 (auV E n p)))∧Below W.heap.size W w'
def DbAt (W:World)(E:Nat->Ev)(n lo hb:Nat)(da:Option Addr):Prop:=n=0∨∃ db,da=some ⟨db,0,none⟩∧lo<=db∧db<W.heap.size∧db≠hb∧∀ p,p<n->W.cell? ⟨db,0+p,none⟩=some (.int .i64 (auV E n p))
theorem hp_cut {da:Option Addr}{bt:Nat}(hr:roomTo E n=true)(hbt:bt<w2.heap.size)(hE:SlV w2 a n cap E)(hne:∀ b off,a=some ⟨b,off,none⟩->0<n->b≠bt)(h2x:Below w2.heap.size w2 wx)
  (l0:w2.heap.size<=hb) (l1:hb<wx.heap.size) (c0:wx.cell? ⟨hb,0,none⟩=some (.slice none 0 0)) (c1:wx.cell? ⟨hb,1,none⟩=some (gfV bg bw)) (cf:∀ o,wx.frozen? ⟨hb,o,none⟩=false)
  (g0:w2.heap.size<=bg) (g1:bg≠hb) (g2:wx.cell? ⟨bg,0,none⟩=some (.slice a n cap)) (b0:w2.heap.size<=bw) (b1:bw≠hb) (b2:wx.cell? ⟨bw,0,none⟩=some (.slice da n dc)) (hd:DbAt wx E n w2.heap.size hb da) :
  HpCut w2 E n bt (.pointer (some ⟨hb,0,none⟩)) wx:=by
 refine ⟨hb,bg,bw,rfl,l0,l1,c0,c1,cf,fun W base hB hK=>?_,h2x⟩;refine cmp_ok (a:=a) (cap:=cap) (dc:=dc) (db:=match da with|some x=>x.block|none=>0) hr hB hK fun hn=>?_
 rcases hE.cells with h0|⟨b,off,rfl,hb',hc⟩
 ·omega
 rcases hd with h0|⟨db,rfl,d0,d1,d2,d3⟩
 ·omega
 have hcx:∀ o x,w2.cell? ⟨b,o,none⟩=some x->wx.cell? ⟨b,o,none⟩=some x:=fun o x h=>(h2x.cell (by exact hb')).trans h
 have hsz:=h2x.size;refine ⟨b,off,rfl,⟨g2,b2,fun p hp=>?_,fun p hp=>?_,d3⟩,cellLt g2,cellLt b2,by omega,d1,by omega,by omega,hne b off rfl hn,by show db≠bt;omega,g1,b1,by omega,d2⟩
 ·obtain ⟨_,_,_,_,_,_,hec,_⟩:=hc p hp
  exact hcx _ _ hec.c0
 obtain ⟨_,_,_,_,_,_,hec,_⟩:=hc p hp;exact hcx _ _ hec.c5
theorem leaf_a {da:Option Addr}{bt:Nat}(hr:roomTo E n=true)(hbt:bt<w2.heap.size)(hE:SlV w2 a n cap E)(hne:∀ b off,a=some ⟨b,off,none⟩->0<n->b≠bt)(h24:Below w2.heap.size w2 w4)
  (g0:w2.heap.size<=bg) (g2:w4.cell? ⟨bg,0,none⟩=some (.slice a n cap)) (b0:w2.heap.size<=bw) (b2:w4.cell? ⟨bw,0,none⟩=some (.slice da n dc)) (hd:DbAt w4 E n w2.heap.size w4.heap.size da) :
  HpCut w2 E n bt (.pointer (some ⟨w4.heap.size,0,none⟩)) (w4.alloc (.cells #[.slice none 0 0,.func (.func 175) #[] #[.pointer (some ⟨bg,0,none⟩),.pointer (some ⟨bw,0,none⟩)]] 157)):=by
 have hA:Below w4.heap.size w4 (w4.alloc (.cells #[.slice none 0 0,.func (.func 175) #[] #[.pointer (some ⟨bg,0,none⟩),.pointer (some ⟨bw,0,none⟩)]] 157)):=bA;have l1:=cellLt g2;have l2:=cellLt b2;have hl1:bg<w4.heap.size:=l1;have hl2:bw<w4.heap.size:=l2;refine hp_cut hr hbt hE hne (h24.trans (hA.mono h24.size)) h24.size (by simp) (kA rfl) (kA rfl) (fun o=>kF rfl) g0 (by omega) ((hA.cell (by exact l1)).trans g2) b0 (by omega) ((hA.cell (by exact l2)).trans b2) ?_;rcases hd with h0|⟨db,e,d0,d1,d2,d3⟩
 ·exact Or.inl h0
 exact Or.inr ⟨db,e,d0,by simp;omega,d2,fun p hp=>(hA.cell (by exact d1)).trans (d3 p hp)⟩
theorem leaf_b {da:Option Addr}{bt:Nat}{z0 z1:Value}(hr:roomTo E n=true)(hbt:bt<w2.heap.size)(hE:SlV w2 a n cap E)(hne:∀ b off,a=some ⟨b,off,none⟩->0<n->b≠bt)(h24:Below w2.heap.size w2 w4)
  (l0:w2.heap.size<=hb) (y0:w4.cell? ⟨hb,0,none⟩=some z0) (y1:w4.cell? ⟨hb,1,none⟩=some z1) (yf:∀ o,w4.frozen? ⟨hb,o,none⟩=false)
  (g0:w2.heap.size<=bg) (g1:bg≠hb) (g2:w4.cell? ⟨bg,0,none⟩=some (.slice a n cap)) (b0:w2.heap.size<=bw) (b1:bw≠hb) (b2:w4.cell? ⟨bw,0,none⟩=some (.slice da n dc)) (hd:DbAt w4 E n w2.heap.size hb da) :
  HpCut w2 E n bt (.pointer (some ⟨hb,0,none⟩)) ((w4.setCell ⟨hb,0,none⟩ (.slice none 0 0)).setCell ⟨hb,1,none⟩ (.func (.func 175) #[] #[.pointer (some ⟨bg,0,none⟩),.pointer (some ⟨bw,0,none⟩)])):=by
 have hK:Kp (fun b=>b=hb) w4 ((w4.setCell ⟨hb,0,none⟩ (.slice none 0 0)).setCell ⟨hb,1,none⟩ (.func (.func 175) #[] #[.pointer (some ⟨bg,0,none⟩),.pointer (some ⟨bw,0,none⟩)])):=((Kp.refl (fun b=>b=hb) w4).setCell rfl _).setCell rfl _;have hl:=cellLt y0;refine hp_cut hr hbt hE hne ((h24.setCell l0 _).setCell l0 _) l0 (nT hl hK.size) ((set_far (by decide)).trans (set_same ⟨_,y0⟩)) (set_same ⟨_,(set_far (by decide)).trans y1⟩) (fun o=>by rw [World.frozen?_setCell,World.frozen?_setCell];exact yf o) g0 g1 ((hK.cell (p:=⟨bg,0,none⟩) (cellLt g2) g1).trans g2) b0 b1 ((hK.cell (p:=⟨bw,0,none⟩) (cellLt b2) b1).trans b2) ?_;rcases hd with h0|⟨db,e,d0,d1,d2,d3⟩
 ·exact Or.inl h0
 exact Or.inr ⟨db,e,d0,nT d1 hK.size,d2,fun p hp=>(hK.cell (p:=⟨db,0+p,none⟩) d1 d2).trans (d3 p hp)⟩
theorem db_mk {w3:World}{lo2:Nat}{da:Option Addr}(h:n=0∨∃ db,da=some ⟨db,0,none⟩∧lo<=db∧db<w3.heap.size∧∀ p,p<n->w3.cell? ⟨db,0+p,none⟩=some (.int .i64 (auV E n p)))(h34:Below w3.heap.size w3 w4)(hlo:lo2<=lo)(hne:∀ db,lo<=db->db<w3.heap.size->db≠hb):DbAt w4 E n lo2 hb da:=by
 rcases h with h0|⟨db,e,d0,d1,d2⟩
 ·exact Or.inl h0
 exact Or.inr ⟨db,e,nZ hlo d0,nT d1 h34.size,hne db d0 d1,fun p hp=>(h34.cell (p:=⟨db,0+p,none⟩) d1).trans (d2 p hp)⟩
def lenW:Value->Nat
 | .slice _ n _=>n
 | _=>0
theorem own_lenW {X:Nat->Int}(h:OwnI w base v n X):lenW v=n:=by
 rcases h.cells with ⟨rfl,rfl⟩|⟨_,_,rfl,_⟩ <;> rfl
def PwRel (w4:World)(E:Nat->Ev)(n:Nat)(TT:Nat->Prop)(bt hb bg bw:Nat)(uo:Value)(wr:World):Prop :=
 ∃ (o:List Nat) (v:Value) (len:Nat) (X:Nat->Nat) (Wt:Nat->Bool),OwnI wr w4.heap.size uo o.length (lX o)∧HpAt wr hb w4.heap.size bg bw v len X∧Hid (Heap E (auN E n) len X)∧Hid (InjX X len)∧Hid (∀ p,MemX X len p↔Cand E n TT o p)∧BlAt wr bt n Wt∧Hid (∀ p,p<n->(Wt p=true↔TT p∧p ∉ o))∧Hid (OrdP E n TT (auN E n) o)∧Hid (∀ g,v.ownBlock=some g->¬ uo.ownBlock=some g)∧Kp (fun b=>b=bt∨b=hb) w4 wr
def PcRel (w7:World)(base:Nat)(E:Nat->Ev)(n:Nat)(TT:Nat->Prop)(o:List Nat)(p:Nat)(Rp:List Nat)(Wt:Nat->Bool)(g hb bg bw:Nat)(i:Value)(wi:World):Prop :=
 ∃ (j:Nat) (v:Value) (len:Nat) (X:Nat->Nat),j<=Rp.length∧i=.int .i64 (j:Int)∧HpAt wi hb base bg bw v len X∧Hid (Heap E (auN E n) len X)∧Hid (InjX X len)∧Hid (∀ q,MemX X len q↔(Cand E n TT o q∧q≠p)∨(q ∈ Rp.take j∧∀ r,Rst E n q r->Wt r=false))∧Hid (∀ gg,v.ownBlock=some gg->gg=g∨w7.heap.size<=gg)∧Kp (fun b=>b=hb∨b=g) w7 wi
def GrBx (w:World)(a:Option Addr)(n cap m:Nat)(ra:Option Addr)(rc:Nat)(W:World):Prop:=W.cell? ⟨w.heap.size,0,none⟩=some (.slice a n cap)∧W.cell? ⟨w.heap.size,1,none⟩=some (.map (some m))∧W.cell? ⟨w.heap.size,2,none⟩=some (.slice ra n rc)
theorem pwI_sl {bm:Nat}{G:Nat->Bool}{sm:Nat}(w:World)(hroom:roomTo E n=true)(h:SlV w a n cap E)(hr:SlL w ra n rc (restN E) (restV E))(hM:BlAt w bm n G)(hG:∀ p,p<n->(G p=true↔gvP E n S sm p)) :
  Calls Tryz.prog 53 #[.agg #[.slice a n cap,.map (some m),.slice ra n rc],.slice (some ⟨bm,0,none⟩) n n] w fun e w'=>∃ v o,e=.returned v∧OwnI w' w.heap.size v o.length (lX o)∧PoOrd E n S sm o∧Below w.heap.size w w':=by
 obtain ⟨i0,hi,hz0,hz1,hz2⟩:=info_parts Tryz.infoIntO;have h300:=room_300 hroom;obtain ⟨wb,hwb⟩:∃ wb,wb=w.alloc (.cells #[.slice a n cap,.map (some m),.slice ra n rc] 62):=⟨_,rfl⟩;have hb0:Below w.heap.size w wb:=by rw [hwb];exact bA
 have hs0:wb.heap.size=w.heap.size+1:=by rw [hwb];simp
 have hbx:Hid (∀ wx,Below wb.heap.size wb wx->GrBx w a n cap m ra rc wx):=fun wx hx=>by
  subst hwb
  have:=box_cells (hx.mono (by simp));exact ⟨this 0,this 1,this 2⟩
 obtain ⟨g00,g01,g02⟩:=hbx.out wb kB;have Hroom:Hid (_):=hroom;have HE:Hid (SlV w a n cap E):=h;have HR:Hid (SlL w ra n rc (restN E) (restV E)):=hr;have HW:Hid (Calls Tryz.prog 107 #[.agg #[.slice a n cap,.map (some m),.slice ra n rc],.slice (some ⟨bm,0,none⟩) n n] wb (WpPost wb E n S sm)):=wpI_sl wb hroom (h.below hb0) (hr.below hb0) (hM.below hb0) hG
 have Hab:Hid (∀ b off,a=some ⟨b,off,none⟩->0<n->b<w.heap.size):=fun b off e hn=>by
  rcases h.cells with h0|⟨b',off',e',hb',_⟩
  ·omega
  rw [e] at e';injection e' with e';injection e' with e1 _;omega
 clear hroom h hr hM hG
 go_enter Tryz.func53,Tryz.ntmps53
 go_upto_region 1 with fail
 rw [<- hwb];clear hwb
 go_wp2_with fail
 refine (HW.out).mono ?_;rintro e w1 ⟨bt,T,rfl,hbt,hbl1,hT,hb1⟩;have hw1:=hb0.trans (hb1.mono hb0.size);obtain ⟨g10,g11,g12⟩:=hbx.out w1 hb1;have HT:Hid (∀ p,p<n->(T p=true↔TkP E n S sm p)):=hT;have HS:Hid (Calls Tryz.prog 108 #[.agg #[.slice a n cap,.map (some m),.slice ra n rc],.slice (some ⟨bt,0,none⟩) n n] w1 (RoPost w1 E n T)):=rsI_sl w1 Hroom.out (HR.out.below hw1) hbl1;clear HW hT g00 g01 g02
 go_wp2_with fail
 refine (HS.out).mono ?_;rintro e w2 ⟨br,lo,V,R,rfl,hbr,hrs2,hRm,hRn,hb2⟩;have hB2:=hb1.trans (hb2.mono hb1.size);have hw2:=hb0.trans (hB2.mono hb0.size);have hbl2:=hbl1.below hb2;have HRm:Hid (∀ q,q<n->∀ p,p ∈ R q↔(p<n∧T p=true)∧Rst E n p q):=hRm;have HRn:Hid (∀ q,q<n->(R q).Nodup):=hRn;obtain ⟨g20,g21,g22⟩:=hbx.out w2 hB2;have hbt1:bt<w1.heap.size:=hbl1.1;have hbt2:bt<w2.heap.size:=hbl2.1
 have HA:Hid (∀ W,Below w2.heap.size w2 W->Calls Tryz.prog 110 #[.agg #[.slice a n cap,.map (some m),.slice ra n rc]] W (AuP W E n)):=fun W hW=>by
  have hw:=hw2.trans (hW.mono hw2.size);refine (auI_sl W Hroom.out (HE.out.below hw) (HR.out.below hw)).mono ?_;rintro e w' ⟨v,rfl,ho,hb⟩;rcases ho.cells with ⟨rfl,h0⟩|⟨g,c,rfl,hg,hl,_,_,hc⟩
  ·exact ⟨none,0,by rw [h0],Or.inl h0,hb⟩
  exact ⟨_,c,rfl,Or.inr ⟨g,rfl,hg,hl,hc⟩,hb⟩
 have Hne:Hid (∀ b off,a=some ⟨b,off,none⟩->0<n->b≠bt):=fun b off e hn=>by have:=Hab.out b off e hn;omega
 have HE2:Hid (SlV w2 a n cap E):=HE.out.below hw2;have hrf:Below w2.heap.size w2 w2:=kB;have hal:Below w2.heap.size w2 (w2.alloc (.cells #[.slice none 0 0,.nilFunc] 157)):=bA;obtain ⟨g2a,g2b,g2c⟩:=hbx.out (w2.alloc (.cells #[.slice none 0 0,.nilFunc] 157)).drew (hB2.trans (hal.drew.mono hB2.size));have hwz2:w.heap.size<w2.heap.size:=by have:=hB2.size;omega
 have hnz2:w.heap.size≠w2.heap.size:=Nat.ne_of_lt hwz2;clear HS hRm hRn g10 g11 g12
 go_wp2_with fail
 go_cut [7] from 20 to 67 (fun pv wx=>HpCut w2 E n bt pv wx)
 case first =>
  go_region_with (first
   | (go_at_call 110;refine (HA.out _ (by with_reducible (repeat refine .drew ?_);exact hrf)).mono ?_;rintro e w3 ⟨da,dc,rfl,hd3,hb3'⟩;have hb3:Below w2.heap.size w2 w3:=Below.trans (by with_reducible (repeat refine .drew ?_);exact hrf) hb3';clear hb3';obtain ⟨g30,g31,g32⟩:=hbx.out w3 (hB2.trans (hb3.mono hB2.size));have hrf3:Below w3.heap.size w3 w3:=kB;have hal3:Below w3.heap.size w3 (w3.alloc (.cells #[.slice none 0 0,.nilFunc] 157)):=bA;obtain ⟨g3a,g3b,g3c⟩:=hbx.out (w3.alloc (.cells #[.slice none 0 0,.nilFunc] 157)).drew ((hB2.trans (hb3.mono hB2.size)).trans (hal3.drew.mono (nZ hB2.size hb3.size)));obtain ⟨g3d,g3e,g3f⟩:=hbx.out (w3.alloc (.cells #[.slice none 0 0,.nilFunc] 157)) ((hB2.trans (hb3.mono hB2.size)).trans (hal3.mono (nZ hB2.size hb3.size)));have hz3:w.heap.size<w3.heap.size:=nT hwz2 hb3.size;have hnz3:w.heap.size≠w3.heap.size:=Nat.ne_of_lt hz3;have Hd3:Hid (n=0∨∃ db,da=some ⟨db,0,none⟩∧w2.heap.size<=db∧db<w3.heap.size∧∀ p,p<n->w3.cell? ⟨db,0+p,none⟩=some (.int .i64 (auV E n p))):=hd3;clear hd3)
   | (go_at_call 110;refine (HA.out _ (by with_reducible (repeat refine .drew ?_);exact hal)).mono ?_;rintro e w3 ⟨da,dc,rfl,hd3,hb3'⟩;have hb3:Below w2.heap.size w2 w3:=Below.trans (by with_reducible (repeat refine .drew ?_);exact hal) (hb3'.mono (by simp));have y30:w3.cell? ⟨w2.heap.size,0,none⟩=some (.slice none 0 0):=(hb3'.cell (p:=⟨w2.heap.size,0,none⟩) (by simp)).trans (kA rfl);have y31:w3.cell? ⟨w2.heap.size,1,none⟩=some .nilFunc:=(hb3'.cell (p:=⟨w2.heap.size,1,none⟩) (by simp)).trans (kA rfl);have yf3:∀ o,w3.frozen? ⟨w2.heap.size,o,none⟩=false:=fun o=>(hb3'.frozen (p:=⟨w2.heap.size,o,none⟩) (by simp)).trans (kF rfl);have hz3b:w2.heap.size<w3.heap.size:=nT (by simp) hb3'.size;obtain ⟨g30,g31,g32⟩:=hbx.out w3 (hB2.trans (hb3.mono hB2.size));have hrf3:Below w3.heap.size w3 w3:=kB;have Hd3:Hid (n=0∨∃ db,da=some ⟨db,0,none⟩∧w2.heap.size+1<=db∧db<w3.heap.size∧∀ p,p<n->w3.cell? ⟨db,0+p,none⟩=some (.int .i64 (auV E n p))):=hd3.imp id (fun ⟨db,q1,q2,q3⟩=>⟨db,q1,by simpa using q2,q3⟩);clear hd3 hb3')
   | (go_at_call 109;refine (gf_any _ _ _ _ _ _ _ _ _ _ _).mono ?_;rintro e w4 ⟨bg,bw,rfl,hbg,hbw,hc1,hc2,hb4'⟩;have hb4:Below w3.heap.size w3 w4:=Below.trans (by with_reducible (repeat refine .drew ?_);exact hrf3) hb4';have y40:=(hb4.cell (p:=⟨w2.heap.size,0,none⟩) hz3b).trans y30;have y41:=(hb4.cell (p:=⟨w2.heap.size,1,none⟩) hz3b).trans y31;have yf4:∀ o,w4.frozen? ⟨w2.heap.size,o,none⟩=false:=fun o=>(hb4.frozen (p:=⟨w2.heap.size,o,none⟩) hz3b).trans (yf3 o);have Hc1:Hid (_=_):=hc1;have Hc2:Hid (_=_):=hc2;have Hbg:Hid (w3.heap.size<=bg∧w3.heap.size<=bw):=⟨hbg,hbw⟩;clear hc1 hc2 hb4' hbg hbw)
   | (go_at_call 109;refine (gf_any _ _ _ _ _ _ _ _ _ _ _).mono ?_;rintro e w4 ⟨bg,bw,rfl,hbg,hbw,hc1,hc2,hb4'⟩;have hb4:Below w3.heap.size w3 w4:=Below.trans (by with_reducible (repeat refine .drew ?_);exact hrf3) hb4';have Hc1:Hid (_=_):=hc1;have Hc2:Hid (_=_):=hc2;have Hbg:Hid (w3.heap.size<=bg∧w3.heap.size<=bw):=⟨hbg,hbw⟩;clear hc1 hc2 hb4' hbg hbw)
   | (go_at_call 109;refine (gf_any _ _ _ _ _ _ _ _ _ _ _).mono ?_;rintro e w4 ⟨bg,bw,rfl,hbg,hbw,hc1,hc2,hb4'⟩;have hb4:Below w3.heap.size w3 w4:=Below.trans (by with_reducible (repeat refine .drew ?_);exact hal3) (hb4'.mono (by simp));have y40:w4.cell? ⟨w3.heap.size,0,none⟩=some (.slice none 0 0):=(hb4'.cell (p:=⟨w3.heap.size,0,none⟩) (by simp)).trans (kA rfl);have y41:w4.cell? ⟨w3.heap.size,1,none⟩=some .nilFunc:=(hb4'.cell (p:=⟨w3.heap.size,1,none⟩) (by simp)).trans (kA rfl);have yf4:∀ o,w4.frozen? ⟨w3.heap.size,o,none⟩=false:=fun o=>(hb4'.frozen (p:=⟨w3.heap.size,o,none⟩) (by simp)).trans (kF rfl);have Hc1:Hid (_=_):=hc1;have Hc2:Hid (_=_):=hc2;have Hbg:Hid (w3.heap.size+1<=bg∧w3.heap.size+1<=bw):=⟨by simpa using hbg,by simpa using hbw⟩;clear hc1 hc2 hb4' hbg hbw))
  all_goals (try go_wp2_with fail)
  all_goals go_meet
  all_goals
   have hs3:=hb3.size;have hs4:=hb4.size;have h24:=hb3.trans (hb4.mono hb3.size)
   first
    | with_reducible exact leaf_a Hroom.out hbt2 HE2.out Hne.out h24 (nZ hs3 Hbg.out.1) Hc1.out (nZ hs3 Hbg.out.2) Hc2.out (db_mk Hd3.out hb4 nL (fun db _ h2=>by omega))
    | with_reducible exact leaf_b Hroom.out hbt2 HE2.out Hne.out h24 nL y40 y41 yf4 (nZ hs3 Hbg.out.1) (by have:=Hbg.out.1;omega) Hc1.out (nZ hs3 Hbg.out.2) (by have:=Hbg.out.2;omega) Hc2.out (db_mk Hd3.out hb4 (Nat.le_succ _) (fun db h1 _=>by omega))
    | with_reducible exact leaf_b Hroom.out hbt2 HE2.out Hne.out h24 hs3 y40 y41 yf4 (nZ hs3 (nZ (Nat.le_succ _) Hbg.out.1)) (by have:=Hbg.out.1;omega) Hc1.out (nZ hs3 (nZ (Nat.le_succ _) Hbg.out.2)) (by have:=Hbg.out.2;omega) Hc2.out (db_mk Hd3.out hb4 nL (fun db _ h2=>by omega))
 case rest =>
  clear HA hal g2a g2b g2c g20 g21 g22 HE2 Hne hrf;obtain ⟨hb,bg,bw,rfl,hbl,hbx3,hc0,hc1,hcf,hcm,hb3⟩:=hcut;obtain ⟨w3,hw3e⟩:∃ w3:World,w3=wc:=⟨_,rfl⟩;subst hw3e;have hB3:=hB2.trans (hb3.mono hB2.size);have hw3:=hb0.trans (hB3.mono hb0.size);have hbl3:=hbl2.below hb3;have hrs3:=hrs2.below hb3;have HCm:Hid (∀ W base,w3.heap.size<=base->Kp (fun b=>b=bt∨b=hb∨w3.heap.size<=b) w3 W->CmpOk E (auN E n) n bg bw hb base W):=hcm;have HP3:Hid (Calls Tryz.prog 111 #[.slice (some ⟨bt,0,none⟩) n n] w3 fun e w'=>∃ v,e=.returned v∧OwnI w' w3.heap.size v (plsL T n).length (lX (plsL T n))∧Below w3.heap.size w3 w'):=plsI_sl w3 h300 hbl3;have Hpl:Hid (∀ q,q ∈ plsL T n↔q<n∧T q=true):=fun q=>plsL_mem T q n
  have hpll:=plsL_len T n
  have Hlt:Hid ((plsL T n).Nodup):=by
   have key:∀ k,(plsL T k).Pairwise (· < ·):=fun k=>by
    induction k with
    | zero=>exact List.Pairwise.nil
    | succ k ih =>
     unfold plsL;split
     ·refine List.pairwise_append.2 ⟨ih,List.pairwise_singleton _ _,fun p hp q hq=>?_⟩
      rw [List.mem_singleton] at hq;rw [hq];exact ((plsL_mem T p k).1 hp).1
     exact ih
   exact (key n).imp (fun h=>Nat.ne_of_lt h)
  generalize plsL T n=pl at *
  go_wp2_with fail
  refine (HP3.out).mono ?_;rintro e w4 ⟨v4,rfl,ho4,hb4⟩;have hB4:=hB3.trans (hb4.mono hB3.size);have hw4:=hb0.trans (hB4.mono hb0.size);have hs34:=hb4.size;have hH4:HpAt w4 hb w4.heap.size bg bw (.slice none 0 0) 0 (fun _=>0):=⟨by omega,by omega,nL,(hb4.cell (by exact hbx3)).trans hc0,(hb4.cell (by exact hbx3)).trans hc1,fun o=>(hb4.frozen (by exact hbx3)).trans (hcf o),OwnI.nil _ _ _⟩;have hbl4:=hbl3.below hb4;have hrs4:=hrs3.below hb4
  have HC4:Hid (∀ W,Kp (fun b=>b=bt∨b=hb∨w4.heap.size<=b) w4 W->CmpOk E (auN E n) n bg bw hb w4.heap.size W):=fun W hW=>HCm.out W _ hs34 ((Kp.ofB hb4).transN hW (fun i hi e=>by
   rcases e with e|e|e
   ·exact Or.inl e
   ·exact Or.inr (Or.inl e)
   omega))
  obtain ⟨pa,pc,rfl,hps⟩:=ho4.sl
  have HPs:Hid (pl.length=0∨∃ bp op,pa=some ⟨bp,op,none⟩∧bp<w4.heap.size∧bp≠hb∧∀ i,i<pl.length->w4.cell? ⟨bp,op+i,none⟩=some (.int .i64 (lX pl i))):=by
   rcases hps.cells with h0|⟨bp,op,rfl,h1,h2⟩
   ·exact Or.inl h0
   refine Or.inr ⟨bp,op,rfl,h1,?_,h2⟩
   have:=(World.ownsRow.lt ho4 bp rfl).1;omega
  have hbne:bt≠hb:=by omega
  have hbrl:br<w2.heap.size:=hrs2.lt
  have Hlo:Hid (∀ W,Kp (fun b=>b=bt∨b=hb) w4 W->Below w.heap.size w W∧GrBx w a n cap m ra rc W):=fun W hW=>by
   have h1:Below wb.heap.size wb W:=hB4.trans (hW.below hB4.size (fun k hk e=>by omega));exact ⟨hb0.trans (h1.mono hb0.size),hbx.out W h1⟩
  have Hrs:Hid (RsAt w4 br lo n V R∧br≠bt∧br≠hb∧∀ i,i<n->∀ g,(V i).ownBlock=some g->g≠bt∧g≠hb∧g<w4.heap.size):=⟨hrs4,by omega,by omega,fun i hi g hg=>by
   have h1:=World.ownsRow.lt (hrs2.ow i hi) g hg;have h2:=hrs2.hl;refine ⟨by omega,by omega,?_⟩
   have:=hb3.size;omega⟩
  have hTn:Hid (∀ q,TkP E n S sm q->q<n):=fun q hq=>hq.1
  have HTT:Hid (∀ q,(q<n∧T q=true)↔TkP E n S sm q):=fun q=>⟨fun ⟨h1,h2⟩=>(HT.out q h1).1 h2,fun h1=>⟨h1.1,(HT.out q h1.1).2 h1⟩⟩
  clear HP3 ho4 hps hcm HCm hbl1 hbl2 hbl3 hrs2 hrs3 hrs4 hb1 hb2 hb3 hb4 hB2 hB3 hw1 hw2 hw3 hc0 hc1 hcf
  go_wp2_with fail
  go_loopw [28] (fun i wr=>∃ (k:Nat) (v:Value) (len:Nat) (X:Nat->Nat),k<=pl.length∧i=.int .i64 (k:Int)∧HpAt wr hb w4.heap.size bg bw v len X∧Hid (Heap E (auN E n) len X)∧Hid (InjX X len)∧Hid (∀ p,MemX X len p↔p ∈ pl.take k∧∀ r,Rst E n p r->T r=false)∧Kp (fun b=>b=hb) w4 wr) (fun i _=>pl.length - (intOf i).toNat)
  case atStart=>exact ⟨0,_,0,_,nz,rfl,hH4,fun i h0 h1=>by omega,fun i j h0 h1=>by omega,fun p=>⟨fun ⟨i,hi',_⟩=>by omega,fun ⟨h1,_⟩=>by simp at h1⟩,Kp.refl _ _⟩
  case round =>
   clear hH4;obtain ⟨k,v,len,X,hk,rfl,hH,hhp,hinj,hmem,hK⟩:=hrel;have hK':Kp (fun b=>b=bt∨b=hb) w4 wr:=hK.mono (fun i _ e=>Or.inr e);obtain ⟨hbw,gr0,gr1,gr2⟩:=Hlo.out _ hK';have Hxn:Hid (∀ p,MemX X len p->p<n):=fun p hp=>((Hpl.out p).1 (List.mem_of_mem_take ((hmem.out p).1 hp).1)).1
   have hlen:len<=n:=inj_len hinj.out Hxn.out
   by_cases hlt:k<pl.length
   ·rcases HPs.out with h0|⟨bp,op,rfl,hbp,hbpn,hcp⟩
    ·omega
    obtain ⟨y,hy,ey⟩:∃ y,y<n∧pl.getD k 0=y:=⟨_,((Hpl.out _).1 (getD_mem hlt)).1,rfl⟩
    have hcy:wr.cell? ⟨bp,op+k,none⟩=some (.int .i64 (y:Int)):=by
     rw [<- ey];exact (hK.cell (p:=⟨bp,op+k,none⟩) hbp hbpn).trans (hcp k hlt)
    have HRd:Hid (Calls Tryz.prog 112 #[.agg #[.slice a n cap,.map (some m),.slice ra n rc],.int .i64 (y:Int),.slice (some ⟨bt,0,none⟩) n n] wr (RdPost wr E n y T)):=rdI_sl wr Hroom.out hy (HR.out.below hbw) (hbl4.kp hK hbne);have HTk:Hid (∀ q,q ∈ pl.take (k+1)↔q ∈ pl.take k∨q=y):=fun q=>by rw [<- ey];exact take_mem hlt
    have Hny:Hid (¬ MemX X len y):=fun hm=>by
     have h1:=((hmem.out y).1 hm).1;obtain ⟨i,hi',e⟩:=List.mem_iff_getElem.1 h1;rw [List.length_take] at hi';rw [List.getElem_take] at e;have h2:=List.pairwise_iff_getElem.1 Hlt.out i k (by omega) hlt (by omega);rw [List.getD,List.getElem?_eq_getElem hlt] at ey;exact h2 (e.trans ey.symm)
    have HPu:Hid (∀ W,Below wr.heap.size wr W->Calls Tryz.prog 113 #[.pointer (some ⟨hb,0,none⟩),.int .i64 (y:Int)] W (PuPost E (auN E n) W hb w4.heap.size bg bw v len y X)):=fun W hW=>push_any y W (hH.below hW) (HC4.out W ((hK.trans (Kp.ofB hW)).mono (fun i _ e=>Or.inr (Or.inl e)))) Hxn.out hy (by omega) hhp.out
    have Hvb:Hid (∀ g,v.ownBlock=some g->w4.heap.size<=g):=fun g hg=>(World.ownsRow.lt hH.ow g hg).1
    clear hcp ey
    go_wp2_with fail
    refine (HRd.out).mono ?_;rintro e w5 ⟨rq,rfl,hrq,hb5⟩;cases rq
    case false =>
     have Hn:Hid (∀ p,MemX X len p↔p ∈ pl.take (k+1)∧∀ r,Rst E n p r->T r=false):=fun p=>by
      rw [hmem.out,HTk.out];constructor
      ·rintro ⟨h1,h2⟩;exact ⟨Or.inl h1,h2⟩
      rintro ⟨h1|rfl,h2⟩
      ·exact ⟨h1,h2⟩
      exact absurd (hrq.2 h2) (by decide)
     clear hrq hmem HPu HRd;go_wp2
     go_roundw
     case rel=>exact ⟨k+1,v,len,X,by omega,by go_num,hH.below hb5,hhp.out,hinj.out,Hn.out,hK.trans (Kp.ofB hb5)⟩
     simp [intOf];omega
    case true =>
     have Hrq:Hid (∀ r,Rst E n y r->T r=false):=hrq.1 rfl;clear hrq HRd
     go_wp2_with fail
     refine (HPu.out _ hb5).mono ?_;rintro e w6 ⟨rfl,g6,c6,X6,hH6,hg6,hhp6,hm6,hi6,hK6⟩
     have Hn:Hid (∀ p,MemX X6 (len+1) p↔p ∈ pl.take (k+1)∧∀ r,Rst E n p r->T r=false):=fun p=>by
      rw [hm6,hmem.out,HTk.out];constructor
      ·rintro (⟨h1,h2⟩|rfl)
       ·exact ⟨Or.inl h1,h2⟩
       exact ⟨Or.inr rfl,Hrq.out⟩
      rintro ⟨h1|h1,h2⟩
      ·exact Or.inl ⟨h1,h2⟩
      exact Or.inr h1
     have Hh6:Hid (Heap E (auN E n) (len+1) X6):=hhp6;have Hi6:Hid (InjX X6 (len+1)):=hi6 hinj.out Hny.out
     have hKn:Kp (fun b=>b=hb) w4 w6:=(hK.trans (Kp.ofB hb5)).transN hK6 (fun i hi' e=>by
      rcases e with e|e
      ·exact e
      have:=Hvb.out i e;omega)
     clear hm6 hi6 hhp6 hmem hK6 HPu;go_wp2
     go_roundw
     case rel=>exact ⟨k+1,_,len+1,X6,by omega,by go_num,hH6,Hh6,Hi6,Hn.out,hKn⟩
     simp [intOf];omega
   have hkn:pl.length=k:=by omega
   subst hkn
   have Hm0:Hid (∀ p,MemX X len p↔Cand E n (TkP E n S sm) [] p):=fun p=>by
    rw [hmem.out,List.take_length,Hpl.out,HTT.out];constructor
    ·rintro ⟨h1,h2⟩
     refine ⟨h1,by simp,fun r hr ht=>?_⟩
     have:=h2 r hr;rw [(HT.out r ht.1).2 ht] at this;cases this
    rintro ⟨h1,_,h3⟩;refine ⟨h1,fun r hr=>?_⟩;cases hq:T r
    ·rfl
    have hrn:r<n:=by have:=rst_lt Hroom.out h1.1 hr;have:=h1.1;omega
    have:=h3 r hr ((HT.out r hrn).1 hq);cases this
   have hbl5:BlAt wr bt n T:=hbl4.kp hK hbne
   have HWt:Hid (∀ p,p<n->(T p=true↔TkP E n S sm p∧p ∉ ([]:List Nat))):=fun p hp=>by
    rw [HT.out p hp];simp
   clear hmem HPs Hlt Hxn gr0 gr1 gr2
   go_wp2_with fail
   go_loopw [10] (fun uo wr=>PwRel w4 E n (TkP E n S sm) bt hb bg bw uo wr) (fun uo _=>n - lenW uo)
   case atStart=>exact ⟨[],v,len,X,T,OwnI.nil _ _ _,hH,hhp,hinj,Hm0,hbl5,HWt,OrdP.nil _ _ _ _,(fun g _ e=>by cases e),hK'⟩
   case round =>
    clear hH hhp hinj Hm0 hbl5 HWt hK hK' hbw;obtain ⟨o,v,len,X,Wt,hown,hH,hhp,hinj,hmem,hblr,hWt,hord,hap,hK⟩:=hrel;obtain ⟨hbw,gr0,gr1,gr2⟩:=Hlo.out _ hK;have c0:=hH.c0;have Hxn:Hid (∀ p,MemX X len p->p<n):=fun p hp=>hTn.out p ((hmem.out p).1 hp).1
    have hlen:len<=n:=inj_len hinj.out Hxn.out;have hol:o.length<=n:=ord_len hord.out hTn.out;have hlu:Hid (lenW u10=o.length):=own_lenW hown;rcases Nat.eq_zero_or_pos len with h0|hpos
    ·subst h0
     have HP:Hid (∃ v o,Ending.returned u10=.returned v∧OwnI wr w.heap.size v o.length (lX o)∧PoOrd E n S sm o∧Below w.heap.size w wr):=⟨_,o,rfl,hown.monoB hw4.size,⟨hord.out,ord_full Hroom.out hTn.out (fun q hq=>by
      obtain ⟨i,hi',_⟩:=(hmem.out q).2 hq;omega)⟩,hbw⟩
     obtain ⟨va,vc,rfl⟩:∃ va vc,v=.slice va 0 vc:=by
      obtain ⟨va,vc,e,_⟩:=hH.ow.sl;exact ⟨va,vc,e⟩
     clear hord hmem;go_wp2
     go_ret;exact HP.out
    obtain ⟨l,rfl⟩:∃ l,len=l+1:=⟨len - 1,by omega⟩
    obtain ⟨g,vc,rfl,hgb⟩:∃ g vc,v=.slice (some ⟨g,0,none⟩) (l+1) vc∧w4.heap.size<=g:=by
     rcases hH.ow.cells with ⟨_,h1⟩|⟨g,c,e,h1,_⟩
     ·omega
     exact ⟨g,c,e,h1⟩
    have Hnx:Hid (Nxt E n (TkP E n S sm) (auN E n) o (X 0)):=nxt_heap Hroom.out hTn.out hhp.out hmem.out;have HPo:Hid (Calls Tryz.prog 114 #[.pointer (some ⟨hb,0,none⟩)] wr (PpPost E (auN E n) wr hb w4.heap.size bg bw g l vc (.slice (some ⟨g,0,none⟩) (l+1) vc) X)):=pop_any wr hH (HC4.out wr (hK.mono (fun i _ e=>e.imp id Or.inl))) Hxn.out (by omega) hhp.out hinj.out;have hpn:X 0<n:=Hxn.out _ ⟨0,by omega,rfl⟩;have hl1:(0:Int)<((l+1:Nat):Int):=by omega
    have hl2:(0:Int)<(l:Int)+1:=by omega
    obtain ⟨p,hpe⟩:∃ p,p=X 0:=⟨_,rfl⟩;rw [<- hpe] at Hnx hpn;have Hpe:Hid (p=X 0):=hpe;clear hpe
    go_wp2_with fail
    refine (HPo.out).mono ?_;rintro e w5 ⟨he5,X5,hH5,hhp5,hm5,hi5,hK5⟩;have he5':e=.returned (.int .i64 (p:Int)):=by rw [Hpe.out];exact he5
    subst he5';have Hm5:Hid (∀ q,MemX X5 l q↔Cand E n (TkP E n S sm) o q∧q≠p):=fun q=>by rw [hm5,hmem.out,Hpe.out]
    have Hh5:Hid (Heap E (auN E n) l X5):=hhp5;have Hi5:Hid (InjX X5 l):=hi5;have hgw:g<wr.heap.size:=(World.ownsRow.lt hH.ow g rfl).2;have hbt4:bt<w4.heap.size:=hbl4.1
    have hPg:∀ q,HpB hb (.slice (some ⟨g,0,none⟩) (l+1) vc) q->q=hb∨q=g:=fun q e=>e.imp id (fun e=>by
     have:some g=some q:=e;injection this with this
     exact this.symm)
    have hbl5:BlAt w5 bt n Wt:=hblr.kp hK5 (fun e=>by rcases hPg _ e with e|e <;> omega);have m1:=(hbl5.2 p hpn).1;have m2:=(hbl5.2 p hpn).2
    have hown5:OwnI w5 w4.heap.size u10 o.length (lX o):=hown.kp hK5 (fun q hq e=>by
     rcases e with e|e
     ·have:=(World.ownsRow.lt hown q hq).1;have:=hH.hl;omega
     exact hap.out q e hq)
    have hKs:Kp (fun b=>b=bt) w5 (w5.setCell ⟨bt,p,none⟩ (.bool false)):=(Kp.refl (fun b=>b=bt) w5).setCell rfl _;have hown6:OwnI (w5.setCell ⟨bt,p,none⟩ (.bool false)) w4.heap.size u10 o.length (lX o):=hown5.kp hKs (fun q hq e=>by have:=(World.ownsRow.lt hown5 q hq).1;omega);have hs6:(w5.setCell ⟨bt,p,none⟩ (.bool false)).heap.size=w5.heap.size:=by simp [World.setCell]
    obtain ⟨hrsA,hrs1,hrs2,hrs3⟩:=Hrs.out;obtain ⟨xa,xc,hVp,hxs⟩:=(hrsA.ow p hpn).sl;have hs45:w4.heap.size<=w5.heap.size:=nZ hK.size hK5.size;have hm1:o.length+1<=maxLen:=by unfold maxLen;omega
    have hm2:(o.length+1) * 8<=140737488355328:=by omega
    have hm3:∀ ob,w4.heap.size<=((w5.setCell ⟨bt,p,none⟩ (.bool false)).alloc ob).heap.size:=fun ob=>by simp;omega
    have Hord2:Hid (OrdP E n (TkP E n S sm) (auN E n) (o ++ [p])):=hord.out.snoc Hnx.out;have Hcs:Hid (∀ q,Cand E n (TkP E n S sm) (o ++ [p]) q↔(Cand E n (TkP E n S sm) o q∧q≠p)∨(TkP E n S sm q∧Rst E n q p∧Rdy E n (TkP E n S sm) (o ++ [p]) q)):=cand_step Hroom.out hTn.out hord.out Hnx.out
    have HW6:Hid (∀ q,q<n->((if q=p then false else Wt q)=true↔TkP E n S sm q∧q ∉ o ++ [p])):=fun q hq=>by
     rw [List.mem_append,List.mem_singleton,not_or]
     by_cases e:q=p
     ·rw [if_pos e];simp [e]
     rw [if_neg e,hWt.out q hq];exact ⟨fun ⟨h1,h2⟩=>⟨h1,h2,e⟩,fun ⟨h1,h2,_⟩=>⟨h1,h2⟩⟩
    have Hfin:Hid (∀ (gg cq:Nat) (w7:World),w7.ownsRow w4.heap.size 3 1 (.slice (some ⟨gg,0,none⟩) (o.length+1) cq) (o.length+1) (ints (lX o) o.length ++ [.int .i64 (p:Int)])->((w5.setCell ⟨bt,p,none⟩ (.bool false)).alloc (.cells #[.int .i64 (p:Int)] 3)).grownBy w7 u10.ownBlock->(u10.ownBlock=some gg∨gg=w5.heap.size+1) →
      OwnI w7 w4.heap.size (.slice (some ⟨gg,0,none⟩) (o.length+1) cq) (o.length+1) (lX (o ++ [p]))∧HpAt w7 hb w4.heap.size bg bw (.slice (some ⟨g,0,none⟩) l vc) l X5∧BlAt w7 bt n (fun q=>if q=p then false else Wt q)∧Kp (fun b=>b=bt∨b=hb) w4 w7∧gg≠g∧g<w7.heap.size∧w7.cell? ⟨br,p,none⟩=some (.slice xa (R p).length xc)):=fun gg cq w7 ho hg hat=>by
     have hK7:Kp (fun b=>u10.ownBlock=some b) (w5.setCell ⟨bt,p,none⟩ (.bool false)) w7:=((Kp.refl _ _).alloc _).grown hg (fun k hk _=>hk);have hug:∀ q,u10.ownBlock=some q->w4.heap.size<=q:=fun q hq=>(World.ownsRow.lt hown q hq).1
     have hng:¬ u10.ownBlock=some g:=fun e=>hap.out g rfl e
     have hoI:OwnI w7 w4.heap.size (.slice (some ⟨gg,0,none⟩) (o.length+1) cq) (o.length+1) (lX (o ++ [p])):=by
      have h1:ints (lX o) o.length=ints (lX (o ++ [p])) o.length:=by
       unfold ints;refine List.map_congr_left fun i hi=>?_
       rw [(lX_snoc o p).1 i (List.mem_range.1 hi)]
      rw [h1] at ho;exact OwnI.snoc ho (lX_snoc o p).2.symm
     have hH6:HpAt (w5.setCell ⟨bt,p,none⟩ (.bool false)) hb w4.heap.size bg bw (.slice (some ⟨g,0,none⟩) l vc) l X5 :=
      ⟨by rw [hs6];exact hH5.lt,hH5.hl,by rw [hs6];exact hH5.hs,(hKs.cell (p:=⟨hb,0,none⟩) hH5.lt (fun e=>hbne e.symm)).trans hH5.c0,(hKs.cell (p:=⟨hb,1,none⟩) hH5.lt (fun e=>hbne e.symm)).trans hH5.c1,fun ob=>(hKs.frozen (p:=⟨hb,ob,none⟩) hH5.lt (fun e=>hbne e.symm)).trans (hH5.fr ob),hH5.ow.kp hKs (fun q hq e=>by have:=(World.ownsRow.lt hH5.ow q hq).1;omega)⟩
     have hnh:¬ u10.ownBlock=some hb:=fun e=>by have:=hug hb e;have:=hH.hl;omega
     have hH7:HpAt w7 hb w4.heap.size bg bw (.slice (some ⟨g,0,none⟩) l vc) l X5 :=
      ⟨nT hH6.lt hK7.size,hH6.hl,nZ hH6.hs hK7.size,(hK7.cell (p:=⟨hb,0,none⟩) hH6.lt hnh).trans hH6.c0,(hK7.cell (p:=⟨hb,1,none⟩) hH6.lt hnh).trans hH6.c1,fun ob=>(hK7.frozen (p:=⟨hb,ob,none⟩) hH6.lt hnh).trans (hH6.fr ob),hH6.ow.kp hK7 (fun q hq e=>by
       have:some g=some q:=hq;injection this with this
       exact hng (this ▸ e))⟩
     have hK47:Kp (fun b=>b=bt∨b=hb) w4 w7:=by
      have k1:Kp (fun b=>b=bt∨b=hb) w4 w5:=hK.transN hK5 (fun i hi' e=>by
       rcases hPg i e with e|e
       ·exact Or.inr e
       omega)
      exact (k1.setCell (Or.inl rfl) _).transN hK7 (fun i hi' e=>by have:=hug i e;omega)
     refine ⟨hoI,hH7,(hbl5.set hpn false).kp hK7 (fun e=>by have:=hug bt e;omega),hK47,?_,?_,?_⟩
     ·rcases hat with e|e
      ·exact fun e2=>hng (e2 ▸ e)
      have:=hK5.size;omega
     ·have:=hK7.size;have:=hK5.size;omega
     have h1:=(hrsA.hd p hpn).1;rw [hVp] at h1;exact (hK47.cell (p:=⟨br,p,none⟩) hrsA.lt (fun e=>e.elim hrs1 hrs2)).trans h1
    have hp0:(0:Int)<=(p:Int):=by omega
    have hp1:(p:Int)<(n:Int):=by omega
    have HRc:Hid ((R p).length=0∨∃ bx ox,xa=some ⟨bx,ox,none⟩∧bx<w4.heap.size∧bx≠bt∧bx≠hb∧∀ i,i<(R p).length->w4.cell? ⟨bx,ox+i,none⟩=some (.int .i64 (lX (R p) i))):=by
     rcases hxs.cells with h0|⟨bx,ox,rfl,h1,h2⟩
     ·exact Or.inl h0
     have:=hrs3 p hpn bx (by rw [hVp];rfl);exact Or.inr ⟨bx,ox,rfl,h1,this.1,this.2.1,h2⟩
    have HRp:Hid ((∀ q,q ∈ R p↔TkP E n S sm q∧Rst E n q p)∧(R p).Nodup):=⟨fun q=>by rw [HRm.out p hpn q,HTT.out],HRn.out p hpn⟩
    have hRl:(R p).length<=300:=by
     have h1:=(HRn.out p hpn).length_le_of_subset (l₂:=List.range n) (fun q hq=>by
      rw [List.mem_range];exact ((HRm.out p hpn q).1 hq).1.1)
     rw [List.length_range] at h1;omega
    have Hout:Hid (p ∉ o∧TkP E n S sm p):=⟨Hnx.out.1.2.1,Hnx.out.1.1⟩;clear he5 hm5 hhp5 hi5 hK5 hH5 hown hH hhp hinj hmem hblr hWt hord hap hbl5 hown5 hKs HPo Hnx hrsA hrs1 hrs2 hrs3 hVp hxs c0 hPg;generalize R p=Rp at *
    go_wp2_with (at_builtin;refine wpList_append_lies _ rfl _ _ 93 rfl w4.heap.size 3 i0 (.int .i64 0) 1 8 Tryz.underlying93 hi hz0 hz1 hz2 rfl (by decide) _ _ _ rfl (World.ownsRow.alloc hown6 _) ⟨w5.heap.size,0,none⟩ 1 1 [.int .i64 (p:Int)] rfl rfl (fun j u hj=>by rw [<- hs6];exact one_cellsI _ _ _ j u hj) (one_oneI _) (by decide) hm1 hm2 (hm3 _) (w5.heap.size+1) (by simp [hs6]) ?_;intro gg cq w7 hown7' hgrow7 hat7 hlt7;obtain ⟨hown7,hH7,hbl7,hK7,hgg,hgw7,hvp⟩:=Hfin.out gg cq w7 hown7' hgrow7 hat7)
    obtain ⟨hbw7,k70,k71,k72⟩:=Hlo.out _ hK7;obtain ⟨W6,hW6⟩:∃ W6:Nat->Bool,W6=fun q=>if q=p then false else Wt q:=⟨_,rfl⟩
    rw [<- hW6] at hbl7;have HW7:Hid (∀ q,q<n->(W6 q=true↔TkP E n S sm q∧q ∉ o ++ [p])):=by rw [hW6];exact HW6
    have Hown7:Hid (OwnI w7 w4.heap.size (.slice (some ⟨gg,0,none⟩) (o.length+1) cq) (o.length+1) (lX (o ++ [p]))):=hown7;have Hgb:Hid (w4.heap.size<=gg):=(World.ownsRow.lt hown7 gg rfl).1;have Hgl:Hid (gg<w7.heap.size):=(World.ownsRow.lt hown7 gg rfl).2;clear hW6 HW6 hown7' hgrow7 hat7 Hfin hown6 hown7 hs6 hm3
    go_loopw [56] (fun i wi=>PcRel w7 w4.heap.size E n (TkP E n S sm) o p Rp W6 g hb bg bw i wi) (fun i _=>Rp.length - (intOf i).toNat)
    case atStart=>exact ⟨0,_,l,X5,nz,rfl,hH7,Hh5,Hi5,fun q=>by rw [Hm5.out];simp,fun q hq=>by
     have:some g=some q:=hq;injection this with this
     exact Or.inl this.symm,Kp.refl _ _⟩
    case round =>
     clear hH7 Hh5 Hi5 Hm5;obtain ⟨j,v,len,X,hj,rfl,hH,hhp,hinj,hmem,hvb,hKi⟩:=hrel
     have hKi4:Kp (fun b=>b=bt∨b=hb) w4 wr:=hK7.transN hKi (fun i hi' e=>by
      rcases e with e|e
      ·exact Or.inr e
      omega)
     obtain ⟨hbwi,i0',i1',i2'⟩:=Hlo.out _ hKi4;have hbli:BlAt wr bt n W6:=hbl7.kp hKi (fun e=>by omega)
     have Hxn:Hid (∀ q,MemX X len q->q<n):=fun q hq=>by
      rcases (hmem.out q).1 hq with ⟨h1,_⟩|⟨h1,_⟩
      ·exact hTn.out q h1.1
      exact hTn.out q ((HRp.out.1 q).1 (List.mem_of_mem_take h1)).1
     have hlen:len<=n:=inj_len hinj.out Hxn.out
     by_cases hlt:j<Rp.length
     ·rcases HRc.out with h0|⟨bx,ox,rfl,hbx',hbxt,hbxh,hcx⟩
      ·omega
      obtain ⟨y,hyR,ey⟩:∃ y,y ∈ Rp∧Rp.getD j 0=y:=⟨_,getD_mem hlt,rfl⟩;have hy:y<n:=hTn.out y ((HRp.out.1 y).1 hyR).1
      have hcy:wr.cell? ⟨bx,ox+j,none⟩=some (.int .i64 (y:Int)):=by
       rw [<- ey];exact (hKi4.cell (p:=⟨bx,ox+j,none⟩) hbx' (fun e=>e.elim hbxt hbxh)).trans (hcx j hlt)
      have HRd:Hid (Calls Tryz.prog 112 #[.agg #[.slice a n cap,.map (some m),.slice ra n rc],.int .i64 (y:Int),.slice (some ⟨bt,0,none⟩) n n] wr (RdPost wr E n y W6)):=rdI_sl wr Hroom.out hy (HR.out.below hbwi) hbli;have HTk:Hid (∀ q,q ∈ Rp.take (j+1)↔q ∈ Rp.take j∨q=y):=fun q=>by rw [<- ey];exact take_mem hlt
      have Hny:Hid (¬ MemX X len y):=fun hm=>by
       rcases (hmem.out y).1 hm with ⟨h1,_⟩|⟨h1,_⟩
       ·exact Hout.out.1 (h1.2.2 p ((HRp.out.1 y).1 hyR).2 Hout.out.2)
       obtain ⟨i,hi',e⟩:=List.mem_iff_getElem.1 h1;rw [List.length_take] at hi';rw [List.getElem_take] at e;have h2:=List.pairwise_iff_getElem.1 HRp.out.2 i j (by omega) hlt (by omega);rw [List.getD,List.getElem?_eq_getElem hlt] at ey;exact h2 (e.trans ey.symm)
      have HPu:Hid (∀ W,Below wr.heap.size wr W->Calls Tryz.prog 113 #[.pointer (some ⟨hb,0,none⟩),.int .i64 (y:Int)] W (PuPost E (auN E n) W hb w4.heap.size bg bw v len y X)):=fun W hW=>push_any y W (hH.below hW) (HC4.out W ((hKi4.trans (Kp.ofB hW)).mono (fun i _ e=>e.imp id Or.inl))) Hxn.out hy (by omega) hhp.out
      have hszi:=hKi.size;clear hcx ey
      go_wp2_with fail
      refine (HRd.out).mono ?_;rintro e w8 ⟨rq,rfl,hrq,hb8⟩;cases rq
      case false =>
       have Hn:Hid (∀ q,MemX X len q↔(Cand E n (TkP E n S sm) o q∧q≠p)∨(q ∈ Rp.take (j+1)∧∀ r,Rst E n q r->W6 r=false)):=fun q=>by
        rw [hmem.out,HTk.out];refine or_congr_right ⟨?_,?_⟩
        ·rintro ⟨h1,h2⟩;exact ⟨Or.inl h1,h2⟩
        rintro ⟨h1|rfl,h2⟩
        ·exact ⟨h1,h2⟩
        exact absurd (hrq.2 h2) (by decide)
       clear hrq hmem HPu HRd;go_wp2
       go_roundw
       case rel=>exact ⟨j+1,v,len,X,by omega,by go_num,hH.below hb8,hhp.out,hinj.out,Hn.out,hvb.out,hKi.trans (Kp.ofB hb8)⟩
       simp [intOf];omega
      case true =>
       have Hrq:Hid (∀ r,Rst E n y r->W6 r=false):=hrq.1 rfl;clear hrq HRd
       go_wp2_with fail
       refine (HPu.out _ hb8).mono ?_;rintro e w9 ⟨rfl,g9,c9,X9,hH9,hg9,hhp9,hm9,hi9,hK9⟩
       have Hn:Hid (∀ q,MemX X9 (len+1) q↔(Cand E n (TkP E n S sm) o q∧q≠p)∨(q ∈ Rp.take (j+1)∧∀ r,Rst E n q r->W6 r=false)):=fun q=>by
        rw [hm9,hmem.out,HTk.out];constructor
        ·rintro ((h1|⟨h1,h2⟩)|rfl)
         ·exact Or.inl h1
         ·exact Or.inr ⟨Or.inl h1,h2⟩
         exact Or.inr ⟨Or.inr rfl,Hrq.out⟩
        rintro (h1|⟨h1|h1,h2⟩)
        ·exact Or.inl (Or.inl h1)
        ·exact Or.inl (Or.inr ⟨h1,h2⟩)
        exact Or.inr h1
       have Hh9:Hid (Heap E (auN E n) (len+1) X9):=hhp9;have Hi9:Hid (InjX X9 (len+1)):=hi9 hinj.out Hny.out
       have hKn:Kp (fun b=>b=hb∨b=g) w7 w9:=(hKi.trans (Kp.ofB hb8)).transN hK9 (fun i hi' e=>by
        rcases e with e|e
        ·exact Or.inl e
        rcases hvb.out i e with h1|h1
        ·exact Or.inr h1
        omega)
       have Hvb9:Hid (∀ q,(Value.slice (some ⟨g9,0,none⟩) (len+1) c9).ownBlock=some q->q=g∨w7.heap.size<=q):=fun q hq=>by
        have h1:some g9=some q:=hq;injection h1 with h1
        subst h1;rcases hg9 with h2|h2
        ·exact hvb.out _ h2
        have:=hb8.size;exact Or.inr (by omega)
       clear hm9 hi9 hhp9 hmem hK9 HPu;go_wp2
       go_roundw
       case rel=>exact ⟨j+1,_,len+1,X9,by omega,by go_num,hH9,Hh9,Hi9,Hn.out,Hvb9.out,hKn⟩
       simp [intOf];omega
     have hjn:Rp.length=j:=by omega
     subst hjn
     have Hfm:Hid (∀ q,MemX X len q↔Cand E n (TkP E n S sm) (o ++ [p]) q):=fun q=>by
      rw [hmem.out,List.take_length,HRp.out.1,Hcs.out];refine or_congr_right ⟨?_,?_⟩
      ·rintro ⟨⟨h1,h2⟩,h3⟩
       refine ⟨h1,h2,fun r hr ht=>Classical.byContradiction fun hn=>?_⟩
       have:=(HW7.out r ht.1).2 ⟨ht,hn⟩;rw [h3 r hr] at this;cases this
      rintro ⟨h1,h2,h3⟩;refine ⟨⟨h1,h2⟩,fun r hr=>?_⟩;have hrn:r<n:=by have:=rst_lt Hroom.out h1.1 hr;have:=h1.1;omega
      cases hq:W6 r
      ·rfl
      obtain ⟨h4,h5⟩:=(HW7.out r hrn).1 hq;exact absurd (h3 r hr h4) h5
     have hownF:OwnI wr w4.heap.size (.slice (some ⟨gg,0,none⟩) (o.length+1) cq) (o ++ [p]).length (lX (o ++ [p])):=by
      have h1:(o ++ [p]).length=o.length+1:=by simp
      rw [h1]
      exact Hown7.out.kp hKi (fun q hq e=>by
       have h2:some gg=some q:=hq;injection h2 with h2
       have:=Hgb.out
       have:=hH.hl;omega)
     have Hap:Hid (∀ q,v.ownBlock=some q->¬ (Value.slice (some ⟨gg,0,none⟩) (o.length+1) cq).ownBlock=some q):=fun q hq e=>by
      have h2:some gg=some q:=e;injection h2 with h2
      have:=Hgl.out;rcases hvb.out q hq with h3|h3 <;> omega
     have hol2:o.length<n:=by
      have h1:=ord_len Hord2.out hTn.out;rw [List.length_append] at h1;have h2:[p].length=1:=rfl;omega
     have hmz:Hid (n - lenW (.slice (some ⟨gg,0,none⟩) (o.length+1) cq)<n - lenW u10):=by unfold Hid;rw [hlu.out];show n - (o.length+1)<_;omega
     clear hmem;go_wp2
     exact ⟨⟨o ++ [p],v,len,X,W6,hownF,hH,hhp,hinj,Hfm,hbli,HW7,Hord2,Hap,hKi4⟩,hmz.out⟩
end Go.Proofs.YtkdalopokdhndaaGreat
