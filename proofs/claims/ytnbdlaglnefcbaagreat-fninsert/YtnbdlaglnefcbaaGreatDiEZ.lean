import Derived.Test.YtnbdlaglnefcbaaGreatDmWZ
namespace Go.Proofs.YtnbdlaglnefcbaaGreat
open Go.RowKit
def KI (B C:Nat)(W W':World):Prop:=W.heap.size<=W'.heap.size∧∀ b,B<=b->b<C->b<W.heap.size->W'.heap[b]?=W.heap[b]?
theorem KI.refl (B C:Nat)(W:World):KI B C W W:=⟨Nat.le_refl _,fun _ _ _ _=>rfl⟩
theorem KI.drew {B C:Nat}{W W':World}(h:KI B C W W'):KI B C W W'.drew:=h
theorem KI.set {B C c:Nat}{W W':World}(h:KI B C W W')(hc:c<B∨C<=c)(j:Nat)(x:Value):KI B C W (W'.setCell ⟨c,j,none⟩ x):=by
 have g:=Lib.grownBy_setCell W' c j x
 exact ⟨Nat.le_trans h.1 g.size,fun b h1 h2 hb=>(g.block b (Nat.lt_of_lt_of_le hb h.1) (fun e=>by injection e with e;omega)).trans (h.2 b h1 h2 hb)⟩
theorem KI.cell {B C:Nat}{W W':World}(h:KI B C W W'){b o:Nat}(h1:B<=b)(h2:b<C)(hb:b<W.heap.size):W'.cell? ⟨b,o,none⟩=W.cell? ⟨b,o,none⟩:=World.cell?_of_block (a:=⟨b,o,none⟩) (h.2 b h1 h2 hb)
theorem SlS.ki {B C:Nat}{W W':World}{a:Option Addr}{n cap:Nat}{S:Nat->ByteArray}(h:SlS W a n cap S)(hv:Iv a n B C)(hk:KI B C W W'):SlS W' a n cap S:=by
 rcases hv with h0|⟨b,off,rfl,h1,h2⟩
 ·exact ⟨h.le,h.max,h.size,Or.inl h0⟩
 ·refine ⟨h.le,h.max,h.size,h.cells.imp id fun ⟨b',off',e,hlt,hc⟩=>⟨b',off',e,Nat.lt_of_lt_of_le hlt hk.1,fun i hi=>?_⟩⟩
  have e2:b=b':=by injection e with e;injection e
  exact (hk.cell (by omega) (by omega) hlt).trans (hc i hi)
theorem SlG.ki {B C:Nat}{W W':World}{a:Option Addr}{n cap:Nat}{M:Nat->ByteArray}{L:Nat->Int}(h:SlG W a n cap M L)(hv:Iv a n B C)(hk:KI B C W W'):SlG W' a n cap M L:=by
 rcases hv with h0|⟨b,off,rfl,h1,h2⟩
 ·exact ⟨h.le,h.max,h.size,Or.inl h0⟩
 ·refine ⟨h.le,h.max,h.size,h.cells.imp id fun ⟨b',off',e,hlt,hc,hl⟩=>⟨b',off',e,Nat.lt_of_lt_of_le hlt hk.1,fun i hi=>?_,fun i hi=>?_⟩⟩
  all_goals
   have e2:b=b':=by injection e with e;injection e
  ·exact (hk.cell (by omega) (by omega) hlt).trans (hc i hi)
  ·exact (hk.cell (by omega) (by omega) hlt).trans (hl i hi)
structure EvI (B C:Nat)(W:World)(e:Ev)(pa:Option Addr)(cp:Nat)(aa:Option Addr)(ca:Nat)(ga:Option Addr)(cg:Nat):Prop where
 ok:EvOk W e pa cp aa ca ga cg
 p:Iv pa e.np B C
 a:Iv aa e.na B C
 g:Iv ga e.ng B C
theorem EvI.ki {B C:Nat}{W W':World}{e:Ev}{pa aa ga:Option Addr}{cp ca cg:Nat}(h:EvI B C W e pa cp aa ca ga cg)(hk:KI B C W W'):EvI B C W' e pa cp aa ca ga cg :=
 ⟨⟨h.ok.hid,h.ok.hsd,h.ok.hty,h.ok.hkey,h.ok.hval,h.ok.hp.ki h.p hk,h.ok.ha.ki h.a hk,h.ok.hg.ki h.g hk⟩,h.p,h.a,h.g⟩
theorem EvI.wide {B C B' C':Nat}{W:World}{e:Ev}{pa aa ga:Option Addr}{cp ca cg:Nat}(h:EvI B C W e pa cp aa ca ga cg)(h1:B'<=B)(h2:C<=C'):EvI B' C' W e pa cp aa ca ga cg:=⟨h.ok,h.p.wide h1 h2,h.a.wide h1 h2,h.g.wide h1 h2⟩
structure RmI (B C:Nat)(W:World)(rb rc n:Nat)(E:Nat->Ev):Prop where
 le:n<=rc
 max:rc<=maxLen
 lo:B<=rb
 hi:rb<C
 sz:rb<W.heap.size
 ev:∀ i,i<n->∃ pa cp aa ca ga cg,EvCells W rb (i * 10) (E i) pa cp aa ca ga cg∧EvI B C W (E i) pa cp aa ca ga cg
theorem EvCells.ki {B C:Nat}{W W':World}{b o:Nat}{e:Ev}{pa aa ga:Option Addr}{cp ca cg:Nat}(h:EvCells W b o e pa cp aa ca ga cg)(hk:KI B C W W')(h1:B<=b)(h2:b<C)(hb:b<W.heap.size):EvCells W' b o e pa cp aa ca ga cg:=by
 have hc:∀ x,W'.cell? ⟨b,x,none⟩=W.cell? ⟨b,x,none⟩:=fun x=>hk.cell h1 h2 hb
 obtain ⟨c0,c1,c2,c3,c4,c5,c6,c7,c8,c9⟩:=h
 exact ⟨(hc _).trans c0,(hc _).trans c1,(hc _).trans c2,(hc _).trans c3,(hc _).trans c4,(hc _).trans c5,(hc _).trans c6,(hc _).trans c7,(hc _).trans c8,(hc _).trans c9⟩
theorem RmI.ki {B C:Nat}{W W':World}{rb rc n:Nat}{E:Nat->Ev}(h:RmI B C W rb rc n E)(hk:KI B C W W'):RmI B C W' rb rc n E :=
 ⟨h.le,h.max,h.lo,h.hi,Nat.lt_of_lt_of_le h.sz hk.1,fun i hi=>by
  obtain ⟨pa,cp,aa,ca,ga,cg,h1,h2⟩:=h.ev i hi
  exact ⟨pa,cp,aa,ca,ga,cg,h1.ki hk h.lo h.hi h.sz,h2.ki hk⟩⟩
theorem RmI.wide {B C B' C':Nat}{W:World}{rb rc n:Nat}{E:Nat->Ev}(h:RmI B C W rb rc n E)(h1:B'<=B)(h2:C<=C'):RmI B' C' W rb rc n E :=
 ⟨h.le,h.max,Nat.le_trans h1 h.lo,Nat.lt_of_lt_of_le h.hi h2,h.sz,fun i hi=>by
  obtain ⟨pa,cp,aa,ca,ga,cg,h3,h4⟩:=h.ev i hi
  exact ⟨pa,cp,aa,ca,ga,cg,h3,h4.wide h1 h2⟩⟩
theorem RmI.less {B C:Nat}{W:World}{rb rc n n':Nat}{E:Nat->Ev}(h:RmI B C W rb rc n E)(hn:n'<=n):RmI B C W rb rc n' E:=⟨Nat.le_trans hn h.le,h.max,h.lo,h.hi,h.sz,fun i hi=>h.ev i (by omega)⟩
theorem RmI.slv {B C:Nat}{W:World}{rb rc n:Nat}{E:Nat->Ev}(h:RmI B C W rb rc n E):SlV W (some ⟨rb,0,none⟩) n rc E :=
 ⟨h.le,h.max,Or.inr ⟨rb,0,rfl,h.sz,fun i hi=>by
  obtain ⟨pa,cp,aa,ca,ga,cg,h3,h4⟩:=h.ev i hi
  rw [Nat.zero_add]
  exact ⟨pa,cp,aa,ca,ga,cg,h3,h4.ok⟩⟩⟩
theorem RowV.rmI {W:World}{base n rb rc:Nat}{E:Nat->Ev}{T:Nat->Ls}(h:RowV QO W base (.slice (some ⟨rb,0,none⟩) n rc) n E T):RmI base W.heap.size W rb rc n E:=by
 obtain ⟨h1,h2,h3,h4⟩:=h.at qkO
 refine ⟨h3.le,h3.max,h2,h1,h1,fun i hi=>⟨_,_,_,_,_,_,h4 i hi,?_⟩⟩
 have q:=(h.q i hi).j
 have lo:=h.low i hi
 exact ⟨q.ok,q.ip.wide lo q.hh.2,q.ia.wide lo q.hh.2,q.ig.wide lo q.hh.2⟩
def DiRch (bs:Nat->Nat)(m:Nat):Prop:=EvReach (diV bs m)∧diN bs m<=301∧∀ i,i<diN bs m->EvReach (diE bs m i)
theorem diRch_big {bs:Nat->Nat}{m:Nat}(h:diK bs m % 32=31):DiRch bs m:=by
 unfold DiRch diV diN diE
 rw [if_pos h,if_pos h,if_pos h]
 exact ⟨evD_reach _ _ _ _ (Nat.le_refl _),by omega,fun _ _=>evD_reach _ _ _ _ (Nat.zero_le _)⟩
theorem diRch_of {bs:Nat->Nat}{m:Nat}(h:¬ diK bs m % 32=31)(hb:(diE0 bs m).np<=1000∧(diE0 bs m).na<=1000∧(diE0 bs m).ng<=1000)(hr:∀ j,j<(diS bs m).n->EvReach ((diS bs m).E j))(h0:0<(diS bs m).n)(hn:(diS bs m).n<=300):DiRch bs m:=by
 have he:EvReach (diE0 bs m):=by unfold EvReach;omega
 unfold DiRch diV diN diE
 rw [if_neg h,if_neg h,if_neg h]
 refine ⟨ite_P EvReach (spE_reach hb) (ite_P EvReach (hr _ (Nat.mod_lt _ h0)) (ite_P EvReach ?_ (ite_P EvReach (evD_reach _ _ _ _ (Nat.zero_le _)) he))),by split <;> omega,fun i hi=>hr i ?_⟩
 ·show EvReach (addP (diE0 bs m) tNo5)
  unfold EvReach addP
  dsimp only
  omega
 ·split at hi <;> omega
def DiPost (bs:Nat->Nat)(m:Nat)(w:World)(x:Ending)(w':World):Prop :=
 ∃ b cap pa cp aa ca ga cg,x=.returned (.tuple #[.agg #[.slice (some ⟨b,0,none⟩) (diN bs m) cap],(diV bs m).val' pa cp aa ca ga cg])∧SlV w' (some ⟨b,0,none⟩) (diN bs m) cap (diE bs m)∧EvOk w' (diV bs m) pa cp aa ca ga cg∧DiRch bs m∧Below w.heap.size w w'
structure DiW (w W:World)(R V rb rc n:Nat)(E:Nat->Ev)(e:Ev)(pa:Option Addr)(cp:Nat)(aa:Option Addr)(ca:Nat)(ga:Option Addr)(cg:Nat):Prop where
 z0:∃ v,W.cell? ⟨w.heap.size,0,none⟩=some v
 z1:∀ o,o<10->∃ v,W.cell? ⟨w.heap.size+1,o,none⟩=some v
 g0:∀ o,W.frozen? ⟨w.heap.size,o,none⟩=false
 g1:∀ o,W.frozen? ⟨w.heap.size+1,o,none⟩=false
 r:W.cell? ⟨R,0,none⟩=some (.slice (some ⟨rb,0,none⟩) n rc)
 v:∀ o,o<10->W.cell? ⟨V,o,none⟩=some ((#[.string e.id,.string e.sd,.string e.ty,.bool e.st,.string e.key,.int .i64 e.tm,.slice pa e.np cp,.slice aa e.na ca,.string e.val,.slice ga e.ng cg]:Array Value)[o]?.getD undef)
 lr:w.heap.size+1<R
 lv:w.heap.size+1<V
 bel:Below w.heap.size w W
 rm:RmI (w.heap.size+2) W.heap.size W rb rc n E
 ev:EvI (w.heap.size+2) W.heap.size W e pa cp aa ca ga cg
theorem DiW.drew {w W:World}{R V rb rc n:Nat}{E:Nat->Ev}{e:Ev}{pa aa ga:Option Addr}{cp ca cg:Nat}(h:DiW w W R V rb rc n E e pa cp aa ca ga cg):DiW w W.drew R V rb rc n E e pa cp aa ca ga cg :=
 ⟨h.z0,h.z1,h.g0,h.g1,h.r,h.v,h.lr,h.lv,h.bel.drew,h.rm.ki (KI.refl _ _ _).drew,h.ev.ki (KI.refl _ _ _).drew⟩
set_option maxRecDepth 100000 in
set_option maxHeartbeats 4000000 in
theorem diEnd {R V rb rc n:Nat}{E:Nat->Ev}{e:Ev}{pa aa ga:Option Addr}{cp ca cg:Nat}{Z:Ending->World->Prop}{u0 u1 u4 u5 u6 u7 u8 u10 u12 u13 u14 u15 u16 u17 u18 u19 u20 u21 u22 u23 u24 u25 u26 u27 u28 u29 u30 u31 u32 u33 u34 u35 u36 u37 u38 u39 u40 u41 u42 u43 u44 u45 u46 u47 u48 u49 u50 u51 u52 u53 u54 u55 u56 u57 u58 u59 u60 u61 u62 u63 u64 u65 u66 u67 u68 u69 u70 u71 u72 u73 u74 u75 u76 u77 u78 u79 u80 u81 u82 u83 u84 u85 u86 u87 u88 u89 u90 u91 u92 u93 u94:Value}(w W:World)(HX:Hid (DiW w W R V rb rc n E e pa cp aa ca ga cg))(HR:Hid (∀ W',SlV W' (some ⟨rb,0,none⟩) n rc E->EvOk W' e pa cp aa ca ga cg->Below w.heap.size w W'->Z (.returned (.tuple #[.agg #[.slice (some ⟨rb,0,none⟩) n rc],.agg #[.string e.id,.string e.sd,.string e.ty,.bool e.st,.string e.key,.int .i64 e.tm,.slice pa e.np cp,.slice aa e.na ca,.string e.val,.slice ga e.ng cg]])) W')) :
  Code.wp Tryz.prog (tlN (Tryz.f4.body.getD .skip) 12) (bodyPost Tryz.prog Tryz.f4 Z) { tmps:=#[u0,u1,.pointer (some ⟨w.heap.size,0,none⟩),.pointer (some ⟨w.heap.size+1,0,none⟩),u4,u5,u6,u7,u8,.pointer (some ⟨R,0,none⟩),u10,.pointer (some ⟨V,0,none⟩),u12,u13,u14,u15,u16,u17,u18,u19,u20,u21,u22,u23,u24,u25,u26,u27,u28,u29,u30,u31,u32,u33,u34,u35,u36,u37,u38,u39,u40,u41,u42,u43,u44,u45,u46,u47,u48,u49,u50,u51,u52,u53,u54,u55,u56,u57,u58,u59,u60,u61,u62,u63,u64,u65,u66,u67,u68,u69,u70,u71,u72,u73,u74,u75,u76,u77,u78,u79,u80,u81,u82,u83,u84,u85,u86,u87,u88,u89,u90,u91,u92,u93,u94],defers:=[] } W:=by
 first
  | rw [show tlN (Tryz.f4.body.getD .skip) 12=Code.seq _ _ from rfl]
  | rw [show tlN (Tryz.f4.body.getD .skip) 12=Code.region 24 _ _ from rfl]
 have c0:W.cell? ⟨V,0,none⟩=some (.string e.id):=HX.out.v 0 (by decide)
 have c1:W.cell? ⟨V,1,none⟩=some (.string e.sd):=HX.out.v 1 (by decide)
 have c2:W.cell? ⟨V,2,none⟩=some (.string e.ty):=HX.out.v 2 (by decide)
 have c3:W.cell? ⟨V,3,none⟩=some (.bool e.st):=HX.out.v 3 (by decide)
 have c4:W.cell? ⟨V,4,none⟩=some (.string e.key):=HX.out.v 4 (by decide)
 have c5:W.cell? ⟨V,5,none⟩=some (.int .i64 e.tm):=HX.out.v 5 (by decide)
 have c6:W.cell? ⟨V,6,none⟩=some (.slice pa e.np cp):=HX.out.v 6 (by decide)
 have c7:W.cell? ⟨V,7,none⟩=some (.slice aa e.na ca):=HX.out.v 7 (by decide)
 have c8:W.cell? ⟨V,8,none⟩=some (.string e.val):=HX.out.v 8 (by decide)
 have c9:W.cell? ⟨V,9,none⟩=some (.slice ga e.ng cg):=HX.out.v 9 (by decide)
 have r0:=HX.out.r
 obtain ⟨z,y⟩:=HX.out.z0
 obtain ⟨x0,y0⟩:=HX.out.z1 0 (by decide)
 obtain ⟨x1,y1⟩:=HX.out.z1 1 (by decide)
 obtain ⟨x2,y2⟩:=HX.out.z1 2 (by decide)
 obtain ⟨x3,y3⟩:=HX.out.z1 3 (by decide)
 obtain ⟨x4,y4⟩:=HX.out.z1 4 (by decide)
 obtain ⟨x5,y5⟩:=HX.out.z1 5 (by decide)
 obtain ⟨x6,y6⟩:=HX.out.z1 6 (by decide)
 obtain ⟨x7,y7⟩:=HX.out.z1 7 (by decide)
 obtain ⟨x8,y8⟩:=HX.out.z1 8 (by decide)
 obtain ⟨x9,y9⟩:=HX.out.z1 9 (by decide)
 have g0:=HX.out.g0
 have g1:=HX.out.g1
 have n1:w.heap.size≠R:=by have:=HX.out.lr;omega
 have n2:w.heap.size+1≠R:=by have:=HX.out.lr;omega
 have n3:w.heap.size≠V:=by have:=HX.out.lv;omega
 have n4:w.heap.size+1≠V:=by have:=HX.out.lv;omega
 have HF:Hid (∀ W',KI (w.heap.size+2) W.heap.size W W'->Below w.heap.size w W'->Z (.returned (.tuple #[.agg #[.slice (some ⟨rb,0,none⟩) n rc],.agg #[.string e.id,.string e.sd,.string e.ty,.bool e.st,.string e.key,.int .i64 e.tm,.slice pa e.np cp,.slice aa e.na ca,.string e.val,.slice ga e.ng cg]])) W'):=fun W' hK hB=>HR.out W' (HX.out.rm.ki hK).slv (HX.out.ev.ki hK).ok hB
 have HB:Hid (Below w.heap.size w W):=HX.out.bel
 clear HX HR
 go_wp2_with fail
 go_region
 all_goals
  go_wp2
  refine bodyPost_ret (v:=.tuple #[.agg #[.slice (some ⟨rb,0,none⟩) n rc],.agg #[.string e.id,.string e.sd,.string e.ty,.bool e.st,.string e.key,.int .i64 e.tm,.slice pa e.np cp,.slice aa e.na ca,.string e.val,.slice ga e.ng cg]]) (by simp [results,Tryz.results4,go_sem,y,y0,y1,y2,y3,y4,y5,y6,y7,y8,y9]) rfl ?_
  refine HF.out _ ?_ ?_
  ·repeat first
    | with_reducible exact KI.refl _ _ _
    | with_reducible refine KI.set ?_ (Or.inl (show w.heap.size<w.heap.size+2 from by omega)) _ _
    | with_reducible refine KI.set ?_ (Or.inl (show w.heap.size+1<w.heap.size+2 from by omega)) _ _
    | with_reducible refine KI.drew ?_
  ·repeat first
    | with_reducible exact HB.out
    | with_reducible refine Below.setCell ?_ (show w.heap.size<=w.heap.size from Nat.le_refl _) _
    | with_reducible refine Below.setCell ?_ (show w.heap.size<=w.heap.size+1 from Nat.le_succ _) _
    | with_reducible refine Below.drew ?_
structure EvX (p:Nat)(wo w W:World)(bs:Nat->Nat)(m q lo hi:Nat)(c:Nat->Value):Prop where
 b:∀ o,o<10->W.cell? ⟨w.heap.size,o,none⟩=some (c o)
 z:∀ o,o<10->∃ v,W.cell? ⟨w.heap.size+1,o,none⟩=some v
 f0:∀ o,W.frozen? ⟨w.heap.size,o,none⟩=false
 f1:∀ o,W.frozen? ⟨w.heap.size+1,o,none⟩=false
 sz:w.heap.size+2<=W.heap.size
 k:∀ b,b<w.heap.size->b≠p->(b<lo∨hi<=b)->W.heap[b]?=w.heap[b]?
 dw:DwF p wo W bs m q
section
variable {p:Nat} {wo w W:World} {bs:Nat->Nat} {m q lo hi:Nat} {c:Nat->Value}
theorem EvX.congr (h:EvX p wo w W bs m q lo hi c){c':Nat->Value}(hc:∀ o,o<10->c o=c' o):EvX p wo w W bs m q lo hi c':=⟨fun o ho=>by rw [<- hc o ho];exact h.b o ho,h.z,h.f0,h.f1,h.sz,h.k,h.dw⟩
theorem EvX.kept (h:EvX p wo w W bs m q lo hi c){W':World}{q':Nat}(hk:∀ b,w.heap.size<=b->b<w.heap.size+2->W'.heap[b]?=W.heap[b]?)(hs:W.heap.size<=W'.heap.size)(hl:∀ b,b<w.heap.size->b≠p->(b<lo∨hi<=b)->W'.heap[b]?=W.heap[b]?)(hd:DwF p wo W' bs m q'):EvX p wo w W' bs m q' lo hi c:=by
 have hc:∀ b o,w.heap.size<=b->b<w.heap.size+2->W'.cell? ⟨b,o,none⟩=W.cell? ⟨b,o,none⟩:=fun b o h1 h2=>World.cell?_of_block (a:=⟨b,o,none⟩) (hk b h1 h2)
 have hz:∀ b o,w.heap.size<=b->b<w.heap.size+2->W'.frozen? ⟨b,o,none⟩=W.frozen? ⟨b,o,none⟩:=fun b o h1 h2=>World.frozen?_of_block (a:=⟨b,o,none⟩) (hk b h1 h2)
 exact ⟨fun o ho=>(hc _ _ (by omega) (by omega)).trans (h.b o ho),fun o ho=>(h.z o ho).imp fun v hv=>(hc _ _ (by omega) (by omega)).trans hv,fun o=>(hz _ _ (by omega) (by omega)).trans (h.f0 o),fun o=>(hz _ _ (by omega) (by omega)).trans (h.f1 o),Nat.le_trans h.sz hs,fun b h1 h2 h3=>(hl b h1 h2 h3).trans (h.k b h1 h2 h3),hd⟩
theorem EvX.below (h:EvX p wo w W bs m q lo hi c){W':World}(hb:Below W.heap.size W W'):EvX p wo w W' bs m q lo hi c :=
 h.kept (fun b _ h2=>hb.block b (by have:=h.sz;omega)) hb.size (fun b h1 _ _=>hb.block b (by have:=h.sz;omega)) (h.dw.below hb)
theorem EvX.draw (h:EvX p wo w W bs m q lo hi c)(hp:p<w.heap.size){W':World}{q':Nat}(hd:DwF p W W' bs m q'):EvX p wo w W' bs m q' lo hi c :=
 h.kept (fun b h1 h2=>hd.2.block b (by have:=h.sz;omega) (fun e=>by injection e with e;omega)) hd.size (fun b h1 h2 _=>hd.2.block b (by have:=h.sz;omega) (fun e=>by injection e with e;omega)) (h.dw.trans hd)
theorem EvX.grow (h:EvX p wo w W bs m q lo hi c)(hp:p<wo.heap.size)(hwo:wo.heap.size<=lo)(hhi:hi<=w.heap.size)(hww:wo.heap.size<=w.heap.size){W':World}{row:Option Nat}(hg:W.grownBy W' row)(hr:∀ b,row=some b->(lo<=b∧b<hi)∨w.heap.size+2<=b):EvX p wo w W' bs m q lo hi c :=
 h.kept (fun b h1 h2=>hg.block b (by have:=h.sz;omega) (fun e=>by rcases hr b e.symm with r|r <;> omega)) hg.size (fun b h1 h2 h3=>hg.block b (by have:=h.sz;omega) (fun e=>by rcases hr b e.symm with r|r <;> omega)) (h.dw.grow hg (fun b hb=>by rcases hr b hb with r|r <;> omega) hp)
theorem EvX.set (h:EvX p wo w W bs m q lo hi c)(hp:p<wo.heap.size)(hww:wo.heap.size<=w.heap.size)(o:Nat)(x:Value):EvX p wo w (W.setCell ⟨w.heap.size,o,none⟩ x) bs m q lo hi (fun i=>if i=o then x else c i):=by
 have hg:=Lib.grownBy_setCell W w.heap.size o x
 refine ⟨fun i hi=>?_,fun i hi=>?_,fun i=>by rw [World.frozen?_setCell];exact h.f0 i,fun i=>by rw [World.frozen?_setCell];exact h.f1 i,Nat.le_trans h.sz hg.size,fun b h1 h2 h3=>(hg.block b (by have:=h.sz;omega) (fun e=>by injection e with e;omega)).trans (h.k b h1 h2 h3),h.dw.own hww hp o x⟩
 ·by_cases e:i=o
  ·subst e;rw [if_pos rfl];exact set_same ⟨_,h.b i hi⟩
  ·rw [if_neg e,set_far (by omega)];exact h.b i hi
 ·obtain ⟨v,hv⟩:=h.z i hi
  exact ⟨v,(World.cell?_of_block (a:=⟨w.heap.size+1,i,none⟩) (hg.block (w.heap.size+1) (by have:=h.sz;omega) (fun e=>by injection e with e;omega))).trans hv⟩
end
theorem evX_new {p:Nat}{wo w:World}{bs:Nat->Nat}{m q lo hi:Nat}{cs:Array Value}{t:TypeId}(h:DwF p wo w bs m q)(hc:cs.size=10):EvX p wo w ((w.alloc (.cells cs t)).alloc (.cells #[.string ⟨#[]⟩,.string ⟨#[]⟩,.string ⟨#[]⟩,.bool false,.string ⟨#[]⟩,.int .i64 0,.slice none 0 0,.slice none 0 0,.string ⟨#[]⟩,.slice none 0 0] t)) bs m q lo hi (fun o=>cs[o]?.getD undef):=by
 have hb:Below w.heap.size w ((w.alloc (.cells cs t)).alloc (.cells #[.string ⟨#[]⟩,.string ⟨#[]⟩,.string ⟨#[]⟩,.bool false,.string ⟨#[]⟩,.int .i64 0,.slice none 0 0,.slice none 0 0,.string ⟨#[]⟩,.slice none 0 0] t)):=bA.alloc (by simp) _
 refine ⟨fun o ho=>?_,fun o ho=>?_,fun o=>?_,fun o=>World.frozen?_alloc_at _ _ _ _ (by simp),by simp,fun b h1 _ _=>hb.block b h1,h.below hb⟩
 ·rw [World.cell?_alloc_past _ _ _ (by simp),World.cell?_alloc_at _ _ _ _ rfl,Array.getElem?_eq_getElem (by omega)]
  rfl
 ·rw [World.cell?_alloc_at _ _ _ _ (by simp)]
  match o,ho with
  | 0,_=>exact ⟨_,rfl⟩
  | 1,_=>exact ⟨_,rfl⟩
  | 2,_=>exact ⟨_,rfl⟩
  | 3,_=>exact ⟨_,rfl⟩
  | 4,_=>exact ⟨_,rfl⟩
  | 5,_=>exact ⟨_,rfl⟩
  | 6,_=>exact ⟨_,rfl⟩
  | 7,_=>exact ⟨_,rfl⟩
  | 8,_=>exact ⟨_,rfl⟩
  | 9,_=>exact ⟨_,rfl⟩
 ·rw [World.frozen?_alloc_past _ _ _ (by simp)]
  exact World.frozen?_alloc_at _ _ _ _ rfl
set_option maxRecDepth 100000 in
set_option maxHeartbeats 1000000 in
theorem xeEnd (p:Nat){bs:Nat->Nat}{m q lo hi:Nat}{e:Ev}{pa aa ga:Option Addr}{cp ca cg:Nat}{R:Ending->World->Prop}{u1 u5 u6 u7 u8 u9 u10 u11 u12 u13 u14 u15 u16 u17 u18 u19 u20 u21 u22 u23 u24 u25 u26 u27 u28 u29 u30 u31 u32 u33 u34 u35 u36 u37 u38 u39 u40 u41 u42 u43 u44 u45 u46 u47 u48 u49 u50 u51 u52 u53 u54 u55 u56 u57 u58 u59 u60 u61 u62 u63 u64 u65 u66 u67 u68 u69 u70 u71 u72 u73 u74 u75 u76 u77 u78 u79 u80 u81 u82 u83 u84 u85 u86 u87 u88 u89 u90 u91 u92 u93 u94 u95 u96 u97 u98 u99 u100 u101 u102 u103 u104 u105 u106 u107 u108 u109 u110 u111 u112 u113 u114 u115 u116 u117 u118 u119 u120 u121 u122 u123 u124 u125 u126 u127 u128 u129 u130 u131 u132 u133 u134 u135 u136 u137 u138 u139 u140 u141 u142 u143 u144 u145 u146 u147 u148 u149 u150 u151 u152 u153 u154 u155 u156 u157 u158 u159 u160 u161 u162 u163 u164 u165 u166:Value}(wo w W:World)(hp:p<wo.heap.size)(hww:wo.heap.size<=w.heap.size)(HX:Hid (EvX p wo w W bs m q lo hi (fun o=>(#[.string e.id,.string e.sd,.string e.ty,.bool e.st,.string e.key,.int .i64 e.tm,.slice pa e.np cp,.slice aa e.na ca,.string e.val,.slice ga e.ng cg]:Array Value)[o]?.getD undef)))(HR:Hid (∀ W',Kb (w.heap.size+1) W W'->DwF p wo W' bs m q->R (.returned (.agg #[.string e.id,.string e.sd,.string e.ty,.bool e.st,.string e.key,.int .i64 e.tm,.slice pa e.np cp,.slice aa e.na ca,.string e.val,.slice ga e.ng cg])) W')) :
  Code.wp Tryz.prog (tlN (Tryz.f14.body.getD .skip) 5) (bodyPost Tryz.prog Tryz.f14 R) { tmps:=#[.pointer (some ⟨p,0,none⟩),u1,undef,.pointer (some ⟨w.heap.size,0,none⟩),.pointer (some ⟨w.heap.size+1,0,none⟩),u5,u6,u7,u8,u9,u10,u11,u12,u13,u14,u15,u16,u17,u18,u19,u20,u21,u22,u23,u24,u25,u26,u27,u28,u29,u30,u31,u32,u33,u34,u35,u36,u37,u38,u39,u40,u41,u42,u43,u44,u45,u46,u47,u48,u49,u50,u51,u52,u53,u54,u55,u56,u57,u58,u59,u60,u61,u62,u63,u64,u65,u66,u67,u68,u69,u70,u71,u72,u73,u74,u75,u76,u77,u78,u79,u80,u81,u82,u83,u84,u85,u86,u87,u88,u89,u90,u91,u92,u93,u94,u95,u96,u97,u98,u99,u100,u101,u102,u103,u104,u105,u106,u107,u108,u109,u110,u111,u112,u113,u114,u115,u116,u117,u118,u119,u120,u121,u122,u123,u124,u125,u126,u127,u128,u129,u130,u131,u132,u133,u134,u135,u136,u137,u138,u139,u140,u141,u142,u143,u144,u145,u146,u147,u148,u149,u150,u151,u152,u153,u154,u155,u156,u157,u158,u159,u160,u161,u162,u163,u164,u165,u166],defers:=[] } W:=by
 first
  | rw [show tlN (Tryz.f14.body.getD .skip) 5=Code.seq _ _ from rfl]
  | rw [show tlN (Tryz.f14.body.getD .skip) 5=Code.region 41 _ _ from rfl]
 have b0:W.cell? ⟨w.heap.size,0,none⟩=some (.string e.id):=HX.out.b 0 (by decide)
 have b1:W.cell? ⟨w.heap.size,1,none⟩=some (.string e.sd):=HX.out.b 1 (by decide)
 have b2:W.cell? ⟨w.heap.size,2,none⟩=some (.string e.ty):=HX.out.b 2 (by decide)
 have b3:W.cell? ⟨w.heap.size,3,none⟩=some (.bool e.st):=HX.out.b 3 (by decide)
 have b4:W.cell? ⟨w.heap.size,4,none⟩=some (.string e.key):=HX.out.b 4 (by decide)
 have b5:W.cell? ⟨w.heap.size,5,none⟩=some (.int .i64 e.tm):=HX.out.b 5 (by decide)
 have b6:W.cell? ⟨w.heap.size,6,none⟩=some (.slice pa e.np cp):=HX.out.b 6 (by decide)
 have b7:W.cell? ⟨w.heap.size,7,none⟩=some (.slice aa e.na ca):=HX.out.b 7 (by decide)
 have b8:W.cell? ⟨w.heap.size,8,none⟩=some (.string e.val):=HX.out.b 8 (by decide)
 have b9:W.cell? ⟨w.heap.size,9,none⟩=some (.slice ga e.ng cg):=HX.out.b 9 (by decide)
 obtain ⟨v0,z0⟩:=HX.out.z 0 (by decide)
 obtain ⟨v1,z1⟩:=HX.out.z 1 (by decide)
 obtain ⟨v2,z2⟩:=HX.out.z 2 (by decide)
 obtain ⟨v3,z3⟩:=HX.out.z 3 (by decide)
 obtain ⟨v4,z4⟩:=HX.out.z 4 (by decide)
 obtain ⟨v5,z5⟩:=HX.out.z 5 (by decide)
 obtain ⟨v6,z6⟩:=HX.out.z 6 (by decide)
 obtain ⟨v7,z7⟩:=HX.out.z 7 (by decide)
 obtain ⟨v8,z8⟩:=HX.out.z 8 (by decide)
 obtain ⟨v9,z9⟩:=HX.out.z 9 (by decide)
 have f1:=HX.out.f1
 have HD:Hid (DwF p wo W bs m q):=HX.out.dw
 clear HX
 go_wp2
 refine bodyPost_ret (v:=.agg #[.string e.id,.string e.sd,.string e.ty,.bool e.st,.string e.key,.int .i64 e.tm,.slice pa e.np cp,.slice aa e.na ca,.string e.val,.slice ga e.ng cg]) (by simp [results,Tryz.results14,go_sem,z0,z1,z2,z3,z4,z5,z6,z7,z8,z9]) rfl (HR.out _ (Kb.fill10 (w.heap.size+1) W _ _ _ _ _ _ _ _ _ _) ?_)
 (repeat (refine DwF.own ?_ (by omega) hp _ _))
 exact HD.out
end Go.Proofs.YtnbdlaglnefcbaaGreat
