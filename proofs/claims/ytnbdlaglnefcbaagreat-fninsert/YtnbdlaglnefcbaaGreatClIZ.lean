import Derived.Lib.SliceRun
import Derived.Test.YtnbdlaglnefcbaaGreatRmZ
import Derived.Deep.RegionHeld3
import Derived.Deep.DeepCutAuto
namespace Go.Proofs.YtnbdlaglnefcbaaGreat
open Go.RowKit
theorem strs_src {w:World}{b off n:Nat}{S:Nat->ByteArray}(hc:∀ i,i<n->w.cell? ⟨b,off+i,none⟩=some (.string (S i)))(j:Nat)(u:Value)(h:(strs S n)[j]?=some u):w.cell? ((⟨b,off,none⟩:Addr).add j)=some u:=by
 have hj:j<n:=by
  have:=(List.getElem?_eq_some_iff.1 h).1
  rwa [strs_len] at this
 rw [strs_get S n j hj] at h
 rw [Addr.add_lit]
 exact (hc j hj).trans h
theorem strs_one (S:Nat->ByteArray)(n:Nat)(u:Value)(h:u ∈ strs S n):u.oneCell'=true:=by
 unfold strs at h
 obtain ⟨i,_,rfl⟩:=List.mem_map.1 h
 rfl
theorem encG_src {w:World}{b off n:Nat}{M:Nat->ByteArray}{L:Nat->Int}(h1:∀ i,i<n->w.cell? ⟨b,off+i * 2,none⟩=some (.string (M i)))(h2:∀ i,i<n->w.cell? ⟨b,off+i * 2+1,none⟩=some (.int .i64 (L i)))(j:Nat)(u:Value)(h:(encG M L n)[j]?=some u):w.cell? ((⟨b,off,none⟩:Addr).add j)=some u:=by
 have hj:j<n * 2:=by
  have:=(List.getElem?_eq_some_iff.1 h).1
  rwa [encG_len] at this
 have hi:=encG_get M L n (j / 2) (by omega)
 rcases (by omega:j=j / 2 * 2∨j=j / 2 * 2+1) with e|e
 ·rw [e,hi.1] at h
  have:=(h1 (j / 2) (by omega)).trans h
  rw [<- e] at this
  rw [Addr.add_lit]
  exact this
 ·rw [e,hi.2] at h
  have:=(h2 (j / 2) (by omega)).trans h
  rw [show off+j / 2 * 2+1=off+j by omega] at this
  rw [Addr.add_lit]
  exact this
theorem encG_one (M:Nat->ByteArray)(L:Nat->Int)(n:Nat)(u:Value)(h:u ∈ encG M L n):u.oneCell'=true:=by
 unfold encG at h
 obtain ⟨i,_,hi⟩:=List.mem_flatMap.1 h
 simp only [List.mem_cons,List.not_mem_nil,or_false] at hi
 rcases hi with rfl|rfl <;> rfl
theorem OwnG.slw {w:World}{base n:Nat}{v:Value}{M:Nat->ByteArray}{L:Nat->Int}(h:OwnG w base v n M L)(hs:∀ i,i<n->(M i).size<=maxLen) :
  ∃ a cap,v=.slice a n cap∧SlG w a n cap M L∧SlW w base a n 2:=by
 rcases row_cells h with ⟨rfl,rfl⟩|⟨g,cap,rfl,hg,hlt,hn,hc,hx,hf⟩
 ·exact ⟨none,0,rfl,⟨Nat.le_refl _,by decide,hs,Or.inl rfl⟩,Or.inl rfl⟩
 ·refine ⟨_,cap,rfl,⟨hn,hc,hs,Or.inr ⟨g,0,rfl,hlt,fun i hi=>?_,fun i hi=>?_⟩⟩,Or.inr ⟨g,0,rfl,hg,hlt,fun i hi=>⟨?_,hf _⟩⟩⟩
  ·rw [show 0+i * 2=0+(i * 2) by omega,hx _ (by omega)];exact (encG_get M L n i hi).1
  ·rw [show 0+i * 2+1=0+(i * 2+1) by omega,hx _ (by omega)];exact (encG_get M L n i hi).2
  ·exact ⟨_,(hx i hi).trans (List.getElem?_eq_getElem (by rw [encG_len];omega))⟩
set_option maxRecDepth 100000 in
set_option maxHeartbeats 1000000 in
theorem clS_sl {a:Option Addr}{n cap:Nat}{S:Nat->ByteArray}(w:World)(hr:n * 16<=140737488355328)(h:SlS w a n cap S) :
  Calls Tryz.prog 37 #[.slice a n cap] w fun x w'=>∃ a' c',x=.returned (.slice a' n c')∧SlS w' a' n c' S∧SlW w' w.heap.size a' n 1∧Below w.heap.size w w':=by
 have q22:∀ (w:World) (a:Option Addr) (n c n' c':Nat),(binOp .eql 26 (.slice a n c) (.slice none n' c')).run Tryz.prog w=.ok (.bool a.isNone) w:=fun w a n c n' c'=>Lib.run_eql_slice_nil w _ _ a n c n' c' Tryz.underlying26
 obtain ⟨i0,hi,hz0,hz1,hz2⟩:=info_parts Tryz.infoString
 have hsz:=h.size
 have hn:n<=maxLen:=Nat.le_trans h.le h.max
 cases a with
 | none =>
  have hn0:n=0:=by
   rcases h.cells with h0|⟨b,off,e,_⟩
   ·exact h0
   ·cases e
  subst hn0
  clear h
  go_enter Tryz.func37,Tryz.ntmps37
  go_wp2
  go_ret
  exact ⟨none,0,rfl,⟨Nat.le_refl _,by decide,hsz,Or.inl rfl⟩,Or.inl rfl,Below.refl _ _⟩
 | some ad =>
  have HS:Hid (∀ j u,(strs S n)[j]?=some u->(w.alloc (.cells #[] 9)).cell? (ad.add j)=some u):=fun j u hj=>by
   rcases h.cells with rfl|⟨b,off,e,hb,hc⟩
   ·cases hj
   ·injection e with e
    subst e
    have hb0:Below w.heap.size w (w.alloc (.cells #[] 9)):=bA
    have:=strs_src hc j u hj
    rw [Addr.add_lit] at this ⊢
    exact (hb0.cell (by exact hb)).trans this
  clear h
  go_enter Tryz.func37,Tryz.ntmps37
  go_wp2_with (at_builtin;refine wpList_append_own _ rfl _ _ 26 rfl w.heap.size 9 i0 (.string ByteArray.empty) 1 16 Tryz.underlying26 hi hz0 hz1 hz2 rfl (by decide) _ _ _ rfl (OwnT.new w w.heap.size (Nat.le_refl _) S) ad n cap (strs S n) rfl (by rw [strs_len,Nat.mul_one]) HS.out (strs_one S n) (by rw [Nat.zero_add];exact hn) (by rw [Nat.zero_add];exact hr) (by simp) ?_;intro v' w1 hown hgrow _)
  have hown':OwnT w1 w.heap.size v' n S:=by
   unfold OwnT
   have:=hown
   rw [Nat.zero_add] at this
   exact this
  obtain ⟨a',c',rfl,h1,h2⟩:=hown'.slw hsz
  have hbel:Below w.heap.size w w1:=((Below.refl _ w).alloc (Nat.le_refl _) _).grown hgrow (by simp) (fun k hk=>by
   have hk2:some w.heap.size=some k:=hk
   injection hk2 with hk2
   omega)
  clear hown hown' hgrow
  go_wp2
  go_ret
  exact ⟨a',c',rfl,h1,h2,hbel⟩
set_option maxRecDepth 100000 in
set_option maxHeartbeats 1000000 in
theorem clG_sl {a:Option Addr}{n cap:Nat}{M:Nat->ByteArray}{L:Nat->Int}(w:World)(hr:n * 24<=140737488355328)(h:SlG w a n cap M L) :
  Calls Tryz.prog 38 #[.slice a n cap] w fun x w'=>∃ a' c',x=.returned (.slice a' n c')∧SlG w' a' n c' M L∧SlW w' w.heap.size a' n 2∧Below w.heap.size w w':=by
 have q22:∀ (w:World) (a:Option Addr) (n c n' c':Nat),(binOp .eql 27 (.slice a n c) (.slice none n' c')).run Tryz.prog w=.ok (.bool a.isNone) w:=fun w a n c n' c'=>Lib.run_eql_slice_nil w _ _ a n c n' c' Tryz.underlying27
 obtain ⟨i0,hi,hz0,hz1,hz2⟩:=info_parts Tryz.infoGrant
 have hsz:=h.size
 have hn:n<=maxLen:=Nat.le_trans h.le h.max
 cases a with
 | none =>
  have hn0:n=0:=by
   rcases h.cells with h0|⟨b,off,e,_⟩
   ·exact h0
   ·cases e
  subst hn0
  clear h
  go_enter Tryz.func38,Tryz.ntmps38
  go_wp2
  go_ret
  exact ⟨none,0,rfl,⟨Nat.le_refl _,by decide,hsz,Or.inl rfl⟩,Or.inl rfl,Below.refl _ _⟩
 | some ad =>
  have HS:Hid (∀ j u,(encG M L n)[j]?=some u->(w.alloc (.cells #[] 54)).cell? (ad.add j)=some u):=fun j u hj=>by
   rcases h.cells with rfl|⟨b,off,e,hb,h1,h2⟩
   ·cases hj
   ·injection e with e
    subst e
    have hb0:Below w.heap.size w (w.alloc (.cells #[] 54)):=bA
    have:=encG_src h1 h2 j u hj
    rw [Addr.add_lit] at this ⊢
    exact (hb0.cell (by exact hb)).trans this
  clear h
  go_enter Tryz.func38,Tryz.ntmps38
  go_wp2_with (at_builtin;refine wpList_append_own _ rfl _ _ 27 rfl w.heap.size 54 i0 (.agg #[.string ByteArray.empty,.int .i64 0]) 2 24 Tryz.underlying27 hi hz0 hz1 hz2 rfl (by decide) _ _ _ rfl (OwnG.new w w.heap.size (Nat.le_refl _) M L) ad n cap (encG M L n) rfl (encG_len M L n) HS.out (encG_one M L n) (by rw [Nat.zero_add];exact hn) (by rw [Nat.zero_add];exact hr) (by simp) ?_;intro v' w1 hown hgrow _)
  have hown':OwnG w1 w.heap.size v' n M L:=by
   unfold OwnG
   have:=hown
   rw [Nat.zero_add] at this
   exact this
  obtain ⟨a',c',rfl,h1,h2⟩:=hown'.slw hsz
  have hbel:Below w.heap.size w w1:=((Below.refl _ w).alloc (Nat.le_refl _) _).grown hgrow (by simp) (fun k hk=>by
   have hk2:some w.heap.size=some k:=hk
   injection hk2 with hk2
   omega)
  clear hown hown' hgrow
  go_wp2
  go_ret
  exact ⟨a',c',rfl,h1,h2,hbel⟩

def mkV (n:Nat):Array Value:=madeCells #[.string ByteArray.empty,.string ByteArray.empty,.string ByteArray.empty,.bool false,.string ByteArray.empty,.int .i64 0,.slice none 0 0,.slice none 0 0,.string ByteArray.empty,.slice none 0 0] (n * 10)
theorem mkV_size (n:Nat):(mkV n).size=n * 10:=size_madeCells _ _
theorem Tryz.infoEvent:(Tryz.prog.info? 29).map (fun i=>(i.zero,i.size,i.bytes))=some (some (.agg #[.string ByteArray.empty,.string ByteArray.empty,.string ByteArray.empty,.bool false,.string ByteArray.empty,.int .i64 0,.slice none 0 0,.slice none 0 0,.string ByteArray.empty,.slice none 0 0]),10,168):=by kernel_rfl
def EvReach (e:Ev):Prop:=e.np * 16<=140737488351232∧e.na * 16<=140737488351232∧e.ng * 24<=140737488351232
def Iv (a:Option Addr)(n lo hi:Nat):Prop:=n=0∨∃ b off,a=some ⟨b,off,none⟩∧lo<=b∧b<hi
theorem SlW.iv {w:World}{base n sz:Nat}{a:Option Addr}(h:SlW w base a n sz):Iv a n base w.heap.size :=
 h.imp id fun ⟨b,off,e,h1,h2,_⟩=>⟨b,off,e,h1,h2⟩
theorem Iv.wide {a:Option Addr}{n lo hi lo' hi':Nat}(h:Iv a n lo hi)(h1:lo'<=lo)(h2:hi<=hi'):Iv a n lo' hi' :=
 h.imp id fun ⟨b,off,e,q1,q2⟩=>⟨b,off,e,by omega,by omega⟩
theorem SlS.setF {w:World}{a:Option Addr}{n cap C j lo hi:Nat}{S:Nat->ByteArray}(h:SlS w a n cap S)(hv:Iv a n lo hi)(hC:C<lo∨hi<=C)(x:Value):SlS (w.setCell ⟨C,j,none⟩ x) a n cap S:=by
 refine ⟨h.le,h.max,h.size,?_⟩
 rcases hv with h0|⟨b,off,rfl,h1,h2⟩
 ·exact Or.inl h0
 ·refine h.cells.imp id fun ⟨b',off',e,hlt,hc⟩=>⟨b',off',e,by simpa [World.setCell] using hlt,fun i hi=>?_⟩
  have e2:b=b':=by injection e with e;injection e
  rw [far_block (by omega)]
  exact hc i hi
theorem SlG.setF {w:World}{a:Option Addr}{n cap C j lo hi:Nat}{M:Nat->ByteArray}{L:Nat->Int}(h:SlG w a n cap M L)(hv:Iv a n lo hi)(hC:C<lo∨hi<=C)(x:Value):SlG (w.setCell ⟨C,j,none⟩ x) a n cap M L:=by
 refine ⟨h.le,h.max,h.size,?_⟩
 rcases hv with h0|⟨b,off,rfl,h1,h2⟩
 ·exact Or.inl h0
 ·refine h.cells.imp id fun ⟨b',off',e,hlt,hc,hl⟩=>⟨b',off',e,by simpa [World.setCell] using hlt,fun i hi=>?_,fun i hi=>?_⟩
  all_goals
   have e2:b=b':=by injection e with e;injection e
   rw [far_block (by omega)]
  ·exact hc i hi
  ·exact hl i hi
theorem SlW.setF {w:World}{a:Option Addr}{n sz base C j lo hi:Nat}(h:SlW w base a n sz)(hv:Iv a n lo hi)(hC:C<lo∨hi<=C)(x:Value):SlW (w.setCell ⟨C,j,none⟩ x) base a n sz:=by
 rcases hv with h0|⟨b,off,rfl,h1,h2⟩
 ·exact Or.inl h0
 ·refine h.imp id fun ⟨b',off',e,q1,q2,hc⟩=>⟨b',off',e,q1,by simpa [World.setCell] using q2,fun i hi=>?_⟩
  have e2:b=b':=by injection e with e;injection e
  rw [far_block (by omega),World.frozen?_setCell]
  exact hc i hi
structure EvIv (w:World)(e:Ev)(pa:Option Addr)(cp:Nat)(aa:Option Addr)(ca:Nat)(ga:Option Addr)(cg lo m1 m2 hi:Nat):Prop where
 ok:EvOk w e pa cp aa ca ga cg
 wp:SlW w lo pa e.np 1
 wa:SlW w m1 aa e.na 1
 wg:SlW w m2 ga e.ng 2
 ip:Iv pa e.np lo m1
 ia:Iv aa e.na m1 m2
 ig:Iv ga e.ng m2 hi
 hh:lo<=m1∧m1<=m2∧m2<=hi∧hi<=w.heap.size
theorem EvIv.below {w w':World}{e:Ev}{pa:Option Addr}{cp:Nat}{aa:Option Addr}{ca:Nat}{ga:Option Addr}{cg lo m1 m2 hi:Nat}(h:EvIv w e pa cp aa ca ga cg lo m1 m2 hi)(hb:Below w.heap.size w w'):EvIv w' e pa cp aa ca ga cg lo m1 m2 hi :=
 ⟨h.ok.below hb,h.wp.below hb,h.wa.below hb,h.wg.below hb,h.ip,h.ia,h.ig,h.hh.1,h.hh.2.1,h.hh.2.2.1,Nat.le_trans h.hh.2.2.2 hb.size⟩
theorem EvIv.set {w:World}{e:Ev}{pa:Option Addr}{cp:Nat}{aa:Option Addr}{ca:Nat}{ga:Option Addr}{cg lo m1 m2 hi C j:Nat}(h:EvIv w e pa cp aa ca ga cg lo m1 m2 hi)(hC:C<lo∨hi<=C)(x:Value):EvIv (w.setCell ⟨C,j,none⟩ x) e pa cp aa ca ga cg lo m1 m2 hi:=by
 have hh:=h.hh
 exact ⟨⟨h.ok.hid,h.ok.hsd,h.ok.hty,h.ok.hkey,h.ok.hval,h.ok.hp.setF h.ip (by omega) x,h.ok.ha.setF h.ia (by omega) x,h.ok.hg.setF h.ig (by omega) x⟩,h.wp.setF h.ip (by omega) x,h.wa.setF h.ia (by omega) x,h.wg.setF h.ig (by omega) x,h.ip,h.ia,h.ig,hh.1,hh.2.1,hh.2.2.1,by simpa [World.setCell] using hh.2.2.2⟩
structure CE (w:World)(B:Nat)(c0:Array Value)(wx:World):Prop where
 a0:∀ o,wx.cell? ⟨B,o,none⟩=c0[o]?
 a1:∀ o,o<10->∃ v,wx.cell? ⟨B+1,o,none⟩=some v
 f0:∀ o,wx.frozen? ⟨B,o,none⟩=false
 f1:∀ o,wx.frozen? ⟨B+1,o,none⟩=false
 size:B+1<wx.heap.size
 hB:B=w.heap.size
 below:Below w.heap.size w wx
theorem CE.mono {w wx wy:World}{B:Nat}{c0:Array Value}(h:CE w B c0 wx)(hb:Below wx.heap.size wx wy):CE w B c0 wy :=
 have hs:=h.size
 ⟨fun o=>(hb.cell (by show B<_;omega)).trans (h.a0 o),fun o ho=>(h.a1 o ho).imp fun _ hv=>(hb.cell (by exact hs)).trans hv,
  fun o=>(hb.frozen (by show B<_;omega)).trans (h.f0 o),fun o=>(hb.frozen (by exact hs)).trans (h.f1 o),Nat.lt_of_lt_of_le hs hb.size,h.hB,h.below.trans (hb.mono h.below.size)⟩
theorem CE.set {w wx:World}{B:Nat}{c0:Array Value}(h:CE w B c0 wx)(j:Nat)(hj:j<c0.size)(x:Value):CE w B (c0.setIfInBounds j x) (wx.setCell ⟨B,j,none⟩ x):=by
 refine ⟨fun o=>?_,fun o ho=>by rw [far_block (by omega)];exact h.a1 o ho,fun o=>by rw [World.frozen?_setCell];exact h.f0 o,fun o=>by rw [World.frozen?_setCell];exact h.f1 o,by simpa [World.setCell] using h.size,h.hB,h.below.setCell (by have:=h.hB;show _<=B;omega) _⟩
 by_cases e:o=j
 ·subst e
  rw [set_same ⟨c0[o],by rw [h.a0];exact Array.getElem?_eq_getElem hj⟩]
  simp [hj]
 ·rw [set_far e,h.a0,Array.getElem?_setIfInBounds_ne (by omega)]
theorem CE.start {w:World}{c0 c1:Array Value}{t0 t1:TypeId}(h:c1.size=10):CE w w.heap.size c0 ((w.alloc (.cells c0 t0)).alloc (.cells c1 t1)):=by
 refine ⟨fun o=>?_,fun o ho=>⟨c1[o],?_⟩,fun o=>?_,fun o=>World.frozen?_alloc_at _ _ _ _ (by simp),by simp,rfl,bA.alloc (by simp) _⟩
 ·rw [World.cell?_alloc_past _ _ _ (by simp),World.cell?_alloc_at _ _ _ _ rfl]
 ·rw [World.cell?_alloc_at _ _ _ _ (by simp)]
  exact Array.getElem?_eq_getElem (by omega)
 ·rw [World.frozen?_alloc_past _ _ _ (by simp)]
  exact World.frozen?_alloc_at _ _ _ _ rfl
def CpPo (w:World)(e:Ev)(x:Ending)(w':World):Prop:=∃ pa cp aa ca ga cg m1 m2 lo,x=.returned (.agg #[.string e.id,.string e.sd,.string e.ty,.bool e.st,.string e.key,.int .i64 e.tm,.slice pa e.np cp,.slice aa e.na ca,.string e.val,.slice ga e.ng cg])∧EvIv w' e pa cp aa ca ga cg lo m1 m2 w'.heap.size∧w.heap.size<=lo∧Below w.heap.size w w'
set_option maxRecDepth 100000 in
set_option maxHeartbeats 2000000 in
theorem ceI_any (e:Ev){pa aa ga:Option Addr}{cp ca cg:Nat}(w:World)(hr:EvReach e)(he:EvOk w e pa cp aa ca ga cg) :
  Calls Tryz.prog 19 #[.agg #[.string e.id,.string e.sd,.string e.ty,.bool e.st,.string e.key,.int .i64 e.tm,.slice pa e.np cp,.slice aa e.na ca,.string e.val,.slice ga e.ng cg]] w (CpPo w e):=by
 obtain ⟨hr1,hr2,hr3⟩:=hr
 have hbA:Below w.heap.size w ((w.alloc (.cells #[.string e.id,.string e.sd,.string e.ty,.bool e.st,.string e.key,.int .i64 e.tm,.slice pa e.np cp,.slice aa e.na ca,.string e.val,.slice ga e.ng cg] 29)).alloc (.cells #[.string ⟨#[]⟩,.string ⟨#[]⟩,.string ⟨#[]⟩,.bool false,.string ⟨#[]⟩,.int .i64 0,.slice none 0 0,.slice none 0 0,.string ⟨#[]⟩,.slice none 0 0] 29)):=bA.alloc (by simp) _
 go_enter Tryz.func19,Tryz.ntmps19
 go_wp2_with fail
 refine (clS_sl _ (by omega) (he.hp.below (CE.start rfl).below)).mono ?_
 rintro x w1 ⟨p1,d1,rfl,hp1,wp1,hb1⟩
 have h1:=(CE.start rfl).mono hb1
 have a0:=h1.a0
 have f0:=h1.f0
 have hz1:=h1.size
 go_wp2_with fail
 have h1s:=h1.set 6 (by simp) (.slice p1 e.np d1)
 refine (clS_sl _ (by omega) (he.ha.below h1s.below)).mono ?_
 rintro x w2 ⟨p2,d2,rfl,ha2,wa2,hb2⟩
 have h2:=h1s.mono hb2
 clear a0 f0
 have a0:=h2.a0
 have f0:=h2.f0
 have hz2:=h2.size
 go_wp2_with fail
 have h2s:=h2.set 7 (by simp) (.slice p2 e.na d2)
 refine (clG_sl _ (by omega) (he.hg.below h2s.below)).mono ?_
 rintro x w3 ⟨p3,d3,rfl,hg3,wg3,hb3⟩
 have h3:=h2s.mono hb3
 clear a0 f0
 have a0:=h3.a0
 have f0:=h3.f0
 have f1:=h3.f1
 have b1:=h3.a1
 have hz3:=h3.size
 obtain ⟨x0,y0⟩:=b1 0 (by decide)
 obtain ⟨x1,y1⟩:=b1 1 (by decide)
 obtain ⟨x2,y2⟩:=b1 2 (by decide)
 obtain ⟨x3,y3⟩:=b1 3 (by decide)
 obtain ⟨x4,y4⟩:=b1 4 (by decide)
 obtain ⟨x5,y5⟩:=b1 5 (by decide)
 obtain ⟨x6,y6⟩:=b1 6 (by decide)
 obtain ⟨x7,y7⟩:=b1 7 (by decide)
 obtain ⟨x8,y8⟩:=b1 8 (by decide)
 obtain ⟨x9,y9⟩:=b1 9 (by decide)
 have HI:Hid (EvIv w3 e p1 d1 p2 d2 p3 d3 (w.heap.size+2) w1.heap.size w2.heap.size w3.heap.size):=by
  have s1:(w1.setCell ⟨w.heap.size,6,none⟩ (.slice p1 e.np d1)).heap.size=w1.heap.size:=by simp [World.setCell]
  have s2:(w2.setCell ⟨w.heap.size,7,none⟩ (.slice p2 e.na d2)).heap.size=w2.heap.size:=by simp [World.setCell]
  have q1:=wp1.iv
  have q2:=wa2.iv
  have q3:=wg3.iv
  simp only [World.size_alloc] at q1 wp1
  rw [s1] at q2 wa2
  rw [s2] at q3 wg3
  have L1:w.heap.size+2<=w1.heap.size:=by omega
  have L2:w1.heap.size<=w2.heap.size:=by have:=hb2.size;rw [s1] at this;exact this
  have L3:w2.heap.size<=w3.heap.size:=by have:=hb3.size;rw [s2] at this;exact this
  have ok3:=he.below h3.below
  refine ⟨⟨ok3.hid,ok3.hsd,ok3.hty,ok3.hkey,ok3.hval,?_,?_,hg3⟩,?_,?_,wg3,q1,q2,q3,L1,L2,L3,Nat.le_refl _⟩
  ·exact (((hp1.setF q1 (Or.inl (by omega)) _).below hb2).setF q1 (Or.inl (by omega)) _).below hb3
  ·exact (ha2.setF q2 (Or.inl (by omega)) _).below hb3
  ·exact (((wp1.setF q1 (Or.inl (by omega)) _).below hb2).setF q1 (Or.inl (by omega)) _).below hb3
  ·exact (wa2.setF q2 (Or.inl (by omega)) _).below hb3
 clear b1 hp1 wp1 ha2 wa2 hg3 wg3 h1s h2s hb1 hb2 hb3 he
 go_wp2
 refine bodyPost_ret (v:=.agg #[.string e.id,.string e.sd,.string e.ty,.bool e.st,.string e.key,.int .i64 e.tm,.slice p1 e.np d1,.slice p2 e.na d2,.string e.val,.slice p3 e.ng d3])
  (by simp [results,Tryz.results19,go_sem,y0,y1,y2,y3,y4,y5,y6,y7,y8,y9]) rfl ⟨p1,d1,p2,d2,p3,d3,w1.heap.size,w2.heap.size,w.heap.size+2,rfl,?_,by omega,?_⟩
 ·have:∀ W:World,W.heap.size=w3.heap.size->EvIv W e p1 d1 p2 d2 p3 d3 (w.heap.size+2) w1.heap.size w2.heap.size w3.heap.size->EvIv W e p1 d1 p2 d2 p3 d3 (w.heap.size+2) w1.heap.size w2.heap.size W.heap.size:=fun W hW hI=>by rw [hW];exact hI
  refine this _ (by simp [World.setCell]) ?_
  iterate 11 (refine EvIv.set ?_ (Or.inl (by omega)) _)
  exact HI.out
 ·iterate 10 (refine Below.setCell ?_ (Nat.le_add_right _ _) _)
  refine Below.setCell ?_ (by show w.heap.size<=w.heap.size;exact Nat.le_refl _) _
  exact h3.below
def blk (a:Option Addr):Option Nat:=a.map (·.block)
theorem grown_refl (w:World)(row:Option Nat):w.grownBy w row:=⟨rfl,rfl,rfl,Nat.le_refl _,fun _ _ _=>rfl⟩
structure Ls where
 pa:Option Addr
 cp:Nat
 aa:Option Addr
 ca:Nat
 ga:Option Addr
 cg:Nat
 lo:Nat
 m1:Nat
 m2:Nat
 hi:Nat
theorem SlS.grownI {w w':World}{a:Option Addr}{n cap lo hi:Nat}{S:Nat->ByteArray}{row:Option Nat}(h:SlS w a n cap S)(hg:w.grownBy w' row)(hv:Iv a n lo hi)(hr:∀ b,row=some b->b<lo∨hi<=b):SlS w' a n cap S:=by
 refine ⟨h.le,h.max,h.size,?_⟩
 rcases hv with h0|⟨b,off,rfl,h1,h2⟩
 ·exact Or.inl h0
 ·refine h.cells.imp id fun ⟨b',off',e,hlt,hc⟩=>⟨b',off',e,Nat.lt_of_lt_of_le hlt hg.size,fun i hi=>?_⟩
  have e2:b=b':=by injection e with e;injection e
  exact (hg.cell_far _ hlt (fun e3=>by have:=hr b' e3.symm;omega)).trans (hc i hi)
theorem SlG.grownI {w w':World}{a:Option Addr}{n cap lo hi:Nat}{M:Nat->ByteArray}{L:Nat->Int}{row:Option Nat}(h:SlG w a n cap M L)(hg:w.grownBy w' row)(hv:Iv a n lo hi)(hr:∀ b,row=some b->b<lo∨hi<=b):SlG w' a n cap M L:=by
 refine ⟨h.le,h.max,h.size,?_⟩
 rcases hv with h0|⟨b,off,rfl,h1,h2⟩
 ·exact Or.inl h0
 ·refine h.cells.imp id fun ⟨b',off',e,hlt,hc,hl⟩=>⟨b',off',e,Nat.lt_of_lt_of_le hlt hg.size,fun i hi=>?_,fun i hi=>?_⟩
  all_goals
   have e2:b=b':=by injection e with e;injection e
  ·exact (hg.cell_far _ hlt (fun e3=>by have:=hr b' e3.symm;omega)).trans (hc i hi)
  ·exact (hg.cell_far _ hlt (fun e3=>by have:=hr b' e3.symm;omega)).trans (hl i hi)
theorem SlW.grownI {w w':World}{a:Option Addr}{n sz base lo hi:Nat}{row:Option Nat}(h:SlW w base a n sz)(hg:w.grownBy w' row)(hv:Iv a n lo hi)(hr:∀ b,row=some b->b<lo∨hi<=b):SlW w' base a n sz:=by
 rcases hv with h0|⟨b,off,rfl,h1,h2⟩
 ·exact Or.inl h0
 ·refine h.imp id fun ⟨b',off',e,q1,q2,hc⟩=>⟨b',off',e,q1,Nat.lt_of_lt_of_le q2 hg.size,fun i hi=>?_⟩
  have e2:b=b':=by injection e with e;injection e
  rw [hg.cell_far _ (by exact q2) (fun e3=>by have:=hr b' e3.symm;omega),hg.frozen_far _ (by exact q2) (fun e3=>by have:=hr b' e3.symm;omega)]
  exact hc i hi
theorem EvIv.grownI {w w':World}{e:Ev}{pa:Option Addr}{cp:Nat}{aa:Option Addr}{ca:Nat}{ga:Option Addr}{cg lo m1 m2 hi:Nat}{row:Option Nat}(h:EvIv w e pa cp aa ca ga cg lo m1 m2 hi)(hg:w.grownBy w' row)(hr:∀ b,row=some b->b<lo∨hi<=b):EvIv w' e pa cp aa ca ga cg lo m1 m2 hi:=by
 have hh:=h.hh
 have r1:∀ b,row=some b->b<lo∨m1<=b:=fun b hb=>by have:=hr b hb;omega
 have r2:∀ b,row=some b->b<m1∨m2<=b:=fun b hb=>by have:=hr b hb;omega
 have r3:∀ b,row=some b->b<m2∨hi<=b:=fun b hb=>by have:=hr b hb;omega
 exact ⟨⟨h.ok.hid,h.ok.hsd,h.ok.hty,h.ok.hkey,h.ok.hval,h.ok.hp.grownI hg h.ip r1,h.ok.ha.grownI hg h.ia r2,h.ok.hg.grownI hg h.ig r3⟩,h.wp.grownI hg h.ip r1,h.wa.grownI hg h.ia r2,h.wg.grownI hg h.ig r3,h.ip,h.ia,h.ig,hh.1,hh.2.1,hh.2.2.1,Nat.le_trans hh.2.2.2 hg.size⟩
def evL (e:Ev)(t:Ls):List Value:=[.string e.id,.string e.sd,.string e.ty,.bool e.st,.string e.key,.int .i64 e.tm,.slice t.pa e.np t.cp,.slice t.aa e.na t.ca,.string e.val,.slice t.ga e.ng t.cg]
def encV (E:Nat->Ev)(T:Nat->Ls)(n:Nat):List Value:=(List.range n).flatMap fun i=>evL (E i) (T i)
theorem encV_snoc (E:Nat->Ev)(T:Nat->Ls)(n:Nat):encV E T n ++ evL (E n) (T n)=encV E T (n+1):=by simp [encV,List.range_succ]
theorem encV_len (E:Nat->Ev)(T:Nat->Ls)(n:Nat):(encV E T n).length=n * 10:=by
 induction n with
 | zero=>rfl
 | succ n ih=>rw [<- encV_snoc,List.length_append,ih];simp [evL];omega
theorem encV_get (E:Nat->Ev)(T:Nat->Ls):∀ n i r,i<n->r<10->(encV E T n)[i * 10+r]?=(evL (E i) (T i))[r]?
 | 0,_,_,h,_=>absurd h (Nat.not_lt_zero _)
 | n+1,i,r,h,hr=>by
  rw [<- encV_snoc]
  by_cases e:i=n
  ·subst e
   rw [List.getElem?_append_right (by rw [encV_len];omega),encV_len]
   congr 1
   omega
  ·rw [List.getElem?_append_left (by rw [encV_len];omega)]
   exact encV_get E T n i r (by omega) hr
theorem encV_congr {E:Nat->Ev}{T T':Nat->Ls}:∀ {n},(∀ i,i<n->T i=T' i)->encV E T n=encV E T' n
 | 0,_=>rfl
 | n+1,h=>by rw [<- encV_snoc,<- encV_snoc,encV_congr (fun i hi=>h i (by omega)),h n (by omega)]
theorem evL_one (e:Ev)(t:Ls)(u:Value)(h:u ∈ evL e t):u.oneCell'=true:=by
 unfold evL at h
 simp only [List.mem_cons,List.not_mem_nil,or_false] at h
 rcases h with rfl|rfl|rfl|rfl|rfl|rfl|rfl|rfl|rfl|rfl <;> rfl
theorem evL_cells (W:World)(e:Ev)(t:Ls)(ty:TypeId)(j:Nat)(u:Value)(h:(evL e t)[j]?=some u):(W.alloc (.cells #[.string e.id,.string e.sd,.string e.ty,.bool e.st,.string e.key,.int .i64 e.tm,.slice t.pa e.np t.cp,.slice t.aa e.na t.ca,.string e.val,.slice t.ga e.ng t.cg] ty)).cell? ((⟨W.heap.size,0,none⟩:Addr).add j)=some u:=by
 rw [Addr.add_lit,Nat.zero_add,World.cell?_alloc_at _ _ _ _ rfl]
 rw [<- h]
 unfold evL
 rw [List.getElem?_toArray]
structure QC (Q:World->Ev->Ls->Prop):Prop where
 below:∀ {w w':World} {e:Ev} {t:Ls},Q w e t->Below w.heap.size w w'->Q w' e t
 grown:∀ {w w':World} {e:Ev} {t:Ls} {row:Option Nat},Q w e t->w.grownBy w' row->(∀ b,row=some b->b<t.lo∨t.hi<=b)->Q w' e t
 ok:∀ {w:World} {e:Ev} {t:Ls},Q w e t->EvOk w e t.pa t.cp t.aa t.ca t.ga t.cg
 hi:∀ {w:World} {e:Ev} {t:Ls},Q w e t->t.lo<=t.hi∧t.hi<=w.heap.size
def QI (w:World)(e:Ev)(t:Ls):Prop:=EvIv w e t.pa t.cp t.aa t.ca t.ga t.cg t.lo t.m1 t.m2 t.hi
theorem qcI:QC QI:=⟨fun h hb=>h.below hb,fun h hg hr=>h.grownI hg hr,fun h=>h.ok,fun h=>⟨Nat.le_trans h.hh.1 (Nat.le_trans h.hh.2.1 h.hh.2.2.1),h.hh.2.2.2⟩⟩
structure QJ (w:World)(e:Ev)(t:Ls):Prop where
 ok:EvOk w e t.pa t.cp t.aa t.ca t.ga t.cg
 ip:Iv t.pa e.np t.lo t.hi
 ia:Iv t.aa e.na t.lo t.hi
 ig:Iv t.ga e.ng t.lo t.hi
 hh:t.lo<=t.hi∧t.hi<=w.heap.size
theorem qcJ:QC QJ:=⟨fun h hb=>⟨h.ok.below hb,h.ip,h.ia,h.ig,h.hh.1,Nat.le_trans h.hh.2 hb.size⟩,
 fun h hg hr=>⟨⟨h.ok.hid,h.ok.hsd,h.ok.hty,h.ok.hkey,h.ok.hval,h.ok.hp.grownI hg h.ip hr,h.ok.ha.grownI hg h.ia hr,h.ok.hg.grownI hg h.ig hr⟩,h.ip,h.ia,h.ig,h.hh.1,Nat.le_trans h.hh.2 hg.size⟩,fun h=>h.ok,fun h=>h.hh⟩
structure RowV (Q:World->Ev->Ls->Prop)(w:World)(base:Nat)(v:Value)(n:Nat)(E:Nat->Ev)(T:Nat->Ls):Prop where
 own:w.ownsRow base 29 10 v n (encV E T n)
 q:∀ i,i<n->Q w (E i) (T i)
 low:∀ i,i<n->base<=(T i).lo
 ord:∀ i j,i<j->j<n->(T i).hi<=(T j).lo
 apart:∀ g,v.ownBlock=some g->∀ i,i<n->g<(T i).lo∨(T i).hi<=g
theorem RowV.below {Q:World->Ev->Ls->Prop}(c:QC Q){w w':World}{base n:Nat}{v:Value}{E:Nat->Ev}{T:Nat->Ls}(h:RowV Q w base v n E T)(hb:Below w.heap.size w w'):RowV Q w' base v n E T :=
 ⟨ownsRow_blw h.own hb,fun i hi=>c.below (h.q i hi) hb,h.low,h.ord,h.apart⟩
theorem RowV.new {Q:World->Ev->Ls->Prop}(w:World)(base:Nat)(hb:base<=w.heap.size)(E:Nat->Ev)(T:Nat->Ls):RowV Q (w.alloc (.cells #[] 29)) base (.slice (some ⟨w.heap.size,0,none⟩) 0 0) 0 E T :=
 ⟨⟨rfl,Or.inr ⟨w.heap.size,0,#[],rfl,hb,by show (w.heap.push _)[w.heap.size]?=_;simp,Nat.le_refl _,by decide,rfl,rfl⟩⟩,fun i hi=>absurd hi (Nat.not_lt_zero _),fun i hi=>absurd hi (Nat.not_lt_zero _),fun i j _ hj=>absurd hj (Nat.not_lt_zero _),fun g _ i hi=>absurd hi (Nat.not_lt_zero _)⟩
def extT (T:Nat->Ls)(n:Nat)(t:Ls):Nat->Ls:=fun i=>if i=n then t else T i
theorem RowV.snoc {Q:World->Ev->Ls->Prop}(c:QC Q){w w':World}{base n g cap:Nat}{v:Value}{E:Nat->Ev}{T:Nat->Ls}{t:Ls}(h:RowV Q w base v n E T)(ht:Q w (E n) t)(h1:base<=t.lo)(h2:∀ i,i<n->(T i).hi<=t.lo)(h3:∀ g,v.ownBlock=some g->g<t.lo∨t.hi<=g)
  (hown:w'.ownsRow base 29 10 (.slice (some ⟨g,0,none⟩) (n+1) cap) (n+1) (encV E T n ++ evL (E n) t)) (hgr:w.grownBy w' v.ownBlock) (hg:v.ownBlock=some g∨w.heap.size<=g):RowV Q w' base (.slice (some ⟨g,0,none⟩) (n+1) cap) (n+1) E (extT T n t):=by
 have e1:extT T n t n=t:=if_pos rfl
 have e2:∀ i,i<n->extT T n t i=T i:=fun i hi=>if_neg (by omega)
 have e3:encV E T n=encV E (extT T n t) n:=encV_congr fun i hi=>(e2 i hi).symm
 have hrow:∀ i,i<n->∀ b,v.ownBlock=some b->b<(T i).lo∨(T i).hi<=b:=fun i hi b hb=>h.apart b hb i hi
 have hgi:∀ i,i<n->g<(T i).lo∨(T i).hi<=g:=fun i hi=>by
  rcases hg with q|q
  ·exact h.apart g q i hi
  ·exact Or.inr (Nat.le_trans (c.hi (h.q i hi)).2 q)
 have hgt:g<t.lo∨t.hi<=g:=by
  rcases hg with q|q
  ·exact h3 g q
  ·exact Or.inr (Nat.le_trans (c.hi ht).2 q)
 refine ⟨?_,fun i hi=>?_,fun i hi=>?_,fun i j hij hj=>?_,fun g' hg' i hi=>?_⟩
 ·rw [<- encV_snoc,e1,<- e3];exact hown
 ·by_cases e:i=n
  ·subst e;rw [e1];exact c.grown ht hgr h3
  ·rw [e2 i (by omega)];exact c.grown (h.q i (by omega)) hgr (hrow i (by omega))
 ·by_cases e:i=n
  ·subst e;rw [e1];exact h1
  ·rw [e2 i (by omega)];exact h.low i (by omega)
 ·by_cases e:j=n
  ·subst e;rw [e1,e2 i hij];exact h2 i hij
  ·rw [e2 i (by omega),e2 j (by omega)];exact h.ord i j hij (by omega)
 ·have hgg:g=g':=by
   have:some g=some g':=hg'
   injection this
  subst hgg
  by_cases e:i=n
  ·subst e;rw [e1];exact hgt
  ·rw [e2 i (by omega)];exact hgi i (by omega)
theorem RowV.cells {Q:World->Ev->Ls->Prop}{w:World}{base n:Nat}{v:Value}{E:Nat->Ev}{T:Nat->Ls}(h:RowV Q w base v n E T) :
  (v=.slice none 0 0∧n=0)∨∃ g cap,v=.slice (some ⟨g,0,none⟩) n cap∧base<=g∧g<w.heap.size∧n<=cap∧cap<=maxLen∧(∀ i,i<n->EvCells w g (i * 10) (E i) (T i).pa (T i).cp (T i).aa (T i).ca (T i).ga (T i).cg)∧∀ o,w.frozen? ⟨g,o,none⟩=false:=by
 rcases row_cells h.own with h0|⟨g,cap,hv,hg,hlt,hn,hc,hx,hf⟩
 ·exact Or.inl h0
 ·refine Or.inr ⟨g,cap,hv,hg,hlt,hn,hc,fun i hi=>?_,hf⟩
  have hr:∀ r,r<10->w.cell? ⟨g,i * 10+r,none⟩=(evL (E i) (T i))[r]?:=fun r hr=>by
   have:=hx (i * 10+r) (by omega)
   rw [Nat.zero_add] at this
   rw [this]
   exact encV_get E T n i r hi hr
  exact ⟨hr 0 (by decide),hr 1 (by decide),hr 2 (by decide),hr 3 (by decide),hr 4 (by decide),hr 5 (by decide),hr 6 (by decide),hr 7 (by decide),hr 8 (by decide),hr 9 (by decide)⟩
theorem RowV.slv {Q:World->Ev->Ls->Prop}(c:QC Q){w:World}{base n:Nat}{v:Value}{E:Nat->Ev}{T:Nat->Ls}(h:RowV Q w base v n E T):∃ a cap,v=.slice a n cap∧SlV w a n cap E:=by
 rcases h.cells with ⟨rfl,rfl⟩|⟨g,cap,rfl,hg,hlt,hn,hc,hx,hf⟩
 ·exact ⟨none,0,rfl,⟨Nat.le_refl _,by decide,Or.inl rfl⟩⟩
 ·exact ⟨_,cap,rfl,⟨hn,hc,Or.inr ⟨g,0,rfl,hlt,fun i hi=>by rw [Nat.zero_add];exact ⟨_,_,_,_,_,_,hx i hi,c.ok (h.q i hi)⟩⟩⟩⟩
end Go.Proofs.YtnbdlaglnefcbaaGreat
