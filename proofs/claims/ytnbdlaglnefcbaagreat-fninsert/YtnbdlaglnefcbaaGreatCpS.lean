import Derived.Test.YtnbdlaglnefcbaaGreatClIZ
import Derived.Test.YtnbdlaglnefcbaaGreatPoFZ
namespace Go.Proofs.YtnbdlaglnefcbaaGreat
open Go.RowKit
theorem own_kept {w w':World}{base e size n:Nat}{v:Value}{xs:List Value}(h:w.ownsRow base e size v n xs)(hk:∀ g,v.ownBlock=some g->w'.heap[g]?=w.heap[g]?):w'.ownsRow base e size v n xs:=by
 obtain ⟨h1,h2⟩:=h
 refine ⟨h1,?_⟩
 rcases h2 with h2|⟨g,cap,cur,rfl,hg,hh,r⟩
 ·exact Or.inl h2
 ·exact Or.inr ⟨g,cap,cur,rfl,hg,(hk g rfl).trans hh,r⟩
def Bk (a:Option Addr)(n g s:Nat):Prop:=n=0∨∃ b off,a=some ⟨b,off,none⟩∧(b=g∨b=s)
theorem Bk.of {a:Option Addr}{n c g s lo hi:Nat}(hv:Iv a n lo hi)(h:(Value.slice a n c).ownBlock=some g∨(Value.slice a n c).ownBlock=some s):Bk a n g s:=by
 rcases hv with h0|⟨b,off,rfl,_,_⟩
 ·exact Or.inl h0
 ·refine Or.inr ⟨b,off,rfl,?_⟩
  rcases h with h|h
  ·have:some b=some g:=h
   injection this with this
   exact Or.inl this
  ·have:some b=some s:=h
   injection this with this
   exact Or.inr this
theorem SlS.grownN {w w':World}{a:Option Addr}{n cap g s r:Nat}{S:Nat->ByteArray}(h:SlS w a n cap S)(hg:w.grownBy w' (some r))(hv:Bk a n g s)(h1:r≠g)(h2:r≠s):SlS w' a n cap S:=by
 refine ⟨h.le,h.max,h.size,?_⟩
 rcases hv with h0|⟨b,off,rfl,hb⟩
 ·exact Or.inl h0
 ·refine h.cells.imp id fun ⟨b',off',e,hlt,hc⟩=>⟨b',off',e,Nat.lt_of_lt_of_le hlt hg.size,fun i hi=>?_⟩
  have e2:b=b':=by injection e with e;injection e
  exact (hg.cell_far _ hlt (fun e3=>by
   have e4:some b'=some r:=e3
   injection e4 with e4
   omega)).trans (hc i hi)
set_option maxRecDepth 100000 in
theorem apS_run {W:World}{a:Option Addr}{n cap g base:Nat}{S:Nat->ByteArray}(hr:n * 16<=140737488355328)(h:SlS W a n cap S)(hown:OwnT W base (.slice (some ⟨g,0,none⟩) 0 0) 0 S)(hb:base<=W.heap.size) :
  ∃ a' c' w',(Builtin.append_ #[26,26] 26 #[.slice (some ⟨g,0,none⟩) 0 0,.slice a n cap]).run Tryz.prog W=.ok (.slice a' n c') w'∧SlS w' a' n c' S∧Iv a' n base w'.heap.size∧Bk a' n g W.heap.size∧W.grownBy w' (some g):=by
 obtain ⟨i0,hi,hz0,hz1,hz2⟩:=info_parts Tryz.infoString
 have hn:n<=maxLen:=Nat.le_trans h.le h.max
 cases a with
 | none =>
  have hn0:n=0:=by
   rcases h.cells with h0|⟨b,off,e,_⟩
   ·exact h0
   ·cases e
  subst hn0
  have hap:=run_append_room_src (P:=Tryz.prog) (w:=W) 26 26 26 9 i0 Tryz.underlying26 hi g 0 0 0 (.slice none 0 cap) 0 [] (Src.ofNil _ Tryz.underlying26 cap) (Nat.le_refl _) (fun j hj=>absurd hj (Nat.not_lt_zero _)) (fun j hj=>absurd hj (Nat.not_lt_zero _))
  simp only [World.setCells,Nat.add_zero] at hap
  exact ⟨_,_,_,hap,⟨Nat.le_refl _,by decide,h.size,Or.inl rfl⟩,Or.inl rfl,Or.inl rfl,grown_refl _ _⟩
 | some ad =>
  have hsrc:∀ j u,(strs S n)[j]?=some u->W.cell? (ad.add j)=some u:=fun j u hj=>by
   rcases h.cells with rfl|⟨b,off,e,hb,hc⟩
   ·cases hj
   ·injection e with e
    subst e
    exact strs_src hc j u hj
  obtain ⟨v',w',hrun,h2,h3,-,h5⟩:=run_append_own_at (P:=Tryz.prog) W base 26 26 9 i0 (.string ByteArray.empty) 1 16 Tryz.underlying26 hi hz0 hz1 hz2 rfl (by decide) _ _ _ hown ad n cap (strs S n) (by rw [strs_len,Nat.mul_one]) hsrc (strs_one S n) (by rw [Nat.zero_add];exact hn) (by rw [Nat.zero_add];exact hr) hb
  have hown':OwnT w' base v' n S:=by
   unfold OwnT
   rw [Nat.zero_add] at h2
   exact h2
  obtain ⟨a',c',rfl,q1,q2⟩:=hown'.slw h.size
  exact ⟨a',c',w',hrun,q1,q2.iv,Bk.of q2.iv h5,h3⟩
set_option maxRecDepth 100000 in
theorem apG_run {W:World}{a:Option Addr}{n cap g base:Nat}{M:Nat->ByteArray}{L:Nat->Int}(hr:n * 24<=140737488355328)(h:SlG W a n cap M L)(hown:OwnG W base (.slice (some ⟨g,0,none⟩) 0 0) 0 M L)(hb:base<=W.heap.size) :
  ∃ a' c' w',(Builtin.append_ #[27,27] 27 #[.slice (some ⟨g,0,none⟩) 0 0,.slice a n cap]).run Tryz.prog W=.ok (.slice a' n c') w'∧SlG w' a' n c' M L∧Iv a' n base w'.heap.size∧Bk a' n g W.heap.size∧W.grownBy w' (some g):=by
 obtain ⟨i0,hi,hz0,hz1,hz2⟩:=info_parts Tryz.infoGrant
 have hn:n<=maxLen:=Nat.le_trans h.le h.max
 cases a with
 | none =>
  have hn0:n=0:=by
   rcases h.cells with h0|⟨b,off,e,_⟩
   ·exact h0
   ·cases e
  subst hn0
  have hap:=run_append_room_src (P:=Tryz.prog) (w:=W) 27 27 27 54 i0 Tryz.underlying27 hi g 0 0 0 (.slice none 0 cap) 0 [] (Src.ofNil _ Tryz.underlying27 cap) (Nat.le_refl _) (fun j hj=>absurd hj (Nat.not_lt_zero _)) (fun j hj=>absurd hj (Nat.not_lt_zero _))
  simp only [World.setCells,Nat.add_zero] at hap
  exact ⟨_,_,_,hap,⟨Nat.le_refl _,by decide,h.size,Or.inl rfl⟩,Or.inl rfl,Or.inl rfl,grown_refl _ _⟩
 | some ad =>
  have hsrc:∀ j u,(encG M L n)[j]?=some u->W.cell? (ad.add j)=some u:=fun j u hj=>by
   rcases h.cells with rfl|⟨b,off,e,hb,h1,h2⟩
   ·cases hj
   ·injection e with e
    subst e
    exact encG_src h1 h2 j u hj
  obtain ⟨v',w',hrun,h2,h3,-,h5⟩:=run_append_own_at (P:=Tryz.prog) W base 27 27 54 i0 (.agg #[.string ByteArray.empty,.int .i64 0]) 2 24 Tryz.underlying27 hi hz0 hz1 hz2 rfl (by decide) _ _ _ hown ad n cap (encG M L n) (encG_len M L n) hsrc (encG_one M L n) (by rw [Nat.zero_add];exact hn) (by rw [Nat.zero_add];exact hr) hb
  have hown':OwnG w' base v' n M L:=by
   unfold OwnG
   rw [Nat.zero_add] at h2
   exact h2
  obtain ⟨a',c',rfl,q1,q2⟩:=hown'.slw h.size
  exact ⟨a',c',w',hrun,q1,q2.iv,Bk.of q2.iv h5,h3⟩
theorem CE.grown {w wx wy:World}{B g:Nat}{c0:Array Value}(h:CE w B c0 wx)(hg:wx.grownBy wy (some g))(h1:B+1<g):CE w B c0 wy:=by
 have hs:=h.size
 have n0:some B≠some g:=fun e=>by injection e;omega
 have n1:some (B+1)≠some g:=fun e=>by injection e;omega
 exact ⟨fun o=>(hg.cell_far _ (by show B<_;omega) n0).trans (h.a0 o),fun o ho=>(h.a1 o ho).imp fun _ hv=>(hg.cell_far _ (by exact hs) n1).trans hv,
  fun o=>(hg.frozen_far _ (by show B<_;omega) n0).trans (h.f0 o),fun o=>(hg.frozen_far _ (by exact hs) n1).trans (h.f1 o),Nat.lt_of_lt_of_le hs hg.size,h.hB,h.below.grown hg h.below.size (fun k hk=>by injection hk with hk;have:=h.hB;omega)⟩
def CpQ (Q:World->Ev->Ls->Prop)(w:World)(e:Ev)(x:Ending)(w':World):Prop:=∃ t:Ls,x=.returned (.agg #[.string e.id,.string e.sd,.string e.ty,.bool e.st,.string e.key,.int .i64 e.tm,.slice t.pa e.np t.cp,.slice t.aa e.na t.ca,.string e.val,.slice t.ga e.ng t.cg])∧Q w' e t∧w.heap.size<=t.lo∧Below w.heap.size w w'
theorem ceI_q (e:Ev){pa aa ga:Option Addr}{cp ca cg:Nat}(w:World)(hr:EvReach e)(he:EvOk w e pa cp aa ca ga cg) :
  Calls Tryz.prog 19 #[.agg #[.string e.id,.string e.sd,.string e.ty,.bool e.st,.string e.key,.int .i64 e.tm,.slice pa e.np cp,.slice aa e.na ca,.string e.val,.slice ga e.ng cg]] w (CpQ QI w e):=by
 refine (ceI_any e w hr he).mono ?_
 rintro x w' ⟨pa',cp',aa',ca',ga',cg',m1,m2,lo,rfl,h1,h2,h3⟩
 exact ⟨⟨pa',cp',aa',ca',ga',cg',lo,m1,m2,w'.heap.size⟩,rfl,h1,h2,h3⟩
set_option maxRecDepth 100000 in
set_option maxHeartbeats 4000000 in
theorem l2Cp_any (e:Ev){pa aa ga:Option Addr}{cp ca cg:Nat}(w:World)(hr:EvReach e)(he:EvOk w e pa cp aa ca ga cg) :
  Calls Tryz.prog 17 #[.agg #[.string e.id,.string e.sd,.string e.ty,.bool e.st,.string e.key,.int .i64 e.tm,.slice pa e.np cp,.slice aa e.na ca,.string e.val,.slice ga e.ng cg]] w (CpQ QJ w e):=by
 obtain ⟨hr1,hr2,hr3⟩:=hr
 have hE0:CE w w.heap.size #[.string e.id,.string e.sd,.string e.ty,.bool e.st,.string e.key,.int .i64 e.tm,.slice pa e.np cp,.slice aa e.na ca,.string e.val,.slice ga e.ng cg] ((w.alloc (.cells #[.string e.id,.string e.sd,.string e.ty,.bool e.st,.string e.key,.int .i64 e.tm,.slice pa e.np cp,.slice aa e.na ca,.string e.val,.slice ga e.ng cg] 29)).alloc (.cells #[.string ⟨#[]⟩,.string ⟨#[]⟩,.string ⟨#[]⟩,.bool false,.string ⟨#[]⟩,.int .i64 0,.slice none 0 0,.slice none 0 0,.string ⟨#[]⟩,.slice none 0 0] 29)):=CE.start rfl
 have hbE:Below ((w.alloc (.cells #[.string e.id,.string e.sd,.string e.ty,.bool e.st,.string e.key,.int .i64 e.tm,.slice pa e.np cp,.slice aa e.na ca,.string e.val,.slice ga e.ng cg] 29)).alloc (.cells #[.string ⟨#[]⟩,.string ⟨#[]⟩,.string ⟨#[]⟩,.bool false,.string ⟨#[]⟩,.int .i64 0,.slice none 0 0,.slice none 0 0,.string ⟨#[]⟩,.slice none 0 0] 29)).heap.size ((w.alloc (.cells #[.string e.id,.string e.sd,.string e.ty,.bool e.st,.string e.key,.int .i64 e.tm,.slice pa e.np cp,.slice aa e.na ca,.string e.val,.slice ga e.ng cg] 29)).alloc (.cells #[.string ⟨#[]⟩,.string ⟨#[]⟩,.string ⟨#[]⟩,.bool false,.string ⟨#[]⟩,.int .i64 0,.slice none 0 0,.slice none 0 0,.string ⟨#[]⟩,.slice none 0 0] 29)) (((((w.alloc (.cells #[.string e.id,.string e.sd,.string e.ty,.bool e.st,.string e.key,.int .i64 e.tm,.slice pa e.np cp,.slice aa e.na ca,.string e.val,.slice ga e.ng cg] 29)).alloc (.cells #[.string ⟨#[]⟩,.string ⟨#[]⟩,.string ⟨#[]⟩,.bool false,.string ⟨#[]⟩,.int .i64 0,.slice none 0 0,.slice none 0 0,.string ⟨#[]⟩,.slice none 0 0] 29)).alloc (.cells #[] 9)).alloc (.cells #[] 9)).alloc (.cells #[] 54)):=(bA.alloc (by simp) _).alloc (by simp) _
 have hE:CE w w.heap.size #[.string e.id,.string e.sd,.string e.ty,.bool e.st,.string e.key,.int .i64 e.tm,.slice pa e.np cp,.slice aa e.na ca,.string e.val,.slice ga e.ng cg] (((((w.alloc (.cells #[.string e.id,.string e.sd,.string e.ty,.bool e.st,.string e.key,.int .i64 e.tm,.slice pa e.np cp,.slice aa e.na ca,.string e.val,.slice ga e.ng cg] 29)).alloc (.cells #[.string ⟨#[]⟩,.string ⟨#[]⟩,.string ⟨#[]⟩,.bool false,.string ⟨#[]⟩,.int .i64 0,.slice none 0 0,.slice none 0 0,.string ⟨#[]⟩,.slice none 0 0] 29)).alloc (.cells #[] 9)).alloc (.cells #[] 9)).alloc (.cells #[] 54)):=hE0.mono hbE
 have hsE:(((((w.alloc (.cells #[.string e.id,.string e.sd,.string e.ty,.bool e.st,.string e.key,.int .i64 e.tm,.slice pa e.np cp,.slice aa e.na ca,.string e.val,.slice ga e.ng cg] 29)).alloc (.cells #[.string ⟨#[]⟩,.string ⟨#[]⟩,.string ⟨#[]⟩,.bool false,.string ⟨#[]⟩,.int .i64 0,.slice none 0 0,.slice none 0 0,.string ⟨#[]⟩,.slice none 0 0] 29)).alloc (.cells #[] 9)).alloc (.cells #[] 9)).alloc (.cells #[] 54)).heap.size=w.heap.size+1+1+1+1+1:=by simp
 have o1:OwnT (((((w.alloc (.cells #[.string e.id,.string e.sd,.string e.ty,.bool e.st,.string e.key,.int .i64 e.tm,.slice pa e.np cp,.slice aa e.na ca,.string e.val,.slice ga e.ng cg] 29)).alloc (.cells #[.string ⟨#[]⟩,.string ⟨#[]⟩,.string ⟨#[]⟩,.bool false,.string ⟨#[]⟩,.int .i64 0,.slice none 0 0,.slice none 0 0,.string ⟨#[]⟩,.slice none 0 0] 29)).alloc (.cells #[] 9)).alloc (.cells #[] 9)).alloc (.cells #[] 54)) (w.heap.size+2) (.slice (some ⟨w.heap.size+1+1,0,none⟩) 0 0) 0 e.Pv:=by
  have:=OwnT.new ((w.alloc (.cells #[.string e.id,.string e.sd,.string e.ty,.bool e.st,.string e.key,.int .i64 e.tm,.slice pa e.np cp,.slice aa e.na ca,.string e.val,.slice ga e.ng cg] 29)).alloc (.cells #[.string ⟨#[]⟩,.string ⟨#[]⟩,.string ⟨#[]⟩,.bool false,.string ⟨#[]⟩,.int .i64 0,.slice none 0 0,.slice none 0 0,.string ⟨#[]⟩,.slice none 0 0] 29)) (w.heap.size+2) (by simp) e.Pv
  simp only [World.size_alloc] at this
  exact (this.below bA).below bA
 have o2:OwnT (((((w.alloc (.cells #[.string e.id,.string e.sd,.string e.ty,.bool e.st,.string e.key,.int .i64 e.tm,.slice pa e.np cp,.slice aa e.na ca,.string e.val,.slice ga e.ng cg] 29)).alloc (.cells #[.string ⟨#[]⟩,.string ⟨#[]⟩,.string ⟨#[]⟩,.bool false,.string ⟨#[]⟩,.int .i64 0,.slice none 0 0,.slice none 0 0,.string ⟨#[]⟩,.slice none 0 0] 29)).alloc (.cells #[] 9)).alloc (.cells #[] 9)).alloc (.cells #[] 54)) (w.heap.size+2) (.slice (some ⟨w.heap.size+1+1+1,0,none⟩) 0 0) 0 e.Av:=by
  have:=OwnT.new (((w.alloc (.cells #[.string e.id,.string e.sd,.string e.ty,.bool e.st,.string e.key,.int .i64 e.tm,.slice pa e.np cp,.slice aa e.na ca,.string e.val,.slice ga e.ng cg] 29)).alloc (.cells #[.string ⟨#[]⟩,.string ⟨#[]⟩,.string ⟨#[]⟩,.bool false,.string ⟨#[]⟩,.int .i64 0,.slice none 0 0,.slice none 0 0,.string ⟨#[]⟩,.slice none 0 0] 29)).alloc (.cells #[] 9)) (w.heap.size+2) (by simp) e.Av
  simp only [World.size_alloc] at this
  exact this.below bA
 have o3:OwnG (((((w.alloc (.cells #[.string e.id,.string e.sd,.string e.ty,.bool e.st,.string e.key,.int .i64 e.tm,.slice pa e.np cp,.slice aa e.na ca,.string e.val,.slice ga e.ng cg] 29)).alloc (.cells #[.string ⟨#[]⟩,.string ⟨#[]⟩,.string ⟨#[]⟩,.bool false,.string ⟨#[]⟩,.int .i64 0,.slice none 0 0,.slice none 0 0,.string ⟨#[]⟩,.slice none 0 0] 29)).alloc (.cells #[] 9)).alloc (.cells #[] 9)).alloc (.cells #[] 54)) (w.heap.size+2) (.slice (some ⟨w.heap.size+1+1+1+1,0,none⟩) 0 0) 0 e.M e.L:=by
  have:=OwnG.new ((((w.alloc (.cells #[.string e.id,.string e.sd,.string e.ty,.bool e.st,.string e.key,.int .i64 e.tm,.slice pa e.np cp,.slice aa e.na ca,.string e.val,.slice ga e.ng cg] 29)).alloc (.cells #[.string ⟨#[]⟩,.string ⟨#[]⟩,.string ⟨#[]⟩,.bool false,.string ⟨#[]⟩,.int .i64 0,.slice none 0 0,.slice none 0 0,.string ⟨#[]⟩,.slice none 0 0] 29)).alloc (.cells #[] 9)).alloc (.cells #[] 9)) (w.heap.size+2) (by simp) e.M e.L
  simp only [World.size_alloc] at this
  exact this
 obtain ⟨a1,c1,w1,hap1,s1,v1,k1,g1⟩:=apS_run (base:=w.heap.size+2) (by omega) (he.hp.below hE.below) o1 (by omega)
 have hE1:=hE.grown g1 (by omega)
 have hE1s:=hE1.set 6 (by simp) (.slice a1 e.np c1)
 have z1:(((((w.alloc (.cells #[.string e.id,.string e.sd,.string e.ty,.bool e.st,.string e.key,.int .i64 e.tm,.slice pa e.np cp,.slice aa e.na ca,.string e.val,.slice ga e.ng cg] 29)).alloc (.cells #[.string ⟨#[]⟩,.string ⟨#[]⟩,.string ⟨#[]⟩,.bool false,.string ⟨#[]⟩,.int .i64 0,.slice none 0 0,.slice none 0 0,.string ⟨#[]⟩,.slice none 0 0] 29)).alloc (.cells #[] 9)).alloc (.cells #[] 9)).alloc (.cells #[] 54)).heap.size<=w1.heap.size:=g1.size
 have o2b:OwnT (w1.setCell ⟨w.heap.size,6,none⟩ (.slice a1 e.np c1)) (w.heap.size+2) (.slice (some ⟨w.heap.size+1+1+1,0,none⟩) 0 0) 0 e.Av:=own_kept o2 (fun g hg=>by
  have hg2:some (w.heap.size+1+1+1)=some g:=hg
  injection hg2 with hg2
  subst hg2
  rw [Below.heap_setCell _ _ _ _ (by show w.heap.size+1+1+1≠w.heap.size;omega)]
  exact g1.block _ (by omega) (fun e=>by injection e;omega))
 have o3b:OwnG (w1.setCell ⟨w.heap.size,6,none⟩ (.slice a1 e.np c1)) (w.heap.size+2) (.slice (some ⟨w.heap.size+1+1+1+1,0,none⟩) 0 0) 0 e.M e.L:=own_kept o3 (fun g hg=>by
  have hg2:some (w.heap.size+1+1+1+1)=some g:=hg
  injection hg2 with hg2
  subst hg2
  rw [Below.heap_setCell _ _ _ _ (by show w.heap.size+1+1+1+1≠w.heap.size;omega)]
  exact g1.block _ (by omega) (fun e=>by injection e;omega))
 have y1:(w1.setCell ⟨w.heap.size,6,none⟩ (.slice a1 e.np c1)).heap.size=w1.heap.size:=by simp [World.setCell]
 obtain ⟨a2,c2,w2,hap2,s2,v2,k2,g2⟩:=apS_run (base:=w.heap.size+2) (by omega) (he.ha.below hE1s.below) o2b (by omega)
 have hE2:=hE1s.grown g2 (by omega)
 have hE2s:=hE2.set 7 (by simp) (.slice a2 e.na c2)
 have z2:w1.heap.size<=w2.heap.size:=by have:=g2.size;omega
 have o3c:OwnG (w2.setCell ⟨w.heap.size,7,none⟩ (.slice a2 e.na c2)) (w.heap.size+2) (.slice (some ⟨w.heap.size+1+1+1+1,0,none⟩) 0 0) 0 e.M e.L:=own_kept o3b (fun g hg=>by
  have hg2:some (w.heap.size+1+1+1+1)=some g:=hg
  injection hg2 with hg2
  subst hg2
  rw [Below.heap_setCell _ _ _ _ (by show w.heap.size+1+1+1+1≠w.heap.size;omega)]
  exact g2.block _ (by omega) (fun e=>by injection e;omega))
 have y2:(w2.setCell ⟨w.heap.size,7,none⟩ (.slice a2 e.na c2)).heap.size=w2.heap.size:=by simp [World.setCell]
 obtain ⟨a3,c3,w3,hap3,s3,v3,k3,g3⟩:=apG_run (base:=w.heap.size+2) (by omega) (he.hg.below hE2s.below) o3c (by omega)
 have hE3:=hE2s.grown g3 (by omega)
 have z3:w2.heap.size<=w3.heap.size:=by have:=g3.size;omega
 have HJ:Hid (QJ w3 e ⟨a1,c1,a2,c2,a3,c3,w.heap.size+2,0,0,w3.heap.size⟩):=by
  have P1:SlS (w1.setCell ⟨w.heap.size,6,none⟩ (.slice a1 e.np c1)) a1 e.np c1 e.Pv:=s1.setF v1 (Or.inl (by omega)) _
  have P2:SlS w2 a1 e.np c1 e.Pv:=P1.grownN g2 k1 (by omega) (by omega)
  have P3:SlS (w2.setCell ⟨w.heap.size,7,none⟩ (.slice a2 e.na c2)) a1 e.np c1 e.Pv:=P2.setF v1 (Or.inl (by omega)) _
  have P4:SlS w3 a1 e.np c1 e.Pv:=P3.grownN g3 k1 (by omega) (by omega)
  have Q3:SlS (w2.setCell ⟨w.heap.size,7,none⟩ (.slice a2 e.na c2)) a2 e.na c2 e.Av:=s2.setF v2 (Or.inl (by omega)) _
  have Q4:SlS w3 a2 e.na c2 e.Av:=Q3.grownN g3 k2 (by omega) (by omega)
  exact ⟨⟨he.hid,he.hsd,he.hty,he.hkey,he.hval,P4,Q4,s3⟩,v1.wide (Nat.le_refl _) (by show _<=w3.heap.size;omega),v2.wide (Nat.le_refl _) (by show _<=w3.heap.size;omega),v3,by show w.heap.size+2<=w3.heap.size;omega,Nat.le_refl _⟩
 have A0:=hE.a0
 have F0:=hE.f0
 have A1:=hE1.a0
 have F1:=hE1.f0
 have A2:=hE2.a0
 have F2:=hE2.f0
 have A3:=hE3.a0
 have F3:=hE3.f0
 have b1:=hE3.a1
 have f1:=hE3.f1
 obtain ⟨x0,y0⟩:=b1 0 (by decide)
 obtain ⟨x1,y1'⟩:=b1 1 (by decide)
 obtain ⟨x2,y2'⟩:=b1 2 (by decide)
 obtain ⟨x3,y3⟩:=b1 3 (by decide)
 obtain ⟨x4,y4⟩:=b1 4 (by decide)
 obtain ⟨x5,y5⟩:=b1 5 (by decide)
 obtain ⟨x6,y6⟩:=b1 6 (by decide)
 obtain ⟨x7,y7⟩:=b1 7 (by decide)
 obtain ⟨x8,y8⟩:=b1 8 (by decide)
 obtain ⟨x9,y9⟩:=b1 9 (by decide)
 have hb3:=hE3.below
 clear b1 hE0 hbE hE hE1 hE2 hE3 hE1s hE2s o1 o2 o3 o2b o3b o3c s1 s2 s3 v1 v2 v3 k1 k2 k3 g1 g2 g3 he y1 y2 hsE
 go_enter Tryz.func17,Tryz.ntmps17
 go_wp2_with (first|(at_builtin;refine wpList_append_run rfl _ _ 26 rfl _ _ _ _ hap1 rfl rfl ?_;clear hap1)|(at_builtin;refine wpList_append_run rfl _ _ 26 rfl _ _ _ _ hap2 rfl rfl ?_;clear hap2)|(at_builtin;refine wpList_append_run rfl _ _ 27 rfl _ _ _ _ hap3 rfl rfl ?_;clear hap3))
 refine bodyPost_ret (v:=.agg #[.string e.id,.string e.sd,.string e.ty,.bool e.st,.string e.key,.int .i64 e.tm,.slice a1 e.np c1,.slice a2 e.na c2,.string e.val,.slice a3 e.ng c3])
  (by simp [results,Tryz.results17,go_sem,y0,y1',y2',y3,y4,y5,y6,y7,y8,y9]) rfl ⟨⟨a1,c1,a2,c2,a3,c3,w.heap.size+2,0,0,w3.heap.size⟩,rfl,?_,by show w.heap.size<=w.heap.size+2;omega,?_⟩
 ·have hJ:=HJ.out
  have hset:∀ (t:Ls) (W:World) (C j:Nat) (x:Value),C<t.lo->QJ W e t->QJ (W.setCell ⟨C,j,none⟩ x) e t:=fun t W C j x hC h=>⟨⟨h.ok.hid,h.ok.hsd,h.ok.hty,h.ok.hkey,h.ok.hval,h.ok.hp.setF h.ip (Or.inl hC) x,h.ok.ha.setF h.ia (Or.inl hC) x,h.ok.hg.setF h.ig (Or.inl hC) x⟩,h.ip,h.ia,h.ig,h.hh.1,by simpa [World.setCell] using h.hh.2⟩
  iterate 11 (refine hset _ _ _ _ _ (by show _<w.heap.size+2;omega) ?_)
  exact hJ
 ·iterate 10 (refine Below.setCell ?_ (Nat.le_add_right _ _) _)
  refine Below.setCell ?_ (by show w.heap.size<=w.heap.size;exact Nat.le_refl _) _
  exact hb3
theorem qsJ {w:World}{e:Ev}{t:Ls}{C j:Nat}{x:Value}(h:QJ w e t)(hC:C<t.lo∨t.hi<=C):QJ (w.setCell ⟨C,j,none⟩ x) e t :=
 ⟨⟨h.ok.hid,h.ok.hsd,h.ok.hty,h.ok.hkey,h.ok.hval,h.ok.hp.setF h.ip hC x,h.ok.ha.setF h.ia hC x,h.ok.hg.setF h.ig hC x⟩,h.ip,h.ia,h.ig,h.hh.1,by simpa [World.setCell] using h.hh.2⟩
structure QS (Q:World->Ev->Ls->Prop):Prop where
 c:QC Q
 s:∀ {w:World} {e:Ev} {t:Ls} {C j:Nat} {x:Value},Q w e t->(C<t.lo∨t.hi<=C)->Q (w.setCell ⟨C,j,none⟩ x) e t
 cp:∀ (e:Ev) {pa aa ga:Option Addr} {cp ca cg:Nat} (w:World),EvReach e->EvOk w e pa cp aa ca ga cg->Calls Tryz.prog 17 #[.agg #[.string e.id,.string e.sd,.string e.ty,.bool e.st,.string e.key,.int .i64 e.tm,.slice pa e.np cp,.slice aa e.na ca,.string e.val,.slice ga e.ng cg]] w (CpQ Q w e)
theorem qsJJ:QS QJ:=⟨qcJ,fun h hC=>qsJ h hC,fun e _ _ _ _ _ _ w hr he=>l2Cp_any e w hr he⟩
end Go.Proofs.YtnbdlaglnefcbaaGreat
