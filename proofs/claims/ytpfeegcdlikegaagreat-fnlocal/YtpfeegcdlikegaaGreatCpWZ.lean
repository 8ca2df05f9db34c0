import Derived.Test.YtpfeegcdlikegaaGreatCrSZ
import Derived.Test.YtpfeegcdlikegaaGreatGwBZ
set_option maxHeartbeats 16000000
set_option maxRecDepth 100000
namespace Go.Proofs.YtpfeegcdlikegaaGreat
open Go.RowKit Go.Proofs.Tryz
variable {W w w':World}{e:Ev}{t:Ls}{row:Option Nat}{n ca cg cp cap base:Nat}{M S:Nat->ByteArray}{L:Nat->Int}{aa ga pa:Option Addr}
structure QO (w:World)(e:Ev)(t:Ls):Prop where
 j:QJ w e t
 p:bU w t.lo (.slice t.pa e.np t.cp) e.np e.Pv
 a:bU w t.lo (.slice t.aa e.na t.ca) e.na e.Av
 g:bV w t.lo (.slice t.ga e.ng t.cg) e.ng e.M e.L
 d:∀ b,(Value.slice t.pa e.np t.cp).ownBlock=some b->(Value.slice t.aa e.na t.ca).ownBlock≠some b
 h:∀ b,((Value.slice t.pa e.np t.cp).ownBlock=some b\/(Value.slice t.aa e.na t.ca).ownBlock=some b\/(Value.slice t.ga e.ng t.cg).ownBlock=some b)->b<t.hi
theorem QO.grown (h:QO w e t)(hg:w.grownBy w' row)(hr:∀ b,row=some b->b<t.lo\/t.hi<=b):QO w' e t:=by
 have G:∀ b,t.lo<=b->b<t.hi->b<w.heap.size->w'.heap[b]?=w.heap[b]?:=fun b H I u=>hg.block b u (fun q=>by have:=hr b q.symm;omega)
 exact ⟨qcJ.grown h.j hg hr,aM h.p (fun b hb u=>G b (aD h.p b hb).1 (h.h b (Or.inl hb)) u),aM h.a (fun b hb u=>G b (aD h.a b hb).1 (h.h b (Or.inr (Or.inl hb))) u),aM h.g (fun b hb u=>G b (aD h.g b hb).1 (h.h b (Or.inr (Or.inr hb))) u),h.d,h.h⟩
theorem LK:QC QO:=⟨fun h hb=>⟨qcJ.below h.j hb,h.p.below hb,h.a.below hb,h.g.below hb,h.d,h.h⟩,fun h hg hr=>h.grown hg hr,fun h=>h.j.ok,fun h=>h.j.hh⟩
theorem qsO {C j:Nat}{x:Value}(h:QO w e t)(u:C<t.lo\/t.hi<=C):QO (w.setCell ⟨C,j,none⟩ x) e t:=h.grown (Lib.grownBy_setCell w C j x) (fun b hb=>by injection hb with hb;subst hb;exact u)
theorem FU {a:Option Addr}{g:Nat}(hr:n * 16<=140737488355328)(h:dE W a n cap S)(I:bU W base (.slice (some ⟨g,0,none⟩) 0 0) 0 S)(hb:base<=W.heap.size) :
  ∃ H J w',(Builtin.append_ #[27,27] 27 #[.slice (some ⟨g,0,none⟩) 0 0,.slice a n cap]).run prog W=.ok (.slice H n J) w'/\dE w' H n J S/\Iv H n base w'.heap.size/\Bk H n g W.heap.size/\W.grownBy w' (some g)/\bU w' base (.slice H n J) n S/\((Value.slice H n J).ownBlock=some g\/(Value.slice H n J).ownBlock=some W.heap.size):=by
 obtain ⟨i0,hi,ab,Z,ae⟩:=info_parts Tryz.infoString;have hn:n<=maxLen:=nZ h.le h.max
 cases a with
 | none =>
  have af:n=0:=by
   rcases h.cells with h0|⟨b,off,e,_⟩
   ·exact h0
   cases e
  subst af;have O:=run_append_room_src (P:=prog) (w:=W) 27 27 27 9 i0 underlying27 hi g 0 0 0 (.slice none 0 cap) 0 [] (Src.ofNil _ underlying27 cap) nL (fun j N=>absurd N (Nat.not_lt_zero _)) (fun j N=>absurd N (Nat.not_lt_zero _));simp only [World.setCells,Nat.add_zero] at O
  exact ⟨_,_,_,O,⟨nL,by decide,h.size,Or.inl rfl⟩,Or.inl rfl,Or.inl rfl,tA _ _,I,Or.inl rfl⟩
 | some ad =>
  have U:∀ j u,(dT S n)[j]?=some u->W.cell? (ad.add j)=some u:=fun j u N=>by
   rcases h.cells with rfl|⟨b,off,e,hb,hc⟩
   ·cases N
   injection e with e
   subst e;exact NX hc j u N
  obtain ⟨v',w',Y,h2,h3,-,h5⟩:=run_append_own_at (P:=prog) W base 27 27 9 i0 (.string ByteArray.empty) 1 16 underlying27 hi ab Z ae rfl (by decide) _ _ _ I ad n cap (dT S n) (by rw [dZ,Nat.mul_one]) U (NE S n) (by rw [Nat.zero_add];exact hn) (by rw [Nat.zero_add];exact hr) hb
  have G:bU w' base v' n S:=by
   unfold bU;rw [Nat.zero_add] at h2;exact h2
  obtain ⟨H,J,rfl,q1,q2⟩:=G.slw h.size;exact ⟨H,J,w',Y,q1,q2.iv,Bk.of q2.iv h5,h3,G,h5⟩
theorem SI {a:Option Addr}{g:Nat}(hr:n * 24<=140737488355328)(h:gN W a n cap M L)(I:bV W base (.slice (some ⟨g,0,none⟩) 0 0) 0 M L)(hb:base<=W.heap.size) :
  ∃ H J w',(Builtin.append_ #[28,28] 28 #[.slice (some ⟨g,0,none⟩) 0 0,.slice a n cap]).run prog W=.ok (.slice H n J) w'/\gN w' H n J M L/\Iv H n base w'.heap.size/\Bk H n g W.heap.size/\W.grownBy w' (some g)/\bV w' base (.slice H n J) n M L/\((Value.slice H n J).ownBlock=some g\/(Value.slice H n J).ownBlock=some W.heap.size):=by
 obtain ⟨i0,hi,ae,ab,af⟩:=info_parts Tryz.infoGrant;have hn:n<=maxLen:=nZ h.le h.max
 cases a with
 | none =>
  have ag:n=0:=by
   rcases h.cells with h0|⟨b,off,e,_⟩
   ·exact h0
   cases e
  subst ag;have O:=run_append_room_src (P:=prog) (w:=W) 28 28 28 127 i0 underlying28 hi g 0 0 0 (.slice none 0 cap) 0 [] (Src.ofNil _ underlying28 cap) nL (fun j N=>absurd N (Nat.not_lt_zero _)) (fun j N=>absurd N (Nat.not_lt_zero _));simp only [World.setCells,Nat.add_zero] at O
  exact ⟨_,_,_,O,⟨nL,by decide,h.size,Or.inl rfl⟩,Or.inl rfl,Or.inl rfl,tA _ _,I,Or.inl rfl⟩
 | some ad =>
  have U:∀ j u,(eQ M L n)[j]?=some u->W.cell? (ad.add j)=some u:=fun j u N=>by
   rcases h.cells with rfl|⟨b,off,e,hb,h1,Z⟩
   ·cases N
   injection e with e
   subst e;exact PM h1 Z j u N
  obtain ⟨v',w',Y,Z,h3,-,h5⟩:=run_append_own_at (P:=prog) W base 28 28 127 i0 (.agg #[.string ByteArray.empty,.int .i64 0]) 2 24 underlying28 hi ae ab af rfl (by decide) _ _ _ I ad n cap (eQ M L n) (gU M L n) U (NO M L n) (by rw [Nat.zero_add];exact hn) (by rw [Nat.zero_add];exact hr) hb
  have G:bV w' base v' n M L:=by
   unfold bV;rw [Nat.zero_add] at Z;exact Z
  obtain ⟨H,J,rfl,q1,q2⟩:=G.slw h.size;exact ⟨H,J,w',Y,q1,q2.iv,Bk.of q2.iv h5,h3,G,h5⟩
theorem LJ (e:Ev)(w:World)(hr:eE e)(U:cI w e pa cp aa ca ga cg) :
  Calls prog 127 #[.agg (ec e pa cp aa ca ga cg)] w (CpQ QO w e):=by
 obtain ⟨cb,b2,bz⟩:=hr;have ak:CE w w.heap.size (ec e pa cp aa ca ga cg) ((w.alloc (.cells (ec e pa cp aa ca ga cg) 30)).alloc (.cells #[.string ⟨#[]⟩,.string ⟨#[]⟩,.string ⟨#[]⟩,.bool false,.string ⟨#[]⟩,.int .i64 0,.slice none 0 0,.slice none 0 0,.string ⟨#[]⟩,.slice none 0 0] 30)):=CE.start rfl;have am:Below ((w.alloc (.cells (ec e pa cp aa ca ga cg) 30)).alloc (.cells #[.string ⟨#[]⟩,.string ⟨#[]⟩,.string ⟨#[]⟩,.bool false,.string ⟨#[]⟩,.int .i64 0,.slice none 0 0,.slice none 0 0,.string ⟨#[]⟩,.slice none 0 0] 30)).heap.size ((w.alloc (.cells (ec e pa cp aa ca ga cg) 30)).alloc (.cells #[.string ⟨#[]⟩,.string ⟨#[]⟩,.string ⟨#[]⟩,.bool false,.string ⟨#[]⟩,.int .i64 0,.slice none 0 0,.slice none 0 0,.string ⟨#[]⟩,.slice none 0 0] 30)) (((((w.alloc (.cells (ec e pa cp aa ca ga cg) 30)).alloc (.cells #[.string ⟨#[]⟩,.string ⟨#[]⟩,.string ⟨#[]⟩,.bool false,.string ⟨#[]⟩,.int .i64 0,.slice none 0 0,.slice none 0 0,.string ⟨#[]⟩,.slice none 0 0] 30)).alloc (.cells #[] 9)).alloc (.cells #[] 9)).alloc (.cells #[] 127)):=(bA.alloc (by simp) _).alloc (by simp) _;have hE:CE w w.heap.size (ec e pa cp aa ca ga cg) (((((w.alloc (.cells (ec e pa cp aa ca ga cg) 30)).alloc (.cells #[.string ⟨#[]⟩,.string ⟨#[]⟩,.string ⟨#[]⟩,.bool false,.string ⟨#[]⟩,.int .i64 0,.slice none 0 0,.slice none 0 0,.string ⟨#[]⟩,.slice none 0 0] 30)).alloc (.cells #[] 9)).alloc (.cells #[] 9)).alloc (.cells #[] 127)):=ak.mono am;have aj:(((((w.alloc (.cells (ec e pa cp aa ca ga cg) 30)).alloc (.cells #[.string ⟨#[]⟩,.string ⟨#[]⟩,.string ⟨#[]⟩,.bool false,.string ⟨#[]⟩,.int .i64 0,.slice none 0 0,.slice none 0 0,.string ⟨#[]⟩,.slice none 0 0] 30)).alloc (.cells #[] 9)).alloc (.cells #[] 9)).alloc (.cells #[] 127)).heap.size=w.heap.size+1+1+1+1+1:=by simp
 have o1:bU (((((w.alloc (.cells (ec e pa cp aa ca ga cg) 30)).alloc (.cells #[.string ⟨#[]⟩,.string ⟨#[]⟩,.string ⟨#[]⟩,.bool false,.string ⟨#[]⟩,.int .i64 0,.slice none 0 0,.slice none 0 0,.string ⟨#[]⟩,.slice none 0 0] 30)).alloc (.cells #[] 9)).alloc (.cells #[] 9)).alloc (.cells #[] 127)) (w.heap.size+2) (.slice (some ⟨w.heap.size+1+1,0,none⟩) 0 0) 0 e.Pv:=by
  have:=bU.new ((w.alloc (.cells (ec e pa cp aa ca ga cg) 30)).alloc (.cells #[.string ⟨#[]⟩,.string ⟨#[]⟩,.string ⟨#[]⟩,.bool false,.string ⟨#[]⟩,.int .i64 0,.slice none 0 0,.slice none 0 0,.string ⟨#[]⟩,.slice none 0 0] 30)) (w.heap.size+2) (by simp) e.Pv;simp only [World.size_alloc] at this;exact (this.below bA).below bA
 have o2:bU (((((w.alloc (.cells (ec e pa cp aa ca ga cg) 30)).alloc (.cells #[.string ⟨#[]⟩,.string ⟨#[]⟩,.string ⟨#[]⟩,.bool false,.string ⟨#[]⟩,.int .i64 0,.slice none 0 0,.slice none 0 0,.string ⟨#[]⟩,.slice none 0 0] 30)).alloc (.cells #[] 9)).alloc (.cells #[] 9)).alloc (.cells #[] 127)) (w.heap.size+2) (.slice (some ⟨w.heap.size+1+1+1,0,none⟩) 0 0) 0 e.Av:=by
  have:=bU.new (((w.alloc (.cells (ec e pa cp aa ca ga cg) 30)).alloc (.cells #[.string ⟨#[]⟩,.string ⟨#[]⟩,.string ⟨#[]⟩,.bool false,.string ⟨#[]⟩,.int .i64 0,.slice none 0 0,.slice none 0 0,.string ⟨#[]⟩,.slice none 0 0] 30)).alloc (.cells #[] 9)) (w.heap.size+2) (by simp) e.Av;simp only [World.size_alloc] at this;exact this.below bA
 have o3:bV (((((w.alloc (.cells (ec e pa cp aa ca ga cg) 30)).alloc (.cells #[.string ⟨#[]⟩,.string ⟨#[]⟩,.string ⟨#[]⟩,.bool false,.string ⟨#[]⟩,.int .i64 0,.slice none 0 0,.slice none 0 0,.string ⟨#[]⟩,.slice none 0 0] 30)).alloc (.cells #[] 9)).alloc (.cells #[] 9)).alloc (.cells #[] 127)) (w.heap.size+2) (.slice (some ⟨w.heap.size+1+1+1+1,0,none⟩) 0 0) 0 e.M e.L:=by
  have:=bV.new ((((w.alloc (.cells (ec e pa cp aa ca ga cg) 30)).alloc (.cells #[.string ⟨#[]⟩,.string ⟨#[]⟩,.string ⟨#[]⟩,.bool false,.string ⟨#[]⟩,.int .i64 0,.slice none 0 0,.slice none 0 0,.string ⟨#[]⟩,.slice none 0 0] 30)).alloc (.cells #[] 9)).alloc (.cells #[] 9)) (w.heap.size+2) (by simp) e.M e.L;simp only [World.size_alloc] at this;exact this
 obtain ⟨a1,c1,w1,ab,s1,v1,k1,g1,p1,r1⟩:=FU (base:=w.heap.size+2) (by omega) (U.hp.below hE.below) o1 (by omega);have N:=hE.grown g1 (by omega);have I:=N.set 6 (by simp) (.slice a1 e.np c1);have z1:(((((w.alloc (.cells (ec e pa cp aa ca ga cg) 30)).alloc (.cells #[.string ⟨#[]⟩,.string ⟨#[]⟩,.string ⟨#[]⟩,.bool false,.string ⟨#[]⟩,.int .i64 0,.slice none 0 0,.slice none 0 0,.string ⟨#[]⟩,.slice none 0 0] 30)).alloc (.cells #[] 9)).alloc (.cells #[] 9)).alloc (.cells #[] 127)).heap.size<=w1.heap.size:=g1.size
 have ap:bU (w1.setCell ⟨w.heap.size,6,none⟩ (.slice a1 e.np c1)) (w.heap.size+2) (.slice (some ⟨w.heap.size+1+1+1,0,none⟩) 0 0) 0 e.Av:=jL o2 (fun g hg=>by
  have u:some (w.heap.size+1+1+1)=some g:=hg;injection u with u
  subst u;rw [Below.heap_setCell _ _ _ _ (by show w.heap.size+1+1+1≠w.heap.size;omega)];exact g1.block _ (by omega) (fun e=>by injection e;omega))
 have af:bV (w1.setCell ⟨w.heap.size,6,none⟩ (.slice a1 e.np c1)) (w.heap.size+2) (.slice (some ⟨w.heap.size+1+1+1+1,0,none⟩) 0 0) 0 e.M e.L:=jL o3 (fun g hg=>by
  have u:some (w.heap.size+1+1+1+1)=some g:=hg;injection u with u
  subst u;rw [Below.heap_setCell _ _ _ _ (by show w.heap.size+1+1+1+1≠w.heap.size;omega)];exact g1.block _ (by omega) (fun e=>by injection e;omega))
 have y1:(w1.setCell ⟨w.heap.size,6,none⟩ (.slice a1 e.np c1)).heap.size=w1.heap.size:=by simp [World.setCell]
 obtain ⟨G,c2,w2,Y,s2,v2,k2,g2,p2,r2⟩:=FU (base:=w.heap.size+2) (by omega) (U.ha.below I.below) ap (by omega);have O:=I.grown g2 (by omega);have J:=O.set 7 (by simp) (.slice G e.na c2);have z2:w1.heap.size<=w2.heap.size:=by have:=g2.size;omega
 have ai:bV (w2.setCell ⟨w.heap.size,7,none⟩ (.slice G e.na c2)) (w.heap.size+2) (.slice (some ⟨w.heap.size+1+1+1+1,0,none⟩) 0 0) 0 e.M e.L:=jL af (fun g hg=>by
  have u:some (w.heap.size+1+1+1+1)=some g:=hg;injection u with u
  subst u;rw [Below.heap_setCell _ _ _ _ (by show w.heap.size+1+1+1+1≠w.heap.size;omega)];exact g2.block _ (by omega) (fun e=>by injection e;omega))
 have y2:(w2.setCell ⟨w.heap.size,7,none⟩ (.slice G e.na c2)).heap.size=w2.heap.size:=by simp [World.setCell]
 obtain ⟨a3,c3,w3,Z,s3,v3,k3,g3,p3,r3⟩:=SI (base:=w.heap.size+2) (by omega) (U.hg.below J.below) ai (by omega);have H:=J.grown g3 (by omega);have z3:w2.heap.size<=w3.heap.size:=by have:=g3.size;omega
 have HJ:He (QJ w3 e ⟨a1,c1,G,c2,a3,c3,w.heap.size+2,0,0,w3.heap.size⟩):=by
  have P1:dE (w1.setCell ⟨w.heap.size,6,none⟩ (.slice a1 e.np c1)) a1 e.np c1 e.Pv:=s1.setF v1 (Or.inl (by omega)) _;have P2:dE w2 a1 e.np c1 e.Pv:=P1.grownN g2 k1 (by omega) (by omega);have P3:dE (w2.setCell ⟨w.heap.size,7,none⟩ (.slice G e.na c2)) a1 e.np c1 e.Pv:=P2.setF v1 (Or.inl (by omega)) _;have P4:dE w3 a1 e.np c1 e.Pv:=P3.grownN g3 k1 (by omega) (by omega);have Q3:dE (w2.setCell ⟨w.heap.size,7,none⟩ (.slice G e.na c2)) G e.na c2 e.Av:=s2.setF v2 (Or.inl (by omega)) _;have Q4:dE w3 G e.na c2 e.Av:=Q3.grownN g3 k2 (by omega) (by omega);exact ⟨⟨U.hid,U.hsd,U.hty,U.hkey,U.hval,P4,Q4,s3⟩,v1.wide nL (by show _<=w3.heap.size;omega),v2.wide nL (by show _<=w3.heap.size;omega),v3,by show w.heap.size+2<=w3.heap.size;omega,nL⟩
 have HO:He (QO w3 e ⟨a1,c1,G,c2,a3,c3,w.heap.size+2,0,0,w3.heap.size⟩):=by
  have e1:∀ b,(Value.slice a1 e.np c1).ownBlock=some b->w.heap.size+2<=b/\b<w1.heap.size/\b≠w.heap.size+1+1+1/\b≠w.heap.size+1+1+1+1:=fun b hb=>by
   have q:=aD p1 b hb;rcases r1 with r|r
   ·rw [hb] at r;injection r with r;omega
   rw [hb] at r;injection r with r;rw [aj] at r;omega
  have e2:∀ b,(Value.slice G e.na c2).ownBlock=some b->w.heap.size+2<=b/\b<w2.heap.size/\b≠w.heap.size+1+1+1+1/\(b=w.heap.size+1+1+1\/w1.heap.size<=b):=fun b hb=>by
   have q:=aD p2 b hb;rcases r2 with r|r
   ·rw [hb] at r;injection r with r;omega
   rw [hb] at r;injection r with r;rw [y1] at r;omega
  have e3:∀ b,(Value.slice a3 e.ng c3).ownBlock=some b->w.heap.size+2<=b/\b<w3.heap.size:=fun b hb=>aD p3 b hb
  have P1:=aM p1 (w':=w1.setCell ⟨w.heap.size,6,none⟩ (.slice a1 e.np c1)) (fun b hb _=>Below.heap_setCell _ _ _ _ (by have:=e1 b hb;show b≠w.heap.size;omega));have P2:=aM P1 (w':=w2) (fun b hb hl=>g2.block b hl (fun q=>by have:=e1 b hb;injection q with q;omega));have P3:=aM P2 (w':=w2.setCell ⟨w.heap.size,7,none⟩ (.slice G e.na c2)) (fun b hb _=>Below.heap_setCell _ _ _ _ (by have:=e1 b hb;show b≠w.heap.size;omega));have P4:=aM P3 (w':=w3) (fun b hb hl=>g3.block b hl (fun q=>by have:=e1 b hb;injection q with q;omega));have Q3:=aM p2 (w':=w2.setCell ⟨w.heap.size,7,none⟩ (.slice G e.na c2)) (fun b hb _=>Below.heap_setCell _ _ _ _ (by have:=e2 b hb;show b≠w.heap.size;omega));have Q4:=aM Q3 (w':=w3) (fun b hb hl=>g3.block b hl (fun q=>by have:=e2 b hb;injection q with q;omega));refine ⟨HJ.o,P4,Q4,p3,fun b hb ba=>?_,fun b hb=>?_⟩
  ·have q1:=e1 b hb
   have q2:=e2 b ba;omega
  show b<w3.heap.size
  rcases hb with hb|hb|hb
  ·have:=e1 b hb;omega
  ·have:=e2 b hb;omega
  exact (e3 b hb).2
 have A0:=hE.a0;have F0:=hE.f0;have A1:=N.a0;have F1:=N.f0;have A2:=O.a0;have F2:=O.f0;have A3:=H.a0;have F3:=H.f0;have b1:=H.a1;have f1:=H.f1;obtain ⟨x0,y0⟩:=b1 0 (by decide);obtain ⟨x1,bg⟩:=b1 1 (by decide);obtain ⟨x2,bh⟩:=b1 2 (by decide);obtain ⟨x3,y3⟩:=b1 3 (by decide);obtain ⟨x4,y4⟩:=b1 4 (by decide);obtain ⟨x5,y5⟩:=b1 5 (by decide);obtain ⟨x6,y6⟩:=b1 6 (by decide);obtain ⟨x7,y7⟩:=b1 7 (by decide);obtain ⟨x8,y8⟩:=b1 8 (by decide);obtain ⟨x9,y9⟩:=b1 9 (by decide);have aw:=H.below;clear HJ p1 p2 p3 r1 r2 r3 b1 ak am hE N O H I J o1 o2 o3 ap af ai s1 s2 s3 v1 v2 v3 k1 k2 k3 g1 g2 g3 U y1 y2 aj
 go_enter func127,ntmps127
 go_wp2_with (first|(at_builtin;refine bS rfl _ _ 27 rfl _ _ _ _ ab rfl rfl ?_;clear ab)|(at_builtin;refine bS rfl _ _ 27 rfl _ _ _ _ Y rfl rfl ?_;clear Y)|(at_builtin;refine bS rfl _ _ 28 rfl _ _ _ _ Z rfl rfl ?_;clear Z))
 refine bodyPost_ret (v:=.agg (ec e a1 c1 G c2 a3 c3))
  (by simp [results,results127,go_sem,y0,bg,bh,y3,y4,y5,y6,y7,y8,y9]) rfl ⟨⟨a1,c1,G,c2,a3,c3,w.heap.size+2,0,0,w3.heap.size⟩,rfl,?_,by show w.heap.size<=w.heap.size+2;omega,?_⟩
 ·have hJ:=HO.o
  have ao:∀ (t:Ls) (W:World) (C j:Nat) (x:Value),C<t.lo->QO W e t->QO (W.setCell ⟨C,j,none⟩ x) e t:=fun t W C j x hC h=>qsO h (Or.inl hC)
  iterate 11 (refine ao _ _ _ _ _ (by show _<w.heap.size+2;omega) ?_)
  exact hJ
 iterate 10 (refine Below.setCell ?_ (Nat.le_add_right _ _) _)
 refine Below.setCell ?_ (by show w.heap.size<=w.heap.size;exact nL) _;exact aw
theorem bf0:QS QO:=⟨LK,fun h G=>qsO h G,fun e _ _ _ _ _ _ w hr u=>LJ e w hr u⟩
theorem Kb.cell {c:Nat}{w w':World}(h:Kb c w w'){b o:Nat}(hb:b<w.heap.size)(u:b≠c):w'.cell? ⟨b,o,none⟩=w.cell? ⟨b,o,none⟩:=World.cell?_of_block (a:=⟨b,o,none⟩) (h.2 b hb u)
theorem Kb.frz {c:Nat}{w w':World}(h:Kb c w w'){b o:Nat}(hb:b<w.heap.size)(u:b≠c):w'.frozen? ⟨b,o,none⟩=w.frozen? ⟨b,o,none⟩:=World.frozen?_of_block (a:=⟨b,o,none⟩) (h.2 b hb u)
theorem Kb.trans {c:Nat}{w w1 w2:World}(h:Kb c w w1)(G:Kb c w1 w2):Kb c w w2:=⟨nZ h.1 G.1,fun b u H=>(G.2 b (nT u h.1) H).trans (h.2 b u H)⟩
theorem Kb.of {c:Nat}{w w':World}{row:Option Nat}(h:w.grownBy w' row)(hr:∀ b,row=some b->b=c):Kb c w w':=(Kb.refl c w).grow h (fun b hb=>Or.inl (hr b hb))
theorem dE.kx {w w':World}{a:Option Addr}{n cap lo hi c:Nat}{S:Nat->ByteArray}(h:dE w a n cap S)(O:Iv a n lo hi)(I:Kb c w w')(hr:c<lo\/hi<=c):dE w' a n cap S:=by
 refine ⟨h.le,h.max,h.size,?_⟩;rcases O with J|⟨b,off,rfl,Y,Z⟩
 ·exact Or.inl J
 refine h.cells.imp id fun ⟨H,u,e,G,N⟩=>⟨H,u,e,nT G I.1,fun i hi=>?_⟩
 have U:b=H:=by injection e with e;injection e
 exact (I.cell G (by omega)).trans (N i hi)
theorem gN.kx {w w':World}{a:Option Addr}{n cap lo hi c:Nat}{M:Nat->ByteArray}{L:Nat->Int}(h:gN w a n cap M L)(O:Iv a n lo hi)(H:Kb c w w')(hr:c<lo\/hi<=c):gN w' a n cap M L:=by
 refine ⟨h.le,h.max,h.size,?_⟩;rcases O with J|⟨b,off,rfl,Z,h2⟩
 ·exact Or.inl J
 refine h.cells.imp id fun ⟨I,G,e,u,N,U⟩=>⟨I,G,e,nT u H.1,fun i hi=>?_,fun i hi=>?_⟩
 all_goals
  have Y:b=I:=by injection e with e;injection e
 ·exact (H.cell u (by omega)).trans (N i hi)
 exact (H.cell u (by omega)).trans (U i hi)
theorem dE.kl {w w':World}{a:Option Addr}{n cap lo c:Nat}{S:Nat->ByteArray}(h:dE w a n cap S)(O:YB a n lo)(I:Kb c w w')(hr:c<lo):dE w' a n cap S:=by
 refine ⟨h.le,h.max,h.size,?_⟩;rcases O with J|⟨b,off,rfl,Y⟩
 ·exact Or.inl J
 refine h.cells.imp id fun ⟨H,u,e,G,N⟩=>⟨H,u,e,nT G I.1,fun i hi=>?_⟩
 have U:b=H:=by injection e with e;injection e
 exact (I.cell G (by omega)).trans (N i hi)
theorem gN.kl {w w':World}{a:Option Addr}{n cap lo c:Nat}{M:Nat->ByteArray}{L:Nat->Int}(h:gN w a n cap M L)(O:YB a n lo)(H:Kb c w w')(hr:c<lo):gN w' a n cap M L:=by
 refine ⟨h.le,h.max,h.size,?_⟩;rcases O with J|⟨b,off,rfl,Z⟩
 ·exact Or.inl J
 refine h.cells.imp id fun ⟨I,G,e,u,N,U⟩=>⟨I,G,e,nT u H.1,fun i hi=>?_,fun i hi=>?_⟩
 all_goals
  have Y:b=I:=by injection e with e;injection e
 ·exact (H.cell u (by omega)).trans (N i hi)
 exact (H.cell u (by omega)).trans (U i hi)
theorem cI.kl {w w':World}{e:Ev}{pa aa ga:Option Addr}{cp ca cg lo c:Nat}(h:cI w e pa cp aa ca ga cg)(G:RH lo e pa aa ga)(u:Kb c w w')(hr:c<lo):cI w' e pa cp aa ca ga cg :=
 ⟨h.hid,h.hsd,h.hty,h.hkey,h.hval,h.hp.kl G.1 u hr,h.ha.kl G.2.1 u hr,h.hg.kl G.2.2 u hr⟩
theorem dF.kx {w w':World}{a:Option Addr}{cap c:Nat}{l:List aE}(h:dF w a cap l)(H:Kb c w w')(hr:l.length=0\/∃ b off,a=some ⟨b,off,none⟩/\b≠c):dF w' a cap l:=by
 refine ⟨h.le,h.max,h.size,?_⟩;rcases hr with J|⟨b,off,rfl,O⟩
 ·exact Or.inl (List.length_eq_zero_iff.1 J)
 refine h.cells.imp id fun ⟨I,G,e,u,c1,c2,c3⟩=>?_
 have N:b=I:=by injection e with e;injection e
 exact ⟨I,G,e,nT u H.1,fun i hi=>(H.cell u (by omega)).trans (c1 i hi),fun i hi=>(H.cell u (by omega)).trans (c2 i hi),fun i hi=>(H.cell u (by omega)).trans (c3 i hi)⟩
theorem QJ.kx {w w':World}{e:Ev}{t:Ls}{c:Nat}(h:QJ w e t)(u:Kb c w w')(hr:c<t.lo\/t.hi<=c):QJ w' e t :=
 ⟨⟨h.ok.hid,h.ok.hsd,h.ok.hty,h.ok.hkey,h.ok.hval,h.ok.hp.kx h.ip u hr,h.ok.ha.kx h.ia u hr,h.ok.hg.kx h.ig u hr⟩,h.ip,h.ia,h.ig,h.hh.1,nZ h.hh.2 u.1⟩
theorem QO.kx {w w':World}{e:Ev}{t:Ls}{c:Nat}(h:QO w e t)(H:Kb c w w')(hr:c<t.lo\/t.hi<=c):QO w' e t:=by
 have G:∀ b,t.lo<=b->b<t.hi->b<w.heap.size->w'.heap[b]?=w.heap[b]?:=fun b I J u=>H.2 b u (by omega)
 exact ⟨h.j.kx H hr,aM h.p (fun b hb u=>G b (aD h.p b hb).1 (h.h b (Or.inl hb)) u),aM h.a (fun b hb u=>G b (aD h.a b hb).1 (h.h b (Or.inr (Or.inl hb))) u),aM h.g (fun b hb u=>G b (aD h.g b hb).1 (h.h b (Or.inr (Or.inr hb))) u),h.d,h.h⟩
structure QK (Q:World->Ev->Ls->Prop):Prop where
 c:QC Q
 k:∀ {w w':World} {e:Ev} {t:Ls} {c:Nat},Q w e t->Kb c w w'->(c<t.lo\/t.hi<=c)->Q w' e t
theorem YM:QK QJ:=⟨qcJ,fun h u hr=>h.kx u hr⟩
theorem uF:QK QO:=⟨LK,fun h u hr=>h.kx u hr⟩
theorem bY.kx {Q:World->Ev->Ls->Prop}(H:QK Q){w w':World}{base n c:Nat}{v:Value}{E:Nat->Ev}{T:Nat->Ls}(h:bY Q w base v n E T)(G:Kb c w w')(I:v.ownBlock≠some c)(J:∀ i,i<n->c<(T i).lo\/(T i).hi<=c):bY Q w' base v n E T :=
 ⟨aM h.own (fun g hg u=>G.2 g u (fun e=>I (by rw [hg,e]))),fun i hi=>H.k (h.q i hi) G (J i hi),h.low,h.ord,h.apart⟩
theorem bY.kb {Q:World->Ev->Ls->Prop}(H:QK Q){w w':World}{base n c:Nat}{v:Value}{E:Nat->Ev}{T:Nat->Ls}(h:bY Q w base v n E T)(u:Kb c w w')(G:c<base):bY Q w' base v n E T :=
 h.kx H u (fun e=>by have:=(aD h.own c e).1;omega) (fun i hi=>Or.inl (nT G (h.low i hi)))
theorem bY.lo {Q:World->Ev->Ls->Prop}{w:World}{base base' n:Nat}{v:Value}{E:Nat->Ev}{T:Nat->Ls}(h:bY Q w base v n E T)(hb:base'<=base):bY Q w base' v n E T :=
 ⟨kD h.own hb,h.q,fun i hi=>nZ hb (h.low i hi),h.ord,h.apart⟩
theorem bY.at {Q:World->Ev->Ls->Prop}(N:QK Q){w:World}{base n g cap:Nat}{E:Nat->Ev}{T:Nat->Ls}(h:bY Q w base (.slice (some ⟨g,0,none⟩) n cap) n E T):g<w.heap.size/\base<=g/\dW w (some ⟨g,0,none⟩) n cap E/\∀ i,i<n->eP w g (i * 10) (E i) (T i).pa (T i).cp (T i).aa (T i).ca (T i).ga (T i).cg:=by
 rcases h.cells with ⟨e,_⟩|⟨Y,I,e,hg,G,O,U,H,_⟩
 ·cases e
 injection e with u _ J
 injection u with u
 injection u with u _ _
 subst u J;exact ⟨G,hg,⟨O,U,Or.inr ⟨g,0,rfl,G,fun i hi=>by rw [Nat.zero_add];exact ⟨_,_,_,_,_,_,H i hi,N.c.ok (h.q i hi)⟩⟩⟩,H⟩
theorem dQ.at {w:World}{base n g cap:Nat}{t:TypeId}{A:Nat->List aE}{Aa:Nat->Option Addr}{Ca:Nat->Nat}(h:dQ List.length PE t w base (.slice (some ⟨g,0,none⟩) n cap) n A Aa Ca):g<w.heap.size/\base<=g/\n<=cap/\cap<=maxLen/\∀ i,i<n->w.cell? ⟨g,0+i,none⟩=some (.slice (Aa i) (A i).length (Ca i)):=by
 rcases h.cells with ⟨e,_⟩|⟨U,H,e,hg,G,N,O,I⟩
 ·cases e
 injection e with u _ J
 injection u with u
 injection u with u _ _
 subst u J;exact ⟨G,hg,N,O,I⟩
theorem dQ.kx {w w':World}{base n c:Nat}{t:TypeId}{v:Value}{A:Nat->List aE}{Aa:Nat->Option Addr}{Ca:Nat->Nat}(h:dQ List.length PE t w base v n A Aa Ca)(G:Kb c w w')(H:v.ownBlock≠some c)(I:∀ i,i<n->(A i).length=0\/∃ b off,Aa i=some ⟨b,off,none⟩/\b≠c):dQ List.length PE t w' base v n A Aa Ca :=
 ⟨aM h.own (fun g hg u=>G.2 g u (fun e=>H (by rw [hg,e]))),fun i hi=>dF.kx (h.sl i hi) G (I i hi),h.apart⟩
structure lF (p:Nat)(w W:World)(bs:Nat->Nat)(m q n:Nat)(E:Nat->Ev)(na:Nat)(A:Nat->List aE)(r5 b3 rb rc:Nat)(T:Nat->Ls)(sg sc:Nat)(Aa:Nat->Option Addr)(Ca:Nat->Nat)(fl fh fb:Nat)(Tf:Nat->Ls):Prop where
 dw:bR p w W bs m q
 z:∃ v,W.cell? ⟨w.heap.size,0,none⟩=some v
 fz:W.frozen? ⟨w.heap.size,0,none⟩=false
 box:W.cell? ⟨r5,0,none⟩=some (.slice (some ⟨rb,0,none⟩) n rc)
 fbx:W.frozen? ⟨r5,0,none⟩=false
 lo:w.heap.size<r5
 hi:r5<W.heap.size
 b3l:w.heap.size<b3
 room:bY QO W b3 (.slice (some ⟨rb,0,none⟩) n rc) n E T
 aft:dQ List.length PE 26 W (r5+1) (.slice (some ⟨sg,0,none⟩) na sc) na A Aa Ca
 alo:∀ i,i<na->(A i).length=0\/∃ b off,Aa i=some ⟨b,off,none⟩/\r5<b
 fll:r5<fl
 fst:bY QJ W fl (.slice (some ⟨fb,0,none⟩) 5 5) 5 gJ Tf
 fhi:fb<fh/\fh<=W.heap.size/\∀ i,i<5->(Tf i).hi<=fh
 sgf:sg<fl\/fh<=sg
section
variable {p:Nat} {w W:World} {bs:Nat->Nat} {m q n:Nat} {E:Nat->Ev} {na:Nat} {A:Nat->List aE} {r5 b3 rb rc:Nat} {T:Nat->Ls} {sg sc:Nat} {Aa:Nat->Option Addr} {Ca:Nat->Nat} {fl fh fb:Nat} {Tf:Nat->Ls}
theorem lF.kb (h:lF p w W bs m q n E na A r5 b3 rb rc T sg sc Aa Ca fl fh fb Tf)(hp:p<w.heap.size){W':World}{q':Nat}(u:Kb p W W')(N:bR p w W' bs m q'):lF p w W' bs m q' n E na A r5 b3 rb rc T sg sc Aa Ca fl fh fb Tf:=by
 have J:=h.lo;have G:=h.hi;have H:=h.b3l;have I:=h.fll;have O:=h.aft.at.2.1;refine ⟨N,h.z.imp fun v U=>(u.cell (by omega) (by omega)).trans U,(u.frz (by omega) (by omega)).trans h.fz,(u.cell G (by omega)).trans h.box,(u.frz G (by omega)).trans h.fbx,J,nT G u.1,H,h.room.kb uF u (by omega),h.aft.kx u (fun e=>?_) (fun i hi=>(h.alo i hi).imp id fun ⟨b,off,e,hb⟩=>⟨b,off,e,by omega⟩),h.alo,I,h.fst.kb YM u (by omega),⟨h.fhi.1,nZ h.fhi.2.1 u.1,h.fhi.2.2⟩,h.sgf⟩
 have:sg=p:=by simpa [Value.ownBlock] using e
 omega
theorem lF.below (h:lF p w W bs m q n E na A r5 b3 rb rc T sg sc Aa Ca fl fh fb Tf)(hp:p<w.heap.size){W':World}(hb:Below W.heap.size W W'):lF p w W' bs m q n E na A r5 b3 rb rc T sg sc Aa Ca fl fh fb Tf:=h.kb hp ((Kb.refl p W).below hb) (h.dw.below hb)
theorem lF.far (h:lF p w W bs m q n E na A r5 b3 rb rc T sg sc Aa Ca fl fh fb Tf)(hp:p<w.heap.size){u:World}{b o:Nat}{x:Value}(H:Kb p W u)(I:bR p w u bs m q)(hb:W.heap.size<=b):lF p w (u.setCell ⟨b,o,none⟩ x) bs m q n E na A r5 b3 rb rc T sg sc Aa Ca fl fh fb Tf :=
 h.kb hp (H.grow (Lib.grownBy_setCell u b o x) (fun c G=>by injection G with G;exact Or.inr (by omega))) (I.own (nZ h.dw.size hb) hp o x)
theorem lF.gwK (h:lF p w W bs m q n E na A r5 b3 rb rc T sg sc Aa Ca fl fh fb Tf)(hp:p<w.heap.size):YK p W rb 0 n rc E sg 0 na A Aa Ca:=fun W' hg=>by
 have I:=h.lo;have H:=h.b3l;have J:=h.aft.at.2.1;have G:Kb p W W':=Kb.of hg (fun b hb=>by injection hb with hb;exact hb.symm);have hr:=h.room.kb uF G (by omega);have ha:=h.aft.kx G (fun e=>by have:sg=p:=(by simpa [Value.ownBlock] using e);omega) (fun i hi=>(h.alo i hi).imp id fun ⟨b,off,e,hb⟩=>⟨b,off,e,by omega⟩);exact ⟨(hr.at uF).2.2.1,fun j u=>by rw [Nat.zero_add];exact ⟨_,_,_,_,_,_,(hr.at uF).2.2.2 j u,(hr.q j u).j.ok⟩,fun j u=>⟨ha.at.2.2.2.2 j u,ha.sl j u⟩⟩
theorem lF.setRoom (h:lF p w W bs m q n E na A r5 b3 rb rc T sg sc Aa Ca fl fh fb Tf)(hp:p<w.heap.size){g H n' O:Nat}{E':Nat->Ev}{U:Nat->Ls}(Y:bY QO W O (.slice (some ⟨g,0,none⟩) n' H) n' E' U)(I:r5<O) :
  lF p w (W.setCell ⟨r5,0,none⟩ (.slice (some ⟨g,0,none⟩) n' H)) bs m q n' E' na A r5 O g H U sg sc Aa Ca fl fh fb Tf:=by
 have N:=h.lo;have J:=h.hi;have Z:=h.aft.at.2.1;have G:=h.fll;have u:Kb r5 W (W.setCell ⟨r5,0,none⟩ (.slice (some ⟨g,0,none⟩) n' H)):=(Kb.refl _ _).set 0 _;refine ⟨h.dw.own (by omega) hp 0 _,h.z.imp fun v hv=>(u.cell (by omega) (by omega)).trans hv,(u.frz (by omega) (by omega)).trans h.fz,aZ ⟨_,h.box⟩,by rw [World.frozen?_setCell];exact h.fbx,N,nT J u.1,by omega,Y.kb uF u I,h.aft.kx u (fun e=>?_) (fun i hi=>(h.alo i hi).imp id fun ⟨b,off,e,hb⟩=>⟨b,off,e,by omega⟩),h.alo,G,h.fst.kb YM u G,⟨h.fhi.1,nZ h.fhi.2.1 u.1,h.fhi.2.2⟩,h.sgf⟩
 have:sg=r5:=by simpa [Value.ownBlock] using e
 omega
theorem lF.snocA (h:lF p w W bs m q n E na A r5 b3 rb rc T sg sc Aa Ca fl fh fb Tf)(hp:p<w.heap.size){X Y:World}{Z cq ec:Nat}{ea:Option Addr}{l:List aE}(hX:Below W.heap.size W X)(hl:PE X ea ec l)(O:l.length=0\/∃ b off,ea=some ⟨b,off,none⟩/\r5<b/\b≠sg)
  (U:Y.ownsRow (r5+1) 26 1 (.slice (some ⟨Z,0,none⟩) (na+1) cq) (na+1) (lZ List.length A Aa Ca na ++ [.slice ea l.length ec])) (I:X.grownBy Y (some sg)) (N:some sg=some Z\/X.heap.size<=Z) (ag:sg<b3) :
  lF p w Y bs m q n E (na+1) (bM A na l) r5 b3 rb rc T Z cq (bM Aa na ea) (bM Ca na ec) fl fh fb Tf:=by
 have u:=h.below hp hX;have af:=u.lo;have J:=u.hi;have ae:=u.fll;have ao:=u.aft.at.2.1;have aj:=(u.fst.at YM).2.1;have H:Kb sg X Y:=Kb.of I (fun b hb=>by injection hb with hb;exact hb.symm);have G:=u.fhi;refine ⟨u.dw.grow I (fun b hb=>by injection hb with hb;omega) hp,u.z.imp fun v hv=>(H.cell (by omega) (by omega)).trans hv,(H.frz (by omega) (by omega)).trans u.fz,(H.cell J (by omega)).trans u.box,(H.frz J (by omega)).trans u.fbx,af,nT J H.1,u.b3l,u.room.kb uF H ag,u.aft.snoc VG hl ?_ U I N,fun i hi=>?_,ae,u.fst.kx YM H (fun e=>?_) (fun i hi=>?_),⟨G.1,nZ G.2.1 H.1,G.2.2⟩,?_⟩
 ·rcases O with h0|⟨b,off,e,_,hn⟩
  ·exact Or.inl h0
  refine Or.inr fun b' ah e' q=>?_
  rw [e] at e';injection e' with e'
  injection e' with e1 _ _
  have:sg=b':=by simpa [Value.ownBlock] using q
  omega
 ·by_cases e:i=na
  ·subst e
   rw [cQ,cQ];exact O.imp id fun ⟨b,off,e,hb,_⟩=>⟨b,off,e,hb⟩
  rw [cP _ _ (by omega),cP _ _ (by omega)];exact u.alo i (by omega)
 ·have:fb=sg:=by simpa [Value.ownBlock] using e
  rcases u.sgf with q|q <;> omega
 ·rcases u.sgf with q|q
  ·exact Or.inl (nT q (u.fst.low i hi))
  exact Or.inr (nZ (G.2.2 i hi) q)
 rcases N with q|q
 ·injection q with q
  subst q;exact u.sgf
 exact Or.inr (nZ G.2.1 q)
theorem lF.fill (h:lF p w W bs m q n E na A r5 b3 rb rc T sg sc Aa Ca fl fh fb Tf)(hp:p<w.heap.size){W4:World}{q' B:Nat}(Y:Kb p W W4)(Z:bR p w W4 bs m q')(hB:W.heap.size<=B)(x0 x1 H x3 G O N U J I:Value) :
  lF p w ((((((((((W4.setCell ⟨B,0,none⟩ x0).setCell ⟨B,1,none⟩ x1).setCell ⟨B,2,none⟩ H).setCell ⟨B,3,none⟩ x3).setCell ⟨B,4,none⟩ G).setCell ⟨B,5,none⟩ O).setCell ⟨B,6,none⟩ N).setCell ⟨B,7,none⟩ U).setCell ⟨B,8,none⟩ J).setCell ⟨B,9,none⟩ I) bs m q' n E na A r5 b3 rb rc T sg sc Aa Ca fl fh fb Tf:=by
 have hr:∀ b,some B=some b->b=p\/W.heap.size<=b:=fun b e=>by injection e with e;exact Or.inr (by omega)
 have u:w.heap.size<=B:=nZ h.dw.size hB;exact h.kb hp ((((((((((Y.grow (Lib.grownBy_setCell _ B 0 x0) hr).grow (Lib.grownBy_setCell _ B 1 x1) hr).grow (Lib.grownBy_setCell _ B 2 H) hr).grow (Lib.grownBy_setCell _ B 3 x3) hr).grow (Lib.grownBy_setCell _ B 4 G) hr).grow (Lib.grownBy_setCell _ B 5 O) hr).grow (Lib.grownBy_setCell _ B 6 N) hr).grow (Lib.grownBy_setCell _ B 7 U) hr).grow (Lib.grownBy_setCell _ B 8 J) hr).grow (Lib.grownBy_setCell _ B 9 I) hr) ((((((((((Z.own u hp 0 x0).own u hp 1 x1).own u hp 2 H).own u hp 3 x3).own u hp 4 G).own u hp 5 O).own u hp 6 N).own u hp 7 U).own u hp 8 J).own u hp 9 I)
end
theorem eC {W:World}{B:Nat}{c:Nat->Value}(h:∀ o,o<10->W.cell? ⟨B,o,none⟩=some (c o))(o:Nat)(x:Value):∀ i,i<10->(W.setCell ⟨B,o,none⟩ x).cell? ⟨B,i,none⟩=some (if i=o then x else c i):=fun i hi=>by
 by_cases e:i=o
 ·subst e;rw [if_pos rfl];exact aZ ⟨_,h i hi⟩
 rw [if_neg e,aB (by omega)];exact h i hi
theorem sN {W4:World}{B:Nat}{c:Nat->Value}(h:∀ o,o<10->W4.cell? ⟨B,o,none⟩=some (c o))(x0 x1 N x3 u H J O I G:Value):∀ o,o<10->((((((((((W4.setCell ⟨B,0,none⟩ x0).setCell ⟨B,1,none⟩ x1).setCell ⟨B,2,none⟩ N).setCell ⟨B,3,none⟩ x3).setCell ⟨B,4,none⟩ u).setCell ⟨B,5,none⟩ H).setCell ⟨B,6,none⟩ J).setCell ⟨B,7,none⟩ O).setCell ⟨B,8,none⟩ I).setCell ⟨B,9,none⟩ G).cell? ⟨B,o,none⟩=some ((#[x0,x1,N,x3,u,H,J,O,I,G]:Array Value)[o]?.getD undef):=fun o U=>by
 refine ((eC (eC (eC (eC (eC (eC (eC (eC (eC (eC h 0 x0) 1 x1) 2 N) 3 x3) 4 u) 5 H) 6 J) 7 O) 8 I) 9 G) o U).trans ?_
 match o,U with
 | 0,_=>rfl
 | 1,_=>rfl
 | 2,_=>rfl
 | 3,_=>rfl
 | 4,_=>rfl
 | 5,_=>rfl
 | 6,_=>rfl
 | 7,_=>rfl
 | 8,_=>rfl
 | 9,_=>rfl
theorem jD {X:World}{b:Nat}{cs:Array Value}{t:TypeId}{l:List ByteArray}(h:X.heap[b]?=some (.cells cs t))(H:cs.toList=l.map Value.string)(G:∀ s ∈ l,s.size<=maxLen)(I:l.length<=maxLen):dE X (some ⟨b,0,none⟩) l.length l.length (aG l):=by
 have u:b<X.heap.size:=(Array.getElem?_eq_some_iff.1 h).1;refine ⟨nL,I,fun i hi=>G _ (bO hi),Or.inr ⟨b,0,rfl,u,fun i hi=>?_⟩⟩
 have:cs[i]?=some (.string (aG l i)):=by
  rw [<- Array.getElem?_toList,H,List.getElem?_map,iR hi];rfl
 simp [World.cell?,h,this]
theorem TS {X:World}{b:Nat}{cs:Array Value}{t:TypeId}{l:List (ByteArray × Int)}(h:X.heap[b]?=some (.cells cs t))(G:cs.toList=eQ (gM l) (gL l) l.length)(H:∀ i,i<l.length->(gM l i).size<=maxLen)(I:l.length<=maxLen):gN X (some ⟨b,0,none⟩) l.length l.length (gM l) (gL l):=by
 have u:b<X.heap.size:=(Array.getElem?_eq_some_iff.1 h).1;refine ⟨nL,I,H,Or.inr ⟨b,0,rfl,u,fun i hi=>?_,fun i hi=>?_⟩⟩
 ·have:cs[i * 2]?=some (.string (gM l i)):=by rw [<- Array.getElem?_toList,G];exact (gQ _ _ _ i hi).1
  simp [World.cell?,h,this]
 have:cs[i * 2+1]?=some (.int .i64 (gL l i)):=by rw [<- Array.getElem?_toList,G];exact (gQ _ _ _ i hi).2
 simp [World.cell?,h,this]
end Go.Proofs.YtpfeegcdlikegaaGreat
