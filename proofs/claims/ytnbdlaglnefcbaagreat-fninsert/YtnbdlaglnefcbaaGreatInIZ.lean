import Derived.Test.YtnbdlaglnefcbaaGreatCrSZ
import Derived.Laws.StructEq
namespace Go.Proofs.YtnbdlaglnefcbaaGreat
open Go.RowKit Go.Maps Go.ChangeMaps
structure BX (w W:World)(a:Option Addr)(n cap:Nat)(ev:Array Value):Prop where
 x0:W.cell? ⟨w.heap.size,0,none⟩=some (.slice a n cap)
 cE:∀ i,W.cell? ⟨w.heap.size+1,i,none⟩=ev[i]?
 cR:W.cell? ⟨w.heap.size+1+1,0,none⟩=some (.slice none 0 0)
 cF:W.frozen? ⟨w.heap.size+1+1,0,none⟩=false
 sz:w.heap.size+1+1+1<W.heap.size
 bel:Below w.heap.size w W
theorem BX.below {w W W':World}{a:Option Addr}{n cap:Nat}{ev:Array Value}(h:BX w W a n cap ev)(hb:Below W.heap.size W W'):BX w W' a n cap ev :=
 have hs:=h.sz
 ⟨(hb.cell (by show w.heap.size<_;omega)).trans h.x0,fun i=>(hb.cell (by show w.heap.size+1<_;omega)).trans (h.cE i),(hb.cell (by show w.heap.size+1+1<_;omega)).trans h.cR,(hb.frozen (by show w.heap.size+1+1<_;omega)).trans h.cF,Nat.lt_of_lt_of_le hs hb.size,h.bel.trans (hb.mono h.bel.size)⟩
theorem BX.grown {w W W':World}{a:Option Addr}{n cap:Nat}{ev:Array Value}{row:Option Nat}(h:BX w W a n cap ev)(hg:W.grownBy W' row)(hr:∀ q,row=some q->w.heap.size+1+1<q):BX w W' a n cap ev:=by
 have hs:=h.sz
 have ne:∀ q,q<=w.heap.size+1+1->some q≠row:=fun q hq e=>by have:=hr q e.symm;omega
 exact ⟨(hg.cell_far _ (by show w.heap.size<_;omega) (ne w.heap.size (by omega))).trans h.x0,fun i=>(hg.cell_far _ (by show w.heap.size+1<_;omega) (ne (w.heap.size+1) (by omega))).trans (h.cE i),(hg.cell_far _ (by show w.heap.size+1+1<_;omega) (ne (w.heap.size+1+1) (by omega))).trans h.cR,(hg.frozen_far _ (by show w.heap.size+1+1<_;omega) (ne (w.heap.size+1+1) (by omega))).trans h.cF,Nat.lt_of_lt_of_le hs hg.size,h.bel.grown hg h.bel.size (fun q hq=>by have:=hr q hq;omega)⟩
theorem make_ev0 (n:Nat)(h:(n+1) * 168<=281474976710656)(W:World) :
  (Instr.makeSlice 23 (.int .i64 0) (.int .i64 ((n:Int)+1))).run Tryz.prog W=.ok (.slice (some ⟨W.heap.size,0,none⟩) 0 (n+1)) (W.alloc (.cells (mkV (n+1)) 29)):=by
 obtain ⟨i0,hi,hz0,hz1,hz2⟩:=info_parts Tryz.infoEvent
 have:=run_make (P:=Tryz.prog) W 23 29 i0 _ Tryz.underlying23 hi hz0 .i64 .i64 0 ((n:Int)+1) (by omega) (by omega) (by rw [hz2];omega) (by omega)
 rw [this,hz1,show ((n:Int)+1).toNat=n+1 by omega]
 simp [mkV,Value.cells]
theorem RowV.made {Q:World->Ev->Ls->Prop}(W:World)(base n:Nat)(hb:base<=W.heap.size)(hn:n+1<=maxLen)(E:Nat->Ev)(T:Nat->Ls):RowV Q (W.alloc (.cells (mkV (n+1)) 29)) base (.slice (some ⟨W.heap.size,0,none⟩) 0 (n+1)) 0 E T :=
 ⟨⟨rfl,Or.inr ⟨W.heap.size,n+1,mkV (n+1),rfl,hb,by show (W.heap.push _)[W.heap.size]?=_;simp,Nat.zero_le _,hn,mkV_size _,by simp [encV]⟩⟩,fun i hi=>absurd hi (Nat.not_lt_zero _),fun i hi=>absurd hi (Nat.not_lt_zero _),fun i j _ hj=>absurd hj (Nat.not_lt_zero _),fun g _ i hi=>absurd hi (Nat.not_lt_zero _)⟩
theorem qsI {w:World}{e:Ev}{t:Ls}{C j:Nat}{x:Value}(h:QI w e t)(hC:C<t.lo∨t.hi<=C):QI (w.setCell ⟨C,j,none⟩ x) e t:=EvIv.set h hC x
set_option maxRecDepth 100000 in
set_option maxHeartbeats 8000000 in
theorem inI_any (b off n cap:Nat)(E:Nat->Ev)(e:Ev){pa aa ga:Option Addr}{cp ca cg:Nat}(w:World)(hr:n * 168<=140737488351232)(hR:∀ i,i<n->EvReach (E i))(hRe:EvReach e)(h:SlV w (some ⟨b,off,none⟩) n cap E)(hb:0<n->b<w.heap.size)(hc:∀ i,i<n->EvAt w b (off+i * 10) (E i))(he:EvOk w e pa cp aa ca ga cg) :
  Calls Tryz.prog 6 #[.agg #[.slice (some ⟨b,off,none⟩) n cap],.agg #[.string e.id,.string e.sd,.string e.ty,.bool e.st,.string e.key,.int .i64 e.tm,.slice pa e.np cp,.slice aa e.na ca,.string e.val,.slice ga e.ng cg]] w (InPost QI E n e w):=by
 obtain ⟨i0,hi,hz0,hz1,hz2⟩:=info_parts Tryz.infoEvent
 have hmx:=Nat.le_trans h.le h.max
 have hnn:=hmx
 unfold maxLen at hnn
 have hmm:=@run_makeMap Tryz.prog
 obtain ⟨wa,hwa⟩:∃ wa,wa=(((w.alloc (.cells #[.slice (some ⟨b,off,none⟩) n cap] 25)).alloc (.cells #[.string e.id,.string e.sd,.string e.ty,.bool e.st,.string e.key,.int .i64 e.tm,.slice pa e.np cp,.slice aa e.na ca,.string e.val,.slice ga e.ng cg] 29)).alloc (.cells #[.slice none 0 0] 25)).alloc (.map #[] 0):=⟨_,rfl⟩
 have hB0:BX w wa (some ⟨b,off,none⟩) n cap #[.string e.id,.string e.sd,.string e.ty,.bool e.st,.string e.key,.int .i64 e.tm,.slice pa e.np cp,.slice aa e.na ca,.string e.val,.slice ga e.ng cg]:=by
  rw [hwa]
  refine ⟨?_,fun i=>?_,?_,?_,by simp,((bA.alloc (by simp) _).alloc (by simp;omega) _).alloc (by simp;omega) _⟩
  ·rw [World.cell?_alloc_past _ _ _ (by simp;omega),World.cell?_alloc_past _ _ _ (by simp;omega),World.cell?_alloc_past _ _ _ (by simp)]
   exact World.cell?_alloc_at _ _ _ _ rfl
  ·rw [World.cell?_alloc_past _ _ _ (by simp),World.cell?_alloc_past _ _ _ (by simp)]
   exact World.cell?_alloc_at _ _ _ _ (by simp)
  ·rw [World.cell?_alloc_past _ _ _ (by simp)]
   exact World.cell?_alloc_at _ _ _ _ (by simp)
  ·rw [World.frozen?_alloc_past _ _ _ (by simp)]
   exact World.frozen?_alloc_at _ _ _ _ (by simp)
 have hM0:MapAt wa (w.heap.size+1+1+1) 0 (knE E 0) (fun _=>0):=by
  have:=MapAt.made (((w.alloc (.cells #[.slice (some ⟨b,off,none⟩) n cap] 25)).alloc (.cells #[.string e.id,.string e.sd,.string e.ty,.bool e.st,.string e.key,.int .i64 e.tm,.slice pa e.np cp,.slice aa e.na ca,.string e.val,.slice ga e.ng cg] 29)).alloc (.cells #[.slice none 0 0] 25))
  simp only [World.size_alloc] at this
  rw [hwa]
  exact this.congr (fun s=>rfl) (fun s hs=>by cases hs)
 have hx0:((((w.alloc (.cells #[.slice (some ⟨b,off,none⟩) n cap] 25)).alloc (.cells #[.string e.id,.string e.sd,.string e.ty,.bool e.st,.string e.key,.int .i64 e.tm,.slice pa e.np cp,.slice aa e.na ca,.string e.val,.slice ga e.ng cg] 29)).alloc (.cells #[.slice none 0 0] 25)).alloc (.map #[] 0)).cell? ⟨w.heap.size,0,none⟩=some (.slice (some ⟨b,off,none⟩) n cap):=by rw [<- hwa];exact hB0.x0
 have HC:Hid (_):=hc
 have HR:Hid (_):=hR
 clear hc hR h
 go_enter Tryz.func6,Tryz.ntmps6
 go_wp2_with fail
 rw [<- hwa]
 clear hwa hx0 hmm
 go_loopw [17] (fun iv wr=>∃ k:Nat,k<=n∧iv=.int .i64 (k:Int)∧Hid (BX w wr (some ⟨b,off,none⟩) n cap #[.string e.id,.string e.sd,.string e.ty,.bool e.st,.string e.key,.int .i64 e.tm,.slice pa e.np cp,.slice aa e.na ca,.string e.val,.slice ga e.ng cg])∧Hid (∃ V,MapAt wr (w.heap.size+1+1+1) k (knE E k) V)) (fun iv _=>n - (intOf iv).toNat)
 case atStart=>exact ⟨0,Nat.zero_le _,rfl,hB0,_,hM0⟩
 case round =>
  clear hB0 hM0
  obtain ⟨k,hk,rfl,hBX,hMP⟩:=hrel
  by_cases hlt:k<n
  ·obtain ⟨pk,qk,ak,bk,gk,hk2,hcs,hok⟩:=HC.out k hlt
   have hbw:b<w.heap.size:=hb (by omega)
   obtain ⟨c0,c1,c2,c3,c4,c5,c6,c7,c8,c9⟩:=hcs.below hBX.out.bel hbw
   obtain ⟨V,hMA⟩:=hMP.out
   have hmk:k<maxLen:=by unfold maxLen;omega
   have hwf:(Lit.int .i64 (k:Int)).wf=true:=WalkArith.wf_i64 (by omega)
   have hkey:keyOf Tryz.prog 9 (.string (E k).id)=some (.string (E k).id.data.toList):=Go.WideMaps.keyOf_string_mk Tryz.underlying9 hok.hid
   obtain ⟨wx,hwx⟩:∃ wx,wx=wr.alloc (.cells #[.string (E k).id,.string (E k).sd,.string (E k).ty,.bool (E k).st,.string (E k).key,.int .i64 (E k).tm,.slice pk (E k).np qk,.slice ak (E k).na bk,.string (E k).val,.slice gk (E k).ng hk2] 29):=⟨_,rfl⟩
   have hrx:Below wr.heap.size wr wx:=by rw [hwx];exact bA
   have hBx:=hBX.out.below hrx
   have HBx:Hid (_):=hBx
   obtain ⟨D,hD,hK⟩:=hMA.below hrx
   have HK:Hid (_):=hK
   rw [hwx] at hD
   have hbne:b≠wr.heap.size:=by have:=hBX.out.bel.size;omega
   clear hcs hok hBX hMP hMA hK hBx
   go_wp2_with (at_mapUpdate;refine wpList_mapUpdate_own _ rfl _ _ _ 51 rfl 9 3 lawStr Tryz.underlying51 _ (w.heap.size+1+1+1) k D rfl hD hmk _ _ _ rfl rfl hkey _ [] (plainElem_int Tryz.underlying3 hwf) ?_;intro w5 hown5 hgrow5)
   go_roundw
   case rel =>
    rw [<- hwx] at hgrow5
    exact ⟨k+1,by omega,by go_num,HBx.out.grown hgrow5 (fun q hq=>by injection hq with hq;omega),_,(mapAt_put hD.isMap hown5 HK.out).congr (knE_succ E k) (fun s hs=>rfl)⟩
   case measure=>simp [intOf];omega
  ·have hkn:k=n:=by omega
   subst hkn
   obtain ⟨V,hMA⟩:=hMP.out
   have hX:=hBX.out
   obtain ⟨x0,cE,cR,cF,hsz,hbel⟩:=hBX.out
   have HI:Hid (Calls Tryz.prog 18 #[.map (some (w.heap.size+1+1+1)),.int .i64 (k:Int),.agg #[.string e.id,.string e.sd,.string e.ty,.bool e.st,.string e.key,.int .i64 e.tm,.slice pa e.np cp,.slice aa e.na ca,.string e.val,.slice ga e.ng cg]] wr fun x w'=>x=.returned (.int .i64 (insCode E k e))∧Below wr.heap.size wr w'):=by
    have:=insC_any (w.heap.size+1+1+1) k (knE E k) V k e pa cp aa ca ga cg wr hMA (he.below hbel)
    rw [insC_code] at this
    exact this
   have HX:Hid (BX w wr (some ⟨b,off,none⟩) k cap #[.string e.id,.string e.sd,.string e.ty,.bool e.st,.string e.key,.int .i64 e.tm,.slice pa e.np cp,.slice aa e.na ca,.string e.val,.slice ga e.ng cg]):=hX
   clear hMP hMA hX hBX
   have e0:=cE 0
   have e1:=cE 1
   have e2:=cE 2
   have e3:=cE 3
   have e4:=cE 4
   have e5:=cE 5
   have e6:=cE 6
   have e7:=cE 7
   have e8:=cE 8
   have e9:=cE 9
   go_wp2_with fail
   refine HI.out.mono ?_
   rintro x w2 ⟨rfl,hb2⟩
   have hX2:=HX.out.below hb2
   have HX2:Hid (_):=hX2
   have x2:=hX2.x0
   have hmkv:=make_ev0 k (by omega) w2
   have hs2:=hX2.sz
   obtain ⟨wm,hwm⟩:∃ wm,wm=w2.alloc (.cells (mkV (k+1)) 29):=⟨_,rfl⟩
   have h2m:Below w2.heap.size w2 wm:=by rw [hwm];exact bA
   have hV0:RowV QI wm w2.heap.size (.slice (some ⟨w2.heap.size,0,none⟩) 0 (k+1)) 0 E (fun _=>⟨none,0,none,0,none,0,0,0,0,0⟩):=by rw [hwm];exact RowV.made w2 w2.heap.size k (Nat.le_refl _) (by unfold maxLen;omega) E _
   have hXm:=HX2.out.below h2m
   have xm:(w2.alloc (.cells (mkV (k+1)) 29)).cell? ⟨w.heap.size,0,none⟩=some (.slice (some ⟨b,off,none⟩) k cap):=by rw [<- hwm];exact hXm.x0
   have hnem:w.heap.size≠w2.heap.size:=by omega
   have HXm:Hid (BX w wm (some ⟨b,off,none⟩) k cap #[.string e.id,.string e.sd,.string e.ty,.bool e.st,.string e.key,.int .i64 e.tm,.slice pa e.np cp,.slice aa e.na ca,.string e.val,.slice ga e.ng cg]):=hXm
   clear HI x0 cE cR cF e0 e1 e2 e3 e4 e5 e6 e7 e8 e9 hX2 hXm
   go_wp2_with fail
   rw [<- hwm]
   clear hwm hmkv xm
   have HAp:Hid (∀ (j:Nat) (X0 w3 X w4:World) (g c:Nat) (T:Nat->Ls) (t:Ls) (gg cc:Nat) (x:Ev) (E':Nat->Ev),RowV QI X0 w2.heap.size (.slice (some ⟨g,0,none⟩) j c) j E' T->BX w X0 (some ⟨b,off,none⟩) k cap #[.string e.id,.string e.sd,.string e.ty,.bool e.st,.string e.key,.int .i64 e.tm,.slice pa e.np cp,.slice aa e.na ca,.string e.val,.slice ga e.ng cg]->Below X0.heap.size X0 w3->QI w3 (E' j) t->X0.heap.size<=t.lo->Below w3.heap.size w3 X->w4.ownsRow w2.heap.size 29 10 (.slice (some ⟨gg,0,none⟩) (j+1) cc) (j+1) (encV E' T j ++ evL (E' j) t)->X.grownBy w4 (some g)->(some g=some gg∨X.heap.size<=gg)->RowV QI w4 w2.heap.size (.slice (some ⟨gg,0,none⟩) (j+1) cc) (j+1) E' (extT T j t)∧BX w w4 (some ⟨b,off,none⟩) k cap #[.string e.id,.string e.sd,.string e.ty,.bool e.st,.string e.key,.int .i64 e.tm,.slice pa e.np cp,.slice aa e.na ca,.string e.val,.slice ga e.ng cg]):=fun j X0 w3 X w4 g c T t gg cc x E' hV hB h1 hq hlo hX hown hgr hgg=>by
    have hwX:=h1.trans (hX.mono h1.size)
    have hs0:w2.heap.size<=g∧g<X0.heap.size:=by
     rcases hV.cells with ⟨q,_⟩|⟨g',cap',q,q1,q2,_⟩
     ·injection q with q;cases q
     ·injection q with q
      injection q with q
      injection q with q
      omega
    have hsX:X0.heap.size<=X.heap.size:=hwX.size
    refine ⟨(hV.below qcI hwX).snoc qcI (qcI.below hq hX) (by omega) (fun i hi=>Nat.le_trans (qcI.hi (hV.q i hi)).2 hlo) (fun q hq=>Or.inl (by
     have:some g=some q:=hq
     injection this with this
     omega)) hown hgr hgg,(hB.below hwX).grown hgr (fun q hq=>by
     injection hq with hq
     omega)⟩
   go_loopw [10,41] (fun sv iv wr=>∃ j:Nat,j<=k∧iv=.int .i64 (j:Int)∧∃ g c T,sv=.slice (some ⟨g,0,none⟩) j c∧Hid (BX w wr (some ⟨b,off,none⟩) k cap #[.string e.id,.string e.sd,.string e.ty,.bool e.st,.string e.key,.int .i64 e.tm,.slice pa e.np cp,.slice aa e.na ca,.string e.val,.slice ga e.ng cg])∧Hid (RowV QI wr w2.heap.size (.slice (some ⟨g,0,none⟩) j c) j E T)) (fun _ iv _=>k - (intOf iv).toNat)
   case atStart=>exact ⟨0,Nat.zero_le _,rfl,w2.heap.size,k+1,_,rfl,HXm,hV0⟩
   case round =>
    clear hV0 HXm h2m
    obtain ⟨j,hj,rfl,g,c,T,rfl,hBX,hV⟩:=hrel
    by_cases hlj:j<k
    ·obtain ⟨pk,qk,ak,bk,gk,hk2,hcs,hok⟩:=HC.out j hlj
     have hbw:b<w.heap.size:=hb (by omega)
     obtain ⟨c0,c1,c2,c3,c4,c5,c6,c7,c8,c9⟩:=hcs.below hBX.out.bel hbw
     obtain ⟨wx,hwx⟩:∃ wx,wx=wr.alloc (.cells #[.string (E j).id,.string (E j).sd,.string (E j).ty,.bool (E j).st,.string (E j).key,.int .i64 (E j).tm,.slice pk (E j).np qk,.slice ak (E j).na bk,.string (E j).val,.slice gk (E j).ng hk2] 29):=⟨_,rfl⟩
     have hrx:Below wr.heap.size wr wx:=by rw [hwx];exact bA
     have hxb:=hBX.out.bel.trans (hrx.mono hBX.out.bel.size)
     have Hcl:Hid (Calls Tryz.prog 19 #[.agg #[.string (E j).id,.string (E j).sd,.string (E j).ty,.bool (E j).st,.string (E j).key,.int .i64 (E j).tm,.slice pk (E j).np qk,.slice ak (E j).na bk,.string (E j).val,.slice gk (E j).ng hk2]] wx fun x w'=>∃ t:Ls,x=.returned (.agg #[.string (E j).id,.string (E j).sd,.string (E j).ty,.bool (E j).st,.string (E j).key,.int .i64 (E j).tm,.slice t.pa (E j).np t.cp,.slice t.aa (E j).na t.ca,.string (E j).val,.slice t.ga (E j).ng t.cg])∧Hid (QI w' (E j) t)∧wx.heap.size<=t.lo∧Below wx.heap.size wx w'):=by
      refine (ceI_q (E j) wx (HR.out j hlj) (hok.below hxb)).mono ?_
      rintro x w' ⟨t,h1,h2,h3,h4⟩
      exact ⟨t,h1,h2,h3,h4⟩
     have hbne:b≠wr.heap.size:=by have:=hBX.out.bel.size;omega
     have hVx:Hid (RowV QI wx w2.heap.size (.slice (some ⟨g,0,none⟩) j c) j E T):=hV.out.below qcI hrx
     have hBx:Hid (BX w wx (some ⟨b,off,none⟩) k cap #[.string e.id,.string e.sd,.string e.ty,.bool e.st,.string e.key,.int .i64 e.tm,.slice pa e.np cp,.slice aa e.na ca,.string e.val,.slice ga e.ng cg]):=hBX.out.below hrx
     have hw2x:w2.heap.size<=wx.heap.size:=by
      rcases hV.out.cells with ⟨q,_⟩|⟨g',cap',q,q1,q2,_⟩
      ·injection q with q;cases q
      ·have:=hrx.size;omega
     clear hcs hok hBX hV
     go_wp2_with fail
     rw [<- hwx]
     clear hwx
     refine Hcl.out.mono ?_
     rintro x w3 ⟨t,rfl,hq3,ht3,hb3⟩
     have hs3:=hb3.size
     have hown3:w3.ownsRow w2.heap.size 29 10 (.slice (some ⟨g,0,none⟩) j c) j (encV E T j):=ownsRow_blw hVx.out.own hb3
     have hm1:j+1<=maxLen:=by unfold maxLen;omega
     have hm2:(j+1) * 168<=140737488355328:=by omega
     have hm3:∀ o,w2.heap.size<=(w3.alloc o).heap.size:=fun o=>by simp;omega
     go_wp2_with (at_builtin;refine wpList_append_lies _ rfl _ _ 23 rfl w2.heap.size 29 i0 _ 10 168 Tryz.underlying23 hi hz0 hz1 hz2 rfl (by decide) _ _ _ rfl (World.ownsRow.alloc hown3 _) ⟨w3.heap.size,0,none⟩ 1 1 (evL (E j) t) rfl rfl (fun i u hi=>evL_cells w3 (E j) t _ i u hi) (evL_one (E j) t) (by decide) hm1 hm2 (hm3 _) (w3.heap.size+1) (by simp) ?_;intro gg cc w4 hown4 hgrow4 hat4 hlt4)
     go_roundw
     case rel =>
      obtain ⟨z1,z2⟩:=HAp.out j wx w3 _ w4 g c T t gg cc e E hVx.out hBx.out hb3 hq3.out ht3 bA hown4 hgrow4 (hat4.imp (fun q=>q) (fun q=>by simp;omega))
      exact ⟨j+1,by omega,by go_num,gg,cc,_,rfl,z2,z1⟩
     case measure=>simp [intOf];omega
    ·have hjk:j=k:=by omega
     subst hjk
     obtain ⟨x0,cE,cR,cF,hsz,hbel⟩:=hBX.out
     have hgz:w2.heap.size<=g∧g<wr.heap.size:=by
      rcases hV.out.cells with ⟨q,_⟩|⟨g',cap',q,q1,q2,_⟩
      ·injection q with q;cases q
      ·injection q with q
       injection q with q
       injection q with q
       omega
     by_cases hcode:insCode E j e=0
     case neg =>
      have hcb:(insCode E j e == 0)=false:=by simpa using hcode
      have hfin:Hid (InPost QI E j e w (.returned (.tuple #[.agg #[.slice (some ⟨g,0,none⟩) j c],.int .i64 (insCode E j e)])) (wr.setCell ⟨w.heap.size+1+1,0,none⟩ (.slice (some ⟨g,0,none⟩) j c))):=by
       refine ⟨_,T,rfl,?_,hbel.setCell (by exact Nat.le_add_right _ 2) _⟩
       have hN:insN E j e=j:=if_neg hcode
       unfold Hid
       rw [hN]
       exact ((hV.out.setB qsI (fun q hq=>by
        have:some g=some q:=hq
        injection this with this
        omega) (fun i hi=>Or.inl (by have:=hV.out.low i hi;omega))).base_le (by omega)).congE (fun i hi=>(if_neg (by omega)).symm)
      clear hV hBX hcode cE HC HR HAp
      go_wp2
      refine bodyPost_ret (v:=.tuple #[.agg #[.slice (some ⟨g,0,none⟩) j c],.int .i64 (insCode E j e)]) (by simp [results,Tryz.results6,go_sem,cR]) rfl hfin.out
     case pos =>
      have hcb:(insCode E j e == 0)=true:=by simpa using hcode
      have hEx:∀ i,i<j->E i=extE E j e i:=fun i hi=>(if_neg (by omega)).symm
      have hEn:extE E j e j=e:=if_pos rfl
      have hVe:Hid (RowV QI wr w2.heap.size (.slice (some ⟨g,0,none⟩) j c) j (extE E j e) T):=hV.out.congE hEx
      have HB:Hid (BX w wr (some ⟨b,off,none⟩) j cap #[.string e.id,.string e.sd,.string e.ty,.bool e.st,.string e.key,.int .i64 e.tm,.slice pa e.np cp,.slice aa e.na ca,.string e.val,.slice ga e.ng cg]):=hBX.out
      have Hcl:Hid (Calls Tryz.prog 19 #[.agg #[.string e.id,.string e.sd,.string e.ty,.bool e.st,.string e.key,.int .i64 e.tm,.slice pa e.np cp,.slice aa e.na ca,.string e.val,.slice ga e.ng cg]] wr fun x w'=>∃ t:Ls,x=.returned (.agg #[.string e.id,.string e.sd,.string e.ty,.bool e.st,.string e.key,.int .i64 e.tm,.slice t.pa e.np t.cp,.slice t.aa e.na t.ca,.string e.val,.slice t.ga e.ng t.cg])∧Hid (QI w' e t)∧wr.heap.size<=t.lo∧Below wr.heap.size wr w'):=by
       refine (ceI_q e wr hRe (he.below hbel)).mono ?_
       rintro x w' ⟨t,h1,h2,h3,h4⟩
       exact ⟨t,h1,h2,h3,h4⟩
      have HN:Hid (insN E j e=j+1):=if_pos hcode
      have e0:=cE 0
      have e1:=cE 1
      have e2:=cE 2
      have e3:=cE 3
      have e4:=cE 4
      have e5:=cE 5
      have e6:=cE 6
      have e7:=cE 7
      have e8:=cE 8
      have e9:=cE 9
      clear hV hBX hcode HC HR cE
      go_wp2_with fail
      refine Hcl.out.mono ?_
      rintro x w3 ⟨t,rfl,hq3,ht3,hb3⟩
      have hs3:=hb3.size
      have hown3:w3.ownsRow w2.heap.size 29 10 (.slice (some ⟨g,0,none⟩) j c) j (encV (extE E j e) T j):=ownsRow_blw hVe.out.own hb3
      have hm1:j+1<=maxLen:=by unfold maxLen;omega
      have hm2:(j+1) * 168<=140737488355328:=by omega
      have hm3:∀ o,w2.heap.size<=(w3.alloc o).heap.size:=fun o=>by simp;omega
      go_wp2_with (at_builtin;refine wpList_append_lies _ rfl _ _ 23 rfl w2.heap.size 29 i0 _ 10 168 Tryz.underlying23 hi hz0 hz1 hz2 rfl (by decide) _ _ _ rfl (World.ownsRow.alloc hown3 _) ⟨w3.heap.size,0,none⟩ 1 1 (evL e t) rfl rfl (fun i u hi=>evL_cells w3 e t _ i u hi) (evL_one e t) (by decide) hm1 hm2 (hm3 _) (w3.heap.size+1) (by simp) ?_;intro gg cc w4 hown4 hgrow4 hat4 hlt4;obtain ⟨z1,z2⟩:=HAp.out j wr w3 _ w4 g c T t gg cc e (extE E j e) hVe.out HB.out hb3 (by rw [hEn];exact hq3.out) ht3 bA (by rw [hEn];exact hown4) hgrow4 (hat4.imp (fun q=>q) (fun q=>by simp;omega));have F2:=z2.cR;have F3:=z2.cF;have Z1:Hid (_):=z1;have Zb:=z2.bel;have hgg3:w2.heap.size<=gg:=by { rcases hat4 with q|q;{ have q2:some g=some gg:=q;injection q2 with q2;omega };{ omega } })
      refine bodyPost_ret (v:=.tuple #[.agg #[.slice (some ⟨gg,0,none⟩) (j+1) cc],.int .i64 (insCode E j e)]) (by simp [results,Tryz.results6,go_sem,F2]) rfl ?_
      refine ⟨_,extT T j t,rfl,?_,Zb.setCell (by exact Nat.le_add_right _ 2) _⟩
      unfold Hid
      rw [HN.out]
      exact (Z1.out.setB qsI (fun q hq=>by
       have:some gg=some q:=hq
       injection this with this
       omega) (fun i hi=>Or.inl (by have:=Z1.out.low i hi;omega))).base_le (by omega)
end Go.Proofs.YtnbdlaglnefcbaaGreat
namespace Go.Proofs.YtnbdlaglnefcbaaGreat
open Go.RowKit
set_option maxRecDepth 100000 in
theorem neGr (s:ByteArray)(z:Int)(w:World):Sem.run Tryz.prog (Go.binOp BinOp.neq 54 (.agg #[.string s,.int .i64 z]) (.agg #[.string s,.int .i64 z])) w=.ok (Value.bool false) w:=by
 have u9:=Tryz.underlying3
 have a9:=Tryz.isAgg3
 have z9:=Tryz.sizeOf3
 have u8:=Tryz.underlying9
 have a8:=Tryz.isAgg9
 have z8:=Tryz.sizeOf9
 have hS:Tryz.prog.underlying 54=some (.struct (Tryz.prog.fieldsOf 54)):=by kernel_rfl
 have hp:Tryz.prog.stoodInHeld 54=false:=by kernel_rfl
 rw [run_neq_struct,show (10000:Nat)=9999+1 from rfl,run_equalIn_agg w 9999 54 _ _ hS hp]
 simp only [Program.fieldsOf,Tryz.underlying54]
 go_simp
 try simp
def SmRel (m:Nat)(w0:World)(iv:Value)(wr:World):Prop:=∃ k:Nat,k<=m∧iv=.int .i64 (k:Int)∧Below w0.heap.size w0 wr
set_option maxRecDepth 100000 in
set_option maxHeartbeats 4000000 in
theorem sameEv (e:Ev){pa aa ga pa' aa' ga':Option Addr}{cp ca cg cp' ca' cg':Nat}(w:World)(h:EvOk w e pa cp aa ca ga cg)(h':EvOk w e pa' cp' aa' ca' ga' cg') :
  Calls Tryz.prog 7 #[e.val' pa cp aa ca ga cg,e.val' pa' cp' aa' ca' ga' cg'] w fun x w'=>x=.returned (.bool true)∧Below w.heap.size w w':=by
 have l1:=Nat.le_trans h.hp.le h.hp.max
 have l2:=Nat.le_trans h.ha.le h.ha.max
 have l3:=Nat.le_trans h.hg.le h.hg.max
 unfold maxLen at l1 l2 l3
 obtain ⟨wa,hwa⟩:∃ wa,wa=(w.alloc (.cells #[.string e.id,.string e.sd,.string e.ty,.bool e.st,.string e.key,.int .i64 e.tm,.slice pa e.np cp,.slice aa e.na ca,.string e.val,.slice ga e.ng cg] 29)).alloc (.cells #[.string e.id,.string e.sd,.string e.ty,.bool e.st,.string e.key,.int .i64 e.tm,.slice pa' e.np cp',.slice aa' e.na ca',.string e.val,.slice ga' e.ng cg'] 29):=⟨_,rfl⟩
 have hba:Below w.heap.size w wa:=by rw [hwa];exact bA.alloc (by simp) _
 have hsa:w.heap.size+1<wa.heap.size:=by rw [hwa];simp
 have HC:Hid (∀ W,Below wa.heap.size wa W->∀ o,o<10->W.cell? ⟨w.heap.size,o,none⟩=some ((#[.string e.id,.string e.sd,.string e.ty,.bool e.st,.string e.key,.int .i64 e.tm,.slice pa e.np cp,.slice aa e.na ca,.string e.val,.slice ga e.ng cg]:Array Value)[o]?.getD undef)∧W.cell? ⟨w.heap.size+1,o,none⟩=some ((#[.string e.id,.string e.sd,.string e.ty,.bool e.st,.string e.key,.int .i64 e.tm,.slice pa' e.np cp',.slice aa' e.na ca',.string e.val,.slice ga' e.ng cg']:Array Value)[o]?.getD undef)):=fun W hW o ho=>by
  refine ⟨(hW.cell (by show w.heap.size<_;omega)).trans ?_,(hW.cell (by exact hsa)).trans ?_⟩
  ·rw [hwa,World.cell?_alloc_past _ _ _ (by simp),World.cell?_alloc_at _ _ _ _ rfl]
   match o,ho with
   | 0,_=>rfl
   | 1,_=>rfl
   | 2,_=>rfl
   | 3,_=>rfl
   | 4,_=>rfl
   | 5,_=>rfl
   | 6,_=>rfl
   | 7,_=>rfl
   | 8,_=>rfl
   | 9,_=>rfl
  ·rw [hwa,World.cell?_alloc_at _ _ _ _ (by simp)]
   match o,ho with
   | 0,_=>rfl
   | 1,_=>rfl
   | 2,_=>rfl
   | 3,_=>rfl
   | 4,_=>rfl
   | 5,_=>rfl
   | 6,_=>rfl
   | 7,_=>rfl
   | 8,_=>rfl
   | 9,_=>rfl
 have H1:Hid (EvOk wa e pa cp aa ca ga cg):=h.below hba
 have H2:Hid (EvOk wa e pa' cp' aa' ca' ga' cg'):=h'.below hba
 have hrf:Below wa.heap.size wa wa:=Below.refl _ _
 have a0:wa.cell? ⟨w.heap.size,0,none⟩=some (.string e.id):=(HC.out wa hrf 0 (by decide)).1
 have b0:wa.cell? ⟨w.heap.size+1,0,none⟩=some (.string e.id):=(HC.out wa hrf 0 (by decide)).2
 have a1:wa.cell? ⟨w.heap.size,1,none⟩=some (.string e.sd):=(HC.out wa hrf 1 (by decide)).1
 have b1:wa.cell? ⟨w.heap.size+1,1,none⟩=some (.string e.sd):=(HC.out wa hrf 1 (by decide)).2
 have a2:wa.cell? ⟨w.heap.size,2,none⟩=some (.string e.ty):=(HC.out wa hrf 2 (by decide)).1
 have b2:wa.cell? ⟨w.heap.size+1,2,none⟩=some (.string e.ty):=(HC.out wa hrf 2 (by decide)).2
 have a3:wa.cell? ⟨w.heap.size,3,none⟩=some (.bool e.st):=(HC.out wa hrf 3 (by decide)).1
 have b3:wa.cell? ⟨w.heap.size+1,3,none⟩=some (.bool e.st):=(HC.out wa hrf 3 (by decide)).2
 have a4:wa.cell? ⟨w.heap.size,4,none⟩=some (.string e.key):=(HC.out wa hrf 4 (by decide)).1
 have b4:wa.cell? ⟨w.heap.size+1,4,none⟩=some (.string e.key):=(HC.out wa hrf 4 (by decide)).2
 have a5:wa.cell? ⟨w.heap.size,5,none⟩=some (.int .i64 e.tm):=(HC.out wa hrf 5 (by decide)).1
 have b5:wa.cell? ⟨w.heap.size+1,5,none⟩=some (.int .i64 e.tm):=(HC.out wa hrf 5 (by decide)).2
 have a6:wa.cell? ⟨w.heap.size,6,none⟩=some (.slice pa e.np cp):=(HC.out wa hrf 6 (by decide)).1
 have b6:wa.cell? ⟨w.heap.size+1,6,none⟩=some (.slice pa' e.np cp'):=(HC.out wa hrf 6 (by decide)).2
 have a7:wa.cell? ⟨w.heap.size,7,none⟩=some (.slice aa e.na ca):=(HC.out wa hrf 7 (by decide)).1
 have b7:wa.cell? ⟨w.heap.size+1,7,none⟩=some (.slice aa' e.na ca'):=(HC.out wa hrf 7 (by decide)).2
 have a8:wa.cell? ⟨w.heap.size,8,none⟩=some (.string e.val):=(HC.out wa hrf 8 (by decide)).1
 have b8:wa.cell? ⟨w.heap.size+1,8,none⟩=some (.string e.val):=(HC.out wa hrf 8 (by decide)).2
 have a9:wa.cell? ⟨w.heap.size,9,none⟩=some (.slice ga e.ng cg):=(HC.out wa hrf 9 (by decide)).1
 have b9:wa.cell? ⟨w.heap.size+1,9,none⟩=some (.slice ga' e.ng cg'):=(HC.out wa hrf 9 (by decide)).2
 clear h h' hrf
 go_enter Tryz.func7,Tryz.ntmps7
 go_upto_region 1 with fail
 rw [<- hwa]
 clear hwa
 go_wp2_with fail
 have HBwa:Hid (Below wa.heap.size wa wa):=Below.refl _ _
 go_loopw [5] (fun iv wr=>SmRel e.np wa iv wr) (fun iv _=>e.np - (intOf iv).toNat)
 case atStart=>exact ⟨0,Nat.zero_le _,rfl,Below.refl _ _⟩
 case round =>
  obtain ⟨k,hk,rfl,hbr⟩:=hrel
  have hbw:=HBwa.out.trans (hbr.mono HBwa.out.size)
  have p1:wr.cell? ⟨w.heap.size,6,none⟩=some (.slice pa e.np cp):=(HC.out wr hbw 6 (by decide)).1
  have p2:wr.cell? ⟨w.heap.size+1,6,none⟩=some (.slice pa' e.np cp'):=(HC.out wr hbw 6 (by decide)).2
  by_cases hlt:k<e.np
  ·rcases ((H1.out.hp).below hbw).cells with h0|⟨x1,o1,rfl,hx1,c1⟩
   ·omega
   rcases ((H2.out.hp).below hbw).cells with h0|⟨x2,o2,rfl,hx2,c2⟩
   ·omega
   have d1:=c1 k hlt
   have d2:=c2 k hlt
   clear c1 c2
   have z1:(0:Int)<=(k:Int):=by omega
   have z2:(k:Int)<(e.np:Int):=by omega
   go_wp2_with fail
   go_quiet (fail)
   have hwq:Below wa.heap.size wa (wr.drewN nq):=hbr.trans (Dr.below ⟨nq,rfl⟩ _)
   go_wp2_with fail
   go_roundw
   case rel=>first|exact ⟨k+1,by omega,by go_num,hwq⟩|((repeat apply Exists.intro);exact ⟨⟨k+1,by omega,by go_num,hwq⟩,rfl⟩)
   case measure=>simp [intOf];omega
  ·obtain ⟨wx,hwx⟩:∃ wx:World,wx=wr:=⟨_,rfl⟩
   subst hwx
   have HBwx:Hid (Below wa.heap.size wa wx):=hbw
   clear hbw hbr
   have q1:wx.cell? ⟨w.heap.size,7,none⟩=some (.slice aa e.na ca):=(HC.out wx HBwx.out 7 (by decide)).1
   go_wp2_with fail
   go_loopw [6] (fun iv wr=>SmRel e.na wx iv wr) (fun iv _=>e.na - (intOf iv).toNat)
   case atStart=>exact ⟨0,Nat.zero_le _,rfl,Below.refl _ _⟩
   case round =>
    obtain ⟨k,hk,rfl,hbr⟩:=hrel
    have hbw:=HBwx.out.trans (hbr.mono HBwx.out.size)
    have p1:wr.cell? ⟨w.heap.size,7,none⟩=some (.slice aa e.na ca):=(HC.out wr hbw 7 (by decide)).1
    have p2:wr.cell? ⟨w.heap.size+1,7,none⟩=some (.slice aa' e.na ca'):=(HC.out wr hbw 7 (by decide)).2
    by_cases hlt:k<e.na
    ·rcases ((H1.out.ha).below hbw).cells with h0|⟨x1,o1,rfl,hx1,c1⟩
     ·omega
     rcases ((H2.out.ha).below hbw).cells with h0|⟨x2,o2,rfl,hx2,c2⟩
     ·omega
     have d1:=c1 k hlt
     have d2:=c2 k hlt
     clear c1 c2
     have z1:(0:Int)<=(k:Int):=by omega
     have z2:(k:Int)<(e.na:Int):=by omega
     go_wp2_with fail
     go_quiet (fail)
     have hwq:Below wx.heap.size wx (wr.drewN nq):=hbr.trans (Dr.below ⟨nq,rfl⟩ _)
     go_wp2_with fail
     go_roundw
     case rel=>first|exact ⟨k+1,by omega,by go_num,hwq⟩|((repeat apply Exists.intro);exact ⟨⟨k+1,by omega,by go_num,hwq⟩,rfl⟩)
     case measure=>simp [intOf];omega
    ·obtain ⟨wy,hwy⟩:∃ wy:World,wy=wr:=⟨_,rfl⟩
     subst hwy
     have HBwy:Hid (Below wa.heap.size wa wy):=hbw
     clear hbw hbr
     have q2:wy.cell? ⟨w.heap.size,9,none⟩=some (.slice ga e.ng cg):=(HC.out wy HBwy.out 9 (by decide)).1
     go_wp2_with fail
     go_loopw [7] (fun iv wr=>SmRel e.ng wy iv wr) (fun iv _=>e.ng - (intOf iv).toNat)
     case atStart=>exact ⟨0,Nat.zero_le _,rfl,Below.refl _ _⟩
     case round =>
      obtain ⟨k,hk,rfl,hbr⟩:=hrel
      have hbw:=HBwy.out.trans (hbr.mono HBwy.out.size)
      have p1:wr.cell? ⟨w.heap.size,9,none⟩=some (.slice ga e.ng cg):=(HC.out wr hbw 9 (by decide)).1
      have p2:wr.cell? ⟨w.heap.size+1,9,none⟩=some (.slice ga' e.ng cg'):=(HC.out wr hbw 9 (by decide)).2
      by_cases hlt:k<e.ng
      ·rcases ((H1.out.hg).below hbw).cells with h0|⟨x1,o1,rfl,hx1,c1,g1⟩
       ·omega
       rcases ((H2.out.hg).below hbw).cells with h0|⟨x2,o2,rfl,hx2,c2,g2⟩
       ·omega
       have d1:=c1 k hlt
       have d2:=c2 k hlt
       have f1:=g1 k hlt
       have f2:=g2 k hlt
       have hnS:∀ s z W,Sem.run Tryz.prog (Go.binOp BinOp.neq 54 (.agg #[.string s,.int .i64 z]) (.agg #[.string s,.int .i64 z])) W=.ok (Value.bool false) W:=fun s z W=>neGr s z W
       clear c1 c2 g1 g2
       generalize e.M k=mk at *
       generalize e.L k=lk at *
       have z1:(0:Int)<=(k:Int):=by omega
       have z2:(k:Int)<(e.ng:Int):=by omega
       go_wp2_with fail
       go_quiet (fail)
       have hwq:Below wy.heap.size wy (wr.drewN nq):=hbr.trans (Dr.below ⟨nq,rfl⟩ _)
       go_wp2_with fail
       go_roundw
       case rel=>first|exact ⟨k+1,by omega,by go_num,hwq⟩|((repeat apply Exists.intro);exact ⟨⟨k+1,by omega,by go_num,hwq⟩,rfl⟩)
       case measure=>simp [intOf];omega
      ·go_wp2_with fail
       go_ret
       exact ⟨rfl,hba.trans (hbw.mono hba.size)⟩
end Go.Proofs.YtnbdlaglnefcbaaGreat
namespace Go.Proofs.YtnbdlaglnefcbaaGreat
open Go.RowKit Go.Maps Go.ChangeMaps
theorem roomI_sl {a:Option Addr}{n cap:Nat}{E:Nat->Ev}(w:World)(h:SlV w a n cap E) :
  Calls Tryz.prog 9 #[.agg #[.slice a n cap]] w fun e w'=>e=.returned (.bool (roomTo E n))∧Below w.heap.size w w':=by
 have hb0:∀ o,Below w.heap.size w (w.alloc o):=fun o=>bA
 go_enter Tryz.func9,Tryz.ntmps9
 go_wp2_with fail
 refine (graph_sl _ (h.below (hb0 _))).mono ?_
 rintro e w1 ⟨hb1,hp⟩
 have hw1:=(hb0 _).trans (hb1.mono (hb0 _).size)
 rcases hp with ⟨hq,m,ra,rc,rfl,_⟩|⟨hq,rfl⟩
 ·go_wp2
  go_ret
  exact ⟨by rw [hq];rfl,hw1.alloc hw1.size _⟩
 ·go_wp2
  go_ret
  exact ⟨by rw [hq];rfl,hw1.alloc hw1.size _⟩
end Go.Proofs.YtnbdlaglnefcbaaGreat
