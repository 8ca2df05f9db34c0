import Derived.Test.YtnbdlaglnefcbaaGreatAfS
import Derived.Test.YtnbdlaglnefcbaaGreatCrSZ
namespace Go.Proofs.YtnbdlaglnefcbaaGreat
open Go.RowKit
def evO5 (id sd ty key val:ByteArray)(tm:Int)(ps qs:List ByteArray)(gs:List (ByteArray × Int)):Ev :=
 { id:=id,sd:=sd,ty:=ty,key:=key,val:=val,st:=true,tm:=tm,np:=ps.length,na:=qs.length,ng:=gs.length,Pv:=getL ps,Av:=getL qs,M:=gM gs,L:=gL gs }
abbrev tC0:ByteArray:=⟨#[36,99,48]⟩
abbrev tA1:ByteArray:=⟨#[36,97,49]⟩
abbrev tP2:ByteArray:=⟨#[36,112,50]⟩
abbrev tJ3:ByteArray:=⟨#[36,106,51]⟩
abbrev tB4:ByteArray:=⟨#[36,98,52]⟩
abbrev tUa:ByteArray:=⟨#[64,97]⟩
abbrev tUb:ByteArray:=⟨#[64,98]⟩
abbrev tCr:ByteArray:=⟨#[99,114,101,97,116,101]⟩
abbrev tMb:ByteArray:=⟨#[109,101,109,98,101,114]⟩
abbrev tPw:ByteArray:=⟨#[112,111,119,101,114]⟩
abbrev tJr:ByteArray:=⟨#[106,111,105,110,95,114,117,108,101,115]⟩
abbrev tJn:ByteArray:=⟨#[106,111,105,110]⟩
abbrev tPu:ByteArray:=⟨#[112,117,98,108,105,99]⟩
def fstE:Nat->Ev
 | 0=>evO5 tC0 tUa tCr ⟨#[]⟩ ⟨#[]⟩ 1 [] [] []
 | 1=>evO5 tA1 tUa tMb tUa tJn 2 [tC0] [tC0] []
 | 2=>evO5 tP2 tUa tPw ⟨#[]⟩ ⟨#[]⟩ 3 [tA1] [tC0,tA1] [(tUa,100),(tUb,50)]
 | 3=>evO5 tJ3 tUa tJr ⟨#[]⟩ tPu 4 [tP2] [tC0,tA1,tP2] []
 | _=>evO5 tB4 tUb tMb tUb tJn 5 [tJ3] [tC0,tP2,tJ3] []
theorem fstE_reach (i:Nat):EvReach (fstE i):=by
 unfold fstE
 split <;> (unfold EvReach;decide)
theorem tCr_is:tCr.toList=[99,114,101,97,116,101]:=by rw [ByteArray.toList_eq]
theorem tNo_is:(⟨#[]⟩:ByteArray).toList=[]:=by rw [ByteArray.toList_eq]
theorem fst_code:insCode (fun _=>fstE 0) 0 (fstE 0)=0:=by
 have h1:(fstE 0).code=0:=by
  show evCode tC0 tUa tCr ⟨#[]⟩ ⟨#[]⟩ true 1 0 0 0 _ _ _ _=0
  unfold evCode ctB
  rw [tCr_is,tNo_is]
  decide
 unfold insCode
 rw [h1,show (fstE 0).ty=tCr from rfl,tCr_is]
 decide
section
variable {E E':Nat->Ev}
theorem posV_cong {n:Nat}(h:∀ i,i<n->E' i=E i)(s:ByteArray):posV E' n s=posV E n s:=by
 induction n with
 | zero=>rfl
 | succ n ih=>unfold posV;rw [ih (fun i hi=>h i (by omega)),h n (by omega)]
theorem thereTo_cong {n:Nat}(h:∀ i,i<n->E' i=E i)(S:Nat->ByteArray)(m:Nat):thereTo E' n S m=thereTo E n S m:=by
 induction m with
 | zero=>rfl
 | succ m ih=>unfold thereTo;rw [ih,posV_cong h]
theorem insCode_cong {n:Nat}(h:∀ i,i<n->E' i=E i)(e:Ev):insCode E' n e=insCode E n e:=by
 unfold insCode thereB
 rw [posV_cong h,thereTo_cong h,thereTo_cong h]
theorem roomTo_cong {n:Nat}(h:∀ i,i<n->E' i=E i):roomTo E' n=roomTo E n:=by
 induction n with
 | zero=>rfl
 | succ n ih=>unfold roomTo;rw [ih (fun i hi=>h i (by omega)),h n (by omega),insCode_cong (fun i hi=>h i (by omega))]
theorem extE_lt {n i:Nat}(e:Ev)(h:i<n):extE E n e i=E i:=by unfold extE;rw [if_neg (by omega)]
theorem extE_at (n:Nat)(e:Ev):extE E n e n=e:=by unfold extE;rw [if_pos rfl]
theorem roomTo_ext {n:Nat}{e:Ev}(h:roomTo E n=true)(hi:insCode E n e=0):roomTo (extE E n e) (n+1)=true:=by
 unfold roomTo
 rw [roomTo_cong (fun i hi=>extE_lt e hi),h,extE_at,insCode_cong (fun i hi=>extE_lt e hi),hi]
 rfl
end
theorem cDr_ng {bs:Nat->Nat}{m q:Nat}{e:Ev}(h:e.ng<=11):(cDr bs m q e).ng<=11:=by
 unfold cDr cnE
 repeat' split
 all_goals first
  | exact h
  | exact gTo_len _ _ _ _ _ _
theorem GwR.bd {bs:Nat->Nat}{m q:Nat}{E:Nat->Ev}{n:Nat}{A:Nat->List Ent}{e:Ev}(h:GwR bs m q E n A e):e.np<=1000∧e.na<=1000∧e.ng<=1000:=by
 obtain ⟨b,_,rfl⟩:=h
 have h1:(gwE bs m q E n b).np<=3:=by
  show (gw1 bs m q E n).np<=3
  unfold gw1
  rw [(cDr_keep _ _ _ _).2.2.2.1]
  exact Nat.le_trans (gwL_len _ _ _) (gwC_le _).1
 have h2:(gwE bs m q E n b).ng<=11:=by
  show (gw1 bs m q E n).ng<=11
  exact cDr_ng (Nat.zero_le _)
 have h3:(gwE bs m q E n b).na<=100:=by
  show (gwB _ _ _ _).length<=100
  have h4:=auTo_len b (ndL (gw1 bs m q E n)) (ndL (gw1 bs m q E n)).length
  have h5:=ndL_len (gw1 bs m q E n)
  have h6:(gwA (nxB bs m q) E (auTo b (ndL (gw1 bs m q E n)) (ndL (gw1 bs m q E n)).length)).length<=8:=by
   unfold gwA
   split
   ·simp
   ·omega
  unfold gwB
  split
  ·simp only [List.length_append,List.length_singleton];omega
  ·omega
 omega
theorem GwR.reach {bs:Nat->Nat}{m q:Nat}{E:Nat->Ev}{n:Nat}{A:Nat->List Ent}{e:Ev}(h:GwR bs m q E n A e):EvReach e:=by
 have:=h.bd
 unfold EvReach
 omega
structure DrSt where
 n:Nat
 E:Nat->Ev
 A:Nat->List Ent
 q:Nat
noncomputable def gwF (bs:Nat->Nat)(m q:Nat)(E:Nat->Ev)(n:Nat)(A:Nat->List Ent):Ev:=@Classical.epsilon Ev ⟨fstE 0⟩ (GwR bs m q E n A)
theorem gwF_is {bs:Nat->Nat}{m q:Nat}{E:Nat->Ev}{n:Nat}{A:Nat->List Ent}{e:Ev}(h:GwR bs m q E n A e):e=gwF bs m q E n A:=h.uniq (Classical.epsilon_spec ⟨e,h⟩)
noncomputable def afF (E:Nat->Ev)(n:Nat)(A:Nat->List Ent)(i:Nat):List Ent:=@Classical.epsilon (List Ent) ⟨[]⟩ (AfR E n A i)
theorem afF_is {E:Nat->Ev}{n:Nat}{A:Nat->List Ent}{i:Nat}{l:List Ent}(h:AfR E n A i l):l=afF E n A i:=h.uniq (Classical.epsilon_spec ⟨l,h⟩)
noncomputable def drE (bs:Nat->Nat)(m st i:Nat)(s:DrSt):Ev:=if i<st then fstE i else gwF bs m s.q s.E s.n s.A
def drQ (bs:Nat->Nat)(m st i:Nat)(s:DrSt):Nat:=if i<st then s.q else gwQ bs m s.q
def drC (m mo st i:Nat)(s:DrSt):Prop:=i<mo∧(i<st∨s.q<m)
noncomputable def drStep (bs:Nat->Nat)(m st i:Nat)(s:DrSt):DrSt :=
 if insCode s.E s.n (drE bs m st i s)=0 then ⟨s.n+1,extE s.E s.n (drE bs m st i s),extF s.A s.n (afF (extE s.E s.n (drE bs m st i s)) (s.n+1) s.A s.n),drQ bs m st i s⟩ else ⟨s.n,s.E,s.A,drQ bs m st i s⟩
open Classical in
noncomputable def drRun (bs:Nat->Nat)(m mo st:Nat):Nat->Nat->DrSt->DrSt
 | 0,_,s=>s
 | f+1,i,s=>if drC m mo st i s then drRun bs m mo st f (i+1) (drStep bs m st i s) else s
def drS (k:Nat):Nat:=if 5<1+k % 6∨64<=k then 5 else 1+k % 6
def drM (k m q:Nat):Nat:=if 15<drS k+2+k / 6 % 3+(m - q) / 7 then 15 else drS k+2+k / 6 % 3+(m - q) / 7
theorem drS_bd (k:Nat):1<=drS k∧drS k<=5:=by
 unfold drS
 split <;> omega
theorem drM_bd (k m q:Nat):drM k m q<=15∧1<=drM k m q:=by
 have:=drS_bd k
 unfold drM
 split <;> omega
noncomputable def drFin (bs:Nat->Nat)(m q:Nat):DrSt:=drRun bs m (drM (nxB bs m q) m (nxQ m q)) (drS (nxB bs m q)) 16 0 ⟨0,fun _=>fstE 0,fun _=>[],nxQ m q⟩
structure DrOk (i:Nat)(s:DrSt):Prop where
 room:roomTo s.E s.n=true
 fit:∀ j,j<s.n->FitL s.E s.n (s.A j)
 reach:∀ j,j<s.n->EvReach (s.E j)
 le:s.n<=i
 pos:0<i->0<s.n
theorem DrOk.zero (q:Nat):DrOk 0 ⟨0,fun _=>fstE 0,fun _=>[],q⟩:=⟨rfl,fun _ h=>absurd h (Nat.not_lt_zero _),fun _ h=>absurd h (Nat.not_lt_zero _),Nat.le_refl _,fun h=>absurd h (Nat.lt_irrefl _)⟩
theorem DrOk.put {i q:Nat}{s:DrSt}(h:DrOk i s){e:Ev}{l:List Ent}(hi:insCode s.E s.n e=0)(hr:EvReach e)(hl:AfR (extE s.E s.n e) (s.n+1) s.A s.n l):DrOk (i+1) ⟨s.n+1,extE s.E s.n e,extF s.A s.n l,q⟩:=by
 have h1:=roomTo_ext h.room hi
 have h2:∀ j,j<s.n->FitL (extE s.E s.n e) (s.n+1) (s.A j):=fun j hj=>(h.fit j hj).grow h1 (Nat.le_succ _) (fun i hi=>extE_lt e hi)
 refine ⟨h1,fun j hj=>?_,fun j hj=>?_,Nat.succ_le_succ h.le,fun _=>Nat.succ_pos _⟩
 ·by_cases e':j=s.n
  ·subst e'
   show FitL _ _ (extF s.A s.n l s.n)
   rw [extF_at]
   exact hl.fit h1 (Nat.lt_succ_self _) h2
  ·show FitL _ _ (extF s.A s.n l j)
   have hj':j<s.n+1:=hj
   rw [extF_lt _ _ (by omega)]
   exact h2 j (by omega)
 ·by_cases e':j=s.n
  ·subst e';show EvReach (extE s.E s.n e s.n);rw [extE_at];exact hr
  ·have hj':j<s.n+1:=hj
   show EvReach (extE s.E s.n e j)
   rw [extE_lt _ (by omega)];exact h.reach j (by omega)
theorem DrOk.leave {i q:Nat}{s:DrSt}(h:DrOk i s)(hi:0<i∨0<s.n):DrOk (i+1) ⟨s.n,s.E,s.A,q⟩:=⟨h.room,h.fit,h.reach,Nat.le_succ_of_le h.le,fun _=>hi.elim h.pos id⟩
structure GvA (p:Nat)(w W:World)(bs:Nat->Nat)(m q:Nat)(rv:Value):Prop where
 r:W.cell? ⟨w.heap.size,0,none⟩=some rv
 z:∀ o,o<10->∃ v,W.cell? ⟨w.heap.size+1,o,none⟩=some v
 f1:∀ o,W.frozen? ⟨w.heap.size+1,o,none⟩=false
 sz:w.heap.size+2<=W.heap.size
 dw:DwF p w W bs m q
theorem GvA.kept {p:Nat}{w W W':World}{bs:Nat->Nat}{m q q':Nat}{rv:Value}(h:GvA p w W bs m q rv)(hk:∀ b,w.heap.size<=b->b<w.heap.size+2->W'.heap[b]?=W.heap[b]?)(hs:W.heap.size<=W'.heap.size)(hd:DwF p w W' bs m q'):GvA p w W' bs m q' rv:=by
 have hc:∀ b o,w.heap.size<=b->b<w.heap.size+2->W'.cell? ⟨b,o,none⟩=W.cell? ⟨b,o,none⟩:=fun b o h1 h2=>World.cell?_of_block (a:=⟨b,o,none⟩) (hk b h1 h2)
 have hz:∀ b o,w.heap.size<=b->b<w.heap.size+2->W'.frozen? ⟨b,o,none⟩=W.frozen? ⟨b,o,none⟩:=fun b o h1 h2=>World.frozen?_of_block (a:=⟨b,o,none⟩) (hk b h1 h2)
 exact ⟨(hc _ _ (by omega) (by omega)).trans h.r,fun o ho=>(h.z o ho).imp fun v hv=>(hc _ _ (by omega) (by omega)).trans hv,fun o=>(hz _ _ (by omega) (by omega)).trans (h.f1 o),Nat.le_trans h.sz hs,hd⟩
theorem GvA.below {p:Nat}{w W W':World}{bs:Nat->Nat}{m q:Nat}{rv:Value}(h:GvA p w W bs m q rv)(hb:Below W.heap.size W W'):GvA p w W' bs m q rv :=
 h.kept (fun b _ h2=>hb.block b (by have:=h.sz;omega)) hb.size (h.dw.below hb)
theorem GvA.draw {p:Nat}{w W W':World}{bs:Nat->Nat}{m q q':Nat}{rv:Value}(h:GvA p w W bs m q rv)(hp:p<w.heap.size)(hd:DwF p W W' bs m q'):GvA p w W' bs m q' rv :=
 h.kept (fun b h1 h2=>hd.2.block b (by have:=h.sz;omega) (fun q=>by injection q with q;omega)) hd.size (h.dw.trans hd)
theorem GvA.grow {p:Nat}{w W W':World}{bs:Nat->Nat}{m q:Nat}{rv:Value}{row:Option Nat}(h:GvA p w W bs m q rv)(hp:p<w.heap.size)(hg:W.grownBy W' row)(hr:∀ b,row=some b->w.heap.size+2<=b):GvA p w W' bs m q rv :=
 h.kept (fun b h1 h2=>hg.block b (by have:=h.sz;omega) (fun q=>by have:=hr b q.symm;omega)) hg.size (h.dw.grow hg (fun b hb=>by have:=hr b hb;omega) hp)
structure GvB (p:Nat)(w W:World)(bs:Nat->Nat)(m q:Nat)(rv:Value)(B:Nat)(c:Nat->Value):Prop where
 a:GvA p w W bs m q rv
 b:∀ o,o<10->W.cell? ⟨B,o,none⟩=some (c o)
 f0:∀ o,W.frozen? ⟨B,o,none⟩=false
 lo:w.heap.size+2<=B
 hi:B<W.heap.size
theorem GvB.congr {p:Nat}{w W:World}{bs:Nat->Nat}{m q:Nat}{rv:Value}{B:Nat}{c c':Nat->Value}(h:GvB p w W bs m q rv B c)(hc:∀ o,o<10->c o=c' o):GvB p w W bs m q rv B c':=⟨h.a,fun o ho=>by rw [<- hc o ho];exact h.b o ho,h.f0,h.lo,h.hi⟩
theorem GvB.kept {p:Nat}{w W W':World}{bs:Nat->Nat}{m q q':Nat}{rv:Value}{B:Nat}{c:Nat->Value}(h:GvB p w W bs m q rv B c)(ha:GvA p w W' bs m q' rv)(hk:W'.heap[B]?=W.heap[B]?)(hs:W.heap.size<=W'.heap.size):GvB p w W' bs m q' rv B c :=
 ⟨ha,fun o ho=>(World.cell?_of_block (a:=⟨B,o,none⟩) hk).trans (h.b o ho),fun o=>(World.frozen?_of_block (a:=⟨B,o,none⟩) hk).trans (h.f0 o),h.lo,Nat.lt_of_lt_of_le h.hi hs⟩
theorem GvB.below {p:Nat}{w W W':World}{bs:Nat->Nat}{m q:Nat}{rv:Value}{B:Nat}{c:Nat->Value}(h:GvB p w W bs m q rv B c)(hb:Below W.heap.size W W'):GvB p w W' bs m q rv B c:=h.kept (h.a.below hb) (hb.block B h.hi) hb.size
theorem GvB.draw {p:Nat}{w W W':World}{bs:Nat->Nat}{m q q':Nat}{rv:Value}{B:Nat}{c:Nat->Value}(h:GvB p w W bs m q rv B c)(hp:p<w.heap.size)(hd:DwF p W W' bs m q'):GvB p w W' bs m q' rv B c:=h.kept (h.a.draw hp hd) (hd.2.block B h.hi (fun q=>by injection q with q;have:=h.lo;omega)) hd.size
theorem GvB.grow {p:Nat}{w W W':World}{bs:Nat->Nat}{m q:Nat}{rv:Value}{B:Nat}{c:Nat->Value}{row:Option Nat}(h:GvB p w W bs m q rv B c)(hp:p<w.heap.size)(hg:W.grownBy W' row)(hr:∀ b,row=some b->B<b):GvB p w W' bs m q rv B c:=h.kept (h.a.grow hp hg (fun b hb=>by have:=hr b hb;have:=h.lo;omega)) (hg.block B h.hi (fun q=>by have:=hr B q.symm;omega)) hg.size
theorem GvB.set {p:Nat}{w W:World}{bs:Nat->Nat}{m q:Nat}{rv:Value}{B:Nat}{c:Nat->Value}(h:GvB p w W bs m q rv B c)(hp:p<w.heap.size)(o:Nat)(ho:o<10)(x:Value):GvB p w (W.setCell ⟨B,o,none⟩ x) bs m q rv B (fun i=>if i=o then x else c i):=by
 have hlo:=h.lo
 refine ⟨h.a.grow hp (Lib.grownBy_setCell W B o x) (fun b hb=>by injection hb with hb;omega),fun i hi=>?_,fun i=>by rw [World.frozen?_setCell];exact h.f0 i,h.lo,by have:=h.hi;simpa [World.setCell] using this⟩
 by_cases e:i=o
 ·subst e;rw [if_pos rfl];exact set_same ⟨_,h.b i hi⟩
 ·rw [if_neg e,set_far (by omega)];exact h.b i hi
theorem gvB_new {p:Nat}{w W:World}{bs:Nat->Nat}{m q:Nat}{rv:Value}{cs:Array Value}{t:TypeId}(h:GvA p w W bs m q rv)(hc:cs.size=10):GvB p w (W.alloc (.cells cs t)) bs m q rv W.heap.size (fun o=>cs[o]?.getD undef):=by
 refine ⟨h.below bA,fun o ho=>?_,fun o=>World.frozen?_alloc_at _ _ _ _ rfl,h.sz,by simp⟩
 rw [World.cell?_alloc_at _ _ _ _ rfl,Array.getElem?_eq_getElem (by omega)]
 rfl
theorem gvB_fill {p:Nat}{w W W2:World}{bs:Nat->Nat}{m q:Nat}{rv:Value}{t:TypeId}{cs:Array Value}(x0 x1 x2 x3 x4 x5 x6 x7 x8 x9:Value)(h:GvA p w W bs m q rv)(hp:p<w.heap.size)(hc:cs.size=10)(hb:Below (W.alloc (.cells cs t)).heap.size (W.alloc (.cells cs t)) W2) :
  GvB p w ((((((((((W2.setCell ⟨W.heap.size,0,none⟩ x0).setCell ⟨W.heap.size,1,none⟩ x1).setCell ⟨W.heap.size,2,none⟩ x2).setCell ⟨W.heap.size,3,none⟩ x3).setCell ⟨W.heap.size,4,none⟩ x4).setCell ⟨W.heap.size,5,none⟩ x5).setCell ⟨W.heap.size,6,none⟩ x6).setCell ⟨W.heap.size,7,none⟩ x7).setCell ⟨W.heap.size,8,none⟩ x8).setCell ⟨W.heap.size,9,none⟩ x9) bs m q rv W.heap.size (fun o=>(#[x0,x1,x2,x3,x4,x5,x6,x7,x8,x9]:Array Value)[o]?.getD undef):=by
 have h0:=(gvB_new (t:=t) h hc).below hb
 refine ((((((((((h0.set hp 0 (by decide) x0).set hp 1 (by decide) x1).set hp 2 (by decide) x2).set hp 3 (by decide) x3).set hp 4 (by decide) x4).set hp 5 (by decide) x5).set hp 6 (by decide) x6).set hp 7 (by decide) x7).set hp 8 (by decide) x8).set hp 9 (by decide) x9).congr fun o ho=>?_
 match o,ho with
 | 0,_=>rfl
 | 1,_=>rfl
 | 2,_=>rfl
 | 3,_=>rfl
 | 4,_=>rfl
 | 5,_=>rfl
 | 6,_=>rfl
 | 7,_=>rfl
 | 8,_=>rfl
 | 9,_=>rfl
theorem ownsRow_k {w w':World}{base st n:Nat}{t:TypeId}{v:Value}{xs:List Value}(h:w.ownsRow base t st v n xs)(hk:∀ g,v.ownBlock=some g->g<w.heap.size->w'.heap[g]?=w.heap[g]?):w'.ownsRow base t st v n xs:=by
 obtain ⟨h1,h2⟩:=h
 refine ⟨h1,?_⟩
 rcases h2 with h2|⟨g,cap,cur,hv,hg2,hh,r⟩
 ·exact Or.inl h2
 ·have hlt:g<w.heap.size:=(Array.getElem?_eq_some_iff.1 hh).1
  exact Or.inr ⟨g,cap,cur,hv,hg2,by rw [hk g (by rw [hv];rfl) hlt];exact hh,r⟩
theorem ownsRow_blk {w:World}{base st n:Nat}{t:TypeId}{v:Value}{xs:List Value}(h:w.ownsRow base t st v n xs)(b:Nat)(hb:v.ownBlock=some b):base<=b∧b<w.heap.size:=by
 obtain ⟨h1,h2⟩:=h
 rcases h2 with ⟨rfl,_⟩|⟨g,cap,cur,rfl,hg2,hh,r⟩
 ·cases hb
 ·have hlt:g<w.heap.size:=(Array.getElem?_eq_some_iff.1 hh).1
  have:g=b:=by simpa [Value.ownBlock] using hb
  omega
theorem ownsRow_lo {w:World}{base base' st n:Nat}{t:TypeId}{v:Value}{xs:List Value}(h:w.ownsRow base t st v n xs)(hb:base'<=base):w.ownsRow base' t st v n xs:=by
 obtain ⟨h1,h2⟩:=h
 exact ⟨h1,h2.imp id fun ⟨g,cap,cur,e,hg,r⟩=>⟨g,cap,cur,e,Nat.le_trans hb hg,r⟩⟩
def LoS (a:Option Addr)(n lo:Nat):Prop:=n=0∨∃ b off,a=some ⟨b,off,none⟩∧lo<=b
def EvLo (lo:Nat)(e:Ev)(pa aa ga:Option Addr):Prop:=LoS pa e.np lo∧LoS aa e.na lo∧LoS ga e.ng lo
theorem own_lo {w:World}{base lo st n n' cap:Nat}{t:TypeId}{a:Option Addr}{xs:List Value}(h:w.ownsRow base t st (.slice a n' cap) n xs)(hl:lo<=base):LoS a n' lo:=by
 obtain ⟨_,h2⟩:=h
 rcases h2 with ⟨e,_⟩|⟨g,cap',cur,e,hg,_⟩
 ·injection e with _ e2 _
  exact Or.inl e2
 ·injection e with e1 _ _
  exact Or.inr ⟨g,0,e1,Nat.le_trans hl hg⟩
def Kb (B:Nat)(w w':World):Prop:=w.heap.size<=w'.heap.size∧∀ b,b<w.heap.size->b≠B->w'.heap[b]?=w.heap[b]?
theorem Kb.refl (B:Nat)(w:World):Kb B w w:=⟨Nat.le_refl _,fun _ _ _=>rfl⟩
theorem Kb.below {B:Nat}{w w1 w2:World}(h:Kb B w w1)(hb:Below w1.heap.size w1 w2):Kb B w w2:=⟨Nat.le_trans h.1 hb.size,fun b h1 h2=>(hb.block b (Nat.lt_of_lt_of_le h1 h.1)).trans (h.2 b h1 h2)⟩
theorem Kb.grow {B:Nat}{w w1 w2:World}{row:Option Nat}(h:Kb B w w1)(hg:w1.grownBy w2 row)(hr:∀ b,row=some b->b=B∨w.heap.size<=b):Kb B w w2:=⟨Nat.le_trans h.1 hg.size,fun b h1 h2=>(hg.block b (Nat.lt_of_lt_of_le h1 h.1) (fun q=>by rcases hr b q.symm with e|e <;> omega)).trans (h.2 b h1 h2)⟩
theorem Kb.set {B:Nat}{w w1:World}(h:Kb B w w1)(o:Nat)(x:Value):Kb B w (w1.setCell ⟨B,o,none⟩ x):=h.grow (Lib.grownBy_setCell w1 B o x) (fun b hb=>by injection hb with hb;exact Or.inl hb.symm)
theorem Kb.row {B:Nat}{w w':World}(h:Kb B w w'){base st n:Nat}{t:TypeId}{v:Value}{xs:List Value}(ho:w.ownsRow base t st v n xs)(hb:B<base):w'.ownsRow base t st v n xs:=ownsRow_k ho fun g hg hl=>h.2 g hl (fun e=>by have:=(ownsRow_blk ho g hg).1;omega)
structure GwT (p:Nat)(w W:World)(bs:Nat->Nat)(m q:Nat)(rv:Value)(B:Nat)(c:Nat->Value)(pl:List ByteArray)(sv:Value)(vals:List Value):Prop where
 g:GvB p w W bs m q rv B c
 o:OwnL W (B+1) (c 6) pl
 r:W.ownsRow (B+1) 60 1 sv vals.length vals
 ne:∀ b,(c 6).ownBlock=some b->sv.ownBlock≠some b
section
variable {p:Nat} {w W:World} {bs:Nat->Nat} {m q:Nat} {rv:Value} {B:Nat} {c:Nat->Value} {pl:List ByteArray} {sv:Value} {vals:List Value}
theorem GwT.below (h:GwT p w W bs m q rv B c pl sv vals){W':World}(hb:Below W.heap.size W W'):GwT p w W' bs m q rv B c pl sv vals:=⟨h.g.below hb,h.o.below hb,ownsRow_blw h.r hb,h.ne⟩
theorem GwT.draw (h:GwT p w W bs m q rv B c pl sv vals){W':World}{q':Nat}(hp:p<w.heap.size)(hd:DwF p W W' bs m q'):GwT p w W' bs m q' rv B c pl sv vals:=by
 have hlo:=h.g.lo
 refine ⟨h.g.draw hp hd,ownsRow_k h.o fun g hg hl=>hd.2.block g hl (fun e=>?_),ownsRow_k h.r fun g hg hl=>hd.2.block g hl (fun e=>?_),h.ne⟩
 ·have:=(ownsRow_blk h.o g hg).1;injection e with e;omega
 ·have:=(ownsRow_blk h.r g hg).1;injection e with e;omega
theorem GwT.snocP (h:GwT p w W bs m q rv B c pl sv vals)(hp:p<w.heap.size){X w4:World}{gg cq:Nat}{x:ByteArray}(hX:Below W.heap.size W X)(hown:w4.ownsRow (B+1) 9 1 (.slice (some ⟨gg,0,none⟩) (pl.length+1) cq) (pl.length+1) (pl.map Value.string ++ [.string x]))(hgr:X.grownBy w4 (c 6).ownBlock)(hat:(c 6).ownBlock=some gg∨X.heap.size<=gg) :
  GwT p w (w4.setCell ⟨B,6,none⟩ (.slice (some ⟨gg,0,none⟩) (pl.length+1) cq)) bs m q rv B (fun i=>if i=6 then .slice (some ⟨gg,0,none⟩) (pl.length+1) cq else c i) (pl ++ [x]) sv vals:=by
 have h1:=h.below hX
 have hs:=Lib.grownBy_setCell w4 B 6 (.slice (some ⟨gg,0,none⟩) (pl.length+1) cq)
 have hgg:B+1<=gg:=(ownsRow_blk hown gg rfl).1
 refine ⟨(h1.g.grow hp hgr (fun b hb=>by have:=(ownsRow_blk h1.o b hb).1;omega)).set hp 6 (by decide) _,?_,?_,?_⟩
 ·have:OwnL w4 (B+1) (.slice (some ⟨gg,0,none⟩) (pl.length+1) cq) (pl ++ [x]):=OwnL.snoc hown
  exact ownsRow_k this fun g hg hl=>hs.block g hl (fun e=>by injection e with e;have hq:gg=g:=(by simpa [Value.ownBlock] using hg);omega)
 ·refine ownsRow_k (ownsRow_k h1.r fun g hg hl=>hgr.block g hl (fun e=>?_)) fun g hg hl=>hs.block g hl (fun e=>?_)
  ·exact h.ne g e.symm hg
  ·have:=(ownsRow_blk h1.r g hg).1;injection e with e;omega
 ·intro b hb e
  have hb':gg=b:=by simpa [Value.ownBlock] using hb
  subst hb'
  rcases hat with hat|hat
  ·exact h.ne _ hat e
  ·have:=(ownsRow_blk h1.r _ e).2;omega
theorem GwT.snocS (h:GwT p w W bs m q rv B c pl sv vals)(hp:p<w.heap.size){X w4:World}{gg cq:Nat}{x:Value}(hX:Below W.heap.size W X)(hown:w4.ownsRow (B+1) 60 1 (.slice (some ⟨gg,0,none⟩) (vals.length+1) cq) (vals.length+1) (vals ++ [x]))(hgr:X.grownBy w4 sv.ownBlock)(hat:sv.ownBlock=some gg∨X.heap.size<=gg) :
  GwT p w w4 bs m q rv B c pl (.slice (some ⟨gg,0,none⟩) (vals.length+1) cq) (vals ++ [x]):=by
 have h1:=h.below hX
 refine ⟨h1.g.grow hp hgr (fun b hb=>by have:=(ownsRow_blk h1.r b hb).1;omega),?_,by rw [List.length_append];exact hown,?_⟩
 ·exact ownsRow_k h1.o fun g hg hl=>hgr.block g hl (fun e=>h.ne g hg e.symm)
 ·intro b hb e
  have hb':gg=b:=by simpa [Value.ownBlock] using e
  subst hb'
  rcases hat with hat|hat
  ·exact h.ne _ hb hat
  ·have:=(ownsRow_blk h1.o _ hb).2;omega
theorem GwT.congr (h:GwT p w W bs m q rv B c pl sv vals){c':Nat->Value}(hc:∀ o,o<10->c o=c' o):GwT p w W bs m q rv B c' pl sv vals:=⟨h.g.congr hc,by rw [<- hc 6 (by decide)];exact h.o,h.r,by rw [<- hc 6 (by decide)];exact h.ne⟩
theorem GvB.fill10 (h:GvB p w W bs m q rv B c)(hp:p<w.heap.size)(x0 x1 x2 x3 x4 x5 x6 x7 x8 x9:Value) :
  GvB p w ((((((((((W.setCell ⟨B,0,none⟩ x0).setCell ⟨B,1,none⟩ x1).setCell ⟨B,2,none⟩ x2).setCell ⟨B,3,none⟩ x3).setCell ⟨B,4,none⟩ x4).setCell ⟨B,5,none⟩ x5).setCell ⟨B,6,none⟩ x6).setCell ⟨B,7,none⟩ x7).setCell ⟨B,8,none⟩ x8).setCell ⟨B,9,none⟩ x9) bs m q rv B (fun o=>(#[x0,x1,x2,x3,x4,x5,x6,x7,x8,x9]:Array Value)[o]?.getD undef):=by
 refine ((((((((((h.set hp 0 (by decide) x0).set hp 1 (by decide) x1).set hp 2 (by decide) x2).set hp 3 (by decide) x3).set hp 4 (by decide) x4).set hp 5 (by decide) x5).set hp 6 (by decide) x6).set hp 7 (by decide) x7).set hp 8 (by decide) x8).set hp 9 (by decide) x9).congr fun o ho=>?_
 match o,ho with
 | 0,_=>rfl
 | 1,_=>rfl
 | 2,_=>rfl
 | 3,_=>rfl
 | 4,_=>rfl
 | 5,_=>rfl
 | 6,_=>rfl
 | 7,_=>rfl
 | 8,_=>rfl
 | 9,_=>rfl
theorem Kb.fill10 (B:Nat)(W:World)(x0 x1 x2 x3 x4 x5 x6 x7 x8 x9:Value) :
  Kb B W ((((((((((W.setCell ⟨B,0,none⟩ x0).setCell ⟨B,1,none⟩ x1).setCell ⟨B,2,none⟩ x2).setCell ⟨B,3,none⟩ x3).setCell ⟨B,4,none⟩ x4).setCell ⟨B,5,none⟩ x5).setCell ⟨B,6,none⟩ x6).setCell ⟨B,7,none⟩ x7).setCell ⟨B,8,none⟩ x8).setCell ⟨B,9,none⟩ x9) :=
 (((((((((((Kb.refl B W).set 0 x0).set 1 x1).set 2 x2).set 3 x3).set 4 x4).set 5 x5).set 6 x6).set 7 x7).set 8 x8).set 9 x9)
theorem ownsRow_ee {base:Nat}(h:W.ownsRow base 60 1 sv vals.length vals){L:Nat->List Ent}{Aa:Nat->Option Addr}{Ca:Nat->Nat}(hv:∀ i,i<vals.length->vals[i]?=some (.slice (Aa i) (L i).length (Ca i)))(hl:∀ i,i<vals.length->SlE W (Aa i) (Ca i) (L i)):∃ a cap,sv=.slice a vals.length cap∧SlEE W a vals.length cap L:=by
 obtain ⟨h1,h2⟩:=h
 rcases h2 with ⟨rfl,h0⟩|⟨g,cap,cur,rfl,hg,hh,hn,hc,hcs,hx⟩
 ·rw [h0];exact ⟨none,0,rfl,⟨Nat.le_refl _,by decide,Or.inl rfl⟩⟩
 ·have hlt:g<W.heap.size:=(Array.getElem?_eq_some_iff.1 hh).1
  refine ⟨_,cap,rfl,⟨hn,hc,Or.inr ⟨g,0,rfl,hlt,fun i hi=>⟨Aa i,Ca i,?_,hl i hi⟩⟩⟩⟩
  rw [<- hv i hi,<- hx,List.getElem?_take,if_pos (by omega),Nat.zero_add]
  simp [World.cell?,hh]
theorem OwnL.sls {base n cap:Nat}{a:Option Addr}{l:List ByteArray}(h:OwnL W base (.slice a n cap) l)(hs:∀ s ∈ l,s.size<=maxLen):n=l.length∧SlS W a l.length cap (getL l):=by
 obtain ⟨a',c',e,h2,_⟩:=h.sl hs
 injection e with e1 e2 e3
 subst e1 e3
 exact ⟨e2,h2⟩
theorem OwnG.slg {base n cap:Nat}{a:Option Addr}{M:Nat->ByteArray}{L:Nat->Int}(h:OwnG W base (.slice a n cap) n M L)(hs:∀ i,i<n->(M i).size<=maxLen):SlG W a n cap M L:=by
 rcases row_cells h with ⟨e,rfl⟩|⟨g,cap',e,hg,hlt,hn,hc,hx,hf⟩
 ·injection e with e1 e2 e3
  subst e1 e3
  exact ⟨Nat.le_refl _,by decide,hs,Or.inl rfl⟩
 ·injection e with e1 e2 e3
  subst e1 e3
  refine ⟨hn,hc,hs,Or.inr ⟨g,0,rfl,hlt,fun i hi=>?_,fun i hi=>?_⟩⟩
  ·rw [show 0+i * 2=0+(i * 2) by omega,hx _ (by omega)];exact (encG_get M L n i hi).1
  ·rw [show 0+i * 2+1=0+(i * 2+1) by omega,hx _ (by omega)];exact (encG_get M L n i hi).2
end
structure GwU (p:Nat)(w W:World)(bs:Nat->Nat)(m q:Nat)(rv:Value)(B:Nat)(c1:Nat->Value)(w1:World)(al:List ByteArray)(av:Value):Prop where
 g:GvB p w W bs m q rv B (fun o=>if o=7 then av else c1 o)
 k:Kb B w1 W
 o:OwnL W w1.heap.size av al
 lo:B<w1.heap.size
section
variable {p:Nat} {w W:World} {bs:Nat->Nat} {m q:Nat} {rv:Value} {B:Nat} {c1:Nat->Value} {w1:World} {al:List ByteArray} {av:Value}
theorem GwU.below (h:GwU p w W bs m q rv B c1 w1 al av){W':World}(hb:Below W.heap.size W W'):GwU p w W' bs m q rv B c1 w1 al av:=⟨h.g.below hb,h.k.below hb,h.o.below hb,h.lo⟩
theorem GwU.snoc (h:GwU p w W bs m q rv B c1 w1 al av)(hp:p<w.heap.size){X w4:World}{gg cq:Nat}{x:ByteArray}(hX:Below W.heap.size W X)(hown:w4.ownsRow w1.heap.size 9 1 (.slice (some ⟨gg,0,none⟩) (al.length+1) cq) (al.length+1) (al.map Value.string ++ [.string x]))(hgr:X.grownBy w4 av.ownBlock) :
  GwU p w (w4.setCell ⟨B,7,none⟩ (.slice (some ⟨gg,0,none⟩) (al.length+1) cq)) bs m q rv B c1 w1 (al ++ [x]) (.slice (some ⟨gg,0,none⟩) (al.length+1) cq):=by
 have h1:=h.below hX
 have hlo:=h.lo
 have hs:=Lib.grownBy_setCell w4 B 7 (.slice (some ⟨gg,0,none⟩) (al.length+1) cq)
 have hgg:w1.heap.size<=gg:=(ownsRow_blk hown gg rfl).1
 refine ⟨((h1.g.grow hp hgr (fun b hb=>by have:=(ownsRow_blk h1.o b hb).1;omega)).set hp 7 (by decide) _).congr fun o ho=>?_,(h1.k.grow hgr (fun b hb=>Or.inr (ownsRow_blk h1.o b hb).1)).set 7 _,?_,h.lo⟩
 ·by_cases e:o=7
  ·subst e;rfl
  ·rw [if_neg e,if_neg e,if_neg e]
 ·have:OwnL w4 w1.heap.size (.slice (some ⟨gg,0,none⟩) (al.length+1) cq) (al ++ [x]):=OwnL.snoc hown
  exact ownsRow_k this fun g hg hl=>hs.block g hl (fun e=>by injection e with e;have hq:gg=g:=(by simpa [Value.ownBlock] using hg);omega)
theorem GwU.one (h:GwU p w W bs m q rv B c1 w1 al av)(hp:p<w.heap.size)(s:ByteArray):GwU p w ((W.alloc (.cells #[.string s] 9)).setCell ⟨B,7,none⟩ (.slice (some ⟨W.heap.size,0,none⟩) 1 1)) bs m q rv B c1 w1 [s] (.slice (some ⟨W.heap.size,0,none⟩) 1 1):=by
 have h1:=h.below ((Below.refl _ _).alloc (Nat.le_refl _) (.cells #[.string s] 9))
 have hlo:=h.g.hi
 have hs:=Lib.grownBy_setCell (W.alloc (.cells #[.string s] 9)) B 7 (.slice (some ⟨W.heap.size,0,none⟩) 1 1)
 refine ⟨(h1.g.set hp 7 (by decide) _).congr fun o ho=>?_,h1.k.set 7 _,?_,h.lo⟩
 ·by_cases e:o=7
  ·subst e;rfl
  ·rw [if_neg e,if_neg e,if_neg e]
 ·have:OwnL (W.alloc (.cells #[.string s] 9)) w1.heap.size (.slice (some ⟨W.heap.size,0,none⟩) 1 1) [s]:=OwnL.one W _ h.k.1 s
  exact ownsRow_k this fun g hg hl=>hs.block g hl (fun e=>by injection e with e;have hq:W.heap.size=g:=(by simpa [Value.ownBlock] using hg);omega)
end
end Go.Proofs.YtnbdlaglnefcbaaGreat
