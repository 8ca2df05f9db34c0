import Derived.Test.YtkdalopokdhndaaGreatCeIZ
set_option maxHeartbeats 16000000
set_option maxRecDepth 100000
namespace Go.Proofs.YtkdalopokdhndaaGreat
open Go.RowKit
variable {Q:World->Ev->Ls->Prop}{w:World}{j ca cg cp base base':Nat}{v:Value}{T:Nat->Ls}{aa ga pa:Option Addr}
theorem RowV.setB (hs:∀ {w:World} {e:Ev} {t:Ls} {C j:Nat} {x:Value},Q w e t->(C<t.lo∨t.hi<=C)->Q (w.setCell ⟨C,j,none⟩ x) e t){n C:Nat}{x:Value}{E:Nat->Ev}(h:RowV Q w base v n E T)(h1:∀ g,v.ownBlock=some g->g≠C)(h2:∀ i,i<n->C<(T i).lo∨(T i).hi<=C):RowV Q (w.setCell ⟨C,j,none⟩ x) base v n E T :=
 ⟨own_kept h.own (fun g hg=>Below.heap_setCell _ _ _ _ (by exact h1 g hg)),fun i hi=>hs (h.q i hi) (h2 i hi),h.low,h.ord,h.apart⟩
theorem RowV.base_le {n:Nat}{E:Nat->Ev}(h:RowV Q w base v n E T)(hb:base'<=base):RowV Q w base' v n E T:=by
 refine ⟨?_,h.q,fun i hi=>nZ hb (h.low i hi),h.ord,h.apart⟩;obtain ⟨h1,h2⟩:=h.own;refine ⟨h1,?_⟩;rcases h2 with h2|⟨g,cap,cur,hv,hg,r⟩
 ·exact Or.inl h2
 exact Or.inr ⟨g,cap,cur,hv,nZ hb hg,r⟩
def extE (E:Nat->Ev)(n:Nat)(e:Ev):Nat->Ev:=fun i=>if i=n then e else E i
theorem encV_congE {E E':Nat->Ev}{T:Nat->Ls}:∀ {n},(∀ i,i<n->E i=E' i)->encV E T n=encV E' T n
 | 0,_=>rfl
 | n+1,h=>by rw [<- encV_snoc,<- encV_snoc,encV_congE (fun i hi=>h i (by omega)),h n (by omega)]
theorem RowV.congE {n:Nat}{E E':Nat->Ev}(h:RowV Q w base v n E T)(hE:∀ i,i<n->E i=E' i):RowV Q w base v n E' T :=
 ⟨by rw [<- encV_congE hE];exact h.own,fun i hi=>by rw [<- hE i hi];exact h.q i hi,h.low,h.ord,h.apart⟩
def insN (E:Nat->Ev)(n:Nat)(e:Ev):Nat:=if insCode E n e=0 then n+1 else n
def InPost (Q:World->Ev->Ls->Prop)(E:Nat->Ev)(n:Nat)(e:Ev)(w:World)(x:Ending)(w':World):Prop :=
 ∃ v T,x=.returned (.tuple #[.agg #[v],.int .i64 (insCode E n e)])∧Hid (RowV Q w' w.heap.size v (insN E n e) (extE E n e) T)∧Below w.heap.size w w'
theorem inS_q (hQ:QS Q)(b off n cap:Nat)(E:Nat->Ev)(e:Ev)(w:World)(hr:n * 168<=140737488351232)(hR:∀ i,i<n->EvReach (E i))(hRe:EvReach e)(h:SlV w (some ⟨b,off,none⟩) n cap E)(hb:0<n->b<w.heap.size)(hc:∀ i,i<n->EvAt w b (off+i * 10) (E i))(he:EvOk w e pa cp aa ca ga cg) :
  Calls Tryz.prog 121 #[.agg #[.slice (some ⟨b,off,none⟩) n cap],.agg (ec e pa cp aa ca ga cg)] w (InPost Q E n e w):=by
 obtain ⟨i0,hi,hz0,hz1,hz2⟩:=info_parts Tryz.infoEvent;have hmx:=nZ h.le h.max;have hnn:=hmx;unfold maxLen at hnn;obtain ⟨wa,hwa⟩:∃ wa,wa=((w.alloc (.cells #[.slice (some ⟨b,off,none⟩) n cap] 25)).alloc (.cells (ec e pa cp aa ca ga cg) 30)).alloc (.cells #[.slice none 0 0] 25):=⟨_,rfl⟩;have hsa:wa.heap.size=w.heap.size+3:=by rw [hwa];simp
 have hba:Below w.heap.size w wa:=by rw [hwa];exact (bA.alloc (by simp) _).alloc (by simp;omega) _
 have hca:Hid (∀ W,Below wa.heap.size wa W->(W.cell? ⟨w.heap.size,0,none⟩=some (.slice (some ⟨b,off,none⟩) n cap))∧(∀ i,W.cell? ⟨w.heap.size+1,i,none⟩=((ec e pa cp aa ca ga cg):Array Value)[i]?)∧W.cell? ⟨w.heap.size+1+1,0,none⟩=some (.slice none 0 0)∧W.frozen? ⟨w.heap.size+1+1,0,none⟩=false):=fun W hW=>by
  refine ⟨(hW.cell (by show w.heap.size<wa.heap.size;omega)).trans ?_,fun i=>(hW.cell (by show w.heap.size+1<wa.heap.size;omega)).trans ?_,(hW.cell (by show w.heap.size+1+1<wa.heap.size;omega)).trans ?_,(hW.frozen (by show w.heap.size+1+1<wa.heap.size;omega)).trans ?_⟩
  ·rw [hwa,World.cell?_alloc_past _ _ _ (by simp;omega),World.cell?_alloc_past _ _ _ (by simp)]
   exact kA rfl
  ·rw [hwa,World.cell?_alloc_past _ _ _ (by simp)]
   exact kA (by simp)
  ·rw [hwa];exact kA (by simp)
  rw [hwa];exact kF (by simp)
 have r0:(((w.alloc (.cells #[.slice (some ⟨b,off,none⟩) n cap] 25)).alloc (.cells (ec e pa cp aa ca ga cg) 30)).alloc (.cells #[.slice none 0 0] 25)).cell? ⟨w.heap.size,0,none⟩=some (.slice (some ⟨b,off,none⟩) n cap):=by rw [<- hwa];exact (hca.out _ kB).1
 go_enter Tryz.func121,Tryz.ntmps121
 go_wp2_with fail
 rw [<- hwa];clear hwa r0;refine (l2Cr_q hQ b off n cap E wa hr hR (h.below hba) (fun hn=>nT (hb hn) hba.size) (fun i hi=>(hc i hi).below hba (hb (by omega)))).mono ?_;rintro x w1 ⟨v0,T,rfl,hV0,hb1⟩;have hV:Hid (RowV Q w1 wa.heap.size v0 n E T):=hV0.out.base_le (Nat.le_add_right _ 2);clear hV0;obtain ⟨va,vc,rfl,-⟩:=hV.out.slv hQ.c;obtain ⟨wb,hwb⟩:∃ wb,wb=w1.alloc (.cells #[.slice va n vc] 25):=⟨_,rfl⟩;have hs1:wa.heap.size<=w1.heap.size:=hb1.size;have h1b:Below w1.heap.size w1 wb:=by rw [hwb];exact bA
 have hsb:wb.heap.size=w1.heap.size+1:=by rw [hwb];simp
 have hab:Below wa.heap.size wa wb:=hb1.trans (h1b.mono hb1.size);have hO:wb.cell? ⟨w1.heap.size,0,none⟩=some (.slice va n vc):=by rw [hwb];exact kA rfl
 have hOz:wb.frozen? ⟨w1.heap.size,0,none⟩=false:=by rw [hwb];exact kF rfl
 have z0:(w1.alloc (.cells #[.slice va n vc] 25)).cell? ⟨w.heap.size,0,none⟩=some (.slice (some ⟨b,off,none⟩) n cap):=by rw [<- hwb];exact (hca.out _ hab).1
 have zc:∀ i,(w1.alloc (.cells #[.slice va n vc] 25)).cell? ⟨w.heap.size+1,i,none⟩=((ec e pa cp aa ca ga cg):Array Value)[i]?:=fun i=>by rw [<- hwb];exact (hca.out _ hab).2.1 i
 have z1:=zc 0;have z2:=zc 1;have z3:=zc 2;have z4:=zc 3;have z5:=zc 4;have z6:=zc 5;have z7:=zc 6;have z8:=zc 7;have z9:=zc 8;have z10:=zc 9;have hne0:w.heap.size≠w1.heap.size:=by omega
 have hne1:w.heap.size+1≠w1.heap.size:=by omega
 clear zc;have hwb0:=hba.trans (hab.mono hba.size);have HC:Hid (Calls Tryz.prog 70 #[.agg #[.slice (some ⟨b,off,none⟩) n cap],.agg (ec e pa cp aa ca ga cg)] wb fun x w'=>x=.returned (.int .i64 (insCode E n e))∧Below wb.heap.size wb w'):=l2Code_any e wb (h.below hwb0) (he.below hwb0);have hT:Hid (∀ i,i<n->wa.heap.size<=(T i).lo∧(T i).hi<=w1.heap.size):=fun i hi=>⟨hV.out.low i hi,(hQ.c.hi (hV.out.q i hi)).2⟩
 have hvg:Hid (∀ g,(Value.slice va n vc).ownBlock=some g->wa.heap.size<=g∧g<w1.heap.size):=fun g hg=>by
  rcases hV.out.cells with ⟨q,_⟩|⟨g',cap',q,q1,q2,_⟩
  ·rw [q] at hg;cases hg
  rw [q] at hg
  have:some g'=some g:=hg;injection this with this
  omega
 go_wp2_with fail
 rw [<- hwb];clear hwb z1 z2 z3 z4 z5 z6 z7 z8 z9 z10 z0;refine HC.out.mono ?_;rintro x w2 ⟨rfl,hb2⟩;have hab2:=hab.trans (hb2.mono hab.size);have h12:=h1b.trans (hb2.mono h1b.size);have hs2:w1.heap.size+1<=w2.heap.size:=by have:=hb2.size;omega
 have y0:=(hb2.cell (by show w1.heap.size<wb.heap.size;omega)).trans hO;have yz:=(hb2.frozen (by show w1.heap.size<wb.heap.size;omega)).trans hOz;obtain ⟨-,cE,cR,cF⟩:=hca.out _ hab2;have hV2:Hid (RowV Q w2 wa.heap.size (.slice va n vc) n E T):=hV.out.below hQ.c h12;have hw2:=hba.trans (hab2.mono hba.size);have he2:=he.below hw2;clear HC hV
 by_cases hcode:insCode E n e=0
 case neg =>
  have hcb:(insCode E n e == 0)=false:=by simpa using hcode
  have hN:insN E n e=n:=if_neg hcode
  have hfin:Hid (RowV Q (w2.setCell ⟨w.heap.size+1+1,0,none⟩ (.slice va n vc)) w.heap.size (.slice va n vc) (insN E n e) (extE E n e) T):=by
   rw [hN];exact ((hV2.out.setB hQ.s (fun g hg=>by have:=hvg.out g hg;omega) (fun i hi=>Or.inl (by have:=hT.out i hi;omega))).base_le (by omega)).congE (fun i hi=>(if_neg (by omega)).symm)
  have hbz:Below w.heap.size w (w2.setCell ⟨w.heap.size+1+1,0,none⟩ (.slice va n vc)):=hw2.setCell (by exact Nat.le_add_right _ 2) _;clear hN hcode hT hvg hV2;have hE0:Hid (InPost Q E n e w (.returned (.tuple #[.agg #[.slice va n vc],.int .i64 (insCode E n e)])) (w2.setCell ⟨w.heap.size+1+1,0,none⟩ (.slice va n vc))):=⟨_,T,rfl,hfin,hbz⟩;clear hfin hbz;go_wp2
  refine bodyPost_ret (v:=.tuple #[.agg #[.slice va n vc],.int .i64 (insCode E n e)]) (by simp [results,Tryz.results121,go_sem,cR]) rfl hE0.out
 case pos =>
  have hcb:(insCode E n e == 0)=true:=by simpa using hcode
  have hN:insN E n e=n+1:=if_pos hcode
  have HcF:Hid (∀ W,Below w2.heap.size w2 W->Calls Tryz.prog 187 #[.agg (ec e pa cp aa ca ga cg)] W fun x w'=>∃ t:Ls,x=.returned (.agg (ec e t.pa t.cp t.aa t.ca t.ga t.cg))∧Hid (Q w' e t)∧w2.heap.size<=t.lo∧Below w2.heap.size w2 w'):=fun W hW=>by
   refine (hQ.cp e W hRe (he2.below hW)).mono ?_;rintro x w' ⟨t,h1,h2,h3,h4⟩;exact ⟨t,h1,h2,nZ hW.size h3,hW.trans (h4.mono hW.size)⟩
  have HO:Hid (∀ X,Below w2.heap.size w2 X->X.ownsRow wa.heap.size 30 10 (.slice va n vc) n (encV E T n)):=fun X hX=>ownsRow_blw hV2.out.own hX
  have HF:Hid (∀ (X w3:World),Below w2.heap.size w2 X->X.grownBy w3 (Value.slice va n vc).ownBlock->w3.cell? ⟨w1.heap.size,0,none⟩=some (.slice va n vc)∧w3.frozen? ⟨w1.heap.size,0,none⟩=false∧w3.cell? ⟨w.heap.size+1+1,0,none⟩=some (.slice none 0 0)∧w3.frozen? ⟨w.heap.size+1+1,0,none⟩=false):=fun X w3 hX hgr=>by
   have hsX:=hX.size;have n1:some w1.heap.size≠(Value.slice va n vc).ownBlock:=fun q=>by have:=hvg.out _ q.symm;omega
   have n2:some (w.heap.size+1+1)≠(Value.slice va n vc).ownBlock:=fun q=>by have:=hvg.out _ q.symm;omega
   exact ⟨(hgr.cell_far _ (by show w1.heap.size<X.heap.size;omega) n1).trans ((hX.cell (by show w1.heap.size<w2.heap.size;omega)).trans y0),(hgr.frozen_far _ (by show w1.heap.size<X.heap.size;omega) n1).trans ((hX.frozen (by show w1.heap.size<w2.heap.size;omega)).trans yz),(hgr.cell_far _ (by show w.heap.size+1+1<X.heap.size;omega) n2).trans ((hX.cell (by show w.heap.size+1+1<w2.heap.size;omega)).trans cR),(hgr.frozen_far _ (by show w.heap.size+1+1<X.heap.size;omega) n2).trans ((hX.frozen (by show w.heap.size+1+1<w2.heap.size;omega)).trans cF)⟩
  have HZ:Hid (∀ (w3 X w4:World) (t:Ls) (gg cc:Nat),Below w2.heap.size w2 w3->Q w3 e t->w2.heap.size<=t.lo->Below w3.heap.size w3 X->w4.ownsRow wa.heap.size 30 10 (.slice (some ⟨gg,0,none⟩) (n+1) cc) (n+1) (encV E T n ++ evL e t)->X.grownBy w4 (Value.slice va n vc).ownBlock->((Value.slice va n vc).ownBlock=some gg∨X.heap.size<=gg)->InPost Q E n e w (.returned (.tuple #[.agg #[.slice (some ⟨gg,0,none⟩) (n+1) cc],.int .i64 (insCode E n e)])) ((w4.setCell ⟨w1.heap.size,0,none⟩ (.slice (some ⟨gg,0,none⟩) (n+1) cc)).setCell ⟨w.heap.size+1+1,0,none⟩ (.slice (some ⟨gg,0,none⟩) (n+1) cc))):=fun w3 X w4 t gg cc h1 hq hlo hX hown hgr hgg=>by
   have hwX:=h1.trans (hX.mono h1.size);have hEx:∀ i,i<n->E i=extE E n e i:=fun i hi=>(if_neg (by omega)).symm
   have hEn:extE E n e n=e:=if_pos rfl;have hVX:=(hV2.out.below hQ.c hwX).congE hEx;have hqX:Q X (extE E n e n) t:=by rw [hEn];exact hQ.c.below hq hX
   have hsX:w2.heap.size<=X.heap.size:=hwX.size;have hVs:=hVX.snoc hQ.c hqX (by omega) (fun i hi=>by have:=hT.out i hi;omega) (fun q hq=>Or.inl (by have:=hvg.out q hq;omega)) (by rw [hEn,<- encV_congE hEx];exact hown) hgr hgg
   have hgg2:w1.heap.size≠gg∧w.heap.size+1+1≠gg:=by
    rcases hgg with q|q
    ·have:=hvg.out gg q;omega
    omega
   have hT2:∀ i,i<n+1->(w1.heap.size<(extT T n t i).lo∨(extT T n t i).hi<=w1.heap.size)∧w.heap.size+1+1<(extT T n t i).lo:=fun i hi=>by
    unfold extT
    by_cases q:i=n
    ·rw [if_pos q];exact ⟨Or.inl (by omega),by omega⟩
    rw [if_neg q];have:=hT.out i (by omega);exact ⟨Or.inr this.2,by omega⟩
   have hs4:=hgr.size;refine ⟨_,extT T n t,rfl,?_,?_⟩
   ·unfold Hid
    rw [hN]
    exact (((hVs.setB hQ.s (fun q hq=>by
     have:some gg=some q:=hq;injection this with this
     omega) (fun i hi=>(hT2 i hi).1)).setB hQ.s (fun q hq=>by
     have:some gg=some q:=hq;injection this with this
     omega) (fun i hi=>Or.inl (hT2 i hi).2)).base_le (by omega))
   refine Below.setCell (Below.setCell ?_ (by show w.heap.size<=w1.heap.size;omega) _) (by exact Nat.le_add_right _ 2) _;exact (hw2.trans (hwX.mono hw2.size)).grown hgr (by have:=hw2.size;omega) (fun q hq=>by have:=hvg.out q hq;omega)
  clear hN hcode hT hvg hV2 he2;have hm1:n+1<=maxLen:=by unfold maxLen;omega
  have hm2:(n+1) * 168<=140737488355328:=by omega
  have hrf:Below w2.heap.size w2 w2:=kB;have hwz:w1.heap.size<w2.heap.size:=by omega
  go_wp2_with fail
  go_region_law ((first
   | (refine step_append_lies _ (by rfl) _ _ _ (by rfl) wa.heap.size 30 i0 _ 10 168 Tryz.underlying23 hi hz0 hz1 hz2 rfl (by decide) (.slice va n vc) n (encV E T n) (by rfl) (HO.out _ (by first|exact hb3.alloc hb3.size _|exact (hb3.alloc hb3.size _).drew|exact (hb3.drew.alloc hb3.size _))) ⟨w3.heap.size,0,none⟩ 1 1 (evL e t) (by rfl) (by rfl) (fun j u hj=>evL_cells w3 e t _ j u hj) (evL_one e t) (by decide) hm1 hm2 (by simp;have:=hb3.size;omega) (w3.heap.size+1) (by simp) ?_;intro gg cc w4 hown4 hgrow hat hlt4;obtain ⟨F0,F1,F2,F3⟩:=HF.out _ w4 (by first|exact hb3.alloc hb3.size _|exact (hb3.alloc hb3.size _).drew|exact (hb3.drew.alloc hb3.size _)) hgrow)
   | (go_simp;go_at_call 187;refine (HcF.out _ (by with_reducible first|exact hrf|exact hrf.drew|exact hrf.drew.drew|exact hrf.drew.drew.drew|exact hrf.drew.drew.drew.drew)).mono ?_;rintro x w3 ⟨t,rfl,hq3,ht3,hb3⟩;have q1v:=(hb3.cell (by exact hwz)).trans y0;have qva:∀ Z,(w3.alloc Z).cell? ⟨w1.heap.size,0,none⟩=some (.slice va n vc):=fun Z=>(bA.cell (by show w1.heap.size<w3.heap.size;have:=hb3.size;omega)).trans q1v;dsimp only)))
  all_goals
   have hz:=HZ.out w3 _ w4 t gg cc hb3 hq3.out ht3 (by first|exact bA|exact bA.drew) hown4 hgrow (hat.imp (fun q=>q) (fun q=>by simp;omega));have Hz:Hid (_):=hz;clear hz hown4 hgrow;go_wp2
   refine bodyPost_ret (v:=.tuple #[.agg #[.slice (some ⟨gg,0,none⟩) (n+1) cc],.int .i64 (insCode E n e)]) (by simp [results,Tryz.results121,go_sem,F2]) rfl Hz.out
def evO5 (id sd ty key val:ByteArray)(tm:Int)(ps qs:List ByteArray)(gs:List (ByteArray × Int)):Ev :=
 { id:=id,sd:=sd,ty:=ty,key:=key,val:=val,st:=true,tm:=tm,np:=ps.length,na:=qs.length,ng:=gs.length,Pv:=getL ps,Av:=getL qs,M:=gM gs,L:=gL gs }
abbrev tC0:ByteArray:=⟨#[36,99,48]⟩
abbrev tA1:ByteArray:=⟨#[36,97,49]⟩
abbrev tP2:ByteArray:=⟨#[36,112,50]⟩
abbrev tJ3:ByteArray:=⟨#[36,106,51]⟩
abbrev tB4:ByteArray:=⟨#[36,98,52]⟩
abbrev tUa:ByteArray:=⟨#[64,97]⟩
abbrev tUb:ByteArray:=⟨#[64,98]⟩
abbrev tCr:ByteArray:=⟨#[99,114,101,97,116,101]⟩
abbrev tMb:ByteArray:=⟨#[109,101,109,98,101,114]⟩
abbrev tPw:ByteArray:=⟨#[112,111,119,101,114]⟩
abbrev tJr:ByteArray:=⟨#[106,111,105,110,95,114,117,108,101,115]⟩
abbrev tJn:ByteArray:=⟨#[106,111,105,110]⟩
abbrev tPu:ByteArray:=⟨#[112,117,98,108,105,99]⟩
def fstE:Nat->Ev
 | 0=>evO5 tC0 tUa tCr ⟨#[]⟩ ⟨#[]⟩ 1 [] [] []
 | 1=>evO5 tA1 tUa tMb tUa tJn 2 [tC0] [tC0] []
 | 2=>evO5 tP2 tUa tPw ⟨#[]⟩ ⟨#[]⟩ 3 [tA1] [tC0,tA1] [(tUa,100),(tUb,50)]
 | 3=>evO5 tJ3 tUa tJr ⟨#[]⟩ tPu 4 [tP2] [tC0,tA1,tP2] []
 | _=>evO5 tB4 tUb tMb tUb tJn 5 [tJ3] [tC0,tP2,tJ3] []
theorem fstE_reach (i:Nat):EvReach (fstE i):=by
 unfold fstE;split <;> (unfold EvReach;decide)
theorem tCr_is:tCr.toList=[99,114,101,97,116,101]:=by rw [ByteArray.toList_eq]
theorem tNo_is:(⟨#[]⟩:ByteArray).toList=[]:=by rw [ByteArray.toList_eq]
theorem fst_code:insCode (fun _=>fstE 0) 0 (fstE 0)=0:=by
 have h1:(fstE 0).code=0:=by
  show evCode tC0 tUa tCr ⟨#[]⟩ ⟨#[]⟩ true 1 0 0 0 _ _ _ _=0
  unfold evCode ctB;rw [tCr_is,tNo_is];decide
 unfold insCode;rw [h1,show (fstE 0).ty=tCr from rfl,tCr_is];decide
section
variable {E E':Nat->Ev}
theorem posV_cong {n:Nat}(h:∀ i,i<n->E' i=E i)(s:ByteArray):posV E' n s=posV E n s:=by
 induction n with
 | zero=>rfl
 | succ n ih=>unfold posV;rw [ih (fun i hi=>h i (by omega)),h n (by omega)]
theorem thereTo_cong {n:Nat}(h:∀ i,i<n->E' i=E i)(S:Nat->ByteArray)(m:Nat):thereTo E' n S m=thereTo E n S m:=by
 induction m with
 | zero=>rfl
 | succ m ih=>unfold thereTo;rw [ih,posV_cong h]
theorem insCode_cong {n:Nat}(h:∀ i,i<n->E' i=E i)(e:Ev):insCode E' n e=insCode E n e:=by
 unfold insCode thereB;rw [posV_cong h,thereTo_cong h,thereTo_cong h]
theorem roomTo_cong {n:Nat}(h:∀ i,i<n->E' i=E i):roomTo E' n=roomTo E n:=by
 induction n with
 | zero=>rfl
 | succ n ih=>unfold roomTo;rw [ih (fun i hi=>h i (by omega)),h n (by omega),insCode_cong (fun i hi=>h i (by omega))]
theorem extE_lt {n i:Nat}(e:Ev)(h:i<n):extE E n e i=E i:=by unfold extE;rw [if_neg (by omega)]
theorem extE_at (n:Nat)(e:Ev):extE E n e n=e:=by unfold extE;rw [if_pos rfl]
theorem roomTo_ext {n:Nat}{e:Ev}(h:roomTo E n=true)(hi:insCode E n e=0):roomTo (extE E n e) (n+1)=true:=by
 unfold roomTo;rw [roomTo_cong (fun i hi=>extE_lt e hi),h,extE_at,insCode_cong (fun i hi=>extE_lt e hi),hi];rfl
end
theorem cDr_ng {bs:Nat->Nat}{m q:Nat}{e:Ev}(h:e.ng<=11):(cDr bs m q e).ng<=11:=by
 unfold cDr cnE
 repeat' split
 all_goals first
  | exact h
  | exact gTo_len _ _ _ _ _ _
theorem GwR.bd {bs:Nat->Nat}{m q:Nat}{E:Nat->Ev}{n:Nat}{A:Nat->List Ent}{e:Ev}(h:GwR bs m q E n A e):e.np<=1000∧e.na<=1000∧e.ng<=1000:=by
 obtain ⟨b,_,rfl⟩:=h
 have h1:(gwE bs m q E n b).np<=3:=by
  show (gw1 bs m q E n).np<=3
  unfold gw1;rw [(cDr_keep _ _ _ _).2.2.2.1];exact nZ (gwL_len _ _ _) (gwC_le _).1
 have h2:(gwE bs m q E n b).ng<=11:=by
  show (gw1 bs m q E n).ng<=11
  exact cDr_ng nz
 have h3:(gwE bs m q E n b).na<=100:=by
  show (gwB _ _ _ _).length<=100
  have h4:=auTo_len b (ndL (gw1 bs m q E n)) (ndL (gw1 bs m q E n)).length;have h5:=ndL_len (gw1 bs m q E n)
  have h6:(gwA (nxB bs m q) E (auTo b (ndL (gw1 bs m q E n)) (ndL (gw1 bs m q E n)).length)).length<=8:=by
   unfold gwA;split
   ·simp
   omega
  unfold gwB;split
  ·simp only [List.length_append,List.length_singleton];omega
  omega
 omega
theorem GwR.reach {bs:Nat->Nat}{m q:Nat}{E:Nat->Ev}{n:Nat}{A:Nat->List Ent}{e:Ev}(h:GwR bs m q E n A e):EvReach e:=by
 have:=h.bd;unfold EvReach;omega
structure DrSt where
 n:Nat
 E:Nat->Ev
 A:Nat->List Ent
 q:Nat
noncomputable def gwF (bs:Nat->Nat)(m q:Nat)(E:Nat->Ev)(n:Nat)(A:Nat->List Ent):Ev:=@Classical.epsilon Ev ⟨fstE 0⟩ (GwR bs m q E n A)
theorem gwF_is {bs:Nat->Nat}{m q:Nat}{E:Nat->Ev}{n:Nat}{A:Nat->List Ent}{e:Ev}(h:GwR bs m q E n A e):e=gwF bs m q E n A:=h.uniq (Classical.epsilon_spec ⟨e,h⟩)
noncomputable def afF (E:Nat->Ev)(n:Nat)(A:Nat->List Ent)(i:Nat):List Ent:=@Classical.epsilon (List Ent) ⟨[]⟩ (AfR E n A i)
theorem afF_is {E:Nat->Ev}{n:Nat}{A:Nat->List Ent}{i:Nat}{l:List Ent}(h:AfR E n A i l):l=afF E n A i:=h.uniq (Classical.epsilon_spec ⟨l,h⟩)
noncomputable def drE (bs:Nat->Nat)(m st i:Nat)(s:DrSt):Ev:=if i<st then fstE i else gwF bs m s.q s.E s.n s.A
def drQ (bs:Nat->Nat)(m st i:Nat)(s:DrSt):Nat:=if i<st then s.q else gwQ bs m s.q
def drC (m mo st i:Nat)(s:DrSt):Prop:=i<mo∧(i<st∨s.q<m)
noncomputable def drStep (bs:Nat->Nat)(m st i:Nat)(s:DrSt):DrSt :=
 if insCode s.E s.n (drE bs m st i s)=0 then ⟨s.n+1,extE s.E s.n (drE bs m st i s),extF s.A s.n (afF (extE s.E s.n (drE bs m st i s)) (s.n+1) s.A s.n),drQ bs m st i s⟩ else ⟨s.n,s.E,s.A,drQ bs m st i s⟩
open Classical in
noncomputable def drRun (bs:Nat->Nat)(m mo st:Nat):Nat->Nat->DrSt->DrSt
 | 0,_,s=>s
 | f+1,i,s=>if drC m mo st i s then drRun bs m mo st f (i+1) (drStep bs m st i s) else s
def drS (k:Nat):Nat:=if 5<1+k % 6∨64<=k then 5 else 1+k % 6
def drM (k m q:Nat):Nat:=if 15<drS k+2+k / 6 % 3+(m - q) / 7 then 15 else drS k+2+k / 6 % 3+(m - q) / 7
theorem drS_bd (k:Nat):1<=drS k∧drS k<=5:=by
 unfold drS;split <;> omega
theorem drM_bd (k m q:Nat):drM k m q<=15∧1<=drM k m q:=by
 have:=drS_bd k;unfold drM;split <;> omega
noncomputable def drFin (bs:Nat->Nat)(m q:Nat):DrSt:=drRun bs m (drM (nxB bs m q) m (nxQ m q)) (drS (nxB bs m q)) 16 0 ⟨0,fun _=>fstE 0,fun _=>[],nxQ m q⟩
structure DrOk (i:Nat)(s:DrSt):Prop where
 room:roomTo s.E s.n=true
 fit:∀ j,j<s.n->FitL s.E s.n (s.A j)
 reach:∀ j,j<s.n->EvReach (s.E j)
 le:s.n<=i
 pos:0<i->0<s.n
theorem DrOk.zero (q:Nat):DrOk 0 ⟨0,fun _=>fstE 0,fun _=>[],q⟩:=⟨rfl,fun _ h=>absurd h (Nat.not_lt_zero _),fun _ h=>absurd h (Nat.not_lt_zero _),nL,fun h=>absurd h (Nat.lt_irrefl _)⟩
theorem DrOk.put {i q:Nat}{s:DrSt}(h:DrOk i s){e:Ev}{l:List Ent}(hi:insCode s.E s.n e=0)(hr:EvReach e)(hl:AfR (extE s.E s.n e) (s.n+1) s.A s.n l):DrOk (i+1) ⟨s.n+1,extE s.E s.n e,extF s.A s.n l,q⟩:=by
 have h1:=roomTo_ext h.room hi;have h2:∀ j,j<s.n->FitL (extE s.E s.n e) (s.n+1) (s.A j):=fun j hj=>(h.fit j hj).grow h1 (Nat.le_succ _) (fun i hi=>extE_lt e hi)
 refine ⟨h1,fun j hj=>?_,fun j hj=>?_,Nat.succ_le_succ h.le,fun _=>Nat.succ_pos _⟩
 ·by_cases e':j=s.n
  ·subst e'
   show FitL _ _ (extF s.A s.n l s.n)
   rw [extF_at];exact hl.fit h1 (Nat.lt_succ_self _) h2
  show FitL _ _ (extF s.A s.n l j)
  have hj':j<s.n+1:=hj;rw [extF_lt _ _ (by omega)];exact h2 j (by omega)
 by_cases e':j=s.n
 ·subst e';show EvReach (extE s.E s.n e s.n);rw [extE_at];exact hr
 have hj':j<s.n+1:=hj
 show EvReach (extE s.E s.n e j)
 rw [extE_lt _ (by omega)];exact h.reach j (by omega)
theorem DrOk.leave {i q:Nat}{s:DrSt}(h:DrOk i s)(hi:0<i∨0<s.n):DrOk (i+1) ⟨s.n,s.E,s.A,q⟩:=⟨h.room,h.fit,h.reach,Nat.le_succ_of_le h.le,fun _=>hi.elim h.pos id⟩
variable {B m p q':Nat}{W W':World}{bs:Nat->Nat}{rv:Value}{row:Option Nat}{cs:Array Value}
structure GvA (p:Nat)(w W:World)(bs:Nat->Nat)(m q:Nat)(rv:Value):Prop where
 r:W.cell? ⟨w.heap.size,0,none⟩=some rv
 z:∀ o,o<10->∃ v,W.cell? ⟨w.heap.size+1,o,none⟩=some v
 f1:∀ o,W.frozen? ⟨w.heap.size+1,o,none⟩=false
 sz:w.heap.size+2<=W.heap.size
 dw:DwF p w W bs m q
theorem GvA.kept {q:Nat}(h:GvA p w W bs m q rv)(hk:∀ b,w.heap.size<=b->b<w.heap.size+2->W'.heap[b]?=W.heap[b]?)(hs:W.heap.size<=W'.heap.size)(hd:DwF p w W' bs m q'):GvA p w W' bs m q' rv:=by
 have hc:∀ b o,w.heap.size<=b->b<w.heap.size+2->W'.cell? ⟨b,o,none⟩=W.cell? ⟨b,o,none⟩:=fun b o h1 h2=>World.cell?_of_block (a:=⟨b,o,none⟩) (hk b h1 h2)
 have hz:∀ b o,w.heap.size<=b->b<w.heap.size+2->W'.frozen? ⟨b,o,none⟩=W.frozen? ⟨b,o,none⟩:=fun b o h1 h2=>World.frozen?_of_block (a:=⟨b,o,none⟩) (hk b h1 h2)
 exact ⟨(hc _ _ (by omega) (by omega)).trans h.r,fun o ho=>(h.z o ho).imp fun v hv=>(hc _ _ (by omega) (by omega)).trans hv,fun o=>(hz _ _ (by omega) (by omega)).trans (h.f1 o),nZ h.sz hs,hd⟩
theorem GvA.below {q:Nat}(h:GvA p w W bs m q rv)(hb:Below W.heap.size W W'):GvA p w W' bs m q rv :=
 h.kept (fun b _ h2=>hb.block b (by have:=h.sz;omega)) hb.size (h.dw.below hb)
theorem GvA.draw {q:Nat}(h:GvA p w W bs m q rv)(hp:p<w.heap.size)(hd:DwF p W W' bs m q'):GvA p w W' bs m q' rv :=
 h.kept (fun b h1 h2=>hd.2.block b (by have:=h.sz;omega) (fun q=>by injection q with q;omega)) hd.size (h.dw.trans hd)
theorem GvA.grow {q:Nat}(h:GvA p w W bs m q rv)(hp:p<w.heap.size)(hg:W.grownBy W' row)(hr:∀ b,row=some b->w.heap.size+2<=b):GvA p w W' bs m q rv :=
 h.kept (fun b h1 h2=>hg.block b (by have:=h.sz;omega) (fun q=>by have:=hr b q.symm;omega)) hg.size (h.dw.grow hg (fun b hb=>by have:=hr b hb;omega) hp)
structure GvB (p:Nat)(w W:World)(bs:Nat->Nat)(m q:Nat)(rv:Value)(B:Nat)(c:Nat->Value):Prop where
 a:GvA p w W bs m q rv
 b:∀ o,o<10->W.cell? ⟨B,o,none⟩=some (c o)
 f0:∀ o,W.frozen? ⟨B,o,none⟩=false
 lo:w.heap.size+2<=B
 hi:B<W.heap.size
theorem GvB.congr {q:Nat}{c c':Nat->Value}(h:GvB p w W bs m q rv B c)(hc:∀ o,o<10->c o=c' o):GvB p w W bs m q rv B c':=⟨h.a,fun o ho=>by rw [<- hc o ho];exact h.b o ho,h.f0,h.lo,h.hi⟩
theorem GvB.kept {q:Nat}{c:Nat->Value}(h:GvB p w W bs m q rv B c)(ha:GvA p w W' bs m q' rv)(hk:W'.heap[B]?=W.heap[B]?)(hs:W.heap.size<=W'.heap.size):GvB p w W' bs m q' rv B c :=
 ⟨ha,fun o ho=>(World.cell?_of_block (a:=⟨B,o,none⟩) hk).trans (h.b o ho),fun o=>(World.frozen?_of_block (a:=⟨B,o,none⟩) hk).trans (h.f0 o),h.lo,nT h.hi hs⟩
theorem GvB.below {q:Nat}{c:Nat->Value}(h:GvB p w W bs m q rv B c)(hb:Below W.heap.size W W'):GvB p w W' bs m q rv B c:=h.kept (h.a.below hb) (hb.block B h.hi) hb.size
theorem GvB.draw {q:Nat}{c:Nat->Value}(h:GvB p w W bs m q rv B c)(hp:p<w.heap.size)(hd:DwF p W W' bs m q'):GvB p w W' bs m q' rv B c:=h.kept (h.a.draw hp hd) (hd.2.block B h.hi (fun q=>by injection q with q;have:=h.lo;omega)) hd.size
theorem GvB.grow {q:Nat}{c:Nat->Value}(h:GvB p w W bs m q rv B c)(hp:p<w.heap.size)(hg:W.grownBy W' row)(hr:∀ b,row=some b->B<b):GvB p w W' bs m q rv B c:=h.kept (h.a.grow hp hg (fun b hb=>by have:=hr b hb;have:=h.lo;omega)) (hg.block B h.hi (fun q=>by have:=hr B q.symm;omega)) hg.size
theorem GvB.set {q:Nat}{c:Nat->Value}(h:GvB p w W bs m q rv B c)(hp:p<w.heap.size)(o:Nat)(ho:o<10)(x:Value):GvB p w (W.setCell ⟨B,o,none⟩ x) bs m q rv B (fun i=>if i=o then x else c i):=by
 have hlo:=h.lo;refine ⟨h.a.grow hp (Lib.grownBy_setCell W B o x) (fun b hb=>by injection hb with hb;omega),fun i hi=>?_,fun i=>by rw [World.frozen?_setCell];exact h.f0 i,h.lo,by have:=h.hi;simpa [World.setCell] using this⟩
 by_cases e:i=o
 ·subst e;rw [if_pos rfl];exact set_same ⟨_,h.b i hi⟩
 rw [if_neg e,set_far (by omega)];exact h.b i hi
theorem gvB_new {q:Nat}{t:TypeId}(h:GvA p w W bs m q rv)(hc:cs.size=10):GvB p w (W.alloc (.cells cs t)) bs m q rv W.heap.size (fun o=>cs[o]?.getD undef):=by
 refine ⟨h.below bA,fun o ho=>?_,fun o=>kF rfl,h.sz,by simp⟩;rw [kA rfl,Array.getElem?_eq_getElem (by omega)];rfl
theorem gvB_fill {W2:World}{q:Nat}{t:TypeId}(x0 x1 x2 x3 x4 x5 x6 x7 x8 x9:Value)(h:GvA p w W bs m q rv)(hp:p<w.heap.size)(hc:cs.size=10)(hb:Below (W.alloc (.cells cs t)).heap.size (W.alloc (.cells cs t)) W2) :
  GvB p w ((((((((((W2.setCell ⟨W.heap.size,0,none⟩ x0).setCell ⟨W.heap.size,1,none⟩ x1).setCell ⟨W.heap.size,2,none⟩ x2).setCell ⟨W.heap.size,3,none⟩ x3).setCell ⟨W.heap.size,4,none⟩ x4).setCell ⟨W.heap.size,5,none⟩ x5).setCell ⟨W.heap.size,6,none⟩ x6).setCell ⟨W.heap.size,7,none⟩ x7).setCell ⟨W.heap.size,8,none⟩ x8).setCell ⟨W.heap.size,9,none⟩ x9) bs m q rv W.heap.size (fun o=>(#[x0,x1,x2,x3,x4,x5,x6,x7,x8,x9]:Array Value)[o]?.getD undef):=by
 have h0:=(gvB_new (t:=t) h hc).below hb;refine ((((((((((h0.set hp 0 (by decide) x0).set hp 1 (by decide) x1).set hp 2 (by decide) x2).set hp 3 (by decide) x3).set hp 4 (by decide) x4).set hp 5 (by decide) x5).set hp 6 (by decide) x6).set hp 7 (by decide) x7).set hp 8 (by decide) x8).set hp 9 (by decide) x9).congr fun o ho=>?_
 match o,ho with
 | 0,_=>rfl
 | 1,_=>rfl
 | 2,_=>rfl
 | 3,_=>rfl
 | 4,_=>rfl
 | 5,_=>rfl
 | 6,_=>rfl
 | 7,_=>rfl
 | 8,_=>rfl
 | 9,_=>rfl
end Go.Proofs.YtkdalopokdhndaaGreat
