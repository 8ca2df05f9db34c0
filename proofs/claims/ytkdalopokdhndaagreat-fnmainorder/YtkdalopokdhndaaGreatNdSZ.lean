import Derived.Test.YtkdalopokdhndaaGreatAlXZ
set_option maxHeartbeats 16000000
set_option maxRecDepth 100000
namespace Go.Proofs.YtkdalopokdhndaaGreat
open Go.RowKit
variable {e:Ev}{S:Nat->ByteArray}{b k n ca cg cp base:Nat}{w w':World}{v:Value}{l:List Ent}{row:Option Nat}{aa ga pa:Option Addr}
theorem OwnL.one (w:World)(base:Nat)(hb:base<=w.heap.size)(s:ByteArray):OwnL (w.alloc (.cells #[.string s] 9)) base (.slice (some ⟨w.heap.size,0,none⟩) 1 1) [s] :=
 ⟨rfl,Or.inr ⟨w.heap.size,1,#[.string s],rfl,hb,by show (w.heap.push _)[w.heap.size]?=_;simp,nL,by decide,rfl,rfl⟩⟩
theorem uq_len (e:Ev):(uq e).length<=2∧1<=(uq e).length:=by
 unfold uq;split
 ·simp
 split <;> simp
theorem uq_is {l:List ByteArray}(hs:Srt l)(hm:∀ s,s ∈ l↔∃ i,i<n∧S i=s)(hS:∀ s,(∃ i,i<n∧S i=s)↔s=e.sd∨(isMb e=true∧s=e.key)):l=uq e :=
 srt_unique hs (uq_srt e) fun s=>by rw [hm,hS,uq_mem]
theorem take_more {l:List ByteArray}(hk:k<l.length):(l.take (k+1)).map slM=(l.take k).map slM ++ [slM (getL l k)]:=by
 rw [List.take_add_one,getL_some hk];simp
theorem OwnO.grownX (h:OwnO w base v l)(hg:w.grownBy w' row)(hne:∀ q,v.ownBlock=some q->some q≠row):OwnO w' base v l:=by
 obtain ⟨h1,h2⟩:=h;refine ⟨h1,?_⟩;rcases h2 with h2|⟨g,cap,cur,hv,hg2,hh,r⟩
 ·exact Or.inl h2
 have hlt:g<w.heap.size:=(Array.getElem?_eq_some_iff.1 hh).1;exact Or.inr ⟨g,cap,cur,hv,hg2,by rw [hg.block g hlt (hne g (by rw [hv];rfl))];exact hh,r⟩
theorem OwnL.grownX {l:List ByteArray}(h:OwnL w base v l)(hg:w.grownBy w' row)(hne:∀ q,v.ownBlock=some q->some q≠row):OwnL w' base v l:=by
 obtain ⟨h1,h2⟩:=h;refine ⟨h1,?_⟩;rcases h2 with h2|⟨g,cap,cur,hv,hg2,hh,r⟩
 ·exact Or.inl h2
 have hlt:g<w.heap.size:=(Array.getElem?_eq_some_iff.1 hh).1;exact Or.inr ⟨g,cap,cur,hv,hg2,by rw [hg.block g hlt (hne g (by rw [hv];rfl))];exact hh,r⟩
theorem own_ne {b2:Nat}{v2:Value}{U:List ByteArray}(h:OwnO w b v l)(h2:OwnL w b2 v2 U)(q:Nat)(hq:v2.ownBlock=some q):some q≠v.ownBlock:=fun e=>by
 rcases h.2 with ⟨rfl,_⟩|⟨g,cap,cur,rfl,_,hh,_⟩
 ·cases e
 rcases h2.2 with ⟨rfl,_⟩|⟨g',cap',cur',rfl,_,hh',_⟩
 ·cases hq
 have e1:g'=q:=by simpa [Value.ownBlock] using hq
 have e2:q=g:=by simpa [Value.ownBlock] using e
 subst e1 e2;rw [hh] at hh';injection hh' with hh'
 injection hh' with _ hh' _
 exact absurd hh' (by decide)
def NdRel (w W0:World)(Q:List Ent)(U:List ByteArray)(u v i:Value)(wr:World):Prop:=∃ k:Nat,k<=U.length∧i=.int .i64 (k:Int)∧OwnO wr (w.heap.size+1) v (Q ++ (U.take k).map slM)∧OwnL wr (w.heap.size+1) u U∧Below (w.heap.size+1) W0 wr
theorem ndS_any (e:Ev)(w:World)(he:EvOk w e pa cp aa ca ga cg) :
  Calls Tryz.prog 127 #[e.val' pa cp aa ca ga cg] w (NdPost w e):=by
 obtain ⟨i0,hi,hz0,hz1,hz2⟩:=info_parts Tryz.infoSlot;obtain ⟨j0,hj,hj0,hj1,hj2⟩:=info_parts Tryz.infoString;obtain ⟨W0,hW0⟩:∃ W0,W0=w.alloc (.cells (ec e pa cp aa ca ga cg) 30):=⟨_,rfl⟩;have hb0:Below w.heap.size w W0:=by rw [hW0];exact bA
 have hsz0:W0.heap.size=w.heap.size+1:=by rw [hW0];simp
 have hs0:w.heap.size+1<=W0.heap.size:=by omega
 have HB:Hid (∀ W,Below (w.heap.size+1) W0 W->∀ o,W.cell? ⟨w.heap.size,o,none⟩=((ec e pa cp aa ca ga cg):Array Value)[o]?):=fun W hW=>by subst hW0;exact box_cells hW
 have hbO:Below (w.heap.size+1) W0 (W0.alloc (.cells #[] 76)):=kB.alloc hs0 _;have hoO:OwnO (W0.alloc (.cells #[] 76)) (w.heap.size+1) (.slice (some ⟨W0.heap.size,0,none⟩) 0 0) []:=OwnO.new W0 _ hs0;rw [hsz0] at hoO
 have hEv:Hid (∀ W,Below w.heap.size w W->Calls Tryz.prog 27 #[e.val' pa cp aa ca ga cg] W fun x w'=>x=.returned (.int .i64 e.code)∧Below W.heap.size W w'):=fun W hW =>
  evS_any e.id e.sd e.ty e.key e.val e.st e.tm pa e.np cp aa e.na ca ga e.ng cg e.Pv e.Av e.M e.L _ he.hid he.hsd he.hty he.hkey he.hval (he.hp.below hW) (he.ha.below hW) (he.hg.below hW)
 have HE:Hid (e.sd.size<=maxLen∧e.key.size<=maxLen):=⟨he.hsd,he.hkey⟩;clear he
 go_enter Tryz.func127,Tryz.ntmps127
 go_wp2_with fail
 have hW0':w.alloc (.cells (ec e pa cp aa ca ga cg) 30)=W0:=hW0.symm;rw [hW0'];clear hW0' hW0;have hbwO:=hb0.trans (hbO.mono (by omega));refine (hEv.out _ hbwO).mono ?_;rintro x w1 ⟨rfl,hb1⟩;have hb01:=hbO.trans (hb1.mono (nZ hs0 hbO.size));have hs1:w.heap.size+1<=w1.heap.size:=nZ hs0 hb01.size;have hcl1:=HB.out _ hb01;have hown1:=hoO.below hb1;have hw1:=hb0.trans (hb01.mono (by omega));clear hEv hoO hbO hb1 hbwO
 by_cases hc:e.code=0
 case neg =>
  have hL:Hid (ndL e=[]):=by unfold Hid ndL;rw [if_neg hc]
  have hcb:(e.code != 0)=true:=by simpa using hc
  clear hc;go_wp2
  go_ret;exact ⟨_,rfl,by rw [hL.out];exact hown1.mono (by omega),hw1⟩
 case pos =>
  cases hcr:isCr e
  case true =>
   have hL:Hid (ndL e=[slC]):=by unfold Hid ndL;rw [if_pos hc,hcr];rfl
   have hcr':(e.ty.toList == [99,114,101,97,116,101])=true:=hcr;clear hcr
   go_wp2_with (at_builtin;refine wpList_append_own _ rfl _ _ 35 rfl (w.heap.size+1) 76 i0 (.agg #[.string ByteArray.empty,.string ByteArray.empty]) 2 32 Tryz.underlying35 hi hz0 hz1 hz2 rfl (by decide) _ _ _ rfl (World.ownsRow.alloc hown1 _) ⟨w1.heap.size,0,none⟩ 1 1 (encOL [slC]) rfl rfl (one_cellsO _ _ _) (encOL_one _) (by show (1:Nat)<=maxLen;decide) (by show (1:Nat) * 32<=140737488355328;decide) (by simp;omega) ?_;intro v2 w2 hown2r hgrw2 _;have hown2:OwnO w2 (w.heap.size+1) v2 ([slC]):=OwnO.snoc (l:=[]) (k:=[slC]) hown2r;have hbw2:Below (w.heap.size+1) W0 w2:=(hb01.alloc (by omega) _).grown hgrw2 (by simp;omega) (fun q hq=>hown1.lt q hq);have hclw2:=HB.out _ hbw2;have hsw2:w.heap.size+1<=w2.heap.size:=nZ hs0 hbw2.size;have hclUw2:=HB.out _ (hbw2.alloc hsw2 (.cells #[.string e.sd] 9)))
   go_ret;exact ⟨_,rfl,by rw [hL.out];exact hown2.mono (by omega),hb0.trans (hbw2.mono (by omega))⟩
  case false =>
   have hcr':(e.ty.toList == [99,114,101,97,116,101])=false:=hcr;have HL:Hid (ndL e=slC :: (ndY e ++ (uq e).map slM ++ [slP])):=by unfold Hid ndL;rw [if_pos hc,hcr];rfl
   clear hcr;cases hm:isMb e
   case false =>
    have hm':(e.ty.toList == [109,101,109,98,101,114])=false:=hm;have HY:Hid (ndY e=[]):=by unfold Hid ndY;rw [hm];rfl
    have HU:Hid (∀ s,(∃ i,i<1∧getL [e.sd] i=s)↔s=e.sd∨(isMb e=true∧s=e.key)):=fun s=>by
     rw [hm];constructor
     ·rintro ⟨i,hi,rfl⟩
      have:i=0:=by omega
      subst this;exact Or.inl rfl
     rintro (rfl|⟨h1,_⟩)
     ·exact ⟨0,by decide,rfl⟩
     cases h1
    clear hm
    go_wp2_with (at_builtin;refine wpList_append_own _ rfl _ _ 35 rfl (w.heap.size+1) 76 i0 (.agg #[.string ByteArray.empty,.string ByteArray.empty]) 2 32 Tryz.underlying35 hi hz0 hz1 hz2 rfl (by decide) _ _ _ rfl (World.ownsRow.alloc hown1 _) ⟨w1.heap.size,0,none⟩ 1 1 (encOL [slC]) rfl rfl (one_cellsO _ _ _) (encOL_one _) (by show (1:Nat)<=maxLen;decide) (by show (1:Nat) * 32<=140737488355328;decide) (by simp;omega) ?_;intro v2 w2 hown2r hgrw2 _;have hown2:OwnO w2 (w.heap.size+1) v2 ([slC]):=OwnO.snoc (l:=[]) (k:=[slC]) hown2r;have hbw2:Below (w.heap.size+1) W0 w2:=(hb01.alloc (by omega) _).grown hgrw2 (by simp;omega) (fun q hq=>hown1.lt q hq);have hclw2:=HB.out _ hbw2;have hsw2:w.heap.size+1<=w2.heap.size:=nZ hs0 hbw2.size;have hclUw2:=HB.out _ (hbw2.alloc hsw2 (.cells #[.string e.sd] 9)))
    have hbU:Below (w.heap.size+1) W0 (w2.alloc (.cells #[.string e.sd] 9)):=hbw2.alloc hsw2 _;obtain ⟨ua,uc,hue,hus,-⟩:=(OwnL.one w2 (w.heap.size+1) hsw2 e.sd).sl (fun s hs=>by rw [List.mem_singleton.1 hs];exact HE.out.1);injection hue with hu1 hu2 hu3
    subst hu1 hu3;clear hu2;have hown2u:OwnO (w2.alloc (.cells #[.string e.sd] 9)) (w.heap.size+1) v2 ([slC]):=hown2.below bA;refine (l2s_sl _ (by show (1:Nat)<=1048576;decide) hus).mono ?_;rintro x w5 ⟨v5,l5,rfl,hown5,hsrt5,hmem5,hb5⟩;have hl5:l5=uq e:=uq_is hsrt5 hmem5 HU.out;subst hl5;have hul:=uq_len e;have hb05:=hbU.trans (hb5.mono (nZ hs0 hbU.size));have hs5:w.heap.size+1<=w5.heap.size:=nZ hs0 hb05.size;have hownQ5:=hown2u.below hb5;have hown5':=hown5.mono (nZ hs0 hbU.size);rcases hown5.shape with ⟨rfl,h0⟩|⟨g5,c5,rfl,hg5,hlt5,hn5,hc5⟩
    ·rw [h0] at hul;simp at hul
    have HUE:Hid ([slC] ++ ((uq e).take (uq e).length).map slM ++ [slP]=ndL e):=by unfold Hid;rw [HL.out,HY.out,List.take_length];rfl
    clear hown5 hsrt5 hmem5 hb5 hn5 hc5 hg5 hlt5;generalize uq e=U at *
    go_wp2_with fail
    go_loopw [3,5] (fun v i wr=>NdRel w W0 ([slC]) U (.slice (some ⟨g5,0,none⟩) U.length c5) v i wr) (fun _ i _=>U.length - (intOf i).toNat)
    case atStart=>exact ⟨0,nz,rfl,by simpa using hownQ5,hown5',hb05⟩
    case round =>
     clear hownQ5 hown5';obtain ⟨k,hk,rfl,hownr,hownU,hbr⟩:=hrel;have hsr:w.heap.size+1<=wr.heap.size:=nZ hs0 hbr.size
     have hlen:([slC] ++ (U.take k).map slM).length<=4:=by
      have:(U.take k).length<=2:=by rw [List.length_take];omega
      simp;omega
     by_cases hlt:k<U.length
     ·have hck:wr.cell? ⟨g5,k,none⟩=some (.string (getL U k)):=hownU.cell rfl hlt
      have HT:Hid ((U.take (k+1)).map slM=(U.take k).map slM ++ [slM (getL U k)]):=take_more hlt;have HUU:Hid (∀ (o:Obj) (w3:World),(wr.alloc o).grownBy w3 u3.ownBlock->OwnL w3 (w.heap.size+1) (.slice (some ⟨g5,0,none⟩) U.length c5) U):=fun o w3 hg3=>(hownU.below bA).grownX hg3 (own_ne hownr hownU)
      clear hownU;generalize (U.take k).map slM=T at *;generalize getL U k=s at *
      go_wp2_with (at_builtin;refine wpList_append_own _ rfl _ _ 35 rfl (w.heap.size+1) 76 i0 (.agg #[.string ByteArray.empty,.string ByteArray.empty]) 2 32 Tryz.underlying35 hi hz0 hz1 hz2 rfl (by decide) _ _ _ rfl (World.ownsRow.alloc hownr _) ⟨wr.heap.size,0,none⟩ 1 1 (encOL [slM s]) rfl rfl (one_cellsO _ _ _) (encOL_one _) (by have:=hlen;unfold maxLen;omega) (by have:=hlen;omega) (by simp;omega) ?_;intro vm wm hownmr hgrwm _;have hownm:OwnO wm (w.heap.size+1) vm (([slC] ++ T) ++ [slM s]):=OwnO.snoc (l:=[slC] ++ T) (k:=[slM s]) hownmr;have hbwm:Below (w.heap.size+1) W0 wm:=(hbr.alloc (by omega) _).grown hgrwm (by simp;omega) (fun q hq=>hownr.lt q hq);have hclwm:=HB.out _ hbwm;have hswm:w.heap.size+1<=wm.heap.size:=nZ hs0 hbwm.size)
      go_roundw
      case rel=>first|exact ⟨k+1,by omega,by go_num,by rw [HT.out,<- List.append_assoc];exact hownm,HUU.out _ _ hgrwm,hbwm⟩|((repeat apply Exists.intro);exact ⟨⟨k+1,by omega,by go_num,by rw [HT.out,<- List.append_assoc];exact hownm,HUU.out _ _ hgrwm,hbwm⟩,rfl⟩)
      simp [intOf];omega
     have hke:k=U.length:=by omega
     subst hke;generalize (U.take U.length).map slM=T at *
     go_wp2_with (at_builtin;refine wpList_append_own _ rfl _ _ 35 rfl (w.heap.size+1) 76 i0 (.agg #[.string ByteArray.empty,.string ByteArray.empty]) 2 32 Tryz.underlying35 hi hz0 hz1 hz2 rfl (by decide) _ _ _ rfl (World.ownsRow.alloc hownr _) ⟨wr.heap.size,0,none⟩ 1 1 (encOL [slP]) rfl rfl (one_cellsO _ _ _) (encOL_one _) (by have:=hlen;unfold maxLen;omega) (by have:=hlen;omega) (by simp;omega) ?_;intro vp wp hownpr hgrwp _;have hownp:OwnO wp (w.heap.size+1) vp (([slC] ++ T) ++ [slP]):=OwnO.snoc (l:=[slC] ++ T) (k:=[slP]) hownpr;have hbwp:Below (w.heap.size+1) W0 wp:=(hbr.alloc (by omega) _).grown hgrwp (by simp;omega) (fun q hq=>hownr.lt q hq);have hclwp:=HB.out _ hbwp;have hswp:w.heap.size+1<=wp.heap.size:=nZ hs0 hbwp.size)
     go_ret;exact ⟨_,rfl,by rw [<- HUE.out];exact hownp.mono (by omega),hb0.trans (hbwp.mono (by omega))⟩
   case true =>
    have hm':(e.ty.toList == [109,101,109,98,101,114])=true:=hm
    have HU:Hid (∀ s,(∃ i,i<2∧getL ([e.sd] ++ [e.key]) i=s)↔s=e.sd∨(isMb e=true∧s=e.key)):=fun s=>by
     rw [hm];constructor
     ·rintro ⟨i,hi,rfl⟩
      match i,hi with
      | 0,_=>exact Or.inl rfl
      | 1,_=>exact Or.inr ⟨rfl,rfl⟩
     rintro (rfl|⟨_,rfl⟩)
     ·exact ⟨0,by decide,rfl⟩
     exact ⟨1,by decide,rfl⟩
    cases hjn:isJn e
    case false =>
     have HY:Hid (ndY e=[]):=by unfold Hid ndY;rw [hm,hjn];rfl
     have hjn':(e.val.toList == [106,111,105,110])=false:=hjn;clear hm hjn
     go_wp2_with (first|(at_builtin;(refine wpList_append_own _ rfl _ _ 27 rfl (w.heap.size+1) 9 j0 (.string ByteArray.empty) 1 16 Tryz.underlying27 hj hj0 hj1 hj2 rfl (by decide) _ _ _ rfl (World.ownsRow.alloc (OwnL.one w2 (w.heap.size+1) hsw2 e.sd) _) ⟨w2.heap.size+1,0,none⟩ 1 1 [.string e.key] rfl rfl (fun j u h=>by have:=one_cells (w2.alloc (.cells #[.string e.sd] 9)) (.string e.key) 9 j u h;simpa using this) (one_one _) (by show (2:Nat)<=maxLen;decide) (by show (2:Nat) * 16<=140737488355328;decide) (by simp;omega) ?_;intro vu wu hownur hgru _))|(at_builtin;refine wpList_append_own _ rfl _ _ 35 rfl (w.heap.size+1) 76 i0 (.agg #[.string ByteArray.empty,.string ByteArray.empty]) 2 32 Tryz.underlying35 hi hz0 hz1 hz2 rfl (by decide) _ _ _ rfl (World.ownsRow.alloc hown1 _) ⟨w1.heap.size,0,none⟩ 1 1 (encOL [slC]) rfl rfl (one_cellsO _ _ _) (encOL_one _) (by show (1:Nat)<=maxLen;decide) (by show (1:Nat) * 32<=140737488355328;decide) (by simp;omega) ?_;intro v2 w2 hown2r hgrw2 _;have hown2:OwnO w2 (w.heap.size+1) v2 ([slC]):=OwnO.snoc (l:=[]) (k:=[slC]) hown2r;have hbw2:Below (w.heap.size+1) W0 w2:=(hb01.alloc (by omega) _).grown hgrw2 (by simp;omega) (fun q hq=>hown1.lt q hq);have hclw2:=HB.out _ hbw2;have hsw2:w.heap.size+1<=w2.heap.size:=nZ hs0 hbw2.size;have hclUw2:=HB.out _ (hbw2.alloc hsw2 (.cells #[.string e.sd] 9))))
     have hownu:OwnL wu (w.heap.size+1) vu ([e.sd] ++ [e.key]):=OwnL.snoc hownur;have hbA:Below (w.heap.size+1) W0 ((w2.alloc (.cells #[.string e.sd] 9)).alloc (.cells #[.string e.key] 9)):=(hbw2.alloc hsw2 _).alloc (by simp;omega) _;have hgru2:((w2.alloc (.cells #[.string e.sd] 9)).alloc (.cells #[.string e.key] 9)).grownBy wu (some w2.heap.size):=hgru;have hbU:Below (w.heap.size+1) W0 wu:=hbA.grown hgru2 (by simp;omega) (fun q hq=>by injection hq with hq;omega)
     have hown2u:OwnO wu (w.heap.size+1) v2 ([slC]):=((hown2.below bA).below bA).grownX hgru2 (fun q hq e1=>by
      have h1:q<w2.heap.size:=(World.ownsRow.lt hown2 q hq).2;have h2:q=w2.heap.size:=by injection e1
      omega)
     obtain ⟨ua,uc,hue,hus,-⟩:=hownu.sl (fun s hs=>by
      rcases List.mem_append.1 hs with hs|hs
      ·rw [List.mem_singleton.1 hs];exact HE.out.1
      rw [List.mem_singleton.1 hs];exact HE.out.2)
     subst hue;clear hownur hgru hgru2 hbA;refine (l2s_sl _ (by show (2:Nat)<=1048576;decide) hus).mono ?_;rintro x w5 ⟨v5,l5,rfl,hown5,hsrt5,hmem5,hb5⟩;have hl5:l5=uq e:=uq_is hsrt5 hmem5 HU.out;subst hl5;have hul:=uq_len e;have hb05:=hbU.trans (hb5.mono (nZ hs0 hbU.size));have hs5:w.heap.size+1<=w5.heap.size:=nZ hs0 hb05.size;have hownQ5:=hown2u.below hb5;have hown5':=hown5.mono (nZ hs0 hbU.size);rcases hown5.shape with ⟨rfl,h0⟩|⟨g5,c5,rfl,hg5,hlt5,hn5,hc5⟩
     ·rw [h0] at hul;simp at hul
     have HUE:Hid ([slC] ++ ((uq e).take (uq e).length).map slM ++ [slP]=ndL e):=by unfold Hid;rw [HL.out,HY.out,List.take_length];rfl
     clear hown5 hsrt5 hmem5 hb5 hn5 hc5 hg5 hlt5;generalize uq e=U at *
     go_wp2_with fail
     go_loopw [3,5] (fun v i wr=>NdRel w W0 ([slC]) U (.slice (some ⟨g5,0,none⟩) U.length c5) v i wr) (fun _ i _=>U.length - (intOf i).toNat)
     case atStart=>exact ⟨0,nz,rfl,by simpa using hownQ5,hown5',hb05⟩
     case round =>
      clear hownQ5 hown5';obtain ⟨k,hk,rfl,hownr,hownU,hbr⟩:=hrel;have hsr:w.heap.size+1<=wr.heap.size:=nZ hs0 hbr.size
      have hlen:([slC] ++ (U.take k).map slM).length<=4:=by
       have:(U.take k).length<=2:=by rw [List.length_take];omega
       simp;omega
      by_cases hlt:k<U.length
      ·have hck:wr.cell? ⟨g5,k,none⟩=some (.string (getL U k)):=hownU.cell rfl hlt
       have HT:Hid ((U.take (k+1)).map slM=(U.take k).map slM ++ [slM (getL U k)]):=take_more hlt;have HUU:Hid (∀ (o:Obj) (w3:World),(wr.alloc o).grownBy w3 u3.ownBlock->OwnL w3 (w.heap.size+1) (.slice (some ⟨g5,0,none⟩) U.length c5) U):=fun o w3 hg3=>(hownU.below bA).grownX hg3 (own_ne hownr hownU)
       clear hownU;generalize (U.take k).map slM=T at *;generalize getL U k=s at *
       go_wp2_with (at_builtin;refine wpList_append_own _ rfl _ _ 35 rfl (w.heap.size+1) 76 i0 (.agg #[.string ByteArray.empty,.string ByteArray.empty]) 2 32 Tryz.underlying35 hi hz0 hz1 hz2 rfl (by decide) _ _ _ rfl (World.ownsRow.alloc hownr _) ⟨wr.heap.size,0,none⟩ 1 1 (encOL [slM s]) rfl rfl (one_cellsO _ _ _) (encOL_one _) (by have:=hlen;unfold maxLen;omega) (by have:=hlen;omega) (by simp;omega) ?_;intro vm wm hownmr hgrwm _;have hownm:OwnO wm (w.heap.size+1) vm (([slC] ++ T) ++ [slM s]):=OwnO.snoc (l:=[slC] ++ T) (k:=[slM s]) hownmr;have hbwm:Below (w.heap.size+1) W0 wm:=(hbr.alloc (by omega) _).grown hgrwm (by simp;omega) (fun q hq=>hownr.lt q hq);have hclwm:=HB.out _ hbwm;have hswm:w.heap.size+1<=wm.heap.size:=nZ hs0 hbwm.size)
       go_roundw
       case rel=>first|exact ⟨k+1,by omega,by go_num,by rw [HT.out,<- List.append_assoc];exact hownm,HUU.out _ _ hgrwm,hbwm⟩|((repeat apply Exists.intro);exact ⟨⟨k+1,by omega,by go_num,by rw [HT.out,<- List.append_assoc];exact hownm,HUU.out _ _ hgrwm,hbwm⟩,rfl⟩)
       simp [intOf];omega
      have hke:k=U.length:=by omega
      subst hke;generalize (U.take U.length).map slM=T at *
      go_wp2_with (at_builtin;refine wpList_append_own _ rfl _ _ 35 rfl (w.heap.size+1) 76 i0 (.agg #[.string ByteArray.empty,.string ByteArray.empty]) 2 32 Tryz.underlying35 hi hz0 hz1 hz2 rfl (by decide) _ _ _ rfl (World.ownsRow.alloc hownr _) ⟨wr.heap.size,0,none⟩ 1 1 (encOL [slP]) rfl rfl (one_cellsO _ _ _) (encOL_one _) (by have:=hlen;unfold maxLen;omega) (by have:=hlen;omega) (by simp;omega) ?_;intro vp wp hownpr hgrwp _;have hownp:OwnO wp (w.heap.size+1) vp (([slC] ++ T) ++ [slP]):=OwnO.snoc (l:=[slC] ++ T) (k:=[slP]) hownpr;have hbwp:Below (w.heap.size+1) W0 wp:=(hbr.alloc (by omega) _).grown hgrwp (by simp;omega) (fun q hq=>hownr.lt q hq);have hclwp:=HB.out _ hbwp;have hswp:w.heap.size+1<=wp.heap.size:=nZ hs0 hbwp.size)
      go_ret;exact ⟨_,rfl,by rw [<- HUE.out];exact hownp.mono (by omega),hb0.trans (hbwp.mono (by omega))⟩
    case true =>
     have HY:Hid (ndY e=[slJ]):=by unfold Hid ndY;rw [hm,hjn];rfl
     have hjn':(e.val.toList == [106,111,105,110])=true:=hjn;clear hm hjn
     go_wp2_with (first|(at_builtin;(refine wpList_append_own _ rfl _ _ 27 rfl (w.heap.size+1) 9 j0 (.string ByteArray.empty) 1 16 Tryz.underlying27 hj hj0 hj1 hj2 rfl (by decide) _ _ _ rfl (World.ownsRow.alloc (OwnL.one wj (w.heap.size+1) hswj e.sd) _) ⟨wj.heap.size+1,0,none⟩ 1 1 [.string e.key] rfl rfl (fun j u h=>by have:=one_cells (wj.alloc (.cells #[.string e.sd] 9)) (.string e.key) 9 j u h;simpa using this) (one_one _) (by show (2:Nat)<=maxLen;decide) (by show (2:Nat) * 16<=140737488355328;decide) (by simp;omega) ?_;intro vu wu hownur hgru _))|(at_builtin;refine wpList_append_own _ rfl _ _ 35 rfl (w.heap.size+1) 76 i0 (.agg #[.string ByteArray.empty,.string ByteArray.empty]) 2 32 Tryz.underlying35 hi hz0 hz1 hz2 rfl (by decide) _ _ _ rfl (World.ownsRow.alloc hown2 _) ⟨w2.heap.size,0,none⟩ 1 1 (encOL [slJ]) rfl rfl (one_cellsO _ _ _) (encOL_one _) (by show (2:Nat)<=maxLen;decide) (by show (2:Nat) * 32<=140737488355328;decide) (by simp;omega) ?_;intro vj wj hownjr hgrwj _;have hownj:OwnO wj (w.heap.size+1) vj ([slC,slJ]):=OwnO.snoc (l:=[slC]) (k:=[slJ]) hownjr;have hbwj:Below (w.heap.size+1) W0 wj:=(hbw2.alloc (by omega) _).grown hgrwj (by simp;omega) (fun q hq=>hown2.lt q hq);have hclwj:=HB.out _ hbwj;have hswj:w.heap.size+1<=wj.heap.size:=nZ hs0 hbwj.size;have hclUwj:=HB.out _ (hbwj.alloc hswj (.cells #[.string e.sd] 9)))|(at_builtin;refine wpList_append_own _ rfl _ _ 35 rfl (w.heap.size+1) 76 i0 (.agg #[.string ByteArray.empty,.string ByteArray.empty]) 2 32 Tryz.underlying35 hi hz0 hz1 hz2 rfl (by decide) _ _ _ rfl (World.ownsRow.alloc hown1 _) ⟨w1.heap.size,0,none⟩ 1 1 (encOL [slC]) rfl rfl (one_cellsO _ _ _) (encOL_one _) (by show (1:Nat)<=maxLen;decide) (by show (1:Nat) * 32<=140737488355328;decide) (by simp;omega) ?_;intro v2 w2 hown2r hgrw2 _;have hown2:OwnO w2 (w.heap.size+1) v2 ([slC]):=OwnO.snoc (l:=[]) (k:=[slC]) hown2r;have hbw2:Below (w.heap.size+1) W0 w2:=(hb01.alloc (by omega) _).grown hgrw2 (by simp;omega) (fun q hq=>hown1.lt q hq);have hclw2:=HB.out _ hbw2;have hsw2:w.heap.size+1<=w2.heap.size:=nZ hs0 hbw2.size;have hclUw2:=HB.out _ (hbw2.alloc hsw2 (.cells #[.string e.sd] 9))))
     have hownu:OwnL wu (w.heap.size+1) vu ([e.sd] ++ [e.key]):=OwnL.snoc hownur;have hbA:Below (w.heap.size+1) W0 ((wj.alloc (.cells #[.string e.sd] 9)).alloc (.cells #[.string e.key] 9)):=(hbwj.alloc hswj _).alloc (by simp;omega) _;have hgru2:((wj.alloc (.cells #[.string e.sd] 9)).alloc (.cells #[.string e.key] 9)).grownBy wu (some wj.heap.size):=hgru;have hbU:Below (w.heap.size+1) W0 wu:=hbA.grown hgru2 (by simp;omega) (fun q hq=>by injection hq with hq;omega)
     have hown2u:OwnO wu (w.heap.size+1) vj ([slC,slJ]):=((hownj.below bA).below bA).grownX hgru2 (fun q hq e1=>by
      have h1:q<wj.heap.size:=(World.ownsRow.lt hownj q hq).2;have h2:q=wj.heap.size:=by injection e1
      omega)
     obtain ⟨ua,uc,hue,hus,-⟩:=hownu.sl (fun s hs=>by
      rcases List.mem_append.1 hs with hs|hs
      ·rw [List.mem_singleton.1 hs];exact HE.out.1
      rw [List.mem_singleton.1 hs];exact HE.out.2)
     subst hue;clear hownur hgru hgru2 hbA;refine (l2s_sl _ (by show (2:Nat)<=1048576;decide) hus).mono ?_;rintro x w5 ⟨v5,l5,rfl,hown5,hsrt5,hmem5,hb5⟩;have hl5:l5=uq e:=uq_is hsrt5 hmem5 HU.out;subst hl5;have hul:=uq_len e;have hb05:=hbU.trans (hb5.mono (nZ hs0 hbU.size));have hs5:w.heap.size+1<=w5.heap.size:=nZ hs0 hb05.size;have hownQ5:=hown2u.below hb5;have hown5':=hown5.mono (nZ hs0 hbU.size);rcases hown5.shape with ⟨rfl,h0⟩|⟨g5,c5,rfl,hg5,hlt5,hn5,hc5⟩
     ·rw [h0] at hul;simp at hul
     have HUE:Hid ([slC,slJ] ++ ((uq e).take (uq e).length).map slM ++ [slP]=ndL e):=by unfold Hid;rw [HL.out,HY.out,List.take_length];rfl
     clear hown5 hsrt5 hmem5 hb5 hn5 hc5 hg5 hlt5;generalize uq e=U at *
     go_wp2_with fail
     go_loopw [3,5] (fun v i wr=>NdRel w W0 ([slC,slJ]) U (.slice (some ⟨g5,0,none⟩) U.length c5) v i wr) (fun _ i _=>U.length - (intOf i).toNat)
     case atStart=>exact ⟨0,nz,rfl,by simpa using hownQ5,hown5',hb05⟩
     case round =>
      clear hownQ5 hown5';obtain ⟨k,hk,rfl,hownr,hownU,hbr⟩:=hrel;have hsr:w.heap.size+1<=wr.heap.size:=nZ hs0 hbr.size
      have hlen:([slC,slJ] ++ (U.take k).map slM).length<=4:=by
       have:(U.take k).length<=2:=by rw [List.length_take];omega
       simp;omega
      by_cases hlt:k<U.length
      ·have hck:wr.cell? ⟨g5,k,none⟩=some (.string (getL U k)):=hownU.cell rfl hlt
       have HT:Hid ((U.take (k+1)).map slM=(U.take k).map slM ++ [slM (getL U k)]):=take_more hlt;have HUU:Hid (∀ (o:Obj) (w3:World),(wr.alloc o).grownBy w3 u3.ownBlock->OwnL w3 (w.heap.size+1) (.slice (some ⟨g5,0,none⟩) U.length c5) U):=fun o w3 hg3=>(hownU.below bA).grownX hg3 (own_ne hownr hownU)
       clear hownU;generalize (U.take k).map slM=T at *;generalize getL U k=s at *
       go_wp2_with (at_builtin;refine wpList_append_own _ rfl _ _ 35 rfl (w.heap.size+1) 76 i0 (.agg #[.string ByteArray.empty,.string ByteArray.empty]) 2 32 Tryz.underlying35 hi hz0 hz1 hz2 rfl (by decide) _ _ _ rfl (World.ownsRow.alloc hownr _) ⟨wr.heap.size,0,none⟩ 1 1 (encOL [slM s]) rfl rfl (one_cellsO _ _ _) (encOL_one _) (by have:=hlen;unfold maxLen;omega) (by have:=hlen;omega) (by simp;omega) ?_;intro vm wm hownmr hgrwm _;have hownm:OwnO wm (w.heap.size+1) vm (([slC,slJ] ++ T) ++ [slM s]):=OwnO.snoc (l:=[slC,slJ] ++ T) (k:=[slM s]) hownmr;have hbwm:Below (w.heap.size+1) W0 wm:=(hbr.alloc (by omega) _).grown hgrwm (by simp;omega) (fun q hq=>hownr.lt q hq);have hclwm:=HB.out _ hbwm;have hswm:w.heap.size+1<=wm.heap.size:=nZ hs0 hbwm.size)
       go_roundw
       case rel=>first|exact ⟨k+1,by omega,by go_num,by rw [HT.out,<- List.append_assoc];exact hownm,HUU.out _ _ hgrwm,hbwm⟩|((repeat apply Exists.intro);exact ⟨⟨k+1,by omega,by go_num,by rw [HT.out,<- List.append_assoc];exact hownm,HUU.out _ _ hgrwm,hbwm⟩,rfl⟩)
       simp [intOf];omega
      have hke:k=U.length:=by omega
      subst hke;generalize (U.take U.length).map slM=T at *
      go_wp2_with (at_builtin;refine wpList_append_own _ rfl _ _ 35 rfl (w.heap.size+1) 76 i0 (.agg #[.string ByteArray.empty,.string ByteArray.empty]) 2 32 Tryz.underlying35 hi hz0 hz1 hz2 rfl (by decide) _ _ _ rfl (World.ownsRow.alloc hownr _) ⟨wr.heap.size,0,none⟩ 1 1 (encOL [slP]) rfl rfl (one_cellsO _ _ _) (encOL_one _) (by have:=hlen;unfold maxLen;omega) (by have:=hlen;omega) (by simp;omega) ?_;intro vp wp hownpr hgrwp _;have hownp:OwnO wp (w.heap.size+1) vp (([slC,slJ] ++ T) ++ [slP]):=OwnO.snoc (l:=[slC,slJ] ++ T) (k:=[slP]) hownpr;have hbwp:Below (w.heap.size+1) W0 wp:=(hbr.alloc (by omega) _).grown hgrwp (by simp;omega) (fun q hq=>hownr.lt q hq);have hclwp:=HB.out _ hbwp;have hswp:w.heap.size+1<=wp.heap.size:=nZ hs0 hbwp.size)
      go_ret;exact ⟨_,rfl,by rw [<- HUE.out];exact hownp.mono (by omega),hb0.trans (hbwp.mono (by omega))⟩
variable {o cap:Nat}{a:Option Addr}{L:Nat->List Ent}
def RwE (w:World)(b o:Nat)(l:List Ent):Prop:=∃ sa sc,w.cell? ⟨b,o,none⟩=some (.slice sa l.length sc)∧SlE w sa sc l
theorem RwE.below (h:RwE w b o l)(hb:Below w.heap.size w w')(hlt:b<w.heap.size):RwE w' b o l:=by
 obtain ⟨sa,sc,h1,h2⟩:=h;exact ⟨sa,sc,(hb.cell (by exact hlt)).trans h1,h2.below hb⟩
structure SlEE (w:World)(a:Option Addr)(n cap:Nat)(L:Nat->List Ent):Prop where
 le:n<=cap
 max:cap<=maxLen
 cells:n=0∨∃ b off,a=some ⟨b,off,none⟩∧b<w.heap.size∧∀ i,i<n->RwE w b (off+i) (L i)
theorem SlEE.below (h:SlEE w a n cap L)(hb:Below w.heap.size w w'):SlEE w' a n cap L :=
 ⟨h.le,h.max,h.cells.imp id fun ⟨b,off,e,hlt,hc⟩=>⟨b,off,e,nT hlt hb.size,fun i hi=>(hc i hi).below hb hlt⟩⟩
theorem SlEE.ok (h:SlEE w a n cap L):∀ i,i<n->AllOk (L i):=fun i hi=>by
 rcases h.cells with h0|⟨b,off,_,_,hc⟩
 ·omega
 obtain ⟨_,_,_,h2⟩:=hc i hi;exact h2.ok
theorem Tryz.infoRowE:(Tryz.prog.info? 26).map (fun i=>(i.zero,i.size,i.bytes))=some (some (.slice none 0 0),1,24):=by kernel_rfl
end Go.Proofs.YtkdalopokdhndaaGreat
