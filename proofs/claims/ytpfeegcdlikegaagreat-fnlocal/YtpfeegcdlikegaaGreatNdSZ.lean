import Derived.Test.YtpfeegcdlikegaaGreatSrtOZ
set_option maxHeartbeats 16000000
set_option maxRecDepth 100000
namespace Go.Proofs.YtpfeegcdlikegaaGreat
open Go.RowKit Go.Proofs.Tryz
variable {e:Ev}{S:Nat->ByteArray}{b k n ca cg cp base:Nat}{w w':World}{v:Value}{l:List aE}{row:Option Nat}{aa ga pa:Option Addr}
theorem aH.one (w:World)(base:Nat)(hb:base<=w.heap.size)(s:ByteArray):aH (w.alloc (.cells #[.string s] 9)) base (.slice (some ⟨w.heap.size,0,none⟩) 1 1) [s] :=
 ⟨rfl,Or.inr ⟨w.heap.size,1,#[.string s],rfl,hb,by show (w.heap.push _)[w.heap.size]?=_;simp,nL,by decide,rfl,rfl⟩⟩
theorem xB (e:Ev):(uq e).length<=2/\1<=(uq e).length:=by
 unfold uq;split
 ·simp
 split <;> simp
theorem OD {l:List ByteArray}(G:pH l)(H:∀ s,s ∈ l↔∃ i,i<n/\S i=s)(u:∀ s,(∃ i,i<n/\S i=s)↔s=e.sd\/(bE e=true/\s=e.key)):l=uq e :=
 nN G (PU e) fun s=>by rw [H,u,pM]
theorem pU {l:List ByteArray}(u:k<l.length):(l.take (k+1)).map cW=(l.take k).map cW ++ [cW (aG l k)]:=by
 rw [List.take_add_one,iR u];simp
theorem aY.grownX (h:aY w base v l)(hg:w.grownBy w' row)(G:∀ q,v.ownBlock=some q->some q≠row):aY w' base v l:=by
 obtain ⟨O,I⟩:=h;refine ⟨O,?_⟩;rcases I with I|⟨g,cap,u,N,H,hh,r⟩
 ·exact Or.inl I
 have J:g<w.heap.size:=(Array.getElem?_eq_some_iff.1 hh).1;exact Or.inr ⟨g,cap,u,N,H,by rw [hg.block g J (G g (by rw [N];rfl))];exact hh,r⟩
theorem aH.grownX {l:List ByteArray}(h:aH w base v l)(hg:w.grownBy w' row)(G:∀ q,v.ownBlock=some q->some q≠row):aH w' base v l:=by
 obtain ⟨O,I⟩:=h;refine ⟨O,?_⟩;rcases I with I|⟨g,cap,u,N,H,hh,r⟩
 ·exact Or.inl I
 have J:g<w.heap.size:=(Array.getElem?_eq_some_iff.1 hh).1;exact Or.inr ⟨g,cap,u,N,H,by rw [hg.block g J (G g (by rw [N];rfl))];exact hh,r⟩
theorem DK {O:Nat}{I:Value}{U:List ByteArray}(h:aY w b v l)(Z:aH w O I U)(q:Nat)(hq:I.ownBlock=some q):some q≠v.ownBlock:=fun e=>by
 rcases h.2 with ⟨rfl,_⟩|⟨g,cap,J,rfl,_,hh,_⟩
 ·cases e
 rcases Z.2 with ⟨rfl,_⟩|⟨g',H,G,rfl,_,u,_⟩
 ·cases hq
 have Y:g'=q:=by simpa [Value.ownBlock] using hq
 have N:q=g:=by simpa [Value.ownBlock] using e
 subst Y N;rw [hh] at u;injection u with u
 injection u with _ u _
 exact absurd u (by decide)
def NU (w G:World)(Q:List aE)(U:List ByteArray)(u v i:Value)(wr:World):Prop:=∃ k:Nat,k<=U.length/\i=.int .i64 (k:Int)/\aY wr (w.heap.size+1) v (Q ++ (U.take k).map cW)/\aH wr (w.heap.size+1) u U/\Below (w.heap.size+1) G wr
theorem GL (e:Ev)(w:World)(he:cI w e pa cp aa ca ga cg) :
  Calls prog 83 #[e.val' pa cp aa ca ga cg] w (rM w e):=by
 obtain ⟨i0,hi,a5,a2,a6⟩:=info_parts Tryz.infoSlot;obtain ⟨j0,hj,dq,dn,dd⟩:=info_parts Tryz.infoString;obtain ⟨W0,cd⟩:∃ W0,W0=w.alloc (.cells (ec e pa cp aa ca ga cg) 30):=⟨_,rfl⟩;have br:Below w.heap.size w W0:=by rw [cd];exact bA
 have cz:W0.heap.size=w.heap.size+1:=by rw [cd];simp
 have J:w.heap.size+1<=W0.heap.size:=by omega
 have HB:He (∀ W,Below (w.heap.size+1) W0 W->∀ o,W.cell? ⟨w.heap.size,o,none⟩=((ec e pa cp aa ca ga cg):Array Value)[o]?):=fun W hW=>by subst cd;exact aK hW
 have cj:Below (w.heap.size+1) W0 (W0.alloc (.cells #[] 63)):=kB.alloc J _;have cx:aY (W0.alloc (.cells #[] 63)) (w.heap.size+1) (.slice (some ⟨W0.heap.size,0,none⟩) 0 0) []:=aY.new W0 _ J;rw [cz] at cx
 have db:He (∀ W,Below w.heap.size w W->Calls prog 13 #[e.val' pa cp aa ca ga cg] W fun x w'=>x=.returned (.int .i64 e.code)/\Below W.heap.size W w'):=fun W hW =>
  wW e.id e.sd e.ty e.key e.val e.st e.tm pa e.np cp aa e.na ca ga e.ng cg e.Pv e.Av e.M e.L _ he.hid he.hsd he.hty he.hkey he.hval (he.hp.below hW) (he.ha.below hW) (he.hg.below hW)
 have HE:He (e.sd.size<=maxLen/\e.key.size<=maxLen):=⟨he.hsd,he.hkey⟩;clear he
 go_enter func83,ntmps83
 go_wp2_with fail
 have cn:w.alloc (.cells (ec e pa cp aa ca ga cg) 30)=W0:=cd.symm;rw [cn];clear cn cd;have cv:=br.trans (cj.mono (by omega));refine (db.o _ cv).mono ?_;rintro x w1 ⟨rfl,cw⟩;have a4:=cj.trans (cw.mono (nZ J cj.size));have el:w.heap.size+1<=w1.heap.size:=nZ J a4.size;have ed:=HB.o _ a4;have ag:=cx.below cw;have ea:=br.trans (a4.mono (by omega));clear db cx cj cw cv
 by_cases hc:e.code=0
 case neg =>
  have hL:He (cD e=[]):=by unfold He cD;rw [if_neg hc]
  have en:(e.code != 0)=true:=by simpa using hc
  clear hc;go_wp2
  go_ret;exact ⟨_,rfl,by rw [hL.o];exact ag.mono (by omega),ea⟩
 case pos =>
  cases hcr:dV e
  case true =>
   have hL:He (cD e=[dM]):=by unfold He cD;rw [if_pos hc,hcr];rfl
   have dr:(e.ty.toList == [99,114,101,97,116,101])=true:=hcr;clear hcr
   go_wp2_with (at_builtin;refine wpList_append_own _ rfl _ _ 35 rfl (w.heap.size+1) 63 i0 (.agg #[.string ByteArray.empty,.string ByteArray.empty]) 2 32 underlying35 hi a5 a2 a6 rfl (by decide) _ _ _ rfl (World.ownsRow.alloc ag _) ⟨w1.heap.size,0,none⟩ 1 1 (aR [dM]) rfl rfl (bT _ _ _) (bN _) (by show (1:Nat)<=maxLen;decide) (by show (1:Nat) * 32<=140737488355328;decide) (by simp;omega) ?_;intro v2 w2 ae ao _;have af:aY w2 (w.heap.size+1) v2 ([dM]):=aY.snoc (l:=[]) (k:=[dM]) ae;have H:Below (w.heap.size+1) W0 w2:=(a4.alloc (by omega) _).grown ao (by simp;omega) (fun q hq=>ag.lt q hq);have bo:=HB.o _ H;have ah:w.heap.size+1<=w2.heap.size:=nZ J H.size;have bf:=HB.o _ (H.alloc ah (.cells #[.string e.sd] 9)))
   go_ret;exact ⟨_,rfl,by rw [hL.o];exact af.mono (by omega),br.trans (H.mono (by omega))⟩
  case false =>
   have dr:(e.ty.toList == [99,114,101,97,116,101])=false:=hcr;have HL:He (cD e=dM :: (jF e ++ (uq e).map cW ++ [gZ])):=by unfold He cD;rw [if_pos hc,hcr];rfl
   clear hcr;cases hm:bE e
   case false =>
    have dy:(e.ty.toList == [109,101,109,98,101,114])=false:=hm;have HY:He (jF e=[]):=by unfold He jF;rw [hm];rfl
    have HU:He (∀ s,(∃ i,i<1/\aG [e.sd] i=s)↔s=e.sd\/(bE e=true/\s=e.key)):=fun s=>by
     rw [hm];constructor
     ·rintro ⟨i,hi,rfl⟩
      have:i=0:=by omega
      subst this;exact Or.inl rfl
     rintro (rfl|⟨h1,_⟩)
     ·exact ⟨0,by decide,rfl⟩
     cases h1
    clear hm
    go_wp2_with (at_builtin;refine wpList_append_own _ rfl _ _ 35 rfl (w.heap.size+1) 63 i0 (.agg #[.string ByteArray.empty,.string ByteArray.empty]) 2 32 underlying35 hi a5 a2 a6 rfl (by decide) _ _ _ rfl (World.ownsRow.alloc ag _) ⟨w1.heap.size,0,none⟩ 1 1 (aR [dM]) rfl rfl (bT _ _ _) (bN _) (by show (1:Nat)<=maxLen;decide) (by show (1:Nat) * 32<=140737488355328;decide) (by simp;omega) ?_;intro v2 w2 ae ao _;have af:aY w2 (w.heap.size+1) v2 ([dM]):=aY.snoc (l:=[]) (k:=[dM]) ae;have H:Below (w.heap.size+1) W0 w2:=(a4.alloc (by omega) _).grown ao (by simp;omega) (fun q hq=>ag.lt q hq);have bo:=HB.o _ H;have ah:w.heap.size+1<=w2.heap.size:=nZ J H.size;have bf:=HB.o _ (H.alloc ah (.cells #[.string e.sd] 9)))
    have bc:Below (w.heap.size+1) W0 (w2.alloc (.cells #[.string e.sd] 9)):=H.alloc ah _;obtain ⟨ua,uc,ce,bt,-⟩:=(aH.one w2 (w.heap.size+1) ah e.sd).sl (fun s hs=>by rw [List.mem_singleton.1 hs];exact HE.o.1);injection ce with d8 dx d2
    subst d8 d2;clear dx;have au:aY (w2.alloc (.cells #[.string e.sd] 9)) (w.heap.size+1) v2 ([dM]):=af.below bA;refine (lP _ (by show (1:Nat)<=1048576;decide) bt).mono ?_;rintro x w5 ⟨v5,l5,rfl,O,am,ai,a8⟩;have bv:l5=uq e:=OD am ai HU.o;subst bv;have bk:=xB e;have ay:=bc.trans (a8.mono (nZ J bc.size));have dt:w.heap.size+1<=w5.heap.size:=nZ J ay.size;have ad:=au.below a8;have Z:=O.mono (nZ J bc.size);rcases O.shape with ⟨rfl,h0⟩|⟨g5,c5,rfl,bw,bm,cb,ch⟩
    ·rw [h0] at bk;simp at bk
    have b6:He ([dM] ++ ((uq e).take (uq e).length).map cW ++ [gZ]=cD e):=by unfold He;rw [HL.o,HY.o,List.take_length];rfl
    clear O am ai a8 cb ch bw bm;generalize uq e=U at *
    go_wp2_with fail
    go_loopw [3,5] (fun v i wr=>NU w W0 ([dM]) U (.slice (some ⟨g5,0,none⟩) U.length c5) v i wr) (fun _ i _=>U.length - (intOf i).toNat)
    case atStart=>exact ⟨0,nz,rfl,by simpa using ad,Z,ay⟩
    case round =>
     clear ad Z;obtain ⟨k,hk,rfl,G,I,a3⟩:=hrel;have ds:w.heap.size+1<=wr.heap.size:=nZ J a3.size
     have ab:([dM] ++ (U.take k).map cW).length<=4:=by
      have:(U.take k).length<=2:=by rw [List.length_take];omega
      simp;omega
     by_cases bi:k<U.length
     ·have da:wr.cell? ⟨g5,k,none⟩=some (.string (aG U k)):=I.cell rfl bi
      have HT:He ((U.take (k+1)).map cW=(U.take k).map cW ++ [cW (aG U k)]):=pU bi;have bh:He (∀ (o:Obj) (w3:World),(wr.alloc o).grownBy w3 u3.ownBlock->aH w3 (w.heap.size+1) (.slice (some ⟨g5,0,none⟩) U.length c5) U):=fun o w3 cc=>(I.below bA).grownX cc (DK G I)
      clear I;generalize (U.take k).map cW=T at *;generalize aG U k=s at *
      go_wp2_with (at_builtin;refine wpList_append_own _ rfl _ _ 35 rfl (w.heap.size+1) 63 i0 (.agg #[.string ByteArray.empty,.string ByteArray.empty]) 2 32 underlying35 hi a5 a2 a6 rfl (by decide) _ _ _ rfl (World.ownsRow.alloc G _) ⟨wr.heap.size,0,none⟩ 1 1 (aR [cW s]) rfl rfl (bT _ _ _) (bN _) (by have:=ab;unfold maxLen;omega) (by have:=ab;omega) (by simp;omega) ?_;intro vm wm aw N _;have aj:aY wm (w.heap.size+1) vm (([dM] ++ T) ++ [cW s]):=aY.snoc (l:=[dM] ++ T) (k:=[cW s]) aw;have Y:Below (w.heap.size+1) W0 wm:=(a3.alloc (by omega) _).grown N (by simp;omega) (fun q hq=>G.lt q hq);have b7:=HB.o _ Y;have co:w.heap.size+1<=wm.heap.size:=nZ J Y.size)
      go_roundw
      case rel=>first|exact ⟨k+1,by omega,by go_num,by rw [HT.o,<- List.append_assoc];exact aj,bh.o _ _ N,Y⟩|((repeat apply Exists.intro);exact ⟨⟨k+1,by omega,by go_num,by rw [HT.o,<- List.append_assoc];exact aj,bh.o _ _ N,Y⟩,rfl⟩)
      simp [intOf];omega
     have b8:k=U.length:=by omega
     subst b8;generalize (U.take U.length).map cW=T at *
     go_wp2_with (at_builtin;refine wpList_append_own _ rfl _ _ 35 rfl (w.heap.size+1) 63 i0 (.agg #[.string ByteArray.empty,.string ByteArray.empty]) 2 32 underlying35 hi a5 a2 a6 rfl (by decide) _ _ _ rfl (World.ownsRow.alloc G _) ⟨wr.heap.size,0,none⟩ 1 1 (aR [gZ]) rfl rfl (bT _ _ _) (bN _) (by have:=ab;unfold maxLen;omega) (by have:=ab;omega) (by simp;omega) ?_;intro vp wp ax ba _;have bb:aY wp (w.heap.size+1) vp (([dM] ++ T) ++ [gZ]):=aY.snoc (l:=[dM] ++ T) (k:=[gZ]) ax;have ak:Below (w.heap.size+1) W0 wp:=(a3.alloc (by omega) _).grown ba (by simp;omega) (fun q hq=>G.lt q hq);have b0:=HB.o _ ak;have cu:w.heap.size+1<=wp.heap.size:=nZ J ak.size)
     go_ret;exact ⟨_,rfl,by rw [<- b6.o];exact bb.mono (by omega),br.trans (ak.mono (by omega))⟩
   case true =>
    have dy:(e.ty.toList == [109,101,109,98,101,114])=true:=hm
    have HU:He (∀ s,(∃ i,i<2/\aG ([e.sd] ++ [e.key]) i=s)↔s=e.sd\/(bE e=true/\s=e.key)):=fun s=>by
     rw [hm];constructor
     ·rintro ⟨i,hi,rfl⟩
      match i,hi with
      | 0,_=>exact Or.inl rfl
      | 1,_=>exact Or.inr ⟨rfl,rfl⟩
     rintro (rfl|⟨_,rfl⟩)
     ·exact ⟨0,by decide,rfl⟩
     exact ⟨1,by decide,rfl⟩
    cases hjn:eZ e
    case false =>
     have HY:He (jF e=[]):=by unfold He jF;rw [hm,hjn];rfl
     have dl:(e.val.toList == [106,111,105,110])=false:=hjn;clear hm hjn
     go_wp2_with (first|(at_builtin;(refine wpList_append_own _ rfl _ _ 27 rfl (w.heap.size+1) 9 j0 (.string ByteArray.empty) 1 16 underlying27 hj dq dn dd rfl (by decide) _ _ _ rfl (World.ownsRow.alloc (aH.one w2 (w.heap.size+1) ah e.sd) _) ⟨w2.heap.size+1,0,none⟩ 1 1 [.string e.key] rfl rfl (fun j u h=>by have:=aV (w2.alloc (.cells #[.string e.sd] 9)) (.string e.key) 9 j u h;simpa using this) (bL _) (by show (2:Nat)<=maxLen;decide) (by show (2:Nat) * 16<=140737488355328;decide) (by simp;omega) ?_;intro vu wu aq bg _))|(at_builtin;refine wpList_append_own _ rfl _ _ 35 rfl (w.heap.size+1) 63 i0 (.agg #[.string ByteArray.empty,.string ByteArray.empty]) 2 32 underlying35 hi a5 a2 a6 rfl (by decide) _ _ _ rfl (World.ownsRow.alloc ag _) ⟨w1.heap.size,0,none⟩ 1 1 (aR [dM]) rfl rfl (bT _ _ _) (bN _) (by show (1:Nat)<=maxLen;decide) (by show (1:Nat) * 32<=140737488355328;decide) (by simp;omega) ?_;intro v2 w2 ae ao _;have af:aY w2 (w.heap.size+1) v2 ([dM]):=aY.snoc (l:=[]) (k:=[dM]) ae;have H:Below (w.heap.size+1) W0 w2:=(a4.alloc (by omega) _).grown ao (by simp;omega) (fun q hq=>ag.lt q hq);have bo:=HB.o _ H;have ah:w.heap.size+1<=w2.heap.size:=nZ J H.size;have bf:=HB.o _ (H.alloc ah (.cells #[.string e.sd] 9))))
     have bn:aH wu (w.heap.size+1) vu ([e.sd] ++ [e.key]):=aH.snoc aq;have cf:Below (w.heap.size+1) W0 ((w2.alloc (.cells #[.string e.sd] 9)).alloc (.cells #[.string e.key] 9)):=(H.alloc ah _).alloc (by simp;omega) _;have ap:((w2.alloc (.cells #[.string e.sd] 9)).alloc (.cells #[.string e.key] 9)).grownBy wu (some w2.heap.size):=bg;have bc:Below (w.heap.size+1) W0 wu:=cf.grown ap (by simp;omega) (fun q hq=>by injection hq with hq;omega)
     have au:aY wu (w.heap.size+1) v2 ([dM]):=((af.below bA).below bA).grownX ap (fun q hq e1=>by
      have h1:q<w2.heap.size:=(World.ownsRow.lt af q hq).2;have h2:q=w2.heap.size:=by injection e1
      omega)
     obtain ⟨ua,uc,ce,bt,-⟩:=bn.sl (fun s hs=>by
      rcases List.mem_append.1 hs with hs|hs
      ·rw [List.mem_singleton.1 hs];exact HE.o.1
      rw [List.mem_singleton.1 hs];exact HE.o.2)
     subst ce;clear aq bg ap cf;refine (lP _ (by show (2:Nat)<=1048576;decide) bt).mono ?_;rintro x w5 ⟨v5,l5,rfl,O,am,ai,a8⟩;have bv:l5=uq e:=OD am ai HU.o;subst bv;have bk:=xB e;have ay:=bc.trans (a8.mono (nZ J bc.size));have dt:w.heap.size+1<=w5.heap.size:=nZ J ay.size;have ad:=au.below a8;have Z:=O.mono (nZ J bc.size);rcases O.shape with ⟨rfl,h0⟩|⟨g5,c5,rfl,bw,bm,cb,ch⟩
     ·rw [h0] at bk;simp at bk
     have b6:He ([dM] ++ ((uq e).take (uq e).length).map cW ++ [gZ]=cD e):=by unfold He;rw [HL.o,HY.o,List.take_length];rfl
     clear O am ai a8 cb ch bw bm;generalize uq e=U at *
     go_wp2_with fail
     go_loopw [3,5] (fun v i wr=>NU w W0 ([dM]) U (.slice (some ⟨g5,0,none⟩) U.length c5) v i wr) (fun _ i _=>U.length - (intOf i).toNat)
     case atStart=>exact ⟨0,nz,rfl,by simpa using ad,Z,ay⟩
     case round =>
      clear ad Z;obtain ⟨k,hk,rfl,G,I,a3⟩:=hrel;have ds:w.heap.size+1<=wr.heap.size:=nZ J a3.size
      have ab:([dM] ++ (U.take k).map cW).length<=4:=by
       have:(U.take k).length<=2:=by rw [List.length_take];omega
       simp;omega
      by_cases bi:k<U.length
      ·have da:wr.cell? ⟨g5,k,none⟩=some (.string (aG U k)):=I.cell rfl bi
       have HT:He ((U.take (k+1)).map cW=(U.take k).map cW ++ [cW (aG U k)]):=pU bi;have bh:He (∀ (o:Obj) (w3:World),(wr.alloc o).grownBy w3 u3.ownBlock->aH w3 (w.heap.size+1) (.slice (some ⟨g5,0,none⟩) U.length c5) U):=fun o w3 cc=>(I.below bA).grownX cc (DK G I)
       clear I;generalize (U.take k).map cW=T at *;generalize aG U k=s at *
       go_wp2_with (at_builtin;refine wpList_append_own _ rfl _ _ 35 rfl (w.heap.size+1) 63 i0 (.agg #[.string ByteArray.empty,.string ByteArray.empty]) 2 32 underlying35 hi a5 a2 a6 rfl (by decide) _ _ _ rfl (World.ownsRow.alloc G _) ⟨wr.heap.size,0,none⟩ 1 1 (aR [cW s]) rfl rfl (bT _ _ _) (bN _) (by have:=ab;unfold maxLen;omega) (by have:=ab;omega) (by simp;omega) ?_;intro vm wm aw N _;have aj:aY wm (w.heap.size+1) vm (([dM] ++ T) ++ [cW s]):=aY.snoc (l:=[dM] ++ T) (k:=[cW s]) aw;have Y:Below (w.heap.size+1) W0 wm:=(a3.alloc (by omega) _).grown N (by simp;omega) (fun q hq=>G.lt q hq);have b7:=HB.o _ Y;have co:w.heap.size+1<=wm.heap.size:=nZ J Y.size)
       go_roundw
       case rel=>first|exact ⟨k+1,by omega,by go_num,by rw [HT.o,<- List.append_assoc];exact aj,bh.o _ _ N,Y⟩|((repeat apply Exists.intro);exact ⟨⟨k+1,by omega,by go_num,by rw [HT.o,<- List.append_assoc];exact aj,bh.o _ _ N,Y⟩,rfl⟩)
       simp [intOf];omega
      have b8:k=U.length:=by omega
      subst b8;generalize (U.take U.length).map cW=T at *
      go_wp2_with (at_builtin;refine wpList_append_own _ rfl _ _ 35 rfl (w.heap.size+1) 63 i0 (.agg #[.string ByteArray.empty,.string ByteArray.empty]) 2 32 underlying35 hi a5 a2 a6 rfl (by decide) _ _ _ rfl (World.ownsRow.alloc G _) ⟨wr.heap.size,0,none⟩ 1 1 (aR [gZ]) rfl rfl (bT _ _ _) (bN _) (by have:=ab;unfold maxLen;omega) (by have:=ab;omega) (by simp;omega) ?_;intro vp wp ax ba _;have bb:aY wp (w.heap.size+1) vp (([dM] ++ T) ++ [gZ]):=aY.snoc (l:=[dM] ++ T) (k:=[gZ]) ax;have ak:Below (w.heap.size+1) W0 wp:=(a3.alloc (by omega) _).grown ba (by simp;omega) (fun q hq=>G.lt q hq);have b0:=HB.o _ ak;have cu:w.heap.size+1<=wp.heap.size:=nZ J ak.size)
      go_ret;exact ⟨_,rfl,by rw [<- b6.o];exact bb.mono (by omega),br.trans (ak.mono (by omega))⟩
    case true =>
     have HY:He (jF e=[pK]):=by unfold He jF;rw [hm,hjn];rfl
     have dl:(e.val.toList == [106,111,105,110])=true:=hjn;clear hm hjn
     go_wp2_with (first|(at_builtin;(refine wpList_append_own _ rfl _ _ 27 rfl (w.heap.size+1) 9 j0 (.string ByteArray.empty) 1 16 underlying27 hj dq dn dd rfl (by decide) _ _ _ rfl (World.ownsRow.alloc (aH.one wj (w.heap.size+1) b9 e.sd) _) ⟨wj.heap.size+1,0,none⟩ 1 1 [.string e.key] rfl rfl (fun j u h=>by have:=aV (wj.alloc (.cells #[.string e.sd] 9)) (.string e.key) 9 j u h;simpa using this) (bL _) (by show (2:Nat)<=maxLen;decide) (by show (2:Nat) * 16<=140737488355328;decide) (by simp;omega) ?_;intro vu wu aq bg _))|(at_builtin;refine wpList_append_own _ rfl _ _ 35 rfl (w.heap.size+1) 63 i0 (.agg #[.string ByteArray.empty,.string ByteArray.empty]) 2 32 underlying35 hi a5 a2 a6 rfl (by decide) _ _ _ rfl (World.ownsRow.alloc af _) ⟨w2.heap.size,0,none⟩ 1 1 (aR [pK]) rfl rfl (bT _ _ _) (bN _) (by show (2:Nat)<=maxLen;decide) (by show (2:Nat) * 32<=140737488355328;decide) (by simp;omega) ?_;intro vj wj cl cy _;have b5:aY wj (w.heap.size+1) vj ([dM,pK]):=aY.snoc (l:=[dM]) (k:=[pK]) cl;have bp:Below (w.heap.size+1) W0 wj:=(H.alloc (by omega) _).grown cy (by simp;omega) (fun q hq=>af.lt q hq);have d7:=HB.o _ bp;have b9:w.heap.size+1<=wj.heap.size:=nZ J bp.size;have dv:=HB.o _ (bp.alloc b9 (.cells #[.string e.sd] 9)))|(at_builtin;refine wpList_append_own _ rfl _ _ 35 rfl (w.heap.size+1) 63 i0 (.agg #[.string ByteArray.empty,.string ByteArray.empty]) 2 32 underlying35 hi a5 a2 a6 rfl (by decide) _ _ _ rfl (World.ownsRow.alloc ag _) ⟨w1.heap.size,0,none⟩ 1 1 (aR [dM]) rfl rfl (bT _ _ _) (bN _) (by show (1:Nat)<=maxLen;decide) (by show (1:Nat) * 32<=140737488355328;decide) (by simp;omega) ?_;intro v2 w2 ae ao _;have af:aY w2 (w.heap.size+1) v2 ([dM]):=aY.snoc (l:=[]) (k:=[dM]) ae;have H:Below (w.heap.size+1) W0 w2:=(a4.alloc (by omega) _).grown ao (by simp;omega) (fun q hq=>ag.lt q hq);have bo:=HB.o _ H;have ah:w.heap.size+1<=w2.heap.size:=nZ J H.size;have bf:=HB.o _ (H.alloc ah (.cells #[.string e.sd] 9))))
     have bn:aH wu (w.heap.size+1) vu ([e.sd] ++ [e.key]):=aH.snoc aq;have cf:Below (w.heap.size+1) W0 ((wj.alloc (.cells #[.string e.sd] 9)).alloc (.cells #[.string e.key] 9)):=(bp.alloc b9 _).alloc (by simp;omega) _;have ap:((wj.alloc (.cells #[.string e.sd] 9)).alloc (.cells #[.string e.key] 9)).grownBy wu (some wj.heap.size):=bg;have bc:Below (w.heap.size+1) W0 wu:=cf.grown ap (by simp;omega) (fun q hq=>by injection hq with hq;omega)
     have au:aY wu (w.heap.size+1) vj ([dM,pK]):=((b5.below bA).below bA).grownX ap (fun q hq e1=>by
      have h1:q<wj.heap.size:=(World.ownsRow.lt b5 q hq).2;have h2:q=wj.heap.size:=by injection e1
      omega)
     obtain ⟨ua,uc,ce,bt,-⟩:=bn.sl (fun s hs=>by
      rcases List.mem_append.1 hs with hs|hs
      ·rw [List.mem_singleton.1 hs];exact HE.o.1
      rw [List.mem_singleton.1 hs];exact HE.o.2)
     subst ce;clear aq bg ap cf;refine (lP _ (by show (2:Nat)<=1048576;decide) bt).mono ?_;rintro x w5 ⟨v5,l5,rfl,O,am,ai,a8⟩;have bv:l5=uq e:=OD am ai HU.o;subst bv;have bk:=xB e;have ay:=bc.trans (a8.mono (nZ J bc.size));have dt:w.heap.size+1<=w5.heap.size:=nZ J ay.size;have ad:=au.below a8;have Z:=O.mono (nZ J bc.size);rcases O.shape with ⟨rfl,h0⟩|⟨g5,c5,rfl,bw,bm,cb,ch⟩
     ·rw [h0] at bk;simp at bk
     have b6:He ([dM,pK] ++ ((uq e).take (uq e).length).map cW ++ [gZ]=cD e):=by unfold He;rw [HL.o,HY.o,List.take_length];rfl
     clear O am ai a8 cb ch bw bm;generalize uq e=U at *
     go_wp2_with fail
     go_loopw [3,5] (fun v i wr=>NU w W0 ([dM,pK]) U (.slice (some ⟨g5,0,none⟩) U.length c5) v i wr) (fun _ i _=>U.length - (intOf i).toNat)
     case atStart=>exact ⟨0,nz,rfl,by simpa using ad,Z,ay⟩
     case round =>
      clear ad Z;obtain ⟨k,hk,rfl,G,I,a3⟩:=hrel;have ds:w.heap.size+1<=wr.heap.size:=nZ J a3.size
      have ab:([dM,pK] ++ (U.take k).map cW).length<=4:=by
       have:(U.take k).length<=2:=by rw [List.length_take];omega
       simp;omega
      by_cases bi:k<U.length
      ·have da:wr.cell? ⟨g5,k,none⟩=some (.string (aG U k)):=I.cell rfl bi
       have HT:He ((U.take (k+1)).map cW=(U.take k).map cW ++ [cW (aG U k)]):=pU bi;have bh:He (∀ (o:Obj) (w3:World),(wr.alloc o).grownBy w3 u3.ownBlock->aH w3 (w.heap.size+1) (.slice (some ⟨g5,0,none⟩) U.length c5) U):=fun o w3 cc=>(I.below bA).grownX cc (DK G I)
       clear I;generalize (U.take k).map cW=T at *;generalize aG U k=s at *
       go_wp2_with (at_builtin;refine wpList_append_own _ rfl _ _ 35 rfl (w.heap.size+1) 63 i0 (.agg #[.string ByteArray.empty,.string ByteArray.empty]) 2 32 underlying35 hi a5 a2 a6 rfl (by decide) _ _ _ rfl (World.ownsRow.alloc G _) ⟨wr.heap.size,0,none⟩ 1 1 (aR [cW s]) rfl rfl (bT _ _ _) (bN _) (by have:=ab;unfold maxLen;omega) (by have:=ab;omega) (by simp;omega) ?_;intro vm wm aw N _;have aj:aY wm (w.heap.size+1) vm (([dM,pK] ++ T) ++ [cW s]):=aY.snoc (l:=[dM,pK] ++ T) (k:=[cW s]) aw;have Y:Below (w.heap.size+1) W0 wm:=(a3.alloc (by omega) _).grown N (by simp;omega) (fun q hq=>G.lt q hq);have b7:=HB.o _ Y;have co:w.heap.size+1<=wm.heap.size:=nZ J Y.size)
       go_roundw
       case rel=>first|exact ⟨k+1,by omega,by go_num,by rw [HT.o,<- List.append_assoc];exact aj,bh.o _ _ N,Y⟩|((repeat apply Exists.intro);exact ⟨⟨k+1,by omega,by go_num,by rw [HT.o,<- List.append_assoc];exact aj,bh.o _ _ N,Y⟩,rfl⟩)
       simp [intOf];omega
      have b8:k=U.length:=by omega
      subst b8;generalize (U.take U.length).map cW=T at *
      go_wp2_with (at_builtin;refine wpList_append_own _ rfl _ _ 35 rfl (w.heap.size+1) 63 i0 (.agg #[.string ByteArray.empty,.string ByteArray.empty]) 2 32 underlying35 hi a5 a2 a6 rfl (by decide) _ _ _ rfl (World.ownsRow.alloc G _) ⟨wr.heap.size,0,none⟩ 1 1 (aR [gZ]) rfl rfl (bT _ _ _) (bN _) (by have:=ab;unfold maxLen;omega) (by have:=ab;omega) (by simp;omega) ?_;intro vp wp ax ba _;have bb:aY wp (w.heap.size+1) vp (([dM,pK] ++ T) ++ [gZ]):=aY.snoc (l:=[dM,pK] ++ T) (k:=[gZ]) ax;have ak:Below (w.heap.size+1) W0 wp:=(a3.alloc (by omega) _).grown ba (by simp;omega) (fun q hq=>G.lt q hq);have b0:=HB.o _ ak;have cu:w.heap.size+1<=wp.heap.size:=nZ J ak.size)
      go_ret;exact ⟨_,rfl,by rw [<- b6.o];exact bb.mono (by omega),br.trans (ak.mono (by omega))⟩
variable {cap:Nat}{a:Option Addr}
def YO (w:World)(b o:Nat)(l:List aE):Prop:=∃ sa sc,w.cell? ⟨b,o,none⟩=some (.slice sa l.length sc)/\dF w sa sc l
theorem YO.below {o:Nat}(h:YO w b o l)(hb:Below w.heap.size w w')(u:b<w.heap.size):YO w' b o l:=by
 obtain ⟨sa,sc,G,H⟩:=h;exact ⟨sa,sc,(hb.cell (by exact u)).trans G,H.below hb⟩
structure jN (w:World)(a:Option Addr)(n cap:Nat)(L:Nat->List aE):Prop where
 le:n<=cap
 max:cap<=maxLen
 cells:n=0\/∃ b off,a=some ⟨b,off,none⟩/\b<w.heap.size/\∀ i,i<n->YO w b (off+i) (L i)
theorem jN.below {L:Nat->List aE}(h:jN w a n cap L)(hb:Below w.heap.size w w'):jN w' a n cap L :=
 ⟨h.le,h.max,h.cells.imp id fun ⟨b,off,e,u,G⟩=>⟨b,off,e,nT u hb.size,fun i hi=>(G i hi).below hb u⟩⟩
theorem jN.ok {L:Nat->List aE}(h:jN w a n cap L):∀ i,i<n->bK (L i):=fun i hi=>by
 rcases h.cells with H|⟨b,off,_,_,G⟩
 ·omega
 obtain ⟨_,_,_,u⟩:=G i hi;exact u.ok
theorem Tryz.infoRowE:(prog.info? 26).map (fun i=>(i.zero,i.size,i.bytes))=some (some (.slice none 0 0),1,24):=by kernel_rfl
theorem TH (a:Option Addr)(cap:Nat)(L:Nat->List aE)(x:aE)(w:World) :
  Calls prog 166 #[.slice a 0 cap,eS x] w fun e w'=>e=.returned (.bool (eH L x 0))/\Below w.heap.size w w':=by
 go_enter func166,ntmps166
 go_wp2
 refine wp_loop_rounds 1 ?_;rw [rounds_succ];go_wp2
 go_ret;exact ⟨rfl,bA⟩
theorem WQ (b off n cap:Nat)(L:Nat->List aE)(x:aE)(w:World)(hn:n<=maxLen)(hb:b<w.heap.size)(hc:∀ i,i<n->YO w b (off+i) (L i)) :
  Calls prog 166 #[.slice (some ⟨b,off,none⟩) n cap,eS x] w fun e w'=>e=.returned (.bool (eH L x n))/\Below w.heap.size w w':=by
 unfold maxLen at hn;obtain ⟨O,J⟩:∃ O,O=w.alloc (.cells #[.string x.ty,.string x.key,.string x.id] 66):=⟨_,rfl⟩;have ab:Below w.heap.size w O:=by rw [J];exact bA
 have bb:O.heap.size=w.heap.size+1:=by rw [J];simp
 have N:He (∀ wx,Below (w.heap.size+1) O wx->∀ o,wx.cell? ⟨w.heap.size,o,none⟩=(#[.string x.ty,.string x.key,.string x.id]:Array Value)[o]?):=fun wx hx=>by subst J;exact aK hx
 have Hc:He (_):=hc;clear hc
 go_enter func166,ntmps166
 go_wp2_with fail
 rw [<- J];clear J
 go_loopw [5] (fun i wr=>∃ k:Nat,k<=n/\i=.int .i64 k/\He (eH L x k=true)/\Below (w.heap.size+1) O wr) (fun i _=>n - (intOf i).toNat)
 case atStart=>exact ⟨0,nz,rfl,rfl,kB⟩
 case round =>
  obtain ⟨k,hk,rfl,H,hB⟩:=hrel;have ag:=ab.trans (hB.mono (by omega));have ai:w.heap.size+1<=wr.heap.size:=by have:=hB.size;omega
  by_cases am:k<n
  ·obtain ⟨sa,sc,c1,aj⟩:=(Hc.o k am).below ag hb
   have c0:=N.o _ hB 0;have c2:=N.o _ hB 1;have c3:=N.o _ hB 2;obtain ⟨f,hf⟩:∃ f,f=aQ (L k) x.ty x.key:=⟨_,rfl⟩
   have HF:He (∀ W,Below wr.heap.size wr W->Calls prog 25 #[.slice sa (L k).length sc,.string x.ty,.string x.key] W fun e w'=>e=.returned (.string f)/\Below wr.heap.size wr w'):=fun W Z=>by
    rw [hf];exact (iL x.ty x.key W (aj.below Z)).mono fun e w' ⟨h1,h2⟩=>⟨h1,Z.trans (h2.mono Z.size)⟩
   have ax:He (∀ W,Below wr.heap.size wr W->W.cell? ⟨w.heap.size,2,none⟩=some (.string x.id)):=fun W Z=>N.o _ (hB.trans (Z.mono ai)) 2
   have ak:He (∀ W,Below wr.heap.size wr W->Below (w.heap.size+1) O W):=fun W Z=>hB.trans (Z.mono ai)
   obtain ⟨bq,ah⟩:∃ bq:Bool,bq=(f.toList != x.id.toList):=⟨_,rfl⟩;have aq:Below wr.heap.size wr wr:=kB;have U:w.heap.size<wr.heap.size:=by omega
   have ap:b<wr.heap.size:=by have:=ab.size;omega
   have Hf:He (f=aQ (L k) x.ty x.key):=hf;have y0:wr.cell? ⟨w.heap.size,0,none⟩=some (.string x.ty):=c0;have y1:wr.cell? ⟨w.heap.size,1,none⟩=some (.string x.key):=c2;have y2:wr.cell? ⟨w.heap.size,2,none⟩=some (.string x.id):=c3;have i0:(0:Int)<=(k:Int):=by omega
   have i1:(k:Int)<(n:Int):=by omega
   have I:He (bq=(f.toList != x.id.toList)):=ah;clear hf aj c0 c2 c3 ah
   go_wp2_with fail
   go_cut [23] from 12 to 24 (fun v wx=>v=.bool bq/\Below wr.heap.size wr wx)
   case first =>
    go_region_held3 (fun W=>W.cell? ⟨b,off+k,none⟩=some (.slice sa (L k).length sc)/\W.cell? ⟨w.heap.size,0,none⟩=some (.string x.ty)/\W.cell? ⟨w.heap.size,1,none⟩=some (.string x.key)/\W.cell? ⟨w.heap.size,2,none⟩=some (.string x.id))
     (first|(with_reducible exact ⟨c1,y0,y1,y2⟩)|go_keep)
     ((go_at_call 25;refine (HF.o _ (by with_reducible (repeat refine .drew ?_);exact aq)).mono ?_;rintro e w5 ⟨rfl,u⟩;have a6:=(u.cell (by exact ap)).trans c1;have a8:=(u.cell (by exact U)).trans y0;have bf:=(u.cell (by exact U)).trans y1;have ba:=(u.cell (by exact U)).trans y2))
    all_goals (try go_wp2_with fail)
    all_goals go_meet
    all_goals (rw [I.o];exact ⟨rfl,by first|exact u|exact u.drew|exact u.drew.drew⟩)
   case rest =>
    obtain ⟨rfl,u⟩:=hcut;have Y:=ak.o _ u;cases bq
    case false =>
     have G:He (eH L x (k+1)=true):=by
      have h1:=I.o
      have h2:(f.toList == x.id.toList)=true:=by
       cases h3:(f.toList == x.id.toList)
       ·simp [bne,h3] at h1
       rfl
      unfold He;rw [eH,H.o,<- Hf.o,h2];rfl
     clear H I Hf;go_wp2
     go_roundw
     case rel=>first|exact ⟨k+1,by omega,by go_num,G,Y⟩|((repeat apply Exists.intro);exact ⟨⟨k+1,by omega,by go_num,G,Y⟩,rfl⟩)
     simp [intOf];omega
    case true =>
     have G:He (Ending.returned (.bool false)=.returned (.bool (eH L x n))):=by
      have h1:=I.o
      have h2:(f.toList == x.id.toList)=false:=by
       cases h3:(f.toList == x.id.toList)
       ·rfl
       simp [bne,h3] at h1
      have:eH L x (k+1)=false:=by rw [eH,<- Hf.o,h2,Bool.and_false]
      unfold He;rw [IC L x n k am this]
     clear H I Hf;go_wp2
     go_ret;exact ⟨G.o,ab.trans (Y.mono (by omega))⟩
  have au:k=n:=by omega
  subst au;have G:He (Ending.returned (.bool true)=.returned (.bool (eH L x k))):=by unfold He;rw [H.o]
  clear H;go_wp2
  go_ret;exact ⟨G.o,ag⟩
theorem ZL {L:Nat->List aE}(x:aE)(w:World)(h:jN w a n cap L) :
  Calls prog 166 #[.slice a n cap,eS x] w fun e w'=>e=.returned (.bool (eH L x n))/\Below w.heap.size w w':=by
 rcases h.cells with rfl|⟨b,off,rfl,hb,u⟩
 ·exact TH a cap L x w
 exact WQ b off n cap L x w (nZ h.le h.max) hb u
end Go.Proofs.YtpfeegcdlikegaaGreat
