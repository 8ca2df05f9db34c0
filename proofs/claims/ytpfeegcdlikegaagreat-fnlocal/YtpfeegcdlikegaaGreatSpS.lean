import Derived.Test.YtpfeegcdlikegaaGreatNdSZ
set_option maxHeartbeats 16000000
set_option maxRecDepth 100000
namespace Go.Proofs.YtpfeegcdlikegaaGreat
open Go.RowKit Go.Proofs.Tryz
variable {w w':World}{n cap base size base':Nat}{v:Value}{xs:List Value}{row:Option Nat}{l:List aE}{a:Option Addr}
theorem BK {e:Nat}(h:w.ownsRow base e size v n xs)(hg:w.grownBy w' row)(G:∀ q,v.ownBlock=some q->some q≠row):w'.ownsRow base e size v n xs:=by
 obtain ⟨N,H⟩:=h;refine ⟨N,?_⟩;rcases H with H|⟨g,cap,u,rfl,I,hh,r⟩
 ·exact Or.inl H
 have J:g<w.heap.size:=(Array.getElem?_eq_some_iff.1 hh).1;exact Or.inr ⟨g,cap,u,rfl,I,by rw [hg.block g J (G g rfl)];exact hh,r⟩
theorem LB {u:Value}{t:List ByteArray}(h:aU w base v l)(U:aH w base' u t)(q:Nat)(hq:v.ownBlock=some q):u.ownBlock≠some q:=fun e=>by
 obtain ⟨_,Z⟩:=h;obtain ⟨_,N⟩:=U;rcases Z with ⟨rfl,_⟩|⟨g,cap,J,rfl,_,hh,_⟩
 ·cases hq
 rcases N with ⟨rfl,_⟩|⟨g',I,H,rfl,_,G,_⟩
 ·cases e
 have Y:g=q:=by simpa [Value.ownBlock] using hq
 have O:g'=q:=by simpa [Value.ownBlock] using e
 subst Y;rw [O,hh] at G;injection G with G
 injection G with _ h5 _
 exact absurd h5 (by decide)
theorem aU.new (w:World)(base:Nat)(hb:base<=w.heap.size):aU (w.alloc (.cells #[] 66)) base (.slice (some ⟨w.heap.size,0,none⟩) 0 0) [] :=
 ⟨rfl,Or.inr ⟨w.heap.size,0,#[],rfl,hb,by show (w.heap.push _)[w.heap.size]?=_;simp,nL,by decide,rfl,rfl⟩⟩
def pR (w:World)(L:Nat->List aE)(n:Nat)(e:Ending)(w':World):Prop:=Below w.heap.size w w' /\
 ∃ v u H G,e=.returned (.tuple #[v,u,.bool (nQ L n)])/\aU w' w.heap.size v H/\aH w' w.heap.size u G/\((nQ L n=true/\vT L n H G)\/(nQ L n=false/\H=[]/\G=[]))
theorem zI {L:Nat->List aE}(G:iI L n=true){u:List ByteArray}(H:pH u)(I:∀ t,t ∈ u↔t ∈ vN L n n):vT L n (lC L n n) u:=by
 rcases n with _|m
 ·exact ⟨List.Pairwise.nil,fun x=>⟨fun h=>(by cases h),fun ⟨_,j,J,_⟩=>absurd J (Nat.not_lt_zero _)⟩,H,fun t=>(I t).trans (xT L 0 t 0)⟩
 obtain ⟨N,O⟩:=FG (L:=L) (n:=m+1) (by omega) G;exact ⟨N,O,H,fun t=>(I t).trans (xT L (m+1) t (m+1))⟩
theorem LW {L:Nat->List aE}(w:World)(h:jN w a n cap L) :
  Calls prog 155 #[.slice a n cap] w (pR w L n):=by
 have hn:=nZ h.le h.max;unfold maxLen at hn;have bn:=h.ok;obtain ⟨i0,hi,b6,b2,b9⟩:=info_parts Tryz.infoString;have H:∀ o o2,Below w.heap.size w ((w.alloc o).alloc o2):=fun o o2=>bA.alloc (by simp) _
 have aq:aU ((w.alloc (.cells #[] 66)).alloc (.cells #[] 9)) w.heap.size (.slice (some ⟨w.heap.size,0,none⟩) 0 0) []:=(aU.new w _ nL).below bA
 have ap:aH ((w.alloc (.cells #[] 66)).alloc (.cells #[] 9)) w.heap.size (.slice (some ⟨w.heap.size+1,0,none⟩) 0 0) []:=by
  have:=aH.new (w.alloc (.cells #[] 66)) w.heap.size (by simp);simpa using this
 by_cases bc:n<=20
 ·have ai:He (∀ i,i<n->bK (L i)):=bn
  have bf:He (_):=aq;have bi:He (_):=ap
  have HN:He (∀ W,Below w.heap.size w W->iI L n=false->pR w L n (.returned (.tuple #[.slice (some ⟨W.heap.size,0,none⟩) 0 0,.slice (some ⟨W.heap.size+1,0,none⟩) 0 0,.bool false])) ((W.alloc (.cells #[] 66)).alloc (.cells #[] 9))):=fun W hW hf=>by
   have hq:nQ L n=false:=by unfold nQ;rw [hf,Bool.and_false]
   have hs:=hW.size;refine ⟨(hW.alloc hs _).alloc (by simp;omega) _,_,_,[],[],by rw [hq],(aU.new W _ hs).below bA,?_,Or.inr ⟨hq,rfl,rfl⟩⟩
   have:=aH.new (W.alloc (.cells #[] 66)) w.heap.size (by simp;omega);simpa using this
  clear bn aq ap
  go_enter func155,ntmps155
  go_wp2_with fail
  go_loopw [5,6,7] (fun v u i wr=>∃ k:Nat,k<=n/\i=.int .i64 k/\He (iI L k=true)/\aU wr w.heap.size v (lC L n k)/\aH wr w.heap.size u (vN L n k)/\Below w.heap.size w wr) (fun _ _ i _=>n - (intOf i).toNat)
  case atStart=>exact ⟨0,nz,rfl,rfl,bf.o,bi.o,H _ _⟩
  case round =>
   clear bf bi H;obtain ⟨k,hk,rfl,G,hE,hL,hB⟩:=hrel;have ak:bK (lC L n k):=QN n (fun j hj=>ai.o j (by omega));have Z:=MU (L:=L) n (i:=k) (fun j hj=>ai.o j (by omega));obtain ⟨ea,ec,rfl,_⟩:=hE.sl ak.at;obtain ⟨ta,tc,rfl,_⟩:=hL.sl Z
   by_cases U:k<n
   ·rcases h.cells with h0|⟨b,off,rfl,hb,hc⟩
    ·omega
    obtain ⟨sa,sc,c1,ag⟩:=(hc k U).below hB hb;have Hc:He (∀ i,i<n->YO w b (off+i) (L i)):=hc;clear hc
    go_wp2_with fail
    refine (pN _ ag).mono ?_;rintro e w1 ⟨rfl,ao⟩;have a5:=hB.trans (ao.mono hB.size);have bm:=hE.below ao;have bo:=hL.below ao;cases hst:qV (L k)
    case false =>
     have Hf:He (iI L n=false):=FY L n k U (by rw [iI,hst,Bool.and_false]);clear hst G;go_wp2
     refine bodyPost_ret (v:=.tuple #[.slice (some ⟨w1.heap.size,0,none⟩) 0 0,.slice (some ⟨w1.heap.size+1,0,none⟩) 0 0,.bool false]) (by simp [results,results155,go_sem]) rfl (HN.o _ a5 Hf.o)
    case true =>
     have ax:He (iI L (k+1)=true):=by unfold He;rw [iI,G.o,hst];rfl
     have di:=(gS hst).1;have dk:=FQ n G.o;have cc:=wN n G.o;obtain ⟨wo,rfl⟩:∃ wo:World,wo=wr:=⟨_,rfl⟩;clear hst G hE hL hB ao c1 ag
     go_wp2_with fail
     go_loopw [5,6,8] (fun v u i wr=>∃ j:Nat,j<=(L k).length/\i=.int .i64 j/\aU wr w.heap.size v (sY L n (lC L n k) (L k) j)/\aH wr w.heap.size u (yQ L n (vN L n k) (L k) j)/\Below w.heap.size w wr) (fun _ _ i _=>(L k).length - (intOf i).toNat)
     case atStart=>exact ⟨0,nz,rfl,bm,bo,a5⟩
     case round =>
      clear bm bo a5;obtain ⟨j,hj,rfl,hE,hL,hB⟩:=hrel;have bh:bK (sY L n (lC L n k) (L k) j):=wU n ak (ai.o k U) j hj;have bg:=DS (L:=L) n Z (ai.o k U) j hj;obtain ⟨ea,ec,rfl,bj⟩:=hE.sl bh.at;obtain ⟨ta,tc,rfl,_⟩:=hL.sl bg;obtain ⟨sa,sc,c1,ag⟩:=(Hc.o k U).below hB hb
      by_cases N:j<(L k).length
      ·rcases ag.cells with h0|⟨B,O,rfl,cz,d1,d2,d3⟩
       ·rw [h0] at N;exact absurd N (Nat.not_lt_zero _)
       have a1:=d1 j N;have a2:=d2 j N;have a3:=d3 j N;have ck:He (∀ W,Below w.heap.size w W->jN W (some ⟨b,off,none⟩) n cap L):=fun W hW=>h.below hW
       have dm:=wQ L n (lC L n k) (L k) j;have cy:=xX L n (vN L n k) (L k) j;have ah:He (sY L n (lC L n k) (L k) (j+1)=if eH L (aI (L k) j) n then dG (sY L n (lC L n k) (L k) j) (aI (L k) j) false else sY L n (lC L n k) (L k) j):=rfl;have Y:He (yQ L n (vN L n k) (L k) (j+1)=if eH L (aI (L k) j) n then yQ L n (vN L n k) (L k) j else yQ L n (vN L n k) (L k) j ++ [(aI (L k) j).id]):=rfl;have bu:He (bK (sY L n (lC L n k) (L k) (j+1))):=wU n ak (ai.o k U) (j+1) N;have cj:He (_):=fun q=>LB hE hL q
       generalize sY L n (lC L n k) (L k) j=sA at *;generalize yQ L n (vN L n k) (L k) j=oA at *;generalize aI (L k) j=x at *;have a6:Below wr.heap.size wr (wr.alloc (.cells #[.string x.ty,.string x.key,.string x.id] 66)):=bA;have b8:=hB.trans (a6.mono hB.size);clear d1 d2 d3 ag
       go_wp2_with fail
       refine (ZL x _ (ck.o _ b8)).mono ?_;rintro e w2 ⟨rfl,H⟩;have br:=H.mono (B':=wr.heap.size+1) (by simp);have ch:=aK br;have ae:=a6.trans (H.mono a6.size);have I:=hB.trans (ae.mono hB.size);have dc:wr.heap.size+1<=w2.heap.size:=by simpa using br.size
       cases hag:eH L x n
       case true =>
        rw [hag,if_pos rfl] at ah Y;clear hag
        go_wp2_with fail
        refine (nH x false _ (by omega) (bj.below ae)).mono ?_;rintro e w3 ⟨v3,rfl,an,a8⟩;rw [<- ah.o] at an;obtain ⟨ga,gc,e2,_⟩:=an.sl bu.o.at;subst e2;have af:aH w3 w.heap.size (.slice ta oA.length tc) (yQ L n (vN L n k) (L k) (j+1)):=by rw [Y.o];exact (hL.below ae).below a8
        have ad:=I.trans (a8.mono I.size);have aj:=an.base_le I.size;clear ch an;go_wp2
        go_roundw
        case rel=>first|exact ⟨j+1,by omega,by go_num,aj,af,ad⟩|((repeat apply Exists.intro);exact ⟨⟨j+1,by omega,by go_num,aj,af,ad⟩,rfl⟩)
        simp [intOf];omega
       case false =>
        rw [hag] at ah Y;simp only [Bool.false_eq_true,if_false] at ah Y;have b0:oA.length+1<=maxLen:=by unfold maxLen;omega
        have ce:(oA.length+1) * 16<=140737488355328:=by omega
        have bp:∀ o,w.heap.size<=(w2.alloc o).heap.size:=fun o=>by have:=I.size;simp;omega
        have bk:=hL.below ae;have a4:=hE.below ae;have ba:He (∀ q',(Value.slice ta oA.length tc).ownBlock=some q'->w.heap.size<=q'):=fun q' b5=>(World.ownsRow.lt bk q' b5).1
        clear hag
        go_wp2_with (at_builtin;refine wpList_append_own _ rfl _ _ 27 rfl w.heap.size 9 i0 (.string ByteArray.empty) 1 16 underlying27 hi b6 b2 b9 rfl (by decide) _ _ _ rfl (World.ownsRow.alloc bk _) ⟨w2.heap.size,0,none⟩ 1 1 [.string x.id] rfl rfl (aV _ _ _) (bL _) b0 ce (bp _) ?_;intro v3 w3 ay J _)
        have af:aH w3 w.heap.size v3 (yQ L n (vN L n k) (L k) (j+1)):=by rw [Y.o];exact aH.snoc ay
        have aj:aU w3 w.heap.size (.slice ea sA.length ec) (sY L n (lC L n k) (L k) (j+1)):=by
         rw [ah.o];exact BK (World.ownsRow.alloc a4 _) J (fun q hq e=>cj.o q hq e.symm)
        have ad:Below w.heap.size w w3:=(I.alloc I.size _).grown J (bp _) ba.o;go_roundw
        case rel=>first|exact ⟨j+1,by omega,by go_num,aj,af,ad⟩|((repeat apply Exists.intro);exact ⟨⟨j+1,by omega,by go_num,aj,af,ad⟩,rfl⟩)
        simp [intOf];omega
      have b7:j=(L k).length:=by omega
      subst b7;have bq:aU wr w.heap.size (.slice ea (sY L n (lC L n k) (L k) (L k).length).length ec) (lC L n (k+1)):=hE;have bb:aH wr w.heap.size (.slice ta (yQ L n (vN L n k) (L k) (L k).length).length tc) (vN L n (k+1)):=hL;clear hE hL bj bh bg;generalize (sY L n (lC L n k) (L k) (L k).length).length=q1 at *;generalize (yQ L n (vN L n k) (L k) (L k).length).length=q2 at *;go_wp2
      go_roundw
      case rel=>first|exact ⟨k+1,by omega,by go_num,ax,bq,bb,hB⟩|((repeat apply Exists.intro);exact ⟨⟨k+1,by omega,by go_num,ax,bq,bb,hB⟩,rfl⟩)
      simp [intOf];omega
   have cb:k=n:=by omega
   subst cb;have cc:=wN k G.o;obtain ⟨dd,dh,e3,b4,_⟩:=hL.sl Z;injection e3 with e4 e5 e6
   subst e4 e6;clear e5
   go_wp2_with fail
   refine (lP _ (by omega) b4).mono ?_;rintro e w2 ⟨v2,l2,rfl,cd,aw,au,H⟩;have a4:=hE.below H;have I:=hB.trans (H.mono hB.size)
   have HF:He (pR w L k (.returned (.tuple #[.slice ea (lC L k k).length ec,v2,.bool true])) w2):=by
    have hq:nQ L k=true:=by unfold nQ;rw [G.o,decide_eq_true bc];rfl
    refine ⟨I,_,_,lC L k k,l2,by rw [hq],a4,cd.mono hB.size,Or.inl ⟨hq,zI G.o aw (fun t=>?_)⟩⟩;rw [au];exact ⟨fun ⟨i,hi,e⟩=>e ▸ bO hi,fun ht=>dO ht⟩
   clear aw au G;generalize (lC L k k).length=q1 at *;go_wp2
   refine bodyPost_ret (v:=.tuple #[.slice ea q1 ec,v2,.bool true]) (by simp [results,results155,go_sem]) rfl HF.o
 have hq:He (nQ L n=false):=by unfold He nQ;rw [decide_eq_false bc];rfl
 have HF:He (pR w L n (.returned (.tuple #[.slice (some ⟨w.heap.size,0,none⟩) 0 0,.slice (some ⟨w.heap.size+1,0,none⟩) 0 0,.bool false])) ((w.alloc (.cells #[] 66)).alloc (.cells #[] 9))):=⟨H _ _,_,_,[],[],by rw [hq.o],aq,ap,Or.inr ⟨hq.o,rfl,rfl⟩⟩;clear aq ap
 go_enter func155,ntmps155
 go_wp2
 refine bodyPost_ret (v:=.tuple #[.slice (some ⟨w.heap.size,0,none⟩) 0 0,.slice (some ⟨w.heap.size+1,0,none⟩) 0 0,.bool false]) (by simp [results,results155,go_sem]) rfl HF.o
end Go.Proofs.YtpfeegcdlikegaaGreat
