import Derived.Test.YtpfeegcdlikegaaGreatGwC
set_option maxHeartbeats 16000000
set_option maxRecDepth 100000
namespace Go.Proofs.YtpfeegcdlikegaaGreat
open Go.RowKit Go.Proofs.Tryz
variable {Ca bs:Nat->Nat}{B k m n q be na oe sc cap:Nat}{E:Nat->Ev}{A:Nat->List aE}{Aa:Nat->Option Addr}{u20 u21 u22 u23 u24 u25 u26 u27 u28 u29 u30 u31 u32 u33 u34 u35 u36 u37 u38 u39 u40 u41 u42 u43 u44 u45 u46 u47 u48 u49 u50 u51 u52 u53 u54 u55 u56 u57 u58 u59 u60 u61 u62 u63 u64 u65 u66 u67 u68 u69 u70 u71 u72 u73 u74 u75 u76 u77 u78 u79 u80 u81 u82 u83 u84 u85 u86 u87 u88 u89 u90 u91 u92 u93 u94 u95 u96 u97 u98 u99 u100 u101 u102 u103 u104 u105 u106 u107 u108 u109 u110 u111 u112 u113 u114 u115 u116 u117 u118 u119 u120 u121 u122 u123 u124 u125 u126 u127 u128 u129 u130 u131 u132 u133 u134 u135 u136 u137 u138 u139 u140 u141 u142 u143 u144 u145 u146 u147 u148 u149 u150 u151 u152 u153 u154 u155 u156 u157 u158 u159 u160 u161 u162 u163 u164 u165 u166:Value}
theorem a30 (p:Nat){ab ao:Nat}{ic us:ByteArray}{cb b4 bu db cc cd cw bp df b9 cn dd bz b2 bw bt bv cz dc bx b6 ct cx b7 da ci:Value}(w w5:World)(hp:p<w.heap.size)(hn:0<n)(b5:n<=300)(hk:k<256)(Hk:He (k=eD bs m q))(em:He (ic=LH k n))(dr:ic.size<=100)(d2:He (us=vR (k / 4 % 16 % 5)))(hna:n<=na)(cu:na<=2 ^ 63 - 1)(bc:n<=cap/\cap<=2 ^ 63 - 1)(u:He (aF E n=true))(Hf:He (∀ j,j<n->bB E n (A j)))(J:He (YK p w be oe n cap E ab ao na A Aa Ca))(ek:w.heap.size+2<=B)(H5:He (nF p w w5 bs m (aN m q) (.slice (some ⟨be,oe,none⟩) n cap) B (fun o=>(#[.string ic,.string us,.string ⟨#[]⟩,.bool false,.string ⟨#[]⟩,.int .i64 (100+(k:Int) % 7),.slice none 0 0,.slice none 0 0,.string ⟨#[]⟩,.slice none 0 0]:Array Value)[o]?.getD undef))) :
  Code.wp prog (fZ (Tryz.f37.body.getD .skip) 4) (bodyPost prog Tryz.f37 (pT p w bs m q E n A)) { tmps:=#[.pointer (some ⟨p,0,none⟩),.agg #[.slice (some ⟨be,oe,none⟩) n cap],.slice (some ⟨ab,ao,none⟩) na sc,undef,.pointer (some ⟨w.heap.size,0,none⟩),undef,.pointer (some ⟨w.heap.size+1,0,none⟩),.int .i64 (n:Int),.int .i64 (k:Int),.pointer (some ⟨B,0,none⟩),undef,undef,undef,undef,undef,undef,undef,undef,undef,undef,u20,u21,u22,u23,u24,u25,u26,u27,u28,u29,u30,u31,u32,u33,u34,u35,u36,u37,u38,u39,u40,u41,u42,u43,u44,u45,u46,u47,u48,u49,u50,u51,u52,u53,u54,u55,u56,u57,u58,u59,u60,u61,u62,u63,u64,u65,u66,u67,u68,u69,u70,u71,u72,u73,u74,u75,u76,u77,u78,u79,u80,u81,u82,u83,u84,u85,u86,u87,u88,u89,u90,u91,u92,u93,u94,u95,u96,u97,u98,u99,u100,u101,u102,u103,u104,u105,u106,u107,u108,u109,u110,u111,u112,u113,u114,u115,u116,u117,u118,u119,u120,u121,u122,u123,u124,u125,u126,u127,u128,u129,u130,u131,u132,u133,u134,u135,u136,u137,u138,u139,u140,u141,u142,u143,u144,u145,u146,u147,u148,u149,u150,u151,u152,u153,u154,u155,u156,u157,u158,u159,u160,u161,u162,u163,u164,u165,u166,cb,b4,bu,db,cc,cd,cw,bp,df,b9,cn,dd,bz,b2,bw,bt,bv,cz,dc,bx,b6,ct,cx,b7,da,ci],defers:=[] } w5:=by
 obtain ⟨i0,cv,cj,br,ck⟩:=info_parts Tryz.infoString;obtain ⟨j0,ei,d1,ds,ej⟩:=info_parts Tryz.infoRowE;rw [show fZ (Tryz.f37.body.getD .skip) 4=Code.seq _ _ from rfl];obtain ⟨ch,O⟩:∃ ch,ch=DJ k:=⟨_,rfl⟩;have d4:=EV k;rw [<- O] at d4;have aw:He (ch=DJ k):=O;clear O
 go_upto_if 50 with fail
 go_cut [10] (fun v wx=>v=.int .i64 (ch:Int)/\Below w5.heap.size w5 wx)
 case first =>
  have O:=aw.o;unfold DJ at O
  by_cases h5:5<=k % 8
  ·rw [if_pos h5] at O
   have d6:(5:Int)<=(k:Int) % 8:=by omega
   have e1:2+(k:Int) % 8 / 7=(ch:Int):=by omega
   clear aw O J u Hf H5;go_wp2
   go_meet;exact ⟨by rw [<- e1],kB⟩
  rw [if_neg h5] at O;have d6:¬ (5:Int)<=(k:Int) % 8:=by omega
  subst O;clear aw J u Hf H5;go_wp2
  go_meet;exact ⟨rfl,kB⟩
 case rest =>
  obtain ⟨rfl,ce⟩:=hcut;obtain ⟨w6,d9⟩:∃ w6:World,w6=wc:=⟨_,rfl⟩;subst d9;have H6:He (nF p w w6 bs m (aN m q) (.slice (some ⟨be,oe,none⟩) n cap) B (fun o=>(#[.string ic,.string us,.string ⟨#[]⟩,.bool false,.string ⟨#[]⟩,.int .i64 (100+(k:Int) % 7),.slice none 0 0,.slice none 0 0,.string ⟨#[]⟩,.slice none 0 0]:Array Value)[o]?.getD undef)):=H5.o.below ce;clear H5 ce
  go_wp2_with fail
  go_loopw [11,12] (fun sv iv wr=>∃ i:Nat,i<=ch/\iv=.int .i64 (i:Int)/\kZ p w bs m (aN m q) (.slice (some ⟨be,oe,none⟩) n cap) B (fun o=>(#[.string ic,.string us,.string ⟨#[]⟩,.bool false,.string ⟨#[]⟩,.int .i64 (100+(k:Int) % 7),.slice none 0 0,.slice none 0 0,.string ⟨#[]⟩,.slice none 0 0]:Array Value)[o]?.getD undef) k n E A Aa Ca i sv wr) (fun _ iv _=>ch - (intOf iv).toNat)
  case atStart=>exact ⟨0,nz,rfl,SG H6.o rfl⟩
  case round =>
   clear H6;obtain ⟨i,hi,rfl,hrel⟩:=hrel
   by_cases e7:i<ch
   ·have ae:He (_):=hrel
    clear hrel;have eh:¬ (n:Int)=0:=by omega
    have et:((n:Int) == 0)=false:=by simpa using eh
    obtain ⟨P,hP⟩:∃ P,P=tZ k n i:=⟨_,rfl⟩;have de:P<n:=by rw [hP];exact CL hn
    have HP:He (P=tZ k n i):=hP;clear hP
    go_upto_if 74 with fail
    go_cut [13] (fun v wx=>v=.int .i64 (P:Int)/\Below wr.heap.size wr wx)
    case first =>
     have hP:=HP.o;unfold tZ at hP
     by_cases h3:k % 3=0
     ·rw [if_pos h3] at hP
      have en:(k:Int) % 3=0:=by omega
      have hq:=Nat.mod_lt i hn;have q0:(0:Int)<=(i:Int) % (n:Int):=by rw [<- Int.natCast_emod];omega
      have q1:(i:Int) % (n:Int)<(n:Int):=by rw [<- Int.natCast_emod];omega
      have e1:(n:Int) - 1 - (i:Int) % (n:Int)=(P:Int):=by rw [<- Int.natCast_emod];omega
      clear J u Hf ae HP hP;go_wp2
      go_meet;exact ⟨by rw [<- e1],kB⟩
     rw [if_neg h3] at hP;have en:¬ (k:Int) % 3=0:=by omega
     have hq:=Nat.mod_lt (k / 8 % 4+i * 3) hn;have ez:((k:Int) / 8 % 4+(i:Int) * 3) % (n:Int)=(((k / 8 % 4+i * 3) % n:Nat):Int):=by simp
     have q0:(0:Int)<=((k:Int) / 8 % 4+(i:Int) * 3) % (n:Int):=by rw [ez];omega
     have q1:((k:Int) / 8 % 4+(i:Int) * 3) % (n:Int)<(n:Int):=by rw [ez];omega
     have e1:(n:Int) - 1 - ((k:Int) / 8 % 4+(i:Int) * 3) % (n:Int)=(P:Int):=by rw [ez];omega
     clear J u Hf ae HP hP ez;go_wp2
     go_meet;exact ⟨by first|(rw [<- e1];done)|(rw [<- e1];congr 1;unfold wrap64;omega),kB⟩
    case rest =>
     obtain ⟨rfl,b0⟩:=hcut;obtain ⟨w7,dt⟩:∃ w7:World,w7=wc:=⟨_,rfl⟩;subst dt;have ef:=kZ.below ae.o b0;clear ae b0;obtain ⟨pv,hT⟩:=ef;obtain ⟨pl,Y⟩:∃ pl,pl=(kH k n i).map fun j=>(E j).id:=⟨_,rfl⟩
     obtain ⟨vs,a2⟩:∃ vs,vs=(kH k n i).map fun j=>Value.slice (Aa j) (A j).length (Ca j):=⟨_,rfl⟩
     rw [<- Y,<- a2] at hT;obtain ⟨hV,ai,au⟩:=J.o w7 hT.g.a.dw.2;obtain ⟨_,_,_,_,_,_,Z,ed⟩:=ai P de;obtain ⟨x,hx⟩:∃ x,x=(E P).id:=⟨_,rfl⟩
     have a8:∀ s ∈ pl,s.size<=maxLen:=by
      rw [Y];intro s hs;obtain ⟨j,hj,rfl⟩:=List.mem_map.1 hs;obtain ⟨_,_,_,_,_,_,_,ho⟩:=ai j (rQ hn i j hj);exact ho.hid
     have bo:aH w7 (B+1) pv pl:=hT.o;obtain ⟨pa,cp,eo,b8,_⟩:=bo.sl a8;subst eo;have e2:pl.length<=3:=by rw [Y,List.length_map];have:=pC k n i;omega
     have ep:vs.length<=3:=by rw [a2,List.length_map];have:=pC k n i;omega
     obtain ⟨hs,bh⟩:∃ hs,hs=decide (tZ k n i ∈ kH k n i):=⟨_,rfl⟩
     have ak:He (∀ W,Below w7.heap.size w7 W->Calls prog 80 #[.slice pa pl.length cp,.string x] W fun e w'=>e=.returned (.bool hs)/\w'=W):=fun W hW=>by
      have:=kM x W (b8.below hW);rw [hx,Y,HP.o,VW u.o hn,<- bh,<- Y,<- HP.o,<- hx] at this;exact this
     have HS:He (∀ W,vO p w W bs m (aN m q) (.slice (some ⟨be,oe,none⟩) n cap)->W.cell? ⟨w.heap.size,0,none⟩=some (.slice (some ⟨be,oe,none⟩) n cap)/\W.cell? ⟨be,oe+P * 10,none⟩=some (.string x)):=fun W hW=>by
      obtain ⟨_,ai,_⟩:=J.o W hW.dw.2;obtain ⟨_,_,_,_,_,_,Z,_⟩:=ai P de;exact ⟨hW.r,by rw [hx];exact Z.c0⟩
     have bf:He (∀ W,Below w7.heap.size w7 W->W.cell? ⟨w.heap.size,0,none⟩=some (.slice (some ⟨be,oe,none⟩) n cap)/\W.cell? ⟨be,oe+P * 10,none⟩=some (.string x)/\W.cell? ⟨B,6,none⟩=some (.slice pa pl.length cp)):=fun W hW=>by
      have h1:=hT.below hW;have h2:=HS.o W h1.g.a;exact ⟨h2.1,h2.2,h1.g.b 6 (by decide)⟩
     have bj:He (qU p w w7 bs m (aN m q) (.slice (some ⟨be,oe,none⟩) n cap) B (fun o=>if o=6 then (.slice pa pl.length cp) else (#[.string ic,.string us,.string ⟨#[]⟩,.bool false,.string ⟨#[]⟩,.int .i64 (100+(k:Int) % 7),.slice none 0 0,.slice none 0 0,.string ⟨#[]⟩,.slice none 0 0]:Array Value)[o]?.getD undef) pl u11 vs):=hT;have Hx:He (x=(E P).id):=hx;have bq:He (pl=(kH k n i).map fun j=>(E j).id):=Y;have dg:He (vs=(kH k n i).map fun j=>Value.slice (Aa j) (A j).length (Ca j)):=a2;have cy:He (hs=decide (tZ k n i ∈ kH k n i)):=bh;have ag:Below w7.heap.size w7 w7:=kB;have e8:(0:Int)<=(P:Int):=by omega
     have fd:(P:Int)<(n:Int):=by omega
     clear hT hV ai au Z ed hx a8 bo b8 Y a2 bh
     go_upto_region 14 with fail
     go_cut [90] (fun v wx=>v=.bool (!hs)/\Below w7.heap.size w7 wx)
     case first =>
      clear J u Hf bj HS;refine wp_region_held_drew (S:=fun W=>W.cell? ⟨w.heap.size,0,none⟩=some (.slice (some ⟨be,oe,none⟩) n cap)/\W.cell? ⟨be,oe+P * 10,none⟩=some (.string x)/\W.cell? ⟨B,6,none⟩=some (.slice pa pl.length cp)) (by kernel_rfl) ?_ (fun hHeld=>?_)
      ·(try dsimp only);exact bf.o _ (by with_reducible (repeat refine .drew ?_);exact ag)
      refine tq 0 rfl ?_;simp only [si];refine tq 1 rfl ?_;simp only [si];refine tq 2 rfl ?_;simp only [si];refine tq 3 rfl ?_;simp only [si];refine tq 4 rfl ?_;simp only [si];refine tq 5 rfl ?_;simp only [si];refine tq 6 rfl ?_;simp only [si];refine tq 7 rfl ?_;simp only [si];refine rd 8 rfl fun K hK=>?_
      go_simp
      go_at_call 80
      refine (ak.o _ (by with_reducible (repeat refine .drew ?_);exact ag)).mono ?_;rintro e w2 ⟨rfl,rfl⟩;clear ak;try dsimp only
      refine hK.out _ _ ?_ (fun hHeld=>?_)
      ·(try dsimp only);exact bf.o _ (by with_reducible (repeat refine .drew ?_);exact ag)
      clear hK K;try simp only [si]
      refine tq 9 rfl ?_;simp only [si];refine wpAnyH_done (by kernel_rfl) ?_ _
      (try go_wp2_with fail)
      go_meet;exact ⟨rfl,by first|exact ag|exact ag.drew⟩
     case rest =>
      obtain ⟨rfl,cl⟩:=hcut;obtain ⟨w8,eb⟩:∃ w8:World,w8=wc:=⟨_,rfl⟩;subst eb;have H:He (qU p w w8 bs m (aN m q) (.slice (some ⟨be,oe,none⟩) n cap) B (fun o=>if o=6 then (.slice pa pl.length cp) else (#[.string ic,.string us,.string ⟨#[]⟩,.bool false,.string ⟨#[]⟩,.int .i64 (100+(k:Int) % 7),.slice none 0 0,.slice none 0 0,.string ⟨#[]⟩,.slice none 0 0]:Array Value)[o]?.getD undef) pl u11 vs):=bj.o.below cl;clear bj bf ak cl ag;cases hs
      case true =>
       have Hm:He (tZ k n i ∈ kH k n i):=by have:=cy.o;unfold He;simpa using this.symm
       have HR:He (kZ p w bs m (aN m q) (.slice (some ⟨be,oe,none⟩) n cap) B (fun o=>(#[.string ic,.string us,.string ⟨#[]⟩,.bool false,.string ⟨#[]⟩,.int .i64 (100+(k:Int) % 7),.slice none 0 0,.slice none 0 0,.string ⟨#[]⟩,.slice none 0 0]:Array Value)[o]?.getD undef) k n E A Aa Ca (i+1) u11 w8):=ES ⟨_,by rw [<- bq.o,<- dg.o];exact H.o⟩ Hm.o;clear H J u Hf HS;go_wp2
       exact ⟨⟨i+1,by omega,by go_num,HR.o⟩,by simp [intOf];omega⟩
      case false =>
       have Hm:He (¬ tZ k n i ∈ kH k n i):=by have:=cy.o;unfold He;simpa using this.symm
       go_upto_region 15 with fail
       go_cut [100] (fun v wx=>∃ eg,qU p w wx bs m (aN m q) (.slice (some ⟨be,oe,none⟩) n cap) B (fun o=>if o=6 then eg else (#[.string ic,.string us,.string ⟨#[]⟩,.bool false,.string ⟨#[]⟩,.int .i64 (100+(k:Int) % 7),.slice none 0 0,.slice none 0 0,.string ⟨#[]⟩,.slice none 0 0]:Array Value)[o]?.getD undef) (pl ++ [x]) u11 vs)
       case first =>
        have am:=H.o.g.a;have y6:w8.cell? ⟨B,6,none⟩=some (.slice pa pl.length cp):=H.o.g.b 6 (by decide);have fj:(w8.alloc (.cells #[.string x] 9)).cell? ⟨B,6,none⟩=some (.slice pa pl.length cp):=(H.o.g.below bA).b 6 (by decide);have HO:He (∀ W,Below w8.heap.size w8 W->W.ownsRow (B+1) 9 1 (.slice pa pl.length cp) pl.length (pl.map Value.string)):=fun W hW=>(H.o.below hW).o
        have aq:pl.length+1<=maxLen:=by unfold maxLen;omega
        have ax:(pl.length+1) * 16<=140737488355328:=by omega
        have dv:=H.o.g.hi;clear J u Hf;refine wp_region_held_drew (S:=fun W=>W.cell? ⟨w.heap.size,0,none⟩=some (.slice (some ⟨be,oe,none⟩) n cap)/\W.cell? ⟨be,oe+P * 10,none⟩=some (.string x)) (by kernel_rfl) ?_ (fun hHeld=>?_)
        ·(try dsimp only);exact HS.o _ (am.below (by first|with_reducible exact kB|with_reducible exact kB.drew|with_reducible exact kB.drew.drew|with_reducible exact kB.drew.drew.drew))
        refine tq 0 rfl ?_;simp only [si];refine tq 2 rfl ?_;simp only [si];refine tq 3 rfl ?_;simp only [si];refine tq 4 rfl ?_;simp only [si];refine tq 5 rfl ?_;simp only [si];refine tq 6 rfl ?_;simp only [si];refine tq 7 rfl ?_;simp only [si];refine wpAnyH_ready (rs:=[1,8]) (by kernel_rfl) (by simp) ?_;refine AllReadyH.cons rfl (fun K hK=>?_) (AllReadyH.cons rfl (fun K hK=>?_) AllReadyH.nil)
        ·go_simp
         refine hK.out _ _ ?_ (fun hHeld=>?_)
         ·(try dsimp only);exact HS.o _ (am.below (by first|with_reducible exact kB|with_reducible exact kB.drew|with_reducible exact kB.drew.drew|with_reducible exact kB.drew.drew.drew))
         clear hK K;try simp only [si]
         refine rd 8 rfl fun K hK=>?_
         go_simp;refine hK.out _ _ ?_ (fun hHeld=>?_)
         ·(try dsimp only);exact HS.o _ (am.below (by first|exact bA|exact bA.drew|exact kB.drew.alloc nL _|exact (kB.drew.alloc nL _).drew))
         clear hK K;try simp only [si]
         refine rd 9 rfl fun K hK=>?_
         refine step_append_lies _ (by rfl) _ _ _ (by rfl) (B+1) 9 i0 _ 1 16 underlying27 cv cj br ck rfl (by decide) (.slice pa pl.length cp) pl.length (pl.map Value.string) (by rfl) (HO.o _ (by first|exact bA|exact bA.drew|exact kB.drew.alloc nL _|exact (kB.drew.alloc nL _).drew)) ⟨w8.heap.size,0,none⟩ 1 1 [.string x] (by rfl) (by rfl) (aV _ _ _) (bL _) (by decide) aq ax (by simp;omega) (w8.heap.size+1) (by simp) ?_;intro gg cq w4 N I U a4;have G:=(H.o.g.below (by first|exact bA|exact bA.drew|exact kB.drew.alloc nL _|exact (kB.drew.alloc nL _).drew)).grow hp I (fun b hb=>by have:=(aD (HO.o w8 kB) b hb).1;omega);have z6:w4.cell? ⟨B,6,none⟩=some (.slice pa pl.length cp):=G.b 6 (by decide);have f6:=G.f0 6;refine hK.out _ _ ?_ (fun hHeld=>?_)
         ·(try dsimp only);exact HS.o _ (by first|exact G.a|exact G.a.below kB.drew)
         clear hK K;try simp only [si]
         refine tq 10 rfl ?_;simp only [si];refine rd 11 rfl fun K hK=>?_
         go_simp;refine hK.out _ _ ?_ (fun hHeld=>?_)
         ·(try dsimp only);exact HS.o _ (by first|exact (G.set hp 6 (by decide) _).a|exact (G.set hp 6 (by decide) _).a.below kB.drew)
         clear hK K;try simp only [si]
         refine wpAnyH_done (by kernel_rfl) ?_ _
         (try go_wp2_with fail)
         go_meet;have hS:=H.o.snocP (X:=_) hp (by first|exact bA|exact bA.drew|exact kB.drew.alloc nL _|exact (kB.drew.alloc nL _).drew) N I (U.imp (fun q=>q) (fun q=>by simp;omega));refine ⟨.slice (some ⟨gg,0,none⟩) (pl.length+1) cq,(qU.congr (by first|with_reducible exact hS|with_reducible exact hS.below kB.drew) (fun o ho=>?_))⟩
         by_cases e:o=6
         ·subst e;rfl
         rw [if_neg e,if_neg e];first|rfl|(show _=_;rw [if_neg e])
        go_simp;refine hK.out _ _ ?_ (fun hHeld=>?_)
        ·(try dsimp only);exact HS.o _ (am.below (by first|exact bA|exact bA.drew|exact kB.drew.alloc nL _|exact (kB.drew.alloc nL _).drew))
        clear hK K;try simp only [si]
        refine rd 1 rfl fun K hK=>?_
        go_simp;refine hK.out _ _ ?_ (fun hHeld=>?_)
        ·(try dsimp only);exact HS.o _ (am.below (by first|exact bA|exact bA.drew|exact kB.drew.alloc nL _|exact (kB.drew.alloc nL _).drew))
        clear hK K;try simp only [si]
        refine rd 9 rfl fun K hK=>?_
        refine step_append_lies _ (by rfl) _ _ _ (by rfl) (B+1) 9 i0 _ 1 16 underlying27 cv cj br ck rfl (by decide) (.slice pa pl.length cp) pl.length (pl.map Value.string) (by rfl) (HO.o _ (by first|exact bA|exact bA.drew|exact kB.drew.alloc nL _|exact (kB.drew.alloc nL _).drew)) ⟨w8.heap.size,0,none⟩ 1 1 [.string x] (by rfl) (by rfl) (aV _ _ _) (bL _) (by decide) aq ax (by simp;omega) (w8.heap.size+1) (by simp) ?_;intro gg cq w4 N I U a4;have G:=(H.o.g.below (by first|exact bA|exact bA.drew|exact kB.drew.alloc nL _|exact (kB.drew.alloc nL _).drew)).grow hp I (fun b hb=>by have:=(aD (HO.o w8 kB) b hb).1;omega);have z6:w4.cell? ⟨B,6,none⟩=some (.slice pa pl.length cp):=G.b 6 (by decide);have f6:=G.f0 6;refine hK.out _ _ ?_ (fun hHeld=>?_)
        ·(try dsimp only);exact HS.o _ (by first|exact G.a|exact G.a.below kB.drew)
        clear hK K;try simp only [si]
        refine tq 10 rfl ?_;simp only [si];refine rd 11 rfl fun K hK=>?_
        go_simp;refine hK.out _ _ ?_ (fun hHeld=>?_)
        ·(try dsimp only);exact HS.o _ (by first|exact (G.set hp 6 (by decide) _).a|exact (G.set hp 6 (by decide) _).a.below kB.drew)
        clear hK K;try simp only [si]
        refine wpAnyH_done (by kernel_rfl) ?_ _
        (try go_wp2_with fail)
        go_meet;have hS:=H.o.snocP (X:=_) hp (by first|exact bA|exact bA.drew|exact kB.drew.alloc nL _|exact (kB.drew.alloc nL _).drew) N I (U.imp (fun q=>q) (fun q=>by simp;omega));refine ⟨.slice (some ⟨gg,0,none⟩) (pl.length+1) cq,(qU.congr (by first|with_reducible exact hS|with_reducible exact hS.below kB.drew) (fun o ho=>?_))⟩
        by_cases e:o=6
        ·subst e;rfl
        rw [if_neg e,if_neg e];first|rfl|(show _=_;rw [if_neg e])
       case rest =>
        obtain ⟨co,aj⟩:=hcut;obtain ⟨w9,dy⟩:∃ w9:World,w9=wc:=⟨_,rfl⟩;subst dy;obtain ⟨_,_,au⟩:=J.o w9 aj.g.a.dw.2;obtain ⟨dx,_⟩:=au P (by omega);have d7:He (qU p w w9 bs m (aN m q) (.slice (some ⟨be,oe,none⟩) n cap) B (fun o=>if o=6 then co else (#[.string ic,.string us,.string ⟨#[]⟩,.bool false,.string ⟨#[]⟩,.int .i64 (100+(k:Int) % 7),.slice none 0 0,.slice none 0 0,.string ⟨#[]⟩,.slice none 0 0]:Array Value)[o]?.getD undef) (pl ++ [x]) u11 vs):=aj;have dv:=aj.g.hi;have d8:He (w9.ownsRow (B+1) 26 1 u11 vs.length vs):=aj.r;have aq:vs.length+1<=maxLen:=by unfold maxLen;omega
        have ax:(vs.length+1) * 24<=140737488355328:=by omega
        have fk:(P:Int)<(na:Int):=by omega
        obtain ⟨ea,bg⟩:∃ ea,ea=Aa P:=⟨_,rfl⟩;obtain ⟨el,bb⟩:∃ el,el=(A P).length:=⟨_,rfl⟩;obtain ⟨ec,Z⟩:∃ ec,ec=Ca P:=⟨_,rfl⟩;rw [<- bg,<- bb,<- Z] at dx;have HE:He (Value.slice ea el ec=.slice (Aa P) (A P).length (Ca P)):=by unfold He;rw [bg,bb,Z]
        clear aj au H HS bg bb Z
        go_wp2_with (at_builtin;refine wpList_append_lies _ rfl _ _ 77 rfl (B+1) 26 j0 (.slice none 0 0) 1 24 underlying77 ei d1 ds ej rfl (by decide) _ _ _ rfl (World.ownsRow.alloc d8.o _) ⟨w9.heap.size,0,none⟩ 1 1 [.slice ea el ec] rfl rfl (mJ _ _ _) (jT _ ⟨_,_,_,rfl⟩) (by decide) aq ax (by simp;omega) (w9.heap.size+1) (by simp) ?_;intro gg cq w4 N I U a4)
        refine ⟨⟨i+1,by omega,by go_num,JP (pv:=co) ?_ Hm.o⟩,by simp [intOf];omega⟩;rw [<- bq.o,<- dg.o,<- HP.o,<- Hx.o,<- HE.o];exact d7.o.snocS hp bA N I (U.imp (fun q=>q) (fun q=>by simp;omega))
   obtain ⟨pv,hT⟩:=hrel;rw [show i=ch by omega,aw.o] at hT;have HT:He (_):=hT;clear hT;obtain ⟨L,hL⟩:∃ L,L=kH k n (DJ k):=⟨_,rfl⟩
   go_upto_region 17 with fail
   refine YT p w wr hp hn b5 hk Hk em dr d2 hna cu bc u Hf J ek HT ?_;assumption
theorem ZH (p:Nat){ab ao:Nat}(w:World)(h:nI w p bs m q)(hn:0<n)(Y:aF E n=true)(hna:n<=na)(ak:na<=maxLen)(hf:∀ j,j<n->bB E n (A j))(HK:YK p w be oe n cap E ab ao na A Aa Ca) :
  Calls prog 37 #[.pointer (some ⟨p,0,none⟩),.agg #[.slice (some ⟨be,oe,none⟩) n cap],.slice (some ⟨ab,ao,none⟩) na sc] w (pT p w bs m q E n A):=by
 obtain ⟨i0,cj,cc,bz,cd⟩:=info_parts Tryz.infoString;obtain ⟨j0,cm,b9,b0,cn⟩:=info_parts Tryz.infoRowE;have ay:=dJ Y;have hk:=h.nx;have hp:=h.lt;obtain ⟨wa,U⟩:∃ wa,wa=(w.alloc (.cells #[.slice (some ⟨be,oe,none⟩) n cap] 25)).alloc (.cells #[.string ⟨#[]⟩,.string ⟨#[]⟩,.string ⟨#[]⟩,.bool false,.string ⟨#[]⟩,.int .i64 0,.slice none 0 0,.slice none 0 0,.string ⟨#[]⟩,.slice none 0 0] 30):=⟨_,rfl⟩;have ba:Below w.heap.size w wa:=by rw [U];exact bA.alloc (by simp) _
 have ah:He (vO p w wa bs m q (.slice (some ⟨be,oe,none⟩) n cap)):=by
  refine ⟨?_,fun o ho=>?_,fun o=>?_,by rw [U];simp,(bR.refl h).below ba⟩
  ·rw [U,World.cell?_alloc_past _ _ _ (by simp)];exact kA rfl
  ·rw [U,kA (by simp)]
   match o,ho with
   | 0,_=>exact ⟨_,rfl⟩
   | 1,_=>exact ⟨_,rfl⟩
   | 2,_=>exact ⟨_,rfl⟩
   | 3,_=>exact ⟨_,rfl⟩
   | 4,_=>exact ⟨_,rfl⟩
   | 5,_=>exact ⟨_,rfl⟩
   | 6,_=>exact ⟨_,rfl⟩
   | 7,_=>exact ⟨_,rfl⟩
   | 8,_=>exact ⟨_,rfl⟩
   | 9,_=>exact ⟨_,rfl⟩
  rw [U];exact kF (by simp)
 have ax:He (YK p w be oe n cap E ab ao na A Aa Ca):=HK;have af:n<=cap/\cap<=maxLen:=by have:=(HK w (World.grownBy.refl _ _)).1;exact ⟨this.le,this.max⟩
 unfold maxLen at af ak;have ae:He (_):=Y;have Hf:He (∀ j,j<n->bB E n (A j)):=hf;have x0:((w.alloc (.cells #[.slice (some ⟨be,oe,none⟩) n cap] 25)).alloc (.cells #[.string ⟨#[]⟩,.string ⟨#[]⟩,.string ⟨#[]⟩,.bool false,.string ⟨#[]⟩,.int .i64 0,.slice none 0 0,.slice none 0 0,.string ⟨#[]⟩,.slice none 0 0] 30)).cell? ⟨w.heap.size,0,none⟩=some (.slice (some ⟨be,oe,none⟩) n cap):=by rw [<- U];exact ah.o.r
 clear HK Y hf
 go_enter func37,ntmps37
 go_wp2_with fail
 rw [<- U];clear U x0;refine (iC p wa ah.o.dw.1).mono ?_;rintro x w1 ⟨rfl,a5⟩;have J:He (vO p w w1 bs m (aN m q) (.slice (some ⟨be,oe,none⟩) n cap)):=ah.o.draw hp a5;clear a5 ah;obtain ⟨k,ap⟩:∃ k,k=eD bs m q:=⟨_,rfl⟩;have Hk:He (k=eD bs m q):=ap;rw [<- ap] at hk ⊢;clear ap;obtain ⟨u,aj⟩:∃ u,u=(k+n) % 14:=⟨_,rfl⟩;have ci:((k:Int)+(n:Int)) % 14=((u:Nat):Int):=by omega
 have b8:u<14:=by omega
 have Hj:He (u=(k+n) % 14):=aj;have HU:He (∀ W,Calls prog 79 #[.int .i64 ((k:Int) / 4 % 16 % 5)] W (fun e w'=>e=.returned (.string (vR (k / 4 % 16 % 5)))/\Below W.heap.size W w')):=fun W=>by rw [show (k:Int) / 4 % 16 % 5=((k / 4 % 16 % 5:Nat):Int) by simp];exact OL _ W (by omega)
 have HD:He (∀ W,Calls prog 78 #[.int .i64 (n:Int)] W (fun e w'=>e=.returned (.string (gY n))/\Below W.heap.size W w')):=fun W=>VQ n (by omega) W
 have bj:(gY n).size<=20:=jS n (by omega);clear aj;obtain ⟨us,am⟩:∃ us,us=vR (k / 4 % 16 % 5):=⟨_,rfl⟩;obtain ⟨dc,an⟩:∃ dc,dc=gY n:=⟨_,rfl⟩;rw [<- am] at HU;rw [<- an] at HD bj;have au:He (us=vR (k / 4 % 16 % 5)):=am;have aw:He (dc=gY n):=an;clear am an;have bg:=J.o.r;have ad:Below w1.heap.size w1 w1:=kB;obtain ⟨Z,ai⟩:∃ Z,Z=qwB.extract u (u+1):=⟨_,rfl⟩;have ck:Z.size<=1:=by rw [ai,ByteArray.size_extract];omega
 have bc:¬ 9223372036854775807<1+Z.size:=by omega
 have bm:¬ 9223372036854775807<1+Z.size+dc.size:=by omega
 have ce:(⟨#[113,119,101,114,116,121,117,105,111,112,97,115,100,102]⟩:ByteArray).extract u (u+1)=Z:=ai.symm;have a4:He (Z=qwB.extract u (u+1)):=ai;clear ai;have e1:IntKind.i64.wrap ((k:Int)+(n:Int))=(k:Int)+(n:Int):=by rw [IntKind.wrap_i64];omega
 have e2:((k:Int)+(n:Int)).tmod 14=((u:Nat):Int):=by rw [Int.tmod_eq_emod_of_nonneg (by omega)];omega
 have e3:IntKind.i64.wrap ((u:Int)+1)=(u:Int)+1:=by rw [IntKind.wrap_i64];omega
 have e4:IntKind.i64.wrap (Int.tdiv (k:Int) 4)=(k:Int) / 4:=by rw [Int.tdiv_eq_ediv_of_nonneg (by omega),IntKind.wrap_i64];omega
 have cw:IntKind.i64.wrap ((k:Int) / 4)=(k:Int) / 4:=by rw [IntKind.wrap_i64];omega
 have e5:((k:Int) / 4).tmod 16=(k:Int) / 4 % 16:=Int.tmod_eq_emod_of_nonneg (by omega);have e6:((k:Int) / 4 % 16).tmod 5=(k:Int) / 4 % 16 % 5:=Int.tmod_eq_emod_of_nonneg (by omega);have e7:(k:Int).tmod 7=(k:Int) % 7:=Int.tmod_eq_emod_of_nonneg (by omega);have e8:IntKind.i64.wrap (100+(k:Int) % 7)=100+(k:Int) % 7:=by rw [IntKind.wrap_i64];omega
 have g1:(0:Int)<=(u:Int)+1:=by omega
 have g2:(u:Int)+1<=14:=by omega
 have g3:(u:Int)<=(u:Int)+1:=by omega
 have g4:((u:Int)+1).toNat=u+1:=by omega
 go_wp2_with fail
 go_cut [9] from 20 to 192 (fun pv wx=>∃ B,pv=.pointer (some ⟨B,0,none⟩)/\nF p w wx bs m (aN m q) (.slice (some ⟨be,oe,none⟩) n cap) B (fun o=>(#[.string (⟨#[36]⟩ ++ Z ++ dc),.string us,.string ⟨#[]⟩,.bool false,.string ⟨#[]⟩,.int .i64 (100+(k:Int) % 7),.slice none 0 0,.slice none 0 0,.string ⟨#[]⟩,.slice none 0 0]:Array Value)[o]?.getD undef))
 case first =>
  clear bg ax Hf ae a4 au aw Hj Hk;refine wp_region_held_drew (S:=fun _=>True) (by kernel_rfl) ?_ (fun hHeld=>?_)
  ·(try dsimp only);all_goals trivial
  refine tq 0 rfl ?_;simp only [si];refine tq 1 rfl ?_;simp only [si];refine tq 2 rfl ?_;simp only [si];refine tq 3 rfl ?_;simp only [si];refine tq 4 rfl ?_;simp only [si];refine tq 5 rfl ?_;simp only [si];refine tq 6 rfl ?_;simp only [si];refine tq 7 rfl ?_;simp only [si];refine tq 8 rfl ?_;simp only [si];refine tq 9 rfl ?_;simp only [si];refine tq 10 rfl ?_;simp only [si];refine tq 11 rfl ?_;simp only [si];refine tq 14 rfl ?_;simp only [si];refine tq 15 rfl ?_;simp only [si];refine tq 16 rfl ?_;simp only [si];refine tq 17 rfl ?_;simp only [si];refine tq 19 rfl ?_;simp only [si];refine tq 20 rfl ?_;simp only [si];refine tq 21 rfl ?_;simp only [si];refine wpAnyH_ready (rs:=[12,23]) (by kernel_rfl) (by simp) ?_;refine AllReadyH.cons rfl (fun K hK=>?_) (AllReadyH.cons rfl (fun K hK=>?_) AllReadyH.nil)
  ·go_simp
   go_at_call 78
   refine (HD.o _).mono ?_;rintro e w2 ⟨rfl,O⟩;have N:Below w1.heap.size w1 w2:=Below.trans (by with_reducible (repeat refine .drew ?_);exact ad) (O.mono (by first|exact nL|exact ad.size));try dsimp only
   refine hK.out _ _ ?_ (fun hHeld=>?_)
   ·(try dsimp only);all_goals trivial
   clear hK K;try simp only [si]
   refine tq 13 rfl ?_;simp only [si];refine wpAnyH_ready (rs:=[18,23]) (by kernel_rfl) (by simp) ?_;refine AllReadyH.cons rfl (fun K hK=>?_) (AllReadyH.cons rfl (fun K hK=>?_) AllReadyH.nil)
   ·go_simp
    go_at_call 79
    refine (HU.o _).mono ?_;rintro e w3 ⟨rfl,I⟩;have H:Below w1.heap.size w1 w3:=Below.trans (by with_reducible (repeat refine .drew ?_);exact N) (I.mono (by first|exact nL|exact N.size));try dsimp only
    refine hK.out _ _ ?_ (fun hHeld=>?_)
    ·(try dsimp only);all_goals trivial
    clear hK K;try simp only [si]
    refine tq 22 rfl ?_;simp only [si];refine rd 23 rfl fun K hK=>?_
    go_simp;refine hK.out _ _ ?_ (fun hHeld=>?_)
    ·(try dsimp only);all_goals trivial
    clear hK K;try simp only [si]
    refine rd 24 rfl fun K hK=>?_
    go_simp;refine hK.out _ _ ?_ (fun hHeld=>?_)
    ·(try dsimp only);all_goals trivial
    clear hK K;try simp only [si]
    refine wpAnyH_done (by kernel_rfl) ?_ _
    (try go_wp2_with fail)
    go_meet;exact ⟨_,rfl,by first|exact oC (J.o.below H) rfl|exact oC (J.o.below H.drew) rfl⟩
   go_simp;refine hK.out _ _ ?_ (fun hHeld=>?_)
   ·(try dsimp only);all_goals trivial
   clear hK K;try simp only [si]
   refine rd 18 rfl fun K hK=>?_
   go_simp
   go_at_call 79
   refine (HU.o _).mono ?_;rintro e w3 ⟨rfl,I⟩
   first|(have H:Below (w2.alloc (.cells #[.string ⟨#[]⟩,.string ⟨#[]⟩,.string ⟨#[]⟩,.bool false,.string ⟨#[]⟩,.int .i64 0,.slice none 0 0,.slice none 0 0,.string ⟨#[]⟩,.slice none 0 0] 30)).heap.size (w2.alloc (.cells #[.string ⟨#[]⟩,.string ⟨#[]⟩,.string ⟨#[]⟩,.bool false,.string ⟨#[]⟩,.int .i64 0,.slice none 0 0,.slice none 0 0,.string ⟨#[]⟩,.slice none 0 0] 30)) w3:=by first|exact I|exact kB.drew.trans (I.mono nL))|have H:=I
   try dsimp only
   refine hK.out _ _ ?_ (fun hHeld=>?_)
   ·(try dsimp only);all_goals trivial
   clear hK K;try simp only [si]
   refine tq 22 rfl ?_;simp only [si];have G:=(oC (t:=30) (cs:=#[.string ⟨#[]⟩,.string ⟨#[]⟩,.string ⟨#[]⟩,.bool false,.string ⟨#[]⟩,.int .i64 0,.slice none 0 0,.slice none 0 0,.string ⟨#[]⟩,.slice none 0 0]) (J.o.below N) rfl).below H;have y0:=G.b 0 (by decide);have y1:=G.b 1 (by decide);have y2:=G.b 2 (by decide);have y3:=G.b 3 (by decide);have y4:=G.b 4 (by decide);have y5:=G.b 5 (by decide);have y6:=G.b 6 (by decide);have y7:=G.b 7 (by decide);have y8:=G.b 8 (by decide);have y9:=G.b 9 (by decide);have bf:=G.f0;clear G;refine rd 24 rfl fun K hK=>?_
   go_simp;refine hK.out _ _ ?_ (fun hHeld=>?_)
   ·(try dsimp only);all_goals trivial
   clear hK K;try simp only [si]
   refine wpAnyH_done (by kernel_rfl) ?_ _
   (try go_wp2_with fail)
   go_meet;exact ⟨_,rfl,by first|exact oY (.string (⟨#[36]⟩ ++ Z ++ dc)) (.string us) (.string ⟨#[]⟩) (.bool false) (.string ⟨#[]⟩) (.int .i64 (100+(k:Int) % 7)) (.slice none 0 0) (.slice none 0 0) (.string ⟨#[]⟩) (.slice none 0 0) (J.o.below N) hp rfl H|exact (oY (.string (⟨#[36]⟩ ++ Z ++ dc)) (.string us) (.string ⟨#[]⟩) (.bool false) (.string ⟨#[]⟩) (.int .i64 (100+(k:Int) % 7)) (.slice none 0 0) (.slice none 0 0) (.string ⟨#[]⟩) (.slice none 0 0) (J.o.below N) hp rfl H).below kB.drew⟩
  go_simp;refine hK.out _ _ ?_ (fun hHeld=>?_)
  ·(try dsimp only);all_goals trivial
  clear hK K;try simp only [si]
  refine rd 12 rfl fun K hK=>?_
  go_simp
  go_at_call 78
  refine (HD.o _).mono ?_;rintro e w2 ⟨rfl,O⟩
  first|(have N:Below (w1.alloc (.cells #[.string ⟨#[]⟩,.string ⟨#[]⟩,.string ⟨#[]⟩,.bool false,.string ⟨#[]⟩,.int .i64 0,.slice none 0 0,.slice none 0 0,.string ⟨#[]⟩,.slice none 0 0] 30)).heap.size (w1.alloc (.cells #[.string ⟨#[]⟩,.string ⟨#[]⟩,.string ⟨#[]⟩,.bool false,.string ⟨#[]⟩,.int .i64 0,.slice none 0 0,.slice none 0 0,.string ⟨#[]⟩,.slice none 0 0] 30)) w2:=by first|exact O|exact kB.drew.trans (O.mono nL))|have N:=O
  try dsimp only
  refine hK.out _ _ ?_ (fun hHeld=>?_)
  ·(try dsimp only);all_goals trivial
  clear hK K;try simp only [si]
  refine tq 13 rfl ?_;simp only [si];refine rd 18 rfl fun K hK=>?_
  go_simp
  go_at_call 79
  refine (HU.o _).mono ?_;rintro e w3 ⟨rfl,I⟩;have H:=N.trans (I.mono N.size);try dsimp only
  refine hK.out _ _ ?_ (fun hHeld=>?_)
  ·(try dsimp only);all_goals trivial
  clear hK K;try simp only [si]
  refine tq 22 rfl ?_;simp only [si];have G:=(oC (t:=30) (cs:=#[.string ⟨#[]⟩,.string ⟨#[]⟩,.string ⟨#[]⟩,.bool false,.string ⟨#[]⟩,.int .i64 0,.slice none 0 0,.slice none 0 0,.string ⟨#[]⟩,.slice none 0 0]) (J.o.below ad) rfl).below H;have y0:=G.b 0 (by decide);have y1:=G.b 1 (by decide);have y2:=G.b 2 (by decide);have y3:=G.b 3 (by decide);have y4:=G.b 4 (by decide);have y5:=G.b 5 (by decide);have y6:=G.b 6 (by decide);have y7:=G.b 7 (by decide);have y8:=G.b 8 (by decide);have y9:=G.b 9 (by decide);have bf:=G.f0;clear G;refine rd 24 rfl fun K hK=>?_
  go_simp;refine hK.out _ _ ?_ (fun hHeld=>?_)
  ·(try dsimp only);all_goals trivial
  clear hK K;try simp only [si]
  refine wpAnyH_done (by kernel_rfl) ?_ _
  (try go_wp2_with fail)
  go_meet;exact ⟨_,rfl,by first|exact oY (.string (⟨#[36]⟩ ++ Z ++ dc)) (.string us) (.string ⟨#[]⟩) (.bool false) (.string ⟨#[]⟩) (.int .i64 (100+(k:Int) % 7)) (.slice none 0 0) (.slice none 0 0) (.string ⟨#[]⟩) (.slice none 0 0) (J.o.below ad) hp rfl H|exact (oY (.string (⟨#[36]⟩ ++ Z ++ dc)) (.string us) (.string ⟨#[]⟩) (.bool false) (.string ⟨#[]⟩) (.int .i64 (100+(k:Int) % 7)) (.slice none 0 0) (.slice none 0 0) (.string ⟨#[]⟩) (.slice none 0 0) (J.o.below ad) hp rfl H).below kB.drew⟩
 case rest =>
  obtain ⟨B,rfl,G⟩:=hcut;obtain ⟨w5,bh⟩:∃ w5:World,w5=wc:=⟨_,rfl⟩;subst bh;obtain ⟨ic,aq⟩:∃ ic,ic=(⟨#[36]⟩:ByteArray) ++ Z ++ dc:=⟨_,rfl⟩;rw [<- aq] at G;have bp:He (ic=LH k n):=by unfold He LH;rw [aq,a4.o,aw.o,Hj.o]
  have bb:ic.size<=100:=by rw [aq,ByteArray.size_append,ByteArray.size_append];show 1+Z.size+dc.size<=100;omega
  have cx:us.size<=100:=by rw [au.o];rw [AC];decide
  have H5:He (nF p w w5 bs m (aN m q) (.slice (some ⟨be,oe,none⟩) n cap) B (fun o=>(#[.string ic,.string us,.string ⟨#[]⟩,.bool false,.string ⟨#[]⟩,.int .i64 (100+(k:Int) % 7),.slice none 0 0,.slice none 0 0,.string ⟨#[]⟩,.slice none 0 0]:Array Value)[o]?.getD undef)):=G;have bo:=G.lo;have b2:=Hk
  apply_assumption
  exact a30 p w w5 hp hn ay hk Hk bp bb au hna ak af ae Hf ax bo H5
end Go.Proofs.YtpfeegcdlikegaaGreat
