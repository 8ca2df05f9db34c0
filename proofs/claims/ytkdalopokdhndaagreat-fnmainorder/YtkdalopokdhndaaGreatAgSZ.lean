import Derived.Test.YtkdalopokdhndaaGreatNdSZ
set_option maxHeartbeats 16000000
set_option maxRecDepth 100000
namespace Go.Proofs.YtkdalopokdhndaaGreat
open Go.RowKit
variable {a:Option Addr}{n cap:Nat}{L:Nat->List Ent}
theorem ag_zero (a:Option Addr)(cap:Nat)(L:Nat->List Ent)(x:Ent)(w:World) :
  Calls Tryz.prog 242 #[.slice a 0 cap,entV x] w fun e w'=>e=.returned (.bool (agTo L x 0))∧Below w.heap.size w w':=by
 go_enter Tryz.func242,Tryz.ntmps242
 go_wp2
 refine wp_loop_rounds 1 ?_;rw [rounds_succ];go_wp2
 go_ret;exact ⟨rfl,bA⟩
theorem ag_any (b off n cap:Nat)(L:Nat->List Ent)(x:Ent)(w:World)(hn:n<=maxLen)(hb:b<w.heap.size)(hc:∀ i,i<n->RwE w b (off+i) (L i)) :
  Calls Tryz.prog 242 #[.slice (some ⟨b,off,none⟩) n cap,entV x] w fun e w'=>e=.returned (.bool (agTo L x n))∧Below w.heap.size w w':=by
 unfold maxLen at hn;obtain ⟨wb,hwb⟩:∃ wb,wb=w.alloc (.cells #[.string x.ty,.string x.key,.string x.id] 79):=⟨_,rfl⟩;have hb0:Below w.heap.size w wb:=by rw [hwb];exact bA
 have hs0:wb.heap.size=w.heap.size+1:=by rw [hwb];simp
 have hbx:Hid (∀ wx,Below (w.heap.size+1) wb wx->∀ o,wx.cell? ⟨w.heap.size,o,none⟩=(#[.string x.ty,.string x.key,.string x.id]:Array Value)[o]?):=fun wx hx=>by subst hwb;exact box_cells hx
 have Hc:Hid (_):=hc;clear hc
 go_enter Tryz.func242,Tryz.ntmps242
 go_wp2_with fail
 rw [<- hwb];clear hwb
 go_loopw [5] (fun i wr=>∃ k:Nat,k<=n∧i=.int .i64 k∧Hid (agTo L x k=true)∧Below (w.heap.size+1) wb wr) (fun i _=>n - (intOf i).toNat)
 case atStart=>exact ⟨0,nz,rfl,rfl,kB⟩
 case round =>
  obtain ⟨k,hk,rfl,hto,hB⟩:=hrel;have hbw:=hb0.trans (hB.mono (by omega));have hso:w.heap.size+1<=wr.heap.size:=by have:=hB.size;omega
  by_cases hlt:k<n
  ·obtain ⟨sa,sc,c1,hsl⟩:=(Hc.out k hlt).below hbw hb
   have c0:=hbx.out _ hB 0;have c2:=hbx.out _ hB 1;have c3:=hbx.out _ hB 2;obtain ⟨f,hf⟩:∃ f,f=findB (L k) x.ty x.key:=⟨_,rfl⟩
   have HF:Hid (∀ W,Below wr.heap.size wr W->Calls Tryz.prog 39 #[.slice sa (L k).length sc,.string x.ty,.string x.key] W fun e w'=>e=.returned (.string f)∧Below wr.heap.size wr w'):=fun W hW=>by
    rw [hf];exact (l4Find_sl x.ty x.key W (hsl.below hW)).mono fun e w' ⟨h1,h2⟩=>⟨h1,hW.trans (h2.mono hW.size)⟩
   have hso':Hid (∀ W,Below wr.heap.size wr W->W.cell? ⟨w.heap.size,2,none⟩=some (.string x.id)):=fun W hW=>hbx.out _ (hB.trans (hW.mono hso)) 2
   have hfin:Hid (∀ W,Below wr.heap.size wr W->Below (w.heap.size+1) wb W):=fun W hW=>hB.trans (hW.mono hso)
   obtain ⟨bq,hbq⟩:∃ bq:Bool,bq=(f.toList != x.id.toList):=⟨_,rfl⟩;have hrf:Below wr.heap.size wr wr:=kB;have hwz:w.heap.size<wr.heap.size:=by omega
   have hbr:b<wr.heap.size:=by have:=hb0.size;omega
   have Hf:Hid (f=findB (L k) x.ty x.key):=hf;have y0:wr.cell? ⟨w.heap.size,0,none⟩=some (.string x.ty):=c0;have y1:wr.cell? ⟨w.heap.size,1,none⟩=some (.string x.key):=c2;have y2:wr.cell? ⟨w.heap.size,2,none⟩=some (.string x.id):=c3;have i0:(0:Int)<=(k:Int):=by omega
   have i1:(k:Int)<(n:Int):=by omega
   have Hbq:Hid (bq=(f.toList != x.id.toList)):=hbq;clear hf hsl c0 c2 c3 hbq
   go_wp2_with fail
   go_cut [23] from 12 to 24 (fun v wx=>v=.bool bq∧Below wr.heap.size wr wx)
   case first =>
    go_region_held3 (fun W=>W.cell? ⟨b,off+k,none⟩=some (.slice sa (L k).length sc)∧W.cell? ⟨w.heap.size,0,none⟩=some (.string x.ty)∧W.cell? ⟨w.heap.size,1,none⟩=some (.string x.key)∧W.cell? ⟨w.heap.size,2,none⟩=some (.string x.id))
     (first|(with_reducible exact ⟨c1,y0,y1,y2⟩)|go_keep)
     ((go_at_call 39;refine (HF.out _ (by with_reducible (repeat refine .drew ?_);exact hrf)).mono ?_;rintro e w5 ⟨rfl,hb5⟩;have hk0:=(hb5.cell (by exact hbr)).trans c1;have hk1:=(hb5.cell (by exact hwz)).trans y0;have hk2:=(hb5.cell (by exact hwz)).trans y1;have hk3:=(hb5.cell (by exact hwz)).trans y2))
    all_goals (try go_wp2_with fail)
    all_goals go_meet
    all_goals (rw [Hbq.out];exact ⟨rfl,by first|exact hb5|exact hb5.drew|exact hb5.drew.drew⟩)
   case rest =>
    obtain ⟨rfl,hb5⟩:=hcut;have hB5:=hfin.out _ hb5;cases bq
    case false =>
     have Hto:Hid (agTo L x (k+1)=true):=by
      have h1:=Hbq.out
      have h2:(f.toList == x.id.toList)=true:=by
       cases h3:(f.toList == x.id.toList)
       ·simp [bne,h3] at h1
       rfl
      unfold Hid;rw [agTo,hto.out,<- Hf.out,h2];rfl
     clear hto Hbq Hf;go_wp2
     go_roundw
     case rel=>first|exact ⟨k+1,by omega,by go_num,Hto,hB5⟩|((repeat apply Exists.intro);exact ⟨⟨k+1,by omega,by go_num,Hto,hB5⟩,rfl⟩)
     simp [intOf];omega
    case true =>
     have Hto:Hid (Ending.returned (.bool false)=.returned (.bool (agTo L x n))):=by
      have h1:=Hbq.out
      have h2:(f.toList == x.id.toList)=false:=by
       cases h3:(f.toList == x.id.toList)
       ·rfl
       simp [bne,h3] at h1
      have:agTo L x (k+1)=false:=by rw [agTo,<- Hf.out,h2,Bool.and_false]
      unfold Hid;rw [agTo_le L x n k hlt this]
     clear hto Hbq Hf;go_wp2
     go_ret;exact ⟨Hto.out,hb0.trans (hB5.mono (by omega))⟩
  have hkn:k=n:=by omega
  subst hkn;have Hto:Hid (Ending.returned (.bool true)=.returned (.bool (agTo L x k))):=by unfold Hid;rw [hto.out]
  clear hto;go_wp2
  go_ret;exact ⟨Hto.out,hbw⟩
theorem ag_sl (x:Ent)(w:World)(h:SlEE w a n cap L) :
  Calls Tryz.prog 242 #[.slice a n cap,entV x] w fun e w'=>e=.returned (.bool (agTo L x n))∧Below w.heap.size w w':=by
 rcases h.cells with rfl|⟨b,off,rfl,hb,hc⟩
 ·exact ag_zero a cap L x w
 exact ag_any b off n cap L x w (nZ h.le h.max) hb hc
variable {w w':World}{base size base':Nat}{v:Value}{xs:List Value}{row:Option Nat}{l:List Ent}
theorem ownsRow_grX {e:Nat}(h:w.ownsRow base e size v n xs)(hg:w.grownBy w' row)(hne:∀ q,v.ownBlock=some q->some q≠row):w'.ownsRow base e size v n xs:=by
 obtain ⟨h1,h2⟩:=h;refine ⟨h1,?_⟩;rcases h2 with h2|⟨g,cap,cur,rfl,hgb,hh,r⟩
 ·exact Or.inl h2
 have hlt:g<w.heap.size:=(Array.getElem?_eq_some_iff.1 hh).1;exact Or.inr ⟨g,cap,cur,rfl,hgb,by rw [hg.block g hlt (hne g rfl)];exact hh,r⟩
theorem own_apart {u:Value}{t:List ByteArray}(h:OwnE w base v l)(h':OwnL w base' u t)(q:Nat)(hq:v.ownBlock=some q):u.ownBlock≠some q:=fun e=>by
 obtain ⟨_,h2⟩:=h;obtain ⟨_,h3⟩:=h';rcases h2 with ⟨rfl,_⟩|⟨g,cap,cur,rfl,_,hh,_⟩
 ·cases hq
 rcases h3 with ⟨rfl,_⟩|⟨g',cap',cur',rfl,_,hh',_⟩
 ·cases e
 have e1:g=q:=by simpa [Value.ownBlock] using hq
 have e2:g'=q:=by simpa [Value.ownBlock] using e
 subst e1;rw [e2,hh] at hh';injection hh' with hh'
 injection hh' with _ h5 _
 exact absurd h5 (by decide)
theorem OwnE.new (w:World)(base:Nat)(hb:base<=w.heap.size):OwnE (w.alloc (.cells #[] 79)) base (.slice (some ⟨w.heap.size,0,none⟩) 0 0) [] :=
 ⟨rfl,Or.inr ⟨w.heap.size,0,#[],rfl,hb,by show (w.heap.push _)[w.heap.size]?=_;simp,nL,by decide,rfl,rfl⟩⟩
def SpPost (w:World)(L:Nat->List Ent)(n:Nat)(e:Ending)(w':World):Prop:=Below w.heap.size w w' ∧
 ∃ v u Se So,e=.returned (.tuple #[v,u,.bool (spOk L n)])∧OwnE w' w.heap.size v Se∧OwnL w' w.heap.size u So∧((spOk L n=true∧SpFin L n Se So)∨(spOk L n=false∧Se=[]∧So=[]))
theorem spFin_of (hok:okTo L n=true){So:List ByteArray}(hs:Srt So)(hm:∀ t,t ∈ So↔t ∈ otI L n n):SpFin L n (saI L n n) So:=by
 rcases n with _|m
 ·exact ⟨List.Pairwise.nil,fun x=>⟨fun h=>(by cases h),fun ⟨_,j,hj,_⟩=>absurd hj (Nat.not_lt_zero _)⟩,hs,fun t=>(hm t).trans (otI_in L 0 t 0)⟩
 obtain ⟨h1,h2⟩:=saI_in (L:=L) (n:=m+1) (by omega) hok;exact ⟨h1,h2,hs,fun t=>(hm t).trans (otI_in L (m+1) t (m+1))⟩
theorem spS_sl (w:World)(h:SlEE w a n cap L) :
  Calls Tryz.prog 228 #[.slice a n cap] w (SpPost w L n):=by
 have hn:=nZ h.le h.max;unfold maxLen at hn;have hok:=h.ok;obtain ⟨i0,hi,hz0,hz1,hz2⟩:=info_parts Tryz.infoString;have hb2:∀ o o2,Below w.heap.size w ((w.alloc o).alloc o2):=fun o o2=>bA.alloc (by simp) _
 have hoE:OwnE ((w.alloc (.cells #[] 79)).alloc (.cells #[] 9)) w.heap.size (.slice (some ⟨w.heap.size,0,none⟩) 0 0) []:=(OwnE.new w _ nL).below bA
 have hoL:OwnL ((w.alloc (.cells #[] 79)).alloc (.cells #[] 9)) w.heap.size (.slice (some ⟨w.heap.size+1,0,none⟩) 0 0) []:=by
  have:=OwnL.new (w.alloc (.cells #[] 79)) w.heap.size (by simp);simpa using this
 by_cases h20:n<=20
 ·have Hok:Hid (∀ i,i<n->AllOk (L i)):=hok
  have HoE:Hid (_):=hoE;have HoL:Hid (_):=hoL
  have HN:Hid (∀ W,Below w.heap.size w W->okTo L n=false->SpPost w L n (.returned (.tuple #[.slice (some ⟨W.heap.size,0,none⟩) 0 0,.slice (some ⟨W.heap.size+1,0,none⟩) 0 0,.bool false])) ((W.alloc (.cells #[] 79)).alloc (.cells #[] 9))):=fun W hW hf=>by
   have hq:spOk L n=false:=by unfold spOk;rw [hf,Bool.and_false]
   have hs:=hW.size;refine ⟨(hW.alloc hs _).alloc (by simp;omega) _,_,_,[],[],by rw [hq],(OwnE.new W _ hs).below bA,?_,Or.inr ⟨hq,rfl,rfl⟩⟩
   have:=OwnL.new (W.alloc (.cells #[] 79)) w.heap.size (by simp;omega);simpa using this
  clear hok hoE hoL
  go_enter Tryz.func228,Tryz.ntmps228
  go_wp2_with fail
  go_loopw [5,6,7] (fun v u i wr=>∃ k:Nat,k<=n∧i=.int .i64 k∧Hid (okTo L k=true)∧OwnE wr w.heap.size v (saI L n k)∧OwnL wr w.heap.size u (otI L n k)∧Below w.heap.size w wr) (fun _ _ i _=>n - (intOf i).toNat)
  case atStart=>exact ⟨0,nz,rfl,rfl,HoE.out,HoL.out,hb2 _ _⟩
  case round =>
   clear HoE HoL hb2;obtain ⟨k,hk,rfl,hto,hE,hL,hB⟩:=hrel;have hEok:AllOk (saI L n k):=saI_ok n (fun j hj=>Hok.out j (by omega));have hLok:=otI_ok (L:=L) n (i:=k) (fun j hj=>Hok.out j (by omega));obtain ⟨ea,ec,rfl,_⟩:=hE.sl hEok.at;obtain ⟨ta,tc,rfl,_⟩:=hL.sl hLok
   by_cases hlt:k<n
   ·rcases h.cells with h0|⟨b,off,rfl,hb,hc⟩
    ·omega
    obtain ⟨sa,sc,c1,hsl⟩:=(hc k hlt).below hB hb;have Hc:Hid (∀ i,i<n->RwE w b (off+i) (L i)):=hc;clear hc
    go_wp2_with fail
    refine (stateS_sl _ hsl).mono ?_;rintro e w1 ⟨rfl,hb1⟩;have hB1:=hB.trans (hb1.mono hB.size);have hE1:=hE.below hb1;have hL1:=hL.below hb1;cases hst:stB (L k)
    case false =>
     have Hf:Hid (okTo L n=false):=okTo_le L n k hlt (by rw [okTo,hst,Bool.and_false]);clear hst hto;go_wp2
     refine bodyPost_ret (v:=.tuple #[.slice (some ⟨w1.heap.size,0,none⟩) 0 0,.slice (some ⟨w1.heap.size+1,0,none⟩) 0 0,.bool false]) (by simp [results,Tryz.results228,go_sem]) rfl (HN.out _ hB1 Hf.out)
    case true =>
     have Hto1:Hid (okTo L (k+1)=true):=by unfold Hid;rw [okTo,hto.out,hst];rfl
     have hl3:=(st_parts hst).1;have hsa:=saI_len n hto.out;have hot:=otI_len n hto.out;obtain ⟨wo,rfl⟩:∃ wo:World,wo=wr:=⟨_,rfl⟩;clear hst hto hE hL hB hb1 c1 hsl
     go_wp2_with fail
     go_loopw [5,6,8] (fun v u i wr=>∃ j:Nat,j<=(L k).length∧i=.int .i64 j∧OwnE wr w.heap.size v (saK L n (saI L n k) (L k) j)∧OwnL wr w.heap.size u (otK L n (otI L n k) (L k) j)∧Below w.heap.size w wr) (fun _ _ i _=>(L k).length - (intOf i).toNat)
     case atStart=>exact ⟨0,nz,rfl,hE1,hL1,hB1⟩
     case round =>
      clear hE1 hL1 hB1;obtain ⟨j,hj,rfl,hE,hL,hB⟩:=hrel;have hEk:AllOk (saK L n (saI L n k) (L k) j):=saK_ok n hEok (Hok.out k hlt) j hj;have hLk:=otK_ok (L:=L) n hLok (Hok.out k hlt) j hj;obtain ⟨ea,ec,rfl,hsE⟩:=hE.sl hEk.at;obtain ⟨ta,tc,rfl,_⟩:=hL.sl hLk;obtain ⟨sa,sc,c1,hsl⟩:=(Hc.out k hlt).below hB hb
      by_cases hlj:j<(L k).length
      ·rcases hsl.cells with h0|⟨B,O,rfl,hBB,d1,d2,d3⟩
       ·rw [h0] at hlj;exact absurd hlj (Nat.not_lt_zero _)
       have a1:=d1 j hlj;have a2:=d2 j hlj;have a3:=d3 j hlj;have HEE:Hid (∀ W,Below w.heap.size w W->SlEE W (some ⟨b,off,none⟩) n cap L):=fun W hW=>h.below hW
       have hks:=saK_len L n (saI L n k) (L k) j;have hko:=otK_len L n (otI L n k) (L k) j;have Hns:Hid (saK L n (saI L n k) (L k) (j+1)=if agTo L (eAt (L k) j) n then setL (saK L n (saI L n k) (L k) j) (eAt (L k) j) false else saK L n (saI L n k) (L k) j):=rfl;have Hno:Hid (otK L n (otI L n k) (L k) (j+1)=if agTo L (eAt (L k) j) n then otK L n (otI L n k) (L k) j else otK L n (otI L n k) (L k) j ++ [(eAt (L k) j).id]):=rfl;have Hok2:Hid (AllOk (saK L n (saI L n k) (L k) (j+1))):=saK_ok n hEok (Hok.out k hlt) (j+1) hlj;have Hap:Hid (_):=fun q=>own_apart hE hL q
       generalize saK L n (saI L n k) (L k) j=sA at *;generalize otK L n (otI L n k) (L k) j=oA at *;generalize eAt (L k) j=x at *;have hbA:Below wr.heap.size wr (wr.alloc (.cells #[.string x.ty,.string x.key,.string x.id] 79)):=bA;have hwA:=hB.trans (hbA.mono hB.size);clear d1 d2 d3 hsl
       go_wp2_with fail
       refine (ag_sl x _ (HEE.out _ hwA)).mono ?_;rintro e w2 ⟨rfl,hb2⟩;have hX2:=hb2.mono (B':=wr.heap.size+1) (by simp);have hcx:=box_cells hX2;have hr2:=hbA.trans (hb2.mono hbA.size);have hB2:=hB.trans (hr2.mono hB.size);have hs2:wr.heap.size+1<=w2.heap.size:=by simpa using hX2.size
       cases hag:agTo L x n
       case true =>
        rw [hag,if_pos rfl] at Hns Hno;clear hag
        go_wp2_with fail
        refine (set_sl x false _ (by omega) (hsE.below hr2)).mono ?_;rintro e w3 ⟨v3,rfl,ho3,hb3⟩;rw [<- Hns.out] at ho3;obtain ⟨ga,gc,e2,_⟩:=ho3.sl Hok2.out.at;subst e2;have hL3:OwnL w3 w.heap.size (.slice ta oA.length tc) (otK L n (otI L n k) (L k) (j+1)):=by rw [Hno.out];exact (hL.below hr2).below hb3
        have hB3:=hB2.trans (hb3.mono hB2.size);have hE3:=ho3.base_le hB2.size;clear hcx ho3;go_wp2
        go_roundw
        case rel=>first|exact ⟨j+1,by omega,by go_num,hE3,hL3,hB3⟩|((repeat apply Exists.intro);exact ⟨⟨j+1,by omega,by go_num,hE3,hL3,hB3⟩,rfl⟩)
        simp [intOf];omega
       case false =>
        rw [hag] at Hns Hno;simp only [Bool.false_eq_true,if_false] at Hns Hno;have hm1:oA.length+1<=maxLen:=by unfold maxLen;omega
        have hm2:(oA.length+1) * 16<=140737488355328:=by omega
        have hm3:∀ o,w.heap.size<=(w2.alloc o).heap.size:=fun o=>by have:=hB2.size;simp;omega
        have hL2:=hL.below hr2;have hE2:=hE.below hr2;have hag2:Hid (∀ q',(Value.slice ta oA.length tc).ownBlock=some q'->w.heap.size<=q'):=fun q' hq'=>(World.ownsRow.lt hL2 q' hq').1
        clear hag
        go_wp2_with (at_builtin;refine wpList_append_own _ rfl _ _ 27 rfl w.heap.size 9 i0 (.string ByteArray.empty) 1 16 Tryz.underlying27 hi hz0 hz1 hz2 rfl (by decide) _ _ _ rfl (World.ownsRow.alloc hL2 _) ⟨w2.heap.size,0,none⟩ 1 1 [.string x.id] rfl rfl (one_cells _ _ _) (one_one _) hm1 hm2 (hm3 _) ?_;intro v3 w3 hown3 hgrow3 _)
        have hL3:OwnL w3 w.heap.size v3 (otK L n (otI L n k) (L k) (j+1)):=by rw [Hno.out];exact OwnL.snoc hown3
        have hE3:OwnE w3 w.heap.size (.slice ea sA.length ec) (saK L n (saI L n k) (L k) (j+1)):=by
         rw [Hns.out];exact ownsRow_grX (World.ownsRow.alloc hE2 _) hgrow3 (fun q hq e=>Hap.out q hq e.symm)
        have hB3:Below w.heap.size w w3:=(hB2.alloc hB2.size _).grown hgrow3 (hm3 _) hag2.out;go_roundw
        case rel=>first|exact ⟨j+1,by omega,by go_num,hE3,hL3,hB3⟩|((repeat apply Exists.intro);exact ⟨⟨j+1,by omega,by go_num,hE3,hL3,hB3⟩,rfl⟩)
        simp [intOf];omega
      have hjn:j=(L k).length:=by omega
      subst hjn;have hE9:OwnE wr w.heap.size (.slice ea (saK L n (saI L n k) (L k) (L k).length).length ec) (saI L n (k+1)):=hE;have hL9:OwnL wr w.heap.size (.slice ta (otK L n (otI L n k) (L k) (L k).length).length tc) (otI L n (k+1)):=hL;clear hE hL hsE hEk hLk;generalize (saK L n (saI L n k) (L k) (L k).length).length=q1 at *;generalize (otK L n (otI L n k) (L k) (L k).length).length=q2 at *;go_wp2
      go_roundw
      case rel=>first|exact ⟨k+1,by omega,by go_num,Hto1,hE9,hL9,hB⟩|((repeat apply Exists.intro);exact ⟨⟨k+1,by omega,by go_num,Hto1,hE9,hL9,hB⟩,rfl⟩)
      simp [intOf];omega
   have hkn:k=n:=by omega
   subst hkn;have hot:=otI_len k hto.out;obtain ⟨ta',tc',e3,hsS,_⟩:=hL.sl hLok;injection e3 with e4 e5 e6
   subst e4 e6;clear e5
   go_wp2_with fail
   refine (l2s_sl _ (by omega) hsS).mono ?_;rintro e w2 ⟨v2,l2,rfl,ho2,hsrt,hmem,hb2⟩;have hE2:=hE.below hb2;have hB2:=hB.trans (hb2.mono hB.size)
   have HF:Hid (SpPost w L k (.returned (.tuple #[.slice ea (saI L k k).length ec,v2,.bool true])) w2):=by
    have hq:spOk L k=true:=by unfold spOk;rw [hto.out,decide_eq_true h20];rfl
    refine ⟨hB2,_,_,saI L k k,l2,by rw [hq],hE2,ho2.mono hB.size,Or.inl ⟨hq,spFin_of hto.out hsrt (fun t=>?_)⟩⟩;rw [hmem];exact ⟨fun ⟨i,hi,e⟩=>e ▸ getL_mem hi,fun ht=>mem_getL ht⟩
   clear hsrt hmem hto;generalize (saI L k k).length=q1 at *;go_wp2
   refine bodyPost_ret (v:=.tuple #[.slice ea q1 ec,v2,.bool true]) (by simp [results,Tryz.results228,go_sem]) rfl HF.out
 have hq:Hid (spOk L n=false):=by unfold Hid spOk;rw [decide_eq_false h20];rfl
 have HF:Hid (SpPost w L n (.returned (.tuple #[.slice (some ⟨w.heap.size,0,none⟩) 0 0,.slice (some ⟨w.heap.size+1,0,none⟩) 0 0,.bool false])) ((w.alloc (.cells #[] 79)).alloc (.cells #[] 9))):=⟨hb2 _ _,_,_,[],[],by rw [hq.out],hoE,hoL,Or.inr ⟨hq.out,rfl,rfl⟩⟩;clear hoE hoL
 go_enter Tryz.func228,Tryz.ntmps228
 go_wp2
 refine bodyPost_ret (v:=.tuple #[.slice (some ⟨w.heap.size,0,none⟩) 0 0,.slice (some ⟨w.heap.size+1,0,none⟩) 0 0,.bool false]) (by simp [results,Tryz.results228,go_sem]) rfl HF.out
end Go.Proofs.YtkdalopokdhndaaGreat
