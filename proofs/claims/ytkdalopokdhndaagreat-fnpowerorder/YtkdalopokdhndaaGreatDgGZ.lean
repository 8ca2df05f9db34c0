import Derived.Test.YtkdalopokdhndaaGreatPure3Z
set_option maxHeartbeats 16000000
set_option maxRecDepth 100000
namespace Go.Proofs.YtkdalopokdhndaaGreat
open Go.RowKit
variable {w w':World}{m n q base size:Nat}{v:Value}{xs:List Value}{row:Option Nat}{x:ByteArray}{bs:Nat->Nat}
def gNm:Nat->ByteArray
 | 0=>⟨#[35,109,115,103]⟩
 | 1=>⟨#[35,116,111,112,105,99]⟩
 | 2=>⟨#[42,98,97,110]⟩
 | 3=>⟨#[42,100,101,102,97,117,108,116]⟩
 | 4=>⟨#[42,105,110,118,105,116,101]⟩
 | 5=>⟨#[42,107,105,99,107]⟩
 | 6=>⟨#[42,115,116,97,116,101]⟩
 | 7=>⟨#[64,97]⟩
 | 8=>⟨#[64,98]⟩
 | 9=>⟨#[64,99]⟩
 | _=>⟨#[64,100]⟩
def gAll:Array Value:=#[.string (gNm 0),.string (gNm 1),.string (gNm 2),.string (gNm 3),.string (gNm 4),.string (gNm 5),.string (gNm 6),.string (gNm 7),.string (gNm 8),.string (gNm 9),.string (gNm 10)]
theorem gAll_at (i:Nat)(h:i<11):gAll[i]?=some (.string (gNm i)):=by
 match i,h with
 | 0,_=>rfl
 | 1,_=>rfl
 | 2,_=>rfl
 | 3,_=>rfl
 | 4,_=>rfl
 | 5,_=>rfl
 | 6,_=>rfl
 | 7,_=>rfl
 | 8,_=>rfl
 | 9,_=>rfl
 | 10,_=>rfl
def gC (k bits i:Nat):Bool:=(bits / 2 ^ i) % 2 == 1 || (i == 7 && decide (0<k % 4))
def gLv (i v:Nat):Int:=if i=7∧0<v % 4 then 100 else ((v % 3 * 50+v / 128:Nat):Int)
def gTo (bs:Nat->Nat)(m k bits q:Nat):Nat->Nat × List (ByteArray × Int)
 | 0=>(q,[])
 | i+1=>if gC k bits i then (nxQ m (gTo bs m k bits q i).1,(gTo bs m k bits q i).2 ++ [(gNm i,gLv i (nxB bs m (gTo bs m k bits q i).1))]) else gTo bs m k bits q i
def gM (l:List (ByteArray × Int))(i:Nat):ByteArray:=(l.getD i (ByteArray.empty,0)).1
def gL (l:List (ByteArray × Int))(i:Nat):Int:=(l.getD i (ByteArray.empty,0)).2
def gDr (bs:Nat->Nat)(m q:Nat):Nat × List (ByteArray × Int):=gTo bs m (nxB bs m q) (nxB bs m q+256 * nxB bs m (nxQ m q)) (nxQ m (nxQ m q)) 11
theorem gTo_len (bs:Nat->Nat)(m k bits q:Nat):∀ i,(gTo bs m k bits q i).2.length<=i
 | 0=>nL
 | i+1=>by
  have:=gTo_len bs m k bits q i;unfold gTo;split
  ·simp;omega
  omega
theorem ownsRow_grD {e:Nat}(h:w.ownsRow base e size v n xs)(hg:w.grownBy w' row)(hne:∀ q,v.ownBlock=some q->some q≠row):w'.ownsRow base e size v n xs:=by
 obtain ⟨h1,h2⟩:=h;refine ⟨h1,?_⟩;rcases h2 with h2|⟨g,cap,cur,rfl,hg1,hh,r⟩
 ·exact Or.inl h2
 have hlt:g<w.heap.size:=(Array.getElem?_eq_some_iff.1 hh).1;exact Or.inr ⟨g,cap,cur,rfl,hg1,(hg.block g hlt (hne g rfl)).trans hh,r⟩
theorem encG_congr {M M':Nat->ByteArray}{L L':Nat->Int}:∀ {n},(∀ i,i<n->M i=M' i∧L i=L' i)->encG M L n=encG M' L' n
 | 0,_=>rfl
 | n+1,h=>by rw [<- encG_snoc,<- encG_snoc,encG_congr (fun i hi=>h i (by omega)),(h n (by omega)).1,(h n (by omega)).2]
theorem own_snocG {l:List (ByteArray × Int)}{z:Int}(h:w.ownsRow base 166 2 v (l.length+1) (encG (gM l) (gL l) l.length ++ [.string x,.int .i64 z])):OwnG w base v (l.length+1) (gM (l ++ [(x,z)])) (gL (l ++ [(x,z)])):=by
 have hc:encG (gM l) (gL l) l.length=encG (gM (l ++ [(x,z)])) (gL (l ++ [(x,z)])) l.length:=encG_congr fun i hi=>by
  simp [gM,gL,List.getD,List.getElem?_append_left hi]
 rw [hc] at h;exact OwnG.snoc h (by simp [gM,List.getD]) (by simp [gL,List.getD])
theorem two_cellG (W:World)(x:ByteArray)(z:Int)(ty:TypeId)(j:Nat)(u:Value)(h:[Value.string x,Value.int .i64 z][j]?=some u):(W.alloc (.cells #[.string x,.int .i64 z] ty)).cell? ((⟨W.heap.size,0,none⟩:Addr).add j)=some u:=by
 rw [Addr.add_lit,Nat.zero_add,kA rfl,<- h];rw [List.getElem?_toArray]
theorem two_oneG (x:ByteArray)(z:Int)(u:Value)(h:u ∈ [Value.string x,Value.int .i64 z]):u.oneCell'=true:=by
 simp only [List.mem_cons,List.not_mem_nil,or_false] at h;rcases h with rfl|rfl <;> rfl
def GdPost (p:Nat)(w:World)(bs:Nat->Nat)(m q:Nat)(e:Ending)(w':World):Prop :=
 ∃ g n cc,e=.returned (.slice (some ⟨g,0,none⟩) n cc)∧n=(gDr bs m q).2.length∧OwnG w' w.heap.size (.slice (some ⟨g,0,none⟩) n cc) n (gM (gDr bs m q).2) (gL (gDr bs m q).2)∧DwF p w w' bs m (gDr bs m q).1
def GdRel (p:Nat)(W1:World)(bs:Nat->Nat)(m k bits q i:Nat)(v:Value)(wr:World):Prop :=
 ∃ g mm cc,v=.slice (some ⟨g,0,none⟩) mm cc∧mm<=i∧Hid (mm=(gTo bs m k bits q i).2.length)∧Hid (OwnG wr W1.heap.size (.slice (some ⟨g,0,none⟩) mm cc) mm (gM (gTo bs m k bits q i).2) (gL (gTo bs m k bits q i).2))∧Hid (DwF p W1 wr bs m (gTo bs m k bits q i).1)
theorem drawGrants (p:Nat)(w:World)(h:RdF w p bs m q):Calls Tryz.prog 189 #[.pointer (some ⟨p,0,none⟩)] w (GdPost p w bs m q):=by
 obtain ⟨i0,hi,hz0,hz1,hz2⟩:=info_parts Tryz.infoGrant;have hk:=h.nx;have hp:=h.lt
 go_enter Tryz.func189,Tryz.ntmps189
 go_wp2_with fail
 refine (nextF p w h).mono ?_;rintro e w1 ⟨rfl,hd1⟩;have hs1:=hd1.size;obtain ⟨W1,hW1⟩:∃ W1,W1=w1.alloc (.cells #[.string ⟨#[35,109,115,103]⟩,.string ⟨#[35,116,111,112,105,99]⟩,.string ⟨#[42,98,97,110]⟩,.string ⟨#[42,100,101,102,97,117,108,116]⟩,.string ⟨#[42,105,110,118,105,116,101]⟩,.string ⟨#[42,107,105,99,107]⟩,.string ⟨#[42,115,116,97,116,101]⟩,.string ⟨#[64,97]⟩,.string ⟨#[64,98]⟩,.string ⟨#[64,99]⟩,.string ⟨#[64,100]⟩] 9):=⟨_,rfl⟩;have hb1:Below w1.heap.size w1 W1:=by rw [hW1];exact bA
 have hz:W1.heap.size=w1.heap.size+1:=by rw [hW1];simp
 have hdW1:=hd1.below hb1;have hnm:Hid (∀ i,i<11->W1.cell? ⟨w1.heap.size,i,none⟩=some (.string (gNm i))):=fun i hi=>by rw [hW1,kA rfl];exact gAll_at i hi
 obtain ⟨W2,hW2⟩:∃ W2,W2=W1.alloc (.cells #[] 166):=⟨_,rfl⟩;have hb2:Below W1.heap.size W1 W2:=by rw [hW2];exact bA
 have hon:Hid (OwnG W2 W1.heap.size (.slice (some ⟨w1.heap.size+1,0,none⟩) 0 0) 0 (gM []) (gL [])):=by unfold Hid;rw [hW2,<- hz];exact OwnG.new W1 _ nL _ _
 have hdW2:=hdW1.below hb2;have HN2:Hid (Calls Tryz.prog 56 #[.pointer (some ⟨p,0,none⟩)] W2 (NxF p W2 bs m (nxQ m q))):=nextF p W2 hdW2.1;have hy:=hdW2.1.nx;have HdW:Hid (DwF p w W1 bs m (nxQ m q)):=hdW1;have Hd2:Hid (DwF p W1 W2 bs m (nxQ m q)):=⟨hdW2.1,blwG hb2 _⟩;clear hd1 hdW1 hdW2;obtain ⟨k,hk0⟩:∃ k,k=nxB bs m q:=⟨_,rfl⟩;obtain ⟨y,hy0⟩:∃ y,y=nxB bs m (nxQ m q):=⟨_,rfl⟩;have Hk:Hid (k=nxB bs m q):=hk0;have Hy:Hid (y=nxB bs m (nxQ m q)):=hy0;rw [<- hk0] at hk ⊢;rw [<- hy0] at hy;clear hk0 hy0
 go_wp2_with fail
 rw [<- hW1,<- hW2];clear hW1 hW2;refine HN2.out.mono ?_;rintro e w3 ⟨rfl,hd3⟩;have Hd3:Hid (DwF p W1 w3 bs m (nxQ m (nxQ m q))):=Hd2.out.trans hd3;have hg3:=hd3.2;clear hd3;rw [<- Hy.out]
 go_wp2_with fail
 have hbit:(k:Int)+256 * (y:Int)=((k+256 * y:Nat):Int):=by omega
 rw [hbit];obtain ⟨bits,hbits⟩:∃ bits,bits=k+256 * y:=⟨_,rfl⟩;have hbl:bits<65536:=by omega
 rw [<- hbits];have Hbits:Hid (bits=k+256 * y):=hbits;clear hbits hbit
 have HP0:Hid (∀ g n cc wr,DwF p W1 wr bs m (gTo bs m k bits (nxQ m (nxQ m q)) 11).1->n=(gTo bs m k bits (nxQ m (nxQ m q)) 11).2.length->OwnG wr W1.heap.size (.slice (some ⟨g,0,none⟩) n cc) n (gM (gTo bs m k bits (nxQ m (nxQ m q)) 11).2) (gL (gTo bs m k bits (nxQ m (nxQ m q)) 11).2)->GdPost p w bs m q (.returned (.slice (some ⟨g,0,none⟩) n cc)) wr):=fun g n cc wr h1 h2 h3=>by
  have e:gTo bs m k bits (nxQ m (nxQ m q)) 11=gDr bs m q:=by unfold gDr;rw [Hbits.out,Hk.out,Hy.out]
  rw [e] at h1 h2 h3;refine ⟨g,n,cc,rfl,h2,?_,HdW.out.trans h1⟩;obtain ⟨q1,q2⟩:=h3;exact ⟨q1,q2.imp id fun ⟨g,cap,cur,e,hg,r⟩=>⟨g,cap,cur,e,nZ HdW.out.size hg,r⟩⟩
 have hon3:Hid (OwnG w3 W1.heap.size (.slice (some ⟨w1.heap.size+1,0,none⟩) 0 0) 0 (gM []) (gL [])):=ownsRow_grD hon.out hg3 (fun q hq e=>by have:=(World.ownsRow.lt hon.out q hq).1;injection e with e;omega)
 go_loopw [5,7] (fun v i wr=>∃ j:Nat,j<=11∧i=.int .i64 (j:Int)∧GdRel p W1 bs m k bits (nxQ m (nxQ m q)) j v wr) (fun _ i _=>11 - (intOf i).toNat)
 case atStart=>exact ⟨0,by decide,rfl,_,0,0,rfl,nL,rfl,hon3.out,Hd3.out⟩
 case round =>
  clear hon hon3 hg3 Hd3 Hd2 HN2;obtain ⟨j,hj,rfl,g,mm,cc,rfl,hmm,hml,hown,hdw⟩:=hrel
  by_cases hlt:j<11
  ·have hxb:((bits:Int) / 2 ^ j).tmod 2=((bits / 2 ^ j % 2:Nat):Int):=by
    have h0:((bits:Int) / 2 ^ j)=((bits / 2 ^ j:Nat):Int):=by simp
    rw [h0];generalize bits / 2 ^ j=z;rw [Int.tmod_eq_emod_of_nonneg (by omega)];omega
   have h10:¬ bits / 2 ^ j % 2=1->bits / 2 ^ j % 2=0:=by
    generalize bits / 2 ^ j=z;omega
   have hjj:(j:Int)<64:=by omega
   by_cases hj7:j=7
   ·subst hj7
    by_cases h1:bits / 2 ^ 7 % 2=1
    ·have h1b:(((bits:Int) / 2 ^ 7).tmod 2 == 1)=true:=by rw [hxb,h1];rfl
     have h1d:bits / 128 % 2=1:=h1;have h1c:((bits:Int) / 128 % 2 == 1)=true:=by rw [show (bits:Int) / 128 % 2=1 by omega];rfl
     clear h1d h1b;have hc:gC k bits 7=true:=by unfold gC;rw [h1];rfl
     clear hxb h1 h10
     by_cases hx4:0<nxB bs m (gTo bs m k bits (nxQ m (nxQ m q)) 7).1 % 4
     ·skip
      have HC:Hid (gC k bits 7=true):=hc;clear hc
      go_wp2_with fail
      refine (nextF p wr hdw.out.1).mono ?_;rintro e w5 ⟨rfl,hd5⟩;have hx:=hdw.out.1.nx;have Hst:Hid (gTo bs m k bits (nxQ m (nxQ m q)) (7+1)=(nxQ m (gTo bs m k bits (nxQ m (nxQ m q)) 7).1,(gTo bs m k bits (nxQ m (nxQ m q)) 7).2 ++ [(gNm 7,gLv 7 (nxB bs m (gTo bs m k bits (nxQ m (nxQ m q)) 7).1))])):=by unfold Hid;rw [gTo,if_pos HC.out]
      obtain ⟨x,hx0⟩:∃ x,x=nxB bs m (gTo bs m k bits (nxQ m (nxQ m q)) 7).1:=⟨_,rfl⟩;rw [<- hx0] at Hst hx hx4 ⊢;clear hx0;have Hd5:Hid (DwF p W1 w5 bs m (gTo bs m k bits (nxQ m (nxQ m q)) (7+1)).1):=by unfold Hid;rw [Hst.out];exact hdw.out.trans hd5
      have hnm5:w5.cell? ⟨w1.heap.size,7,none⟩=some (.string (gNm 7)):=(World.cell?_of_block (a:=⟨w1.heap.size,7,none⟩) (Hd5.out.2.block w1.heap.size (by omega) (fun e=>by injection e with e;omega))).trans (hnm.out 7 hlt);have hown5:w5.ownsRow W1.heap.size 166 2 (.slice (some ⟨g,0,none⟩) mm cc) mm (encG (gM (gTo bs m k bits (nxQ m (nxQ m q)) 7).2) (gL (gTo bs m k bits (nxQ m (nxQ m q)) 7).2) mm):=ownsRow_grD hown.out hd5.2 (fun q hq e=>by have:=(World.ownsRow.lt hown.out q hq).1;injection e with e;omega);have Hl:Hid (mm=(gTo bs m k bits (nxQ m (nxQ m q)) 7).2.length):=hml.out;clear hdw hown hd5 hml;generalize (gTo bs m k bits (nxQ m (nxQ m q)) 7).2=l at *;have hs5:W1.heap.size<=w5.heap.size:=Hd5.out.size;have hm1:mm+1<=maxLen:=by unfold maxLen;omega
      have hm2:(mm+1) * 24<=140737488355328:=by omega
      have hm3:∀ o,W1.heap.size<=(w5.alloc o).heap.size:=fun o=>by simp;omega
      have hag:Hid (∀ q,(Value.slice (some ⟨g,0,none⟩) mm cc).ownBlock=some q->W1.heap.size<=q):=fun q hq=>(World.ownsRow.lt hown5 q hq).1
      have hgv:(100:Int)=gLv 7 x:=by unfold gLv;rw [if_pos ⟨rfl,hx4⟩]
      have hd4:decide ((0:Int)<(x:Int) % 4)=true:=decide_eq_true (by omega);have Hgv:Hid (100=gLv 7 x):=hgv;clear hgv hx4
      go_wp2_with (at_builtin;refine wpList_append_lies _ rfl _ _ 28 rfl W1.heap.size 166 i0 _ 2 24 Tryz.underlying28 hi hz0 hz1 hz2 rfl (by decide) _ _ _ rfl (World.ownsRow.alloc hown5 _) ⟨w5.heap.size,0,none⟩ 1 1 [.string (gNm 7),.int .i64 (100)] rfl rfl (two_cellG _ _ _ _) (two_oneG _ _) (by decide) hm1 hm2 (hm3 _) (w5.heap.size+1) (by simp) ?_;intro gg cq w7 hown7 hgrow7 hat7 hlt7)
      have Hown7:Hid (OwnG w7 W1.heap.size (.slice (some ⟨gg,0,none⟩) (mm+1) cq) (mm+1) (gM (gTo bs m k bits (nxQ m (nxQ m q)) (7+1)).2) (gL (gTo bs m k bits (nxQ m (nxQ m q)) (7+1)).2)):=by
       unfold Hid;rw [Hst.out,<- Hgv.out];rw [Hl.out] at hown7 ⊢;exact own_snocG hown7
      have Hd7:Hid (DwF p W1 w7 bs m (gTo bs m k bits (nxQ m (nxQ m q)) (7+1)).1):=(Hd5.out.below bA).grow hgrow7 hag.out (by omega);have Hl7:Hid (mm+1=(gTo bs m k bits (nxQ m (nxQ m q)) (7+1)).2.length):=by unfold Hid;rw [Hst.out,List.length_append,<- Hl.out];rfl
      clear hown7 hgrow7 hat7 hown5 hm3 hag Hst;exact ⟨⟨7+1,by omega,by go_num,gg,mm+1,cq,rfl,by omega,Hl7.out,Hown7.out,Hd7.out⟩,by first|(simp [intOf];omega)|simp [intOf]⟩
     skip
     have HC:Hid (gC k bits 7=true):=hc;clear hc
     go_wp2_with fail
     refine (nextF p wr hdw.out.1).mono ?_;rintro e w5 ⟨rfl,hd5⟩;have hx:=hdw.out.1.nx;have Hst:Hid (gTo bs m k bits (nxQ m (nxQ m q)) (7+1)=(nxQ m (gTo bs m k bits (nxQ m (nxQ m q)) 7).1,(gTo bs m k bits (nxQ m (nxQ m q)) 7).2 ++ [(gNm 7,gLv 7 (nxB bs m (gTo bs m k bits (nxQ m (nxQ m q)) 7).1))])):=by unfold Hid;rw [gTo,if_pos HC.out]
     obtain ⟨x,hx0⟩:∃ x,x=nxB bs m (gTo bs m k bits (nxQ m (nxQ m q)) 7).1:=⟨_,rfl⟩;rw [<- hx0] at Hst hx hx4 ⊢;clear hx0;have Hd5:Hid (DwF p W1 w5 bs m (gTo bs m k bits (nxQ m (nxQ m q)) (7+1)).1):=by unfold Hid;rw [Hst.out];exact hdw.out.trans hd5
     have hnm5:w5.cell? ⟨w1.heap.size,7,none⟩=some (.string (gNm 7)):=(World.cell?_of_block (a:=⟨w1.heap.size,7,none⟩) (Hd5.out.2.block w1.heap.size (by omega) (fun e=>by injection e with e;omega))).trans (hnm.out 7 hlt);have hown5:w5.ownsRow W1.heap.size 166 2 (.slice (some ⟨g,0,none⟩) mm cc) mm (encG (gM (gTo bs m k bits (nxQ m (nxQ m q)) 7).2) (gL (gTo bs m k bits (nxQ m (nxQ m q)) 7).2) mm):=ownsRow_grD hown.out hd5.2 (fun q hq e=>by have:=(World.ownsRow.lt hown.out q hq).1;injection e with e;omega);have Hl:Hid (mm=(gTo bs m k bits (nxQ m (nxQ m q)) 7).2.length):=hml.out;clear hdw hown hd5 hml;generalize (gTo bs m k bits (nxQ m (nxQ m q)) 7).2=l at *;have hs5:W1.heap.size<=w5.heap.size:=Hd5.out.size;have hm1:mm+1<=maxLen:=by unfold maxLen;omega
     have hm2:(mm+1) * 24<=140737488355328:=by omega
     have hm3:∀ o,W1.heap.size<=(w5.alloc o).heap.size:=fun o=>by simp;omega
     have hag:Hid (∀ q,(Value.slice (some ⟨g,0,none⟩) mm cc).ownBlock=some q->W1.heap.size<=q):=fun q hq=>(World.ownsRow.lt hown5 q hq).1
     have hgv:(x:Int) % 3 * 50+(x:Int) / 128=gLv 7 x:=by unfold gLv;rw [if_neg (fun h=>hx4 h.2)];omega
     have hd4:decide ((0:Int)<(x:Int) % 4)=false:=decide_eq_false (fun h=>hx4 (by omega));have Hgv:Hid ((x:Int) % 3 * 50+(x:Int) / 128=gLv 7 x):=hgv;clear hgv hx4
     go_wp2_with (at_builtin;refine wpList_append_lies _ rfl _ _ 28 rfl W1.heap.size 166 i0 _ 2 24 Tryz.underlying28 hi hz0 hz1 hz2 rfl (by decide) _ _ _ rfl (World.ownsRow.alloc hown5 _) ⟨w5.heap.size,0,none⟩ 1 1 [.string (gNm 7),.int .i64 ((x:Int) % 3 * 50+(x:Int) / 128)] rfl rfl (two_cellG _ _ _ _) (two_oneG _ _) (by decide) hm1 hm2 (hm3 _) (w5.heap.size+1) (by simp) ?_;intro gg cq w7 hown7 hgrow7 hat7 hlt7)
     have Hown7:Hid (OwnG w7 W1.heap.size (.slice (some ⟨gg,0,none⟩) (mm+1) cq) (mm+1) (gM (gTo bs m k bits (nxQ m (nxQ m q)) (7+1)).2) (gL (gTo bs m k bits (nxQ m (nxQ m q)) (7+1)).2)):=by
      unfold Hid;rw [Hst.out,<- Hgv.out];rw [Hl.out] at hown7 ⊢;exact own_snocG hown7
     have Hd7:Hid (DwF p W1 w7 bs m (gTo bs m k bits (nxQ m (nxQ m q)) (7+1)).1):=(Hd5.out.below bA).grow hgrow7 hag.out (by omega);have Hl7:Hid (mm+1=(gTo bs m k bits (nxQ m (nxQ m q)) (7+1)).2.length):=by unfold Hid;rw [Hst.out,List.length_append,<- Hl.out];rfl
     clear hown7 hgrow7 hat7 hown5 hm3 hag Hst;exact ⟨⟨7+1,by omega,by go_num,gg,mm+1,cq,rfl,by omega,Hl7.out,Hown7.out,Hd7.out⟩,by first|(simp [intOf];omega)|simp [intOf]⟩
    have h1b:(((bits:Int) / 2 ^ 7).tmod 2 == 1)=false:=by rw [hxb,h10 h1];rfl
    have h1d:bits / 128 % 2=0:=h10 h1;have h1c:((bits:Int) / 128 % 2 == 1)=false:=by rw [show (bits:Int) / 128 % 2=0 by omega];rfl
    clear h1d h1b
    by_cases hk4:0<k % 4
    ·have hk5:decide ((0:Int)<(k:Int) % 4)=true:=decide_eq_true (by omega)
     have hc:gC k bits 7=true:=by unfold gC;simp [hk4]
     clear hxb h1 h10 hk4
     by_cases hx4:0<nxB bs m (gTo bs m k bits (nxQ m (nxQ m q)) 7).1 % 4
     ·skip
      have HC:Hid (gC k bits 7=true):=hc;clear hc
      go_wp2_with fail
      refine (nextF p wr hdw.out.1).mono ?_;rintro e w5 ⟨rfl,hd5⟩;have hx:=hdw.out.1.nx;have Hst:Hid (gTo bs m k bits (nxQ m (nxQ m q)) (7+1)=(nxQ m (gTo bs m k bits (nxQ m (nxQ m q)) 7).1,(gTo bs m k bits (nxQ m (nxQ m q)) 7).2 ++ [(gNm 7,gLv 7 (nxB bs m (gTo bs m k bits (nxQ m (nxQ m q)) 7).1))])):=by unfold Hid;rw [gTo,if_pos HC.out]
      obtain ⟨x,hx0⟩:∃ x,x=nxB bs m (gTo bs m k bits (nxQ m (nxQ m q)) 7).1:=⟨_,rfl⟩;rw [<- hx0] at Hst hx hx4 ⊢;clear hx0;have Hd5:Hid (DwF p W1 w5 bs m (gTo bs m k bits (nxQ m (nxQ m q)) (7+1)).1):=by unfold Hid;rw [Hst.out];exact hdw.out.trans hd5
      have hnm5:w5.cell? ⟨w1.heap.size,7,none⟩=some (.string (gNm 7)):=(World.cell?_of_block (a:=⟨w1.heap.size,7,none⟩) (Hd5.out.2.block w1.heap.size (by omega) (fun e=>by injection e with e;omega))).trans (hnm.out 7 hlt);have hown5:w5.ownsRow W1.heap.size 166 2 (.slice (some ⟨g,0,none⟩) mm cc) mm (encG (gM (gTo bs m k bits (nxQ m (nxQ m q)) 7).2) (gL (gTo bs m k bits (nxQ m (nxQ m q)) 7).2) mm):=ownsRow_grD hown.out hd5.2 (fun q hq e=>by have:=(World.ownsRow.lt hown.out q hq).1;injection e with e;omega);have Hl:Hid (mm=(gTo bs m k bits (nxQ m (nxQ m q)) 7).2.length):=hml.out;clear hdw hown hd5 hml;generalize (gTo bs m k bits (nxQ m (nxQ m q)) 7).2=l at *;have hs5:W1.heap.size<=w5.heap.size:=Hd5.out.size;have hm1:mm+1<=maxLen:=by unfold maxLen;omega
      have hm2:(mm+1) * 24<=140737488355328:=by omega
      have hm3:∀ o,W1.heap.size<=(w5.alloc o).heap.size:=fun o=>by simp;omega
      have hag:Hid (∀ q,(Value.slice (some ⟨g,0,none⟩) mm cc).ownBlock=some q->W1.heap.size<=q):=fun q hq=>(World.ownsRow.lt hown5 q hq).1
      have hgv:(100:Int)=gLv 7 x:=by unfold gLv;rw [if_pos ⟨rfl,hx4⟩]
      have hd4:decide ((0:Int)<(x:Int) % 4)=true:=decide_eq_true (by omega);have Hgv:Hid (100=gLv 7 x):=hgv;clear hgv hx4
      go_wp2_with (at_builtin;refine wpList_append_lies _ rfl _ _ 28 rfl W1.heap.size 166 i0 _ 2 24 Tryz.underlying28 hi hz0 hz1 hz2 rfl (by decide) _ _ _ rfl (World.ownsRow.alloc hown5 _) ⟨w5.heap.size,0,none⟩ 1 1 [.string (gNm 7),.int .i64 (100)] rfl rfl (two_cellG _ _ _ _) (two_oneG _ _) (by decide) hm1 hm2 (hm3 _) (w5.heap.size+1) (by simp) ?_;intro gg cq w7 hown7 hgrow7 hat7 hlt7)
      have Hown7:Hid (OwnG w7 W1.heap.size (.slice (some ⟨gg,0,none⟩) (mm+1) cq) (mm+1) (gM (gTo bs m k bits (nxQ m (nxQ m q)) (7+1)).2) (gL (gTo bs m k bits (nxQ m (nxQ m q)) (7+1)).2)):=by
       unfold Hid;rw [Hst.out,<- Hgv.out];rw [Hl.out] at hown7 ⊢;exact own_snocG hown7
      have Hd7:Hid (DwF p W1 w7 bs m (gTo bs m k bits (nxQ m (nxQ m q)) (7+1)).1):=(Hd5.out.below bA).grow hgrow7 hag.out (by omega);have Hl7:Hid (mm+1=(gTo bs m k bits (nxQ m (nxQ m q)) (7+1)).2.length):=by unfold Hid;rw [Hst.out,List.length_append,<- Hl.out];rfl
      clear hown7 hgrow7 hat7 hown5 hm3 hag Hst;exact ⟨⟨7+1,by omega,by go_num,gg,mm+1,cq,rfl,by omega,Hl7.out,Hown7.out,Hd7.out⟩,by first|(simp [intOf];omega)|simp [intOf]⟩
     skip
     have HC:Hid (gC k bits 7=true):=hc;clear hc
     go_wp2_with fail
     refine (nextF p wr hdw.out.1).mono ?_;rintro e w5 ⟨rfl,hd5⟩;have hx:=hdw.out.1.nx;have Hst:Hid (gTo bs m k bits (nxQ m (nxQ m q)) (7+1)=(nxQ m (gTo bs m k bits (nxQ m (nxQ m q)) 7).1,(gTo bs m k bits (nxQ m (nxQ m q)) 7).2 ++ [(gNm 7,gLv 7 (nxB bs m (gTo bs m k bits (nxQ m (nxQ m q)) 7).1))])):=by unfold Hid;rw [gTo,if_pos HC.out]
     obtain ⟨x,hx0⟩:∃ x,x=nxB bs m (gTo bs m k bits (nxQ m (nxQ m q)) 7).1:=⟨_,rfl⟩;rw [<- hx0] at Hst hx hx4 ⊢;clear hx0;have Hd5:Hid (DwF p W1 w5 bs m (gTo bs m k bits (nxQ m (nxQ m q)) (7+1)).1):=by unfold Hid;rw [Hst.out];exact hdw.out.trans hd5
     have hnm5:w5.cell? ⟨w1.heap.size,7,none⟩=some (.string (gNm 7)):=(World.cell?_of_block (a:=⟨w1.heap.size,7,none⟩) (Hd5.out.2.block w1.heap.size (by omega) (fun e=>by injection e with e;omega))).trans (hnm.out 7 hlt);have hown5:w5.ownsRow W1.heap.size 166 2 (.slice (some ⟨g,0,none⟩) mm cc) mm (encG (gM (gTo bs m k bits (nxQ m (nxQ m q)) 7).2) (gL (gTo bs m k bits (nxQ m (nxQ m q)) 7).2) mm):=ownsRow_grD hown.out hd5.2 (fun q hq e=>by have:=(World.ownsRow.lt hown.out q hq).1;injection e with e;omega);have Hl:Hid (mm=(gTo bs m k bits (nxQ m (nxQ m q)) 7).2.length):=hml.out;clear hdw hown hd5 hml;generalize (gTo bs m k bits (nxQ m (nxQ m q)) 7).2=l at *;have hs5:W1.heap.size<=w5.heap.size:=Hd5.out.size;have hm1:mm+1<=maxLen:=by unfold maxLen;omega
     have hm2:(mm+1) * 24<=140737488355328:=by omega
     have hm3:∀ o,W1.heap.size<=(w5.alloc o).heap.size:=fun o=>by simp;omega
     have hag:Hid (∀ q,(Value.slice (some ⟨g,0,none⟩) mm cc).ownBlock=some q->W1.heap.size<=q):=fun q hq=>(World.ownsRow.lt hown5 q hq).1
     have hgv:(x:Int) % 3 * 50+(x:Int) / 128=gLv 7 x:=by unfold gLv;rw [if_neg (fun h=>hx4 h.2)];omega
     have hd4:decide ((0:Int)<(x:Int) % 4)=false:=decide_eq_false (fun h=>hx4 (by omega));have Hgv:Hid ((x:Int) % 3 * 50+(x:Int) / 128=gLv 7 x):=hgv;clear hgv hx4
     go_wp2_with (at_builtin;refine wpList_append_lies _ rfl _ _ 28 rfl W1.heap.size 166 i0 _ 2 24 Tryz.underlying28 hi hz0 hz1 hz2 rfl (by decide) _ _ _ rfl (World.ownsRow.alloc hown5 _) ⟨w5.heap.size,0,none⟩ 1 1 [.string (gNm 7),.int .i64 ((x:Int) % 3 * 50+(x:Int) / 128)] rfl rfl (two_cellG _ _ _ _) (two_oneG _ _) (by decide) hm1 hm2 (hm3 _) (w5.heap.size+1) (by simp) ?_;intro gg cq w7 hown7 hgrow7 hat7 hlt7)
     have Hown7:Hid (OwnG w7 W1.heap.size (.slice (some ⟨gg,0,none⟩) (mm+1) cq) (mm+1) (gM (gTo bs m k bits (nxQ m (nxQ m q)) (7+1)).2) (gL (gTo bs m k bits (nxQ m (nxQ m q)) (7+1)).2)):=by
      unfold Hid;rw [Hst.out,<- Hgv.out];rw [Hl.out] at hown7 ⊢;exact own_snocG hown7
     have Hd7:Hid (DwF p W1 w7 bs m (gTo bs m k bits (nxQ m (nxQ m q)) (7+1)).1):=(Hd5.out.below bA).grow hgrow7 hag.out (by omega);have Hl7:Hid (mm+1=(gTo bs m k bits (nxQ m (nxQ m q)) (7+1)).2.length):=by unfold Hid;rw [Hst.out,List.length_append,<- Hl.out];rfl
     clear hown7 hgrow7 hat7 hown5 hm3 hag Hst;exact ⟨⟨7+1,by omega,by go_num,gg,mm+1,cq,rfl,by omega,Hl7.out,Hown7.out,Hd7.out⟩,by first|(simp [intOf];omega)|simp [intOf]⟩
    have hk5:decide ((0:Int)<(k:Int) % 4)=false:=decide_eq_false (by omega);have hc:gC k bits 7=false:=by unfold gC;rw [decide_eq_false hk4,h10 h1];simp
    clear hxb h1 h10 hk4;have Hst:Hid (gTo bs m k bits (nxQ m (nxQ m q)) (7+1)=gTo bs m k bits (nxQ m (nxQ m q)) 7):=by unfold Hid;rw [gTo,if_neg (by rw [hc];decide)]
    clear hc;go_wp2
    exact ⟨⟨7+1,by omega,by go_num,g,mm,cc,rfl,by omega,by rw [Hst.out];exact hml.out,by rw [Hst.out];exact hown.out,by rw [Hst.out];exact hdw.out⟩,by first|(simp [intOf];omega)|simp [intOf]⟩
   have hj8:((j:Int) == 7)=false:=by simp;omega
   by_cases h1:bits / 2 ^ j % 2=1
   ·have h1b:(((bits:Int) / 2 ^ j).tmod 2 == 1)=true:=by rw [hxb,h1];rfl
    have hc:gC k bits j=true:=by unfold gC;rw [h1];rfl
    have hx4:¬ (j=7∧0<nxB bs m (gTo bs m k bits (nxQ m (nxQ m q)) j).1 % 4):=fun h=>hj7 h.1
    clear hxb h1 h10;have HC:Hid (gC k bits j=true):=hc;clear hc
    go_wp2_with fail
    refine (nextF p wr hdw.out.1).mono ?_;rintro e w5 ⟨rfl,hd5⟩;have hx:=hdw.out.1.nx;have Hst:Hid (gTo bs m k bits (nxQ m (nxQ m q)) (j+1)=(nxQ m (gTo bs m k bits (nxQ m (nxQ m q)) j).1,(gTo bs m k bits (nxQ m (nxQ m q)) j).2 ++ [(gNm j,gLv j (nxB bs m (gTo bs m k bits (nxQ m (nxQ m q)) j).1))])):=by unfold Hid;rw [gTo,if_pos HC.out]
    obtain ⟨x,hx0⟩:∃ x,x=nxB bs m (gTo bs m k bits (nxQ m (nxQ m q)) j).1:=⟨_,rfl⟩;rw [<- hx0] at Hst hx hx4 ⊢;clear hx0;have Hd5:Hid (DwF p W1 w5 bs m (gTo bs m k bits (nxQ m (nxQ m q)) (j+1)).1):=by unfold Hid;rw [Hst.out];exact hdw.out.trans hd5
    have hnm5:w5.cell? ⟨w1.heap.size,j,none⟩=some (.string (gNm j)):=(World.cell?_of_block (a:=⟨w1.heap.size,j,none⟩) (Hd5.out.2.block w1.heap.size (by omega) (fun e=>by injection e with e;omega))).trans (hnm.out j hlt);have hown5:w5.ownsRow W1.heap.size 166 2 (.slice (some ⟨g,0,none⟩) mm cc) mm (encG (gM (gTo bs m k bits (nxQ m (nxQ m q)) j).2) (gL (gTo bs m k bits (nxQ m (nxQ m q)) j).2) mm):=ownsRow_grD hown.out hd5.2 (fun q hq e=>by have:=(World.ownsRow.lt hown.out q hq).1;injection e with e;omega);have Hl:Hid (mm=(gTo bs m k bits (nxQ m (nxQ m q)) j).2.length):=hml.out;clear hdw hown hd5 hml;generalize (gTo bs m k bits (nxQ m (nxQ m q)) j).2=l at *;have hs5:W1.heap.size<=w5.heap.size:=Hd5.out.size;have hm1:mm+1<=maxLen:=by unfold maxLen;omega
    have hm2:(mm+1) * 24<=140737488355328:=by omega
    have hm3:∀ o,W1.heap.size<=(w5.alloc o).heap.size:=fun o=>by simp;omega
    have hag:Hid (∀ q,(Value.slice (some ⟨g,0,none⟩) mm cc).ownBlock=some q->W1.heap.size<=q):=fun q hq=>(World.ownsRow.lt hown5 q hq).1
    have hgv:(x:Int) % 3 * 50+(x:Int) / 128=gLv j x:=by unfold gLv;rw [if_neg hx4];omega
    have Hgv:Hid ((x:Int) % 3 * 50+(x:Int) / 128=gLv j x):=hgv;clear hgv hx4
    go_wp2_with (at_builtin;refine wpList_append_lies _ rfl _ _ 28 rfl W1.heap.size 166 i0 _ 2 24 Tryz.underlying28 hi hz0 hz1 hz2 rfl (by decide) _ _ _ rfl (World.ownsRow.alloc hown5 _) ⟨w5.heap.size,0,none⟩ 1 1 [.string (gNm j),.int .i64 ((x:Int) % 3 * 50+(x:Int) / 128)] rfl rfl (two_cellG _ _ _ _) (two_oneG _ _) (by decide) hm1 hm2 (hm3 _) (w5.heap.size+1) (by simp) ?_;intro gg cq w7 hown7 hgrow7 hat7 hlt7)
    have Hown7:Hid (OwnG w7 W1.heap.size (.slice (some ⟨gg,0,none⟩) (mm+1) cq) (mm+1) (gM (gTo bs m k bits (nxQ m (nxQ m q)) (j+1)).2) (gL (gTo bs m k bits (nxQ m (nxQ m q)) (j+1)).2)):=by
     unfold Hid;rw [Hst.out,<- Hgv.out];rw [Hl.out] at hown7 ⊢;exact own_snocG hown7
    have Hd7:Hid (DwF p W1 w7 bs m (gTo bs m k bits (nxQ m (nxQ m q)) (j+1)).1):=(Hd5.out.below bA).grow hgrow7 hag.out (by omega);have Hl7:Hid (mm+1=(gTo bs m k bits (nxQ m (nxQ m q)) (j+1)).2.length):=by unfold Hid;rw [Hst.out,List.length_append,<- Hl.out];rfl
    clear hown7 hgrow7 hat7 hown5 hm3 hag Hst;exact ⟨⟨j+1,by omega,by go_num,gg,mm+1,cq,rfl,by omega,Hl7.out,Hown7.out,Hd7.out⟩,by first|(simp [intOf];omega)|simp [intOf]⟩
   have h1b:(((bits:Int) / 2 ^ j).tmod 2 == 1)=false:=by rw [hxb,h10 h1];rfl
   have hc:gC k bits j=false:=by unfold gC;rw [h10 h1];simp [hj7]
   clear hxb h1 h10;have Hst:Hid (gTo bs m k bits (nxQ m (nxQ m q)) (j+1)=gTo bs m k bits (nxQ m (nxQ m q)) j):=by unfold Hid;rw [gTo,if_neg (by rw [hc];decide)]
   clear hc;go_wp2
   exact ⟨⟨j+1,by omega,by go_num,g,mm,cc,rfl,by omega,by rw [Hst.out];exact hml.out,by rw [Hst.out];exact hown.out,by rw [Hst.out];exact hdw.out⟩,by first|(simp [intOf];omega)|simp [intOf]⟩
  have hj11:j=11:=by omega
  subst hj11;go_wp2
  go_ret;exact HP0.out _ _ _ _ hdw.out hml.out hown.out
variable {a aa ga pa:Option Addr}{B b k ca cg cp cap:Nat}
structure Ev where
 id:ByteArray
 sd:ByteArray
 ty:ByteArray
 key:ByteArray
 val:ByteArray
 st:Bool
 tm:Int
 np:Nat
 na:Nat
 ng:Nat
 Pv:Nat->ByteArray
 Av:Nat->ByteArray
 M:Nat->ByteArray
 L:Nat->Int
variable {e:Ev}{E:Nat->Ev}
def Ev.code (e:Ev):Int:=evCode e.id e.sd e.ty e.key e.val e.st e.tm e.np e.na e.ng e.Pv e.Av e.M e.L
abbrev ec (e:Ev)(p:Option Addr)(c:Nat)(a:Option Addr)(d:Nat)(g:Option Addr)(f:Nat):Array Value:=#[.string e.id,.string e.sd,.string e.ty,.bool e.st,.string e.key,.int .i64 e.tm,.slice p e.np c,.slice a e.na d,.string e.val,.slice g e.ng f]
abbrev Ev.val' (e:Ev)(pa:Option Addr)(cp:Nat)(aa:Option Addr)(ca:Nat)(ga:Option Addr)(cg:Nat):Value :=
 evV e.id e.sd e.ty e.key e.val e.st e.tm pa e.np cp aa e.na ca ga e.ng cg
structure EvOk (w:World)(e:Ev)(pa:Option Addr)(cp:Nat)(aa:Option Addr)(ca:Nat)(ga:Option Addr)(cg:Nat):Prop where
 hid:e.id.size<=maxLen
 hsd:e.sd.size<=maxLen
 hty:e.ty.size<=maxLen
 hkey:e.key.size<=maxLen
 hval:e.val.size<=maxLen
 hp:SlS w pa e.np cp e.Pv
 ha:SlS w aa e.na ca e.Av
 hg:SlG w ga e.ng cg e.M e.L
theorem EvOk.below (h:EvOk w e pa cp aa ca ga cg)(hb:Below w.heap.size w w'):EvOk w' e pa cp aa ca ga cg :=
 ⟨h.hid,h.hsd,h.hty,h.hkey,h.hval,h.hp.below hb,h.ha.below hb,h.hg.below hb⟩
structure EvCells (w:World)(b o:Nat)(e:Ev)(pa:Option Addr)(cp:Nat)(aa:Option Addr)(ca:Nat)(ga:Option Addr)(cg:Nat):Prop where
 c0:w.cell? ⟨b,o,none⟩=some (.string e.id)
 c1:w.cell? ⟨b,o+1,none⟩=some (.string e.sd)
 c2:w.cell? ⟨b,o+2,none⟩=some (.string e.ty)
 c3:w.cell? ⟨b,o+3,none⟩=some (.bool e.st)
 c4:w.cell? ⟨b,o+4,none⟩=some (.string e.key)
 c5:w.cell? ⟨b,o+5,none⟩=some (.int .i64 e.tm)
 c6:w.cell? ⟨b,o+6,none⟩=some (.slice pa e.np cp)
 c7:w.cell? ⟨b,o+7,none⟩=some (.slice aa e.na ca)
 c8:w.cell? ⟨b,o+8,none⟩=some (.string e.val)
 c9:w.cell? ⟨b,o+9,none⟩=some (.slice ga e.ng cg)
theorem EvCells.below {o:Nat}(h:EvCells w b o e pa cp aa ca ga cg)(hb:Below B w w')(hlt:b<B):EvCells w' b o e pa cp aa ca ga cg :=
 ⟨(hb.cell (by exact hlt)).trans h.c0,(hb.cell (by exact hlt)).trans h.c1,(hb.cell (by exact hlt)).trans h.c2,(hb.cell (by exact hlt)).trans h.c3,(hb.cell (by exact hlt)).trans h.c4,(hb.cell (by exact hlt)).trans h.c5,(hb.cell (by exact hlt)).trans h.c6,(hb.cell (by exact hlt)).trans h.c7,(hb.cell (by exact hlt)).trans h.c8,(hb.cell (by exact hlt)).trans h.c9⟩
def EvAt (w:World)(b o:Nat)(e:Ev):Prop:=∃ pa cp aa ca ga cg,EvCells w b o e pa cp aa ca ga cg∧EvOk w e pa cp aa ca ga cg
theorem EvAt.below {o:Nat}(h:EvAt w b o e)(hb:Below w.heap.size w w')(hlt:b<w.heap.size):EvAt w' b o e:=by
 obtain ⟨pa,cp,aa,ca,ga,cg,h1,h2⟩:=h;exact ⟨pa,cp,aa,ca,ga,cg,h1.below hb hlt,h2.below hb⟩
structure SlV (w:World)(a:Option Addr)(n cap:Nat)(E:Nat->Ev):Prop where
 le:n<=cap
 max:cap<=maxLen
 cells:n=0∨∃ b off,a=some ⟨b,off,none⟩∧b<w.heap.size∧∀ i,i<n->EvAt w b (off+i * 10) (E i)
theorem SlV.below (h:SlV w a n cap E)(hb:Below w.heap.size w w'):SlV w' a n cap E:=by
 refine ⟨h.le,h.max,?_⟩;rcases h.cells with h0|⟨b,off,e,hlt,hc⟩
 ·exact Or.inl h0
 exact Or.inr ⟨b,off,e,nT hlt hb.size,fun i hi=>(hc i hi).below hb hlt⟩
theorem SlV.take (h:SlV w a n cap E)(hk:k<=n):SlV w a k cap E:=by
 refine ⟨nZ hk h.le,h.max,?_⟩;rcases h.cells with h0|⟨b,off,e,hlt,hc⟩
 ·exact Or.inl (by omega)
 exact Or.inr ⟨b,off,e,hlt,fun i hi=>hc i (by omega)⟩
def posV (E:Nat->Ev):Nat->ByteArray->Int
 | 0,_=>-1
 | n+1,s=>if 0<=posV E n s then posV E n s else if (E n).id.toList == s.toList then (n:Int) else -1
theorem posV_bd (E:Nat->Ev)(s:ByteArray):∀ n,-1<=posV E n s∧posV E n s<n
 | 0=>by simp [posV]
 | n+1=>by
  have:=posV_bd E s n;unfold posV;split
  ·omega
  split <;> omega
theorem posV_miss (E:Nat->Ev)(s:ByteArray):∀ n,(∀ i,i<n->((E i).id.toList == s.toList)=false)->posV E n s=-1
 | 0,_=>rfl
 | n+1,h=>by
  unfold posV;rw [posV_miss E s n (fun i hi=>h i (by omega)),if_neg (by omega),h n (by omega)];simp
theorem posV_stay (E : Nat -> Ev) (s : ByteArray) (k : Nat) (hk : 0 <= posV E k s) : ∀ n, k <= n -> posV E n s = posV E k s
  | 0, h => by have : k = 0 := by omega
               subst this; rfl
  | n + 1, h => by
    by_cases e : k = n + 1
    · subst e; rfl
    · have := posV_stay E s k hk n (by omega)
      rw [posV, this, if_pos hk]
theorem posV_hit (E:Nat->Ev)(s:ByteArray)(n k:Nat)(hk:k<n)(h0:∀ i,i<k->((E i).id.toList == s.toList)=false)(h1:((E k).id.toList == s.toList)=true):posV E n s=(k:Int):=by
 have e:posV E (k+1) s=(k:Int):=by rw [posV,posV_miss E s k h0,if_neg (by omega),h1];simp
 rw [posV_stay E s (k+1) (by omega) n (by omega),e]
def thereTo (E:Nat->Ev)(n:Nat)(S:Nat->ByteArray):Nat->Bool
 | 0=>true
 | m+1=>thereTo E n S m && decide (0<=posV E n (S m))
theorem thereTo_le (E:Nat->Ev)(n:Nat)(S:Nat->ByteArray):∀ m k,k<m->thereTo E n S (k+1)=false->thereTo E n S m=false
 | 0,_,h,_=>absurd h (Nat.not_lt_zero _)
 | m+1,k,h,e=>by
  by_cases hk:k=m
  ·subst hk;exact e
  unfold thereTo;rw [thereTo_le E n S m k (by omega) e];rfl
def thereB (E:Nat->Ev)(n:Nat)(S:Nat->ByteArray)(m:Nat):Bool:=decide (m<=300) && thereTo E n S m
def insCode (E:Nat->Ev)(n:Nat)(e:Ev):Int :=
 if e.code≠0 then e.code
 else if 0<=posV E n e.id then 6
 else if thereB E n e.Pv e.np=false∨thereB E n e.Av e.na=false then 7
 else if n=0∧(e.ty.toList == [99,114,101,97,116,101])=false then 8
 else if 0<n∧((e.ty.toList == [99,114,101,97,116,101])=true∨e.np=0∨e.na=0) then 8
 else if 300<=n then 9
 else 0
def roomTo (E:Nat->Ev):Nat->Bool
 | 0=>true
 | n+1=>roomTo E n && decide (insCode E n (E n)=0)
theorem roomTo_le (E:Nat->Ev):∀ n k,k<n->roomTo E (k+1)=false->roomTo E n=false
 | 0,_,h,_=>absurd h (Nat.not_lt_zero _)
 | n+1,k,h,e=>by
  by_cases hk:k=n
  ·subst hk;exact e
  unfold roomTo;rw [roomTo_le E n k (by omega) e];rfl
end Go.Proofs.YtkdalopokdhndaaGreat
