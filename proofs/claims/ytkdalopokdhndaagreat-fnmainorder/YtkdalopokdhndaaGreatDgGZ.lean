import Derived.Test.YtkdalopokdhndaaGreatMoMZ
import Derived.Laws.BytesArg
import Derived.Deep.DeepFit
set_option maxHeartbeats 16000000
set_option maxRecDepth 100000
namespace Go.Proofs.YtkdalopokdhndaaGreat
open Go.RowKit
variable {w w':World}{m n q base size:Nat}{v:Value}{xs:List Value}{row:Option Nat}{x:ByteArray}{bs:Nat->Nat}
def gNm:Nat->ByteArray
 | 0=>⟨#[35,109,115,103]⟩
 | 1=>⟨#[35,116,111,112,105,99]⟩
 | 2=>⟨#[42,98,97,110]⟩
 | 3=>⟨#[42,100,101,102,97,117,108,116]⟩
 | 4=>⟨#[42,105,110,118,105,116,101]⟩
 | 5=>⟨#[42,107,105,99,107]⟩
 | 6=>⟨#[42,115,116,97,116,101]⟩
 | 7=>⟨#[64,97]⟩
 | 8=>⟨#[64,98]⟩
 | 9=>⟨#[64,99]⟩
 | _=>⟨#[64,100]⟩
def gAll:Array Value:=#[.string (gNm 0),.string (gNm 1),.string (gNm 2),.string (gNm 3),.string (gNm 4),.string (gNm 5),.string (gNm 6),.string (gNm 7),.string (gNm 8),.string (gNm 9),.string (gNm 10)]
theorem gAll_at (i:Nat)(h:i<11):gAll[i]?=some (.string (gNm i)):=by
 match i,h with
 | 0,_=>rfl
 | 1,_=>rfl
 | 2,_=>rfl
 | 3,_=>rfl
 | 4,_=>rfl
 | 5,_=>rfl
 | 6,_=>rfl
 | 7,_=>rfl
 | 8,_=>rfl
 | 9,_=>rfl
 | 10,_=>rfl
def gC (k bits i:Nat):Bool:=(bits / 2 ^ i) % 2 == 1 || (i == 7 && decide (0<k % 4))
def gLv (i v:Nat):Int:=if i=7∧0<v % 4 then 100 else ((v % 3 * 50+v / 128:Nat):Int)
def gTo (bs:Nat->Nat)(m k bits q:Nat):Nat->Nat × List (ByteArray × Int)
 | 0=>(q,[])
 | i+1=>if gC k bits i then (nxQ m (gTo bs m k bits q i).1,(gTo bs m k bits q i).2 ++ [(gNm i,gLv i (nxB bs m (gTo bs m k bits q i).1))]) else gTo bs m k bits q i
def gM (l:List (ByteArray × Int))(i:Nat):ByteArray:=(l.getD i (ByteArray.empty,0)).1
def gL (l:List (ByteArray × Int))(i:Nat):Int:=(l.getD i (ByteArray.empty,0)).2
def gDr (bs:Nat->Nat)(m q:Nat):Nat × List (ByteArray × Int):=gTo bs m (nxB bs m q) (nxB bs m q+256 * nxB bs m (nxQ m q)) (nxQ m (nxQ m q)) 11
theorem gTo_len (bs:Nat->Nat)(m k bits q:Nat):∀ i,(gTo bs m k bits q i).2.length<=i
 | 0=>nL
 | i+1=>by
  have:=gTo_len bs m k bits q i;unfold gTo;split
  ·simp;omega
  omega
theorem ownsRow_grD {e:Nat}(h:w.ownsRow base e size v n xs)(hg:w.grownBy w' row)(hne:∀ q,v.ownBlock=some q->some q≠row):w'.ownsRow base e size v n xs:=by
 obtain ⟨h1,h2⟩:=h;refine ⟨h1,?_⟩;rcases h2 with h2|⟨g,cap,cur,rfl,hg1,hh,r⟩
 ·exact Or.inl h2
 have hlt:g<w.heap.size:=(Array.getElem?_eq_some_iff.1 hh).1;exact Or.inr ⟨g,cap,cur,rfl,hg1,(hg.block g hlt (hne g rfl)).trans hh,r⟩
theorem encG_congr {M M':Nat->ByteArray}{L L':Nat->Int}:∀ {n},(∀ i,i<n->M i=M' i∧L i=L' i)->encG M L n=encG M' L' n
 | 0,_=>rfl
 | n+1,h=>by rw [<- encG_snoc,<- encG_snoc,encG_congr (fun i hi=>h i (by omega)),(h n (by omega)).1,(h n (by omega)).2]
theorem own_snocG {l:List (ByteArray × Int)}{z:Int}(h:w.ownsRow base 166 2 v (l.length+1) (encG (gM l) (gL l) l.length ++ [.string x,.int .i64 z])):OwnG w base v (l.length+1) (gM (l ++ [(x,z)])) (gL (l ++ [(x,z)])):=by
 have hc:encG (gM l) (gL l) l.length=encG (gM (l ++ [(x,z)])) (gL (l ++ [(x,z)])) l.length:=encG_congr fun i hi=>by
  simp [gM,gL,List.getD,List.getElem?_append_left hi]
 rw [hc] at h;exact OwnG.snoc h (by simp [gM,List.getD]) (by simp [gL,List.getD])
theorem two_cellG (W:World)(x:ByteArray)(z:Int)(ty:TypeId)(j:Nat)(u:Value)(h:[Value.string x,Value.int .i64 z][j]?=some u):(W.alloc (.cells #[.string x,.int .i64 z] ty)).cell? ((⟨W.heap.size,0,none⟩:Addr).add j)=some u:=by
 rw [Addr.add_lit,Nat.zero_add,kA rfl,<- h];rw [List.getElem?_toArray]
theorem two_oneG (x:ByteArray)(z:Int)(u:Value)(h:u ∈ [Value.string x,Value.int .i64 z]):u.oneCell'=true:=by
 simp only [List.mem_cons,List.not_mem_nil,or_false] at h;rcases h with rfl|rfl <;> rfl
def GdPost (p:Nat)(w:World)(bs:Nat->Nat)(m q:Nat)(e:Ending)(w':World):Prop :=
 ∃ g n cc,e=.returned (.slice (some ⟨g,0,none⟩) n cc)∧n=(gDr bs m q).2.length∧OwnG w' w.heap.size (.slice (some ⟨g,0,none⟩) n cc) n (gM (gDr bs m q).2) (gL (gDr bs m q).2)∧DwF p w w' bs m (gDr bs m q).1
def GdRel (p:Nat)(W1:World)(bs:Nat->Nat)(m k bits q i:Nat)(v:Value)(wr:World):Prop :=
 ∃ g mm cc,v=.slice (some ⟨g,0,none⟩) mm cc∧mm<=i∧Hid (mm=(gTo bs m k bits q i).2.length)∧Hid (OwnG wr W1.heap.size (.slice (some ⟨g,0,none⟩) mm cc) mm (gM (gTo bs m k bits q i).2) (gL (gTo bs m k bits q i).2))∧Hid (DwF p W1 wr bs m (gTo bs m k bits q i).1)
theorem drawGrants (p:Nat)(w:World)(h:RdF w p bs m q):Calls Tryz.prog 189 #[.pointer (some ⟨p,0,none⟩)] w (GdPost p w bs m q):=by
 obtain ⟨i0,hi,hz0,hz1,hz2⟩:=info_parts Tryz.infoGrant;have hk:=h.nx;have hp:=h.lt
 go_enter Tryz.func189,Tryz.ntmps189
 go_wp2_with fail
 refine (nextF p w h).mono ?_;rintro e w1 ⟨rfl,hd1⟩;have hs1:=hd1.size;obtain ⟨W1,hW1⟩:∃ W1,W1=w1.alloc (.cells #[.string ⟨#[35,109,115,103]⟩,.string ⟨#[35,116,111,112,105,99]⟩,.string ⟨#[42,98,97,110]⟩,.string ⟨#[42,100,101,102,97,117,108,116]⟩,.string ⟨#[42,105,110,118,105,116,101]⟩,.string ⟨#[42,107,105,99,107]⟩,.string ⟨#[42,115,116,97,116,101]⟩,.string ⟨#[64,97]⟩,.string ⟨#[64,98]⟩,.string ⟨#[64,99]⟩,.string ⟨#[64,100]⟩] 9):=⟨_,rfl⟩;have hb1:Below w1.heap.size w1 W1:=by rw [hW1];exact bA
 have hz:W1.heap.size=w1.heap.size+1:=by rw [hW1];simp
 have hdW1:=hd1.below hb1;have hnm:Hid (∀ i,i<11->W1.cell? ⟨w1.heap.size,i,none⟩=some (.string (gNm i))):=fun i hi=>by rw [hW1,kA rfl];exact gAll_at i hi
 obtain ⟨W2,hW2⟩:∃ W2,W2=W1.alloc (.cells #[] 166):=⟨_,rfl⟩;have hb2:Below W1.heap.size W1 W2:=by rw [hW2];exact bA
 have hon:Hid (OwnG W2 W1.heap.size (.slice (some ⟨w1.heap.size+1,0,none⟩) 0 0) 0 (gM []) (gL [])):=by unfold Hid;rw [hW2,<- hz];exact OwnG.new W1 _ nL _ _
 have hdW2:=hdW1.below hb2;have HN2:Hid (Calls Tryz.prog 56 #[.pointer (some ⟨p,0,none⟩)] W2 (NxF p W2 bs m (nxQ m q))):=nextF p W2 hdW2.1;have hy:=hdW2.1.nx;have HdW:Hid (DwF p w W1 bs m (nxQ m q)):=hdW1;have Hd2:Hid (DwF p W1 W2 bs m (nxQ m q)):=⟨hdW2.1,blwG hb2 _⟩;clear hd1 hdW1 hdW2;obtain ⟨k,hk0⟩:∃ k,k=nxB bs m q:=⟨_,rfl⟩;obtain ⟨y,hy0⟩:∃ y,y=nxB bs m (nxQ m q):=⟨_,rfl⟩;have Hk:Hid (k=nxB bs m q):=hk0;have Hy:Hid (y=nxB bs m (nxQ m q)):=hy0;rw [<- hk0] at hk ⊢;rw [<- hy0] at hy;clear hk0 hy0
 go_wp2_with fail
 rw [<- hW1,<- hW2];clear hW1 hW2;refine HN2.out.mono ?_;rintro e w3 ⟨rfl,hd3⟩;have Hd3:Hid (DwF p W1 w3 bs m (nxQ m (nxQ m q))):=Hd2.out.trans hd3;have hg3:=hd3.2;clear hd3;rw [<- Hy.out]
 go_wp2_with fail
 have hbit:(k:Int)+256 * (y:Int)=((k+256 * y:Nat):Int):=by omega
 rw [hbit];obtain ⟨bits,hbits⟩:∃ bits,bits=k+256 * y:=⟨_,rfl⟩;have hbl:bits<65536:=by omega
 rw [<- hbits];have Hbits:Hid (bits=k+256 * y):=hbits;clear hbits hbit
 have HP0:Hid (∀ g n cc wr,DwF p W1 wr bs m (gTo bs m k bits (nxQ m (nxQ m q)) 11).1->n=(gTo bs m k bits (nxQ m (nxQ m q)) 11).2.length->OwnG wr W1.heap.size (.slice (some ⟨g,0,none⟩) n cc) n (gM (gTo bs m k bits (nxQ m (nxQ m q)) 11).2) (gL (gTo bs m k bits (nxQ m (nxQ m q)) 11).2)->GdPost p w bs m q (.returned (.slice (some ⟨g,0,none⟩) n cc)) wr):=fun g n cc wr h1 h2 h3=>by
  have e:gTo bs m k bits (nxQ m (nxQ m q)) 11=gDr bs m q:=by unfold gDr;rw [Hbits.out,Hk.out,Hy.out]
  rw [e] at h1 h2 h3;refine ⟨g,n,cc,rfl,h2,?_,HdW.out.trans h1⟩;obtain ⟨q1,q2⟩:=h3;exact ⟨q1,q2.imp id fun ⟨g,cap,cur,e,hg,r⟩=>⟨g,cap,cur,e,nZ HdW.out.size hg,r⟩⟩
 have hon3:Hid (OwnG w3 W1.heap.size (.slice (some ⟨w1.heap.size+1,0,none⟩) 0 0) 0 (gM []) (gL [])):=ownsRow_grD hon.out hg3 (fun q hq e=>by have:=(World.ownsRow.lt hon.out q hq).1;injection e with e;omega)
 go_loopw [5,7] (fun v i wr=>∃ j:Nat,j<=11∧i=.int .i64 (j:Int)∧GdRel p W1 bs m k bits (nxQ m (nxQ m q)) j v wr) (fun _ i _=>11 - (intOf i).toNat)
 case atStart=>exact ⟨0,by decide,rfl,_,0,0,rfl,nL,rfl,hon3.out,Hd3.out⟩
 case round =>
  clear hon hon3 hg3 Hd3 Hd2 HN2;obtain ⟨j,hj,rfl,g,mm,cc,rfl,hmm,hml,hown,hdw⟩:=hrel
  by_cases hlt:j<11
  ·have hxb:((bits:Int) / 2 ^ j).tmod 2=((bits / 2 ^ j % 2:Nat):Int):=by
    have h0:((bits:Int) / 2 ^ j)=((bits / 2 ^ j:Nat):Int):=by simp
    rw [h0];generalize bits / 2 ^ j=z;rw [Int.tmod_eq_emod_of_nonneg (by omega)];omega
   have h10:¬ bits / 2 ^ j % 2=1->bits / 2 ^ j % 2=0:=by
    generalize bits / 2 ^ j=z;omega
   have hjj:(j:Int)<64:=by omega
   by_cases hj7:j=7
   ·subst hj7
    by_cases h1:bits / 2 ^ 7 % 2=1
    ·have h1b:(((bits:Int) / 2 ^ 7).tmod 2 == 1)=true:=by rw [hxb,h1];rfl
     have h1d:bits / 128 % 2=1:=h1;have h1c:((bits:Int) / 128 % 2 == 1)=true:=by rw [show (bits:Int) / 128 % 2=1 by omega];rfl
     clear h1d h1b;have hc:gC k bits 7=true:=by unfold gC;rw [h1];rfl
     clear hxb h1 h10
     by_cases hx4:0<nxB bs m (gTo bs m k bits (nxQ m (nxQ m q)) 7).1 % 4
     ·skip
      have HC:Hid (gC k bits 7=true):=hc;clear hc
      go_wp2_with fail
      refine (nextF p wr hdw.out.1).mono ?_;rintro e w5 ⟨rfl,hd5⟩;have hx:=hdw.out.1.nx;have Hst:Hid (gTo bs m k bits (nxQ m (nxQ m q)) (7+1)=(nxQ m (gTo bs m k bits (nxQ m (nxQ m q)) 7).1,(gTo bs m k bits (nxQ m (nxQ m q)) 7).2 ++ [(gNm 7,gLv 7 (nxB bs m (gTo bs m k bits (nxQ m (nxQ m q)) 7).1))])):=by unfold Hid;rw [gTo,if_pos HC.out]
      obtain ⟨x,hx0⟩:∃ x,x=nxB bs m (gTo bs m k bits (nxQ m (nxQ m q)) 7).1:=⟨_,rfl⟩;rw [<- hx0] at Hst hx hx4 ⊢;clear hx0;have Hd5:Hid (DwF p W1 w5 bs m (gTo bs m k bits (nxQ m (nxQ m q)) (7+1)).1):=by unfold Hid;rw [Hst.out];exact hdw.out.trans hd5
      have hnm5:w5.cell? ⟨w1.heap.size,7,none⟩=some (.string (gNm 7)):=(World.cell?_of_block (a:=⟨w1.heap.size,7,none⟩) (Hd5.out.2.block w1.heap.size (by omega) (fun e=>by injection e with e;omega))).trans (hnm.out 7 hlt);have hown5:w5.ownsRow W1.heap.size 166 2 (.slice (some ⟨g,0,none⟩) mm cc) mm (encG (gM (gTo bs m k bits (nxQ m (nxQ m q)) 7).2) (gL (gTo bs m k bits (nxQ m (nxQ m q)) 7).2) mm):=ownsRow_grD hown.out hd5.2 (fun q hq e=>by have:=(World.ownsRow.lt hown.out q hq).1;injection e with e;omega);have Hl:Hid (mm=(gTo bs m k bits (nxQ m (nxQ m q)) 7).2.length):=hml.out;clear hdw hown hd5 hml;generalize (gTo bs m k bits (nxQ m (nxQ m q)) 7).2=l at *;have hs5:W1.heap.size<=w5.heap.size:=Hd5.out.size;have hm1:mm+1<=maxLen:=by unfold maxLen;omega
      have hm2:(mm+1) * 24<=140737488355328:=by omega
      have hm3:∀ o,W1.heap.size<=(w5.alloc o).heap.size:=fun o=>by simp;omega
      have hag:Hid (∀ q,(Value.slice (some ⟨g,0,none⟩) mm cc).ownBlock=some q->W1.heap.size<=q):=fun q hq=>(World.ownsRow.lt hown5 q hq).1
      have hgv:(100:Int)=gLv 7 x:=by unfold gLv;rw [if_pos ⟨rfl,hx4⟩]
      have hd4:decide ((0:Int)<(x:Int) % 4)=true:=decide_eq_true (by omega);have Hgv:Hid (100=gLv 7 x):=hgv;clear hgv hx4
      go_wp2_with (at_builtin;refine wpList_append_lies _ rfl _ _ 28 rfl W1.heap.size 166 i0 _ 2 24 Tryz.underlying28 hi hz0 hz1 hz2 rfl (by decide) _ _ _ rfl (World.ownsRow.alloc hown5 _) ⟨w5.heap.size,0,none⟩ 1 1 [.string (gNm 7),.int .i64 (100)] rfl rfl (two_cellG _ _ _ _) (two_oneG _ _) (by decide) hm1 hm2 (hm3 _) (w5.heap.size+1) (by simp) ?_;intro gg cq w7 hown7 hgrow7 hat7 hlt7)
      have Hown7:Hid (OwnG w7 W1.heap.size (.slice (some ⟨gg,0,none⟩) (mm+1) cq) (mm+1) (gM (gTo bs m k bits (nxQ m (nxQ m q)) (7+1)).2) (gL (gTo bs m k bits (nxQ m (nxQ m q)) (7+1)).2)):=by
       unfold Hid;rw [Hst.out,<- Hgv.out];rw [Hl.out] at hown7 ⊢;exact own_snocG hown7
      have Hd7:Hid (DwF p W1 w7 bs m (gTo bs m k bits (nxQ m (nxQ m q)) (7+1)).1):=(Hd5.out.below bA).grow hgrow7 hag.out (by omega);have Hl7:Hid (mm+1=(gTo bs m k bits (nxQ m (nxQ m q)) (7+1)).2.length):=by unfold Hid;rw [Hst.out,List.length_append,<- Hl.out];rfl
      clear hown7 hgrow7 hat7 hown5 hm3 hag Hst;exact ⟨⟨7+1,by omega,by go_num,gg,mm+1,cq,rfl,by omega,Hl7.out,Hown7.out,Hd7.out⟩,by first|(simp [intOf];omega)|simp [intOf]⟩
     skip
     have HC:Hid (gC k bits 7=true):=hc;clear hc
     go_wp2_with fail
     refine (nextF p wr hdw.out.1).mono ?_;rintro e w5 ⟨rfl,hd5⟩;have hx:=hdw.out.1.nx;have Hst:Hid (gTo bs m k bits (nxQ m (nxQ m q)) (7+1)=(nxQ m (gTo bs m k bits (nxQ m (nxQ m q)) 7).1,(gTo bs m k bits (nxQ m (nxQ m q)) 7).2 ++ [(gNm 7,gLv 7 (nxB bs m (gTo bs m k bits (nxQ m (nxQ m q)) 7).1))])):=by unfold Hid;rw [gTo,if_pos HC.out]
     obtain ⟨x,hx0⟩:∃ x,x=nxB bs m (gTo bs m k bits (nxQ m (nxQ m q)) 7).1:=⟨_,rfl⟩;rw [<- hx0] at Hst hx hx4 ⊢;clear hx0;have Hd5:Hid (DwF p W1 w5 bs m (gTo bs m k bits (nxQ m (nxQ m q)) (7+1)).1):=by unfold Hid;rw [Hst.out];exact hdw.out.trans hd5
     have hnm5:w5.cell? ⟨w1.heap.size,7,none⟩=some (.string (gNm 7)):=(World.cell?_of_block (a:=⟨w1.heap.size,7,none⟩) (Hd5.out.2.block w1.heap.size (by omega) (fun e=>by injection e with e;omega))).trans (hnm.out 7 hlt);have hown5:w5.ownsRow W1.heap.size 166 2 (.slice (some ⟨g,0,none⟩) mm cc) mm (encG (gM (gTo bs m k bits (nxQ m (nxQ m q)) 7).2) (gL (gTo bs m k bits (nxQ m (nxQ m q)) 7).2) mm):=ownsRow_grD hown.out hd5.2 (fun q hq e=>by have:=(World.ownsRow.lt hown.out q hq).1;injection e with e;omega);have Hl:Hid (mm=(gTo bs m k bits (nxQ m (nxQ m q)) 7).2.length):=hml.out;clear hdw hown hd5 hml;generalize (gTo bs m k bits (nxQ m (nxQ m q)) 7).2=l at *;have hs5:W1.heap.size<=w5.heap.size:=Hd5.out.size;have hm1:mm+1<=maxLen:=by unfold maxLen;omega
     have hm2:(mm+1) * 24<=140737488355328:=by omega
     have hm3:∀ o,W1.heap.size<=(w5.alloc o).heap.size:=fun o=>by simp;omega
     have hag:Hid (∀ q,(Value.slice (some ⟨g,0,none⟩) mm cc).ownBlock=some q->W1.heap.size<=q):=fun q hq=>(World.ownsRow.lt hown5 q hq).1
     have hgv:(x:Int) % 3 * 50+(x:Int) / 128=gLv 7 x:=by unfold gLv;rw [if_neg (fun h=>hx4 h.2)];omega
     have hd4:decide ((0:Int)<(x:Int) % 4)=false:=decide_eq_false (fun h=>hx4 (by omega));have Hgv:Hid ((x:Int) % 3 * 50+(x:Int) / 128=gLv 7 x):=hgv;clear hgv hx4
     go_wp2_with (at_builtin;refine wpList_append_lies _ rfl _ _ 28 rfl W1.heap.size 166 i0 _ 2 24 Tryz.underlying28 hi hz0 hz1 hz2 rfl (by decide) _ _ _ rfl (World.ownsRow.alloc hown5 _) ⟨w5.heap.size,0,none⟩ 1 1 [.string (gNm 7),.int .i64 ((x:Int) % 3 * 50+(x:Int) / 128)] rfl rfl (two_cellG _ _ _ _) (two_oneG _ _) (by decide) hm1 hm2 (hm3 _) (w5.heap.size+1) (by simp) ?_;intro gg cq w7 hown7 hgrow7 hat7 hlt7)
     have Hown7:Hid (OwnG w7 W1.heap.size (.slice (some ⟨gg,0,none⟩) (mm+1) cq) (mm+1) (gM (gTo bs m k bits (nxQ m (nxQ m q)) (7+1)).2) (gL (gTo bs m k bits (nxQ m (nxQ m q)) (7+1)).2)):=by
      unfold Hid;rw [Hst.out,<- Hgv.out];rw [Hl.out] at hown7 ⊢;exact own_snocG hown7
     have Hd7:Hid (DwF p W1 w7 bs m (gTo bs m k bits (nxQ m (nxQ m q)) (7+1)).1):=(Hd5.out.below bA).grow hgrow7 hag.out (by omega);have Hl7:Hid (mm+1=(gTo bs m k bits (nxQ m (nxQ m q)) (7+1)).2.length):=by unfold Hid;rw [Hst.out,List.length_append,<- Hl.out];rfl
     clear hown7 hgrow7 hat7 hown5 hm3 hag Hst;exact ⟨⟨7+1,by omega,by go_num,gg,mm+1,cq,rfl,by omega,Hl7.out,Hown7.out,Hd7.out⟩,by first|(simp [intOf];omega)|simp [intOf]⟩
    have h1b:(((bits:Int) / 2 ^ 7).tmod 2 == 1)=false:=by rw [hxb,h10 h1];rfl
    have h1d:bits / 128 % 2=0:=h10 h1;have h1c:((bits:Int) / 128 % 2 == 1)=false:=by rw [show (bits:Int) / 128 % 2=0 by omega];rfl
    clear h1d h1b
    by_cases hk4:0<k % 4
    ·have hk5:decide ((0:Int)<(k:Int) % 4)=true:=decide_eq_true (by omega)
     have hc:gC k bits 7=true:=by unfold gC;simp [hk4]
     clear hxb h1 h10 hk4
     by_cases hx4:0<nxB bs m (gTo bs m k bits (nxQ m (nxQ m q)) 7).1 % 4
     ·skip
      have HC:Hid (gC k bits 7=true):=hc;clear hc
      go_wp2_with fail
      refine (nextF p wr hdw.out.1).mono ?_;rintro e w5 ⟨rfl,hd5⟩;have hx:=hdw.out.1.nx;have Hst:Hid (gTo bs m k bits (nxQ m (nxQ m q)) (7+1)=(nxQ m (gTo bs m k bits (nxQ m (nxQ m q)) 7).1,(gTo bs m k bits (nxQ m (nxQ m q)) 7).2 ++ [(gNm 7,gLv 7 (nxB bs m (gTo bs m k bits (nxQ m (nxQ m q)) 7).1))])):=by unfold Hid;rw [gTo,if_pos HC.out]
      obtain ⟨x,hx0⟩:∃ x,x=nxB bs m (gTo bs m k bits (nxQ m (nxQ m q)) 7).1:=⟨_,rfl⟩;rw [<- hx0] at Hst hx hx4 ⊢;clear hx0;have Hd5:Hid (DwF p W1 w5 bs m (gTo bs m k bits (nxQ m (nxQ m q)) (7+1)).1):=by unfold Hid;rw [Hst.out];exact hdw.out.trans hd5
      have hnm5:w5.cell? ⟨w1.heap.size,7,none⟩=some (.string (gNm 7)):=(World.cell?_of_block (a:=⟨w1.heap.size,7,none⟩) (Hd5.out.2.block w1.heap.size (by omega) (fun e=>by injection e with e;omega))).trans (hnm.out 7 hlt);have hown5:w5.ownsRow W1.heap.size 166 2 (.slice (some ⟨g,0,none⟩) mm cc) mm (encG (gM (gTo bs m k bits (nxQ m (nxQ m q)) 7).2) (gL (gTo bs m k bits (nxQ m (nxQ m q)) 7).2) mm):=ownsRow_grD hown.out hd5.2 (fun q hq e=>by have:=(World.ownsRow.lt hown.out q hq).1;injection e with e;omega);have Hl:Hid (mm=(gTo bs m k bits (nxQ m (nxQ m q)) 7).2.length):=hml.out;clear hdw hown hd5 hml;generalize (gTo bs m k bits (nxQ m (nxQ m q)) 7).2=l at *;have hs5:W1.heap.size<=w5.heap.size:=Hd5.out.size;have hm1:mm+1<=maxLen:=by unfold maxLen;omega
      have hm2:(mm+1) * 24<=140737488355328:=by omega
      have hm3:∀ o,W1.heap.size<=(w5.alloc o).heap.size:=fun o=>by simp;omega
      have hag:Hid (∀ q,(Value.slice (some ⟨g,0,none⟩) mm cc).ownBlock=some q->W1.heap.size<=q):=fun q hq=>(World.ownsRow.lt hown5 q hq).1
      have hgv:(100:Int)=gLv 7 x:=by unfold gLv;rw [if_pos ⟨rfl,hx4⟩]
      have hd4:decide ((0:Int)<(x:Int) % 4)=true:=decide_eq_true (by omega);have Hgv:Hid (100=gLv 7 x):=hgv;clear hgv hx4
      go_wp2_with (at_builtin;refine wpList_append_lies _ rfl _ _ 28 rfl W1.heap.size 166 i0 _ 2 24 Tryz.underlying28 hi hz0 hz1 hz2 rfl (by decide) _ _ _ rfl (World.ownsRow.alloc hown5 _) ⟨w5.heap.size,0,none⟩ 1 1 [.string (gNm 7),.int .i64 (100)] rfl rfl (two_cellG _ _ _ _) (two_oneG _ _) (by decide) hm1 hm2 (hm3 _) (w5.heap.size+1) (by simp) ?_;intro gg cq w7 hown7 hgrow7 hat7 hlt7)
      have Hown7:Hid (OwnG w7 W1.heap.size (.slice (some ⟨gg,0,none⟩) (mm+1) cq) (mm+1) (gM (gTo bs m k bits (nxQ m (nxQ m q)) (7+1)).2) (gL (gTo bs m k bits (nxQ m (nxQ m q)) (7+1)).2)):=by
       unfold Hid;rw [Hst.out,<- Hgv.out];rw [Hl.out] at hown7 ⊢;exact own_snocG hown7
      have Hd7:Hid (DwF p W1 w7 bs m (gTo bs m k bits (nxQ m (nxQ m q)) (7+1)).1):=(Hd5.out.below bA).grow hgrow7 hag.out (by omega);have Hl7:Hid (mm+1=(gTo bs m k bits (nxQ m (nxQ m q)) (7+1)).2.length):=by unfold Hid;rw [Hst.out,List.length_append,<- Hl.out];rfl
      clear hown7 hgrow7 hat7 hown5 hm3 hag Hst;exact ⟨⟨7+1,by omega,by go_num,gg,mm+1,cq,rfl,by omega,Hl7.out,Hown7.out,Hd7.out⟩,by first|(simp [intOf];omega)|simp [intOf]⟩
     skip
     have HC:Hid (gC k bits 7=true):=hc;clear hc
     go_wp2_with fail
     refine (nextF p wr hdw.out.1).mono ?_;rintro e w5 ⟨rfl,hd5⟩;have hx:=hdw.out.1.nx;have Hst:Hid (gTo bs m k bits (nxQ m (nxQ m q)) (7+1)=(nxQ m (gTo bs m k bits (nxQ m (nxQ m q)) 7).1,(gTo bs m k bits (nxQ m (nxQ m q)) 7).2 ++ [(gNm 7,gLv 7 (nxB bs m (gTo bs m k bits (nxQ m (nxQ m q)) 7).1))])):=by unfold Hid;rw [gTo,if_pos HC.out]
     obtain ⟨x,hx0⟩:∃ x,x=nxB bs m (gTo bs m k bits (nxQ m (nxQ m q)) 7).1:=⟨_,rfl⟩;rw [<- hx0] at Hst hx hx4 ⊢;clear hx0;have Hd5:Hid (DwF p W1 w5 bs m (gTo bs m k bits (nxQ m (nxQ m q)) (7+1)).1):=by unfold Hid;rw [Hst.out];exact hdw.out.trans hd5
     have hnm5:w5.cell? ⟨w1.heap.size,7,none⟩=some (.string (gNm 7)):=(World.cell?_of_block (a:=⟨w1.heap.size,7,none⟩) (Hd5.out.2.block w1.heap.size (by omega) (fun e=>by injection e with e;omega))).trans (hnm.out 7 hlt);have hown5:w5.ownsRow W1.heap.size 166 2 (.slice (some ⟨g,0,none⟩) mm cc) mm (encG (gM (gTo bs m k bits (nxQ m (nxQ m q)) 7).2) (gL (gTo bs m k bits (nxQ m (nxQ m q)) 7).2) mm):=ownsRow_grD hown.out hd5.2 (fun q hq e=>by have:=(World.ownsRow.lt hown.out q hq).1;injection e with e;omega);have Hl:Hid (mm=(gTo bs m k bits (nxQ m (nxQ m q)) 7).2.length):=hml.out;clear hdw hown hd5 hml;generalize (gTo bs m k bits (nxQ m (nxQ m q)) 7).2=l at *;have hs5:W1.heap.size<=w5.heap.size:=Hd5.out.size;have hm1:mm+1<=maxLen:=by unfold maxLen;omega
     have hm2:(mm+1) * 24<=140737488355328:=by omega
     have hm3:∀ o,W1.heap.size<=(w5.alloc o).heap.size:=fun o=>by simp;omega
     have hag:Hid (∀ q,(Value.slice (some ⟨g,0,none⟩) mm cc).ownBlock=some q->W1.heap.size<=q):=fun q hq=>(World.ownsRow.lt hown5 q hq).1
     have hgv:(x:Int) % 3 * 50+(x:Int) / 128=gLv 7 x:=by unfold gLv;rw [if_neg (fun h=>hx4 h.2)];omega
     have hd4:decide ((0:Int)<(x:Int) % 4)=false:=decide_eq_false (fun h=>hx4 (by omega));have Hgv:Hid ((x:Int) % 3 * 50+(x:Int) / 128=gLv 7 x):=hgv;clear hgv hx4
     go_wp2_with (at_builtin;refine wpList_append_lies _ rfl _ _ 28 rfl W1.heap.size 166 i0 _ 2 24 Tryz.underlying28 hi hz0 hz1 hz2 rfl (by decide) _ _ _ rfl (World.ownsRow.alloc hown5 _) ⟨w5.heap.size,0,none⟩ 1 1 [.string (gNm 7),.int .i64 ((x:Int) % 3 * 50+(x:Int) / 128)] rfl rfl (two_cellG _ _ _ _) (two_oneG _ _) (by decide) hm1 hm2 (hm3 _) (w5.heap.size+1) (by simp) ?_;intro gg cq w7 hown7 hgrow7 hat7 hlt7)
     have Hown7:Hid (OwnG w7 W1.heap.size (.slice (some ⟨gg,0,none⟩) (mm+1) cq) (mm+1) (gM (gTo bs m k bits (nxQ m (nxQ m q)) (7+1)).2) (gL (gTo bs m k bits (nxQ m (nxQ m q)) (7+1)).2)):=by
      unfold Hid;rw [Hst.out,<- Hgv.out];rw [Hl.out] at hown7 ⊢;exact own_snocG hown7
     have Hd7:Hid (DwF p W1 w7 bs m (gTo bs m k bits (nxQ m (nxQ m q)) (7+1)).1):=(Hd5.out.below bA).grow hgrow7 hag.out (by omega);have Hl7:Hid (mm+1=(gTo bs m k bits (nxQ m (nxQ m q)) (7+1)).2.length):=by unfold Hid;rw [Hst.out,List.length_append,<- Hl.out];rfl
     clear hown7 hgrow7 hat7 hown5 hm3 hag Hst;exact ⟨⟨7+1,by omega,by go_num,gg,mm+1,cq,rfl,by omega,Hl7.out,Hown7.out,Hd7.out⟩,by first|(simp [intOf];omega)|simp [intOf]⟩
    have hk5:decide ((0:Int)<(k:Int) % 4)=false:=decide_eq_false (by omega);have hc:gC k bits 7=false:=by unfold gC;rw [decide_eq_false hk4,h10 h1];simp
    clear hxb h1 h10 hk4;have Hst:Hid (gTo bs m k bits (nxQ m (nxQ m q)) (7+1)=gTo bs m k bits (nxQ m (nxQ m q)) 7):=by unfold Hid;rw [gTo,if_neg (by rw [hc];decide)]
    clear hc;go_wp2
    exact ⟨⟨7+1,by omega,by go_num,g,mm,cc,rfl,by omega,by rw [Hst.out];exact hml.out,by rw [Hst.out];exact hown.out,by rw [Hst.out];exact hdw.out⟩,by first|(simp [intOf];omega)|simp [intOf]⟩
   have hj8:((j:Int) == 7)=false:=by simp;omega
   by_cases h1:bits / 2 ^ j % 2=1
   ·have h1b:(((bits:Int) / 2 ^ j).tmod 2 == 1)=true:=by rw [hxb,h1];rfl
    have hc:gC k bits j=true:=by unfold gC;rw [h1];rfl
    have hx4:¬ (j=7∧0<nxB bs m (gTo bs m k bits (nxQ m (nxQ m q)) j).1 % 4):=fun h=>hj7 h.1
    clear hxb h1 h10;have HC:Hid (gC k bits j=true):=hc;clear hc
    go_wp2_with fail
    refine (nextF p wr hdw.out.1).mono ?_;rintro e w5 ⟨rfl,hd5⟩;have hx:=hdw.out.1.nx;have Hst:Hid (gTo bs m k bits (nxQ m (nxQ m q)) (j+1)=(nxQ m (gTo bs m k bits (nxQ m (nxQ m q)) j).1,(gTo bs m k bits (nxQ m (nxQ m q)) j).2 ++ [(gNm j,gLv j (nxB bs m (gTo bs m k bits (nxQ m (nxQ m q)) j).1))])):=by unfold Hid;rw [gTo,if_pos HC.out]
    obtain ⟨x,hx0⟩:∃ x,x=nxB bs m (gTo bs m k bits (nxQ m (nxQ m q)) j).1:=⟨_,rfl⟩;rw [<- hx0] at Hst hx hx4 ⊢;clear hx0;have Hd5:Hid (DwF p W1 w5 bs m (gTo bs m k bits (nxQ m (nxQ m q)) (j+1)).1):=by unfold Hid;rw [Hst.out];exact hdw.out.trans hd5
    have hnm5:w5.cell? ⟨w1.heap.size,j,none⟩=some (.string (gNm j)):=(World.cell?_of_block (a:=⟨w1.heap.size,j,none⟩) (Hd5.out.2.block w1.heap.size (by omega) (fun e=>by injection e with e;omega))).trans (hnm.out j hlt);have hown5:w5.ownsRow W1.heap.size 166 2 (.slice (some ⟨g,0,none⟩) mm cc) mm (encG (gM (gTo bs m k bits (nxQ m (nxQ m q)) j).2) (gL (gTo bs m k bits (nxQ m (nxQ m q)) j).2) mm):=ownsRow_grD hown.out hd5.2 (fun q hq e=>by have:=(World.ownsRow.lt hown.out q hq).1;injection e with e;omega);have Hl:Hid (mm=(gTo bs m k bits (nxQ m (nxQ m q)) j).2.length):=hml.out;clear hdw hown hd5 hml;generalize (gTo bs m k bits (nxQ m (nxQ m q)) j).2=l at *;have hs5:W1.heap.size<=w5.heap.size:=Hd5.out.size;have hm1:mm+1<=maxLen:=by unfold maxLen;omega
    have hm2:(mm+1) * 24<=140737488355328:=by omega
    have hm3:∀ o,W1.heap.size<=(w5.alloc o).heap.size:=fun o=>by simp;omega
    have hag:Hid (∀ q,(Value.slice (some ⟨g,0,none⟩) mm cc).ownBlock=some q->W1.heap.size<=q):=fun q hq=>(World.ownsRow.lt hown5 q hq).1
    have hgv:(x:Int) % 3 * 50+(x:Int) / 128=gLv j x:=by unfold gLv;rw [if_neg hx4];omega
    have Hgv:Hid ((x:Int) % 3 * 50+(x:Int) / 128=gLv j x):=hgv;clear hgv hx4
    go_wp2_with (at_builtin;refine wpList_append_lies _ rfl _ _ 28 rfl W1.heap.size 166 i0 _ 2 24 Tryz.underlying28 hi hz0 hz1 hz2 rfl (by decide) _ _ _ rfl (World.ownsRow.alloc hown5 _) ⟨w5.heap.size,0,none⟩ 1 1 [.string (gNm j),.int .i64 ((x:Int) % 3 * 50+(x:Int) / 128)] rfl rfl (two_cellG _ _ _ _) (two_oneG _ _) (by decide) hm1 hm2 (hm3 _) (w5.heap.size+1) (by simp) ?_;intro gg cq w7 hown7 hgrow7 hat7 hlt7)
    have Hown7:Hid (OwnG w7 W1.heap.size (.slice (some ⟨gg,0,none⟩) (mm+1) cq) (mm+1) (gM (gTo bs m k bits (nxQ m (nxQ m q)) (j+1)).2) (gL (gTo bs m k bits (nxQ m (nxQ m q)) (j+1)).2)):=by
     unfold Hid;rw [Hst.out,<- Hgv.out];rw [Hl.out] at hown7 ⊢;exact own_snocG hown7
    have Hd7:Hid (DwF p W1 w7 bs m (gTo bs m k bits (nxQ m (nxQ m q)) (j+1)).1):=(Hd5.out.below bA).grow hgrow7 hag.out (by omega);have Hl7:Hid (mm+1=(gTo bs m k bits (nxQ m (nxQ m q)) (j+1)).2.length):=by unfold Hid;rw [Hst.out,List.length_append,<- Hl.out];rfl
    clear hown7 hgrow7 hat7 hown5 hm3 hag Hst;exact ⟨⟨j+1,by omega,by go_num,gg,mm+1,cq,rfl,by omega,Hl7.out,Hown7.out,Hd7.out⟩,by first|(simp [intOf];omega)|simp [intOf]⟩
   have h1b:(((bits:Int) / 2 ^ j).tmod 2 == 1)=false:=by rw [hxb,h10 h1];rfl
   have hc:gC k bits j=false:=by unfold gC;rw [h10 h1];simp [hj7]
   clear hxb h1 h10;have Hst:Hid (gTo bs m k bits (nxQ m (nxQ m q)) (j+1)=gTo bs m k bits (nxQ m (nxQ m q)) j):=by unfold Hid;rw [gTo,if_neg (by rw [hc];decide)]
   clear hc;go_wp2
   exact ⟨⟨j+1,by omega,by go_num,g,mm,cc,rfl,by omega,by rw [Hst.out];exact hml.out,by rw [Hst.out];exact hown.out,by rw [Hst.out];exact hdw.out⟩,by first|(simp [intOf];omega)|simp [intOf]⟩
  have hj11:j=11:=by omega
  subst hj11;go_wp2
  go_ret;exact HP0.out _ _ _ _ hdw.out hml.out hown.out
theorem strOfNums_one (n:Nat):strOfNums [(n:Int)]=⟨#[UInt8.ofNat n]⟩:=by
 simp [strOfNums]
theorem conv_one (W:World)(B n:Nat)(hc:W.cell? ⟨B,0,none⟩=some (.int .u8 (n:Int))) :
  (convert 22 9 (.slice (some ⟨B,0,none⟩) 1 1)).run Tryz.prog W=.ok (.string ⟨#[UInt8.ofNat n]⟩) W:=by
 rw [run_convert_bytes_arg W 22 5 Tryz.underlying22 Tryz.underlying5 B 0 1 1 [(n:Int)] rfl (fun i hi=>by
  have:i=0:=by omega
  subst this;exact hc) 9 Tryz.underlying9,strOfNums_one n]
theorem decS_small (n:Nat)(w:World)(h10:n<10) :
  Calls Tryz.prog 123 #[.int .i64 n] w fun e w'=>e=.returned (.string ⟨(Lib.decDigits n).toArray⟩)∧Below w.heap.size w w':=by
 have hcv:(convert 22 9 (.slice (some ⟨w.heap.size,0,none⟩) 1 1)).run Tryz.prog (w.alloc (.cells #[.int .u8 (48+(n:Int))] 5))=.ok (.string ⟨(Lib.decDigits n).toArray⟩) (w.alloc (.cells #[.int .u8 (48+(n:Int))] 5)):=by
  rw [conv_one _ _ (48+n) (by rw [kA rfl];simp),Lib.decDigits,dif_pos h10]
 go_enter Tryz.func123,Tryz.ntmps123
 go_wp2_with fail
 go_ret;exact ⟨rfl,bA⟩
theorem decS_step (n m d:Nat)(X Y:ByteArray)(w:World)(hn:(n:Int)<=100000000000000)(h10:(10:Int)<=n)(hm:(n:Int) / 10=m)(hd:(n:Int) % 10=d)
  (hX:X.size<=20) (hY:Y.size=1)
  (hcv:∀ (W:World) (B:Nat),W.cell? ⟨B,0,none⟩=some (.int .u8 (48+(d:Int)))->(convert 22 9 (.slice (some ⟨B,0,none⟩) 1 1)).run Tryz.prog W=.ok (.string Y) W)
  (ih:Hid (∀ W:World,Calls Tryz.prog 123 #[.int .i64 m] W fun e w'=>e=.returned (.string X)∧Below W.heap.size W w')) :
  Calls Tryz.prog 123 #[.int .i64 n] w fun e w'=>e=.returned (.string (X ++ Y))∧Below w.heap.size w w':=by
 have ew1:IntKind.i64.wrap ((n:Int) / 10)=m:=by rw [IntKind.wrap_i64];omega
 have ew2:(n:Int).tmod 10=d:=by rw [Int.tmod_eq_emod_of_nonneg (by omega),hd]
 have ew3:IntKind.i64.wrap (48+(d:Int))=48+d:=by rw [IntKind.wrap_i64];omega
 have ew4:IntKind.u8.wrap (48+(d:Int))=48+d:=by rw [IntKind.wrap_u8];omega
 have hxy:¬ 9223372036854775807<X.size+Y.size:=by omega
 have hb0:Below w.heap.size w w:=kB;clear hm hd hX hY
 go_enter Tryz.func123,Tryz.ntmps123
 go_wp2_with fail
 go_region_with (go_at_call 123;go_fit (ih.out _);rintro e w1 ⟨rfl,hb1⟩;first|(have hcx:w1.cell? ⟨w.heap.size,0,none⟩=some (.int .u8 (48+(d:Int))):=(hb1.cell (by simp)).trans (kA rfl))|skip)
 all_goals
  go_wp2
  go_ret
  first
   | exact ⟨rfl,(hb0.drew.trans hb1).alloc (hb0.drew.trans hb1).size _⟩
   | exact ⟨rfl,((hb0.alloc nL _).drew).trans (hb1.mono (by simp))⟩
theorem decS_nat:∀ (k n:Nat) (w:World),n<=k->(n:Int)<=100000000000000 →
  Calls Tryz.prog 123 #[.int .i64 n] w fun e w'=>e=.returned (.string ⟨(Lib.decDigits n).toArray⟩)∧Below w.heap.size w w':=by
 intro k
 induction k with
 | zero =>
  intro n w hk _
  exact decS_small n w (by omega)
 | succ k ih =>
  intro n w hk hn
  by_cases h10:n<10
  ·exact decS_small n w h10
  have hs:(⟨(Lib.decDigits (n / 10)).toArray⟩:ByteArray).size<=20:=by
   show (Lib.decDigits (n / 10)).toArray.size<=20
   rw [List.size_toArray,Lib.decDigits_length];exact Lib.nDigits_le20 _ (by omega)
  refine (decS_step n (n / 10) (n % 10) ⟨(Lib.decDigits (n / 10)).toArray⟩ ⟨#[UInt8.ofNat (48+n % 10)]⟩ w hn (by omega) (by omega) (by omega) hs rfl
   (fun W B h=>conv_one W B (48+n % 10) (by rw [h];simp)) (fun W=>ih (n / 10) W (by omega) (by omega))).mono ?_
  rintro e w' ⟨rfl,hb⟩;refine ⟨ret_str ?_,hb⟩;rw [Lib.decDigits.eq_1 n,dif_neg h10,ByteArray.mk_append_mk]
end Go.Proofs.YtkdalopokdhndaaGreat
