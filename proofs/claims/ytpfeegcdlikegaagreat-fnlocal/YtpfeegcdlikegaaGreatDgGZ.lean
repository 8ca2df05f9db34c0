import Derived.Test.YtpfeegcdlikegaaGreatPure6Z
import Derived.Laws.BytesArg
set_option maxHeartbeats 16000000
set_option maxRecDepth 100000
namespace Go.Proofs.YtpfeegcdlikegaaGreat
open Go.RowKit Go.Proofs.Tryz
variable {w w':World}{m n q base size:Nat}{v:Value}{xs:List Value}{row:Option Nat}{bs:Nat->Nat}
def nM:Nat->ByteArray
 | 0=>⟨#[35,109,115,103]⟩
 | 1=>⟨#[35,116,111,112,105,99]⟩
 | 2=>⟨#[42,98,97,110]⟩
 | 3=>⟨#[42,100,101,102,97,117,108,116]⟩
 | 4=>⟨#[42,105,110,118,105,116,101]⟩
 | 5=>⟨#[42,107,105,99,107]⟩
 | 6=>⟨#[42,115,116,97,116,101]⟩
 | 7=>⟨#[64,97]⟩
 | 8=>⟨#[64,98]⟩
 | 9=>⟨#[64,99]⟩
 | _=>⟨#[64,100]⟩
def ay0:Array Value:=#[.string (nM 0),.string (nM 1),.string (nM 2),.string (nM 3),.string (nM 4),.string (nM 5),.string (nM 6),.string (nM 7),.string (nM 8),.string (nM 9),.string (nM 10)]
theorem SK (i:Nat)(h:i<11):ay0[i]?=some (.string (nM i)):=by
 match i,h with
 | 0,_=>rfl
 | 1,_=>rfl
 | 2,_=>rfl
 | 3,_=>rfl
 | 4,_=>rfl
 | 5,_=>rfl
 | 6,_=>rfl
 | 7,_=>rfl
 | 8,_=>rfl
 | 9,_=>rfl
 | 10,_=>rfl
def gC (k bits i:Nat):Bool:=(bits / 2 ^ i) % 2 == 1 || (i == 7 && decide (0<k % 4))
def uP (i v:Nat):Int:=if i=7/\0<v % 4 then 100 else ((v % 3 * 50+v / 128:Nat):Int)
def cM (bs:Nat->Nat)(m k bits q:Nat):Nat->Nat × List (ByteArray × Int)
 | 0=>(q,[])
 | i+1=>if gC k bits i then (aN m (cM bs m k bits q i).1,(cM bs m k bits q i).2 ++ [(nM i,uP i (eD bs m (cM bs m k bits q i).1))]) else cM bs m k bits q i
def gM (l:List (ByteArray × Int))(i:Nat):ByteArray:=(l.getD i (ByteArray.empty,0)).1
def gL (l:List (ByteArray × Int))(i:Nat):Int:=(l.getD i (ByteArray.empty,0)).2
def vV (bs:Nat->Nat)(m q:Nat):Nat × List (ByteArray × Int):=cM bs m (eD bs m q) (eD bs m q+256 * eD bs m (aN m q)) (aN m (aN m q)) 11
theorem GX (bs:Nat->Nat)(m k bits q:Nat):∀ i,(cM bs m k bits q i).2.length<=i
 | 0=>nL
 | i+1=>by
  have:=GX bs m k bits q i;unfold cM;split
  ·simp;omega
  omega
theorem fI {e:Nat}(h:w.ownsRow base e size v n xs)(hg:w.grownBy w' row)(G:∀ q,v.ownBlock=some q->some q≠row):w'.ownsRow base e size v n xs:=by
 obtain ⟨N,I⟩:=h;refine ⟨N,?_⟩;rcases I with I|⟨g,cap,u,rfl,H,hh,r⟩
 ·exact Or.inl I
 have J:g<w.heap.size:=(Array.getElem?_eq_some_iff.1 hh).1;exact Or.inr ⟨g,cap,u,rfl,H,(hg.block g J (G g rfl)).trans hh,r⟩
theorem kG {M M':Nat->ByteArray}{L L':Nat->Int}:∀ {n},(∀ i,i<n->M i=M' i/\L i=L' i)->eQ M L n=eQ M' L' n
 | 0,_=>rfl
 | n+1,h=>by rw [<- iN,<- iN,kG (fun i hi=>h i (by omega)),(h n (by omega)).1,(h n (by omega)).2]
theorem jQ {l:List (ByteArray × Int)}{x:ByteArray}{z:Int}(h:w.ownsRow base 127 2 v (l.length+1) (eQ (gM l) (gL l) l.length ++ [.string x,.int .i64 z])):bV w base v (l.length+1) (gM (l ++ [(x,z)])) (gL (l ++ [(x,z)])):=by
 have u:eQ (gM l) (gL l) l.length=eQ (gM (l ++ [(x,z)])) (gL (l ++ [(x,z)])) l.length:=kG fun i hi=>by
  simp [gM,gL,List.getD,List.getElem?_append_left hi]
 rw [u] at h;exact bV.snoc h (by simp [gM,List.getD]) (by simp [gL,List.getD])
theorem eO (W:World)(x:ByteArray)(z:Int)(ty:TypeId)(j:Nat)(u:Value)(h:[Value.string x,Value.int .i64 z][j]?=some u):(W.alloc (.cells #[.string x,.int .i64 z] ty)).cell? ((⟨W.heap.size,0,none⟩:Addr).add j)=some u:=by
 rw [Addr.add_lit,Nat.zero_add,kA rfl,<- h];rw [List.getElem?_toArray]
theorem fP (x:ByteArray)(z:Int)(u:Value)(h:u ∈ [Value.string x,Value.int .i64 z]):u.oneCell'=true:=by
 simp only [List.mem_cons,List.not_mem_nil,or_false] at h;rcases h with rfl|rfl <;> rfl
def DW (p:Nat)(w:World)(bs:Nat->Nat)(m q:Nat)(e:Ending)(w':World):Prop :=
 ∃ g n u,e=.returned (.slice (some ⟨g,0,none⟩) n u)/\n=(vV bs m q).2.length/\bV w' w.heap.size (.slice (some ⟨g,0,none⟩) n u) n (gM (vV bs m q).2) (gL (vV bs m q).2)/\bR p w w' bs m (vV bs m q).1
def a90 (p:Nat)(H:World)(bs:Nat->Nat)(m k bits q i:Nat)(v:Value)(wr:World):Prop :=
 ∃ g u G,v=.slice (some ⟨g,0,none⟩) u G/\u<=i/\He (u=(cM bs m k bits q i).2.length)/\He (bV wr H.heap.size (.slice (some ⟨g,0,none⟩) u G) u (gM (cM bs m k bits q i).2) (gL (cM bs m k bits q i).2))/\He (bR p H wr bs m (cM bs m k bits q i).1)
theorem CK (p:Nat)(w:World)(h:nI w p bs m q):Calls prog 129 #[.pointer (some ⟨p,0,none⟩)] w (DW p w bs m q):=by
 obtain ⟨i0,hi,bh,bc,bi⟩:=info_parts Tryz.infoGrant;have hk:=h.nx;have hp:=h.lt
 go_enter func129,ntmps129
 go_wp2_with fail
 refine (iC p w h).mono ?_;rintro e w1 ⟨rfl,b7⟩;have cx:=b7.size;obtain ⟨N,bg⟩:∃ N,N=w1.alloc (.cells #[.string ⟨#[35,109,115,103]⟩,.string ⟨#[35,116,111,112,105,99]⟩,.string ⟨#[42,98,97,110]⟩,.string ⟨#[42,100,101,102,97,117,108,116]⟩,.string ⟨#[42,105,110,118,105,116,101]⟩,.string ⟨#[42,107,105,99,107]⟩,.string ⟨#[42,115,116,97,116,101]⟩,.string ⟨#[64,97]⟩,.string ⟨#[64,98]⟩,.string ⟨#[64,99]⟩,.string ⟨#[64,100]⟩] 9):=⟨_,rfl⟩;have ck:Below w1.heap.size w1 N:=by rw [bg];exact bA
 have hz:N.heap.size=w1.heap.size+1:=by rw [bg];simp
 have bm:=b7.below ck;have bk:He (∀ i,i<11->N.cell? ⟨w1.heap.size,i,none⟩=some (.string (nM i))):=fun i hi=>by rw [bg,kA rfl];exact SK i hi
 obtain ⟨W2,br⟩:∃ W2,W2=N.alloc (.cells #[] 127):=⟨_,rfl⟩;have ce:Below N.heap.size N W2:=by rw [br];exact bA
 have b6:He (bV W2 N.heap.size (.slice (some ⟨w1.heap.size+1,0,none⟩) 0 0) 0 (gM []) (gL [])):=by unfold He;rw [br,<- hz];exact bV.new N _ nL _ _
 have a4:=bm.below ce;have b8:He (Calls prog 34 #[.pointer (some ⟨p,0,none⟩)] W2 (NxF p W2 bs m (aN m q))):=iC p W2 a4.1;have hy:=a4.1.nx;have cb:He (bR p w N bs m (aN m q)):=bm;have cd:He (bR p N W2 bs m (aN m q)):=⟨a4.1,RR ce _⟩;clear b7 bm a4;obtain ⟨k,bw⟩:∃ k,k=eD bs m q:=⟨_,rfl⟩;obtain ⟨y,bx⟩:∃ y,y=eD bs m (aN m q):=⟨_,rfl⟩;have Hk:He (k=eD bs m q):=bw;have Hy:He (y=eD bs m (aN m q)):=bx;rw [<- bw] at hk ⊢;rw [<- bx] at hy;clear bw bx
 go_wp2_with fail
 rw [<- bg,<- br];clear bg br;refine b8.o.mono ?_;rintro e w3 ⟨rfl,b2⟩;have cf:He (bR p N w3 bs m (aN m (aN m q))):=cd.o.trans b2;have ch:=b2.2;clear b2;rw [<- Hy.o]
 go_wp2_with fail
 have bv:(k:Int)+256 * (y:Int)=((k+256 * y:Nat):Int):=by omega
 rw [bv];obtain ⟨bits,a3⟩:∃ bits,bits=k+256 * y:=⟨_,rfl⟩;have dd:bits<65536:=by omega
 rw [<- a3];have b4:He (bits=k+256 * y):=a3;clear a3 bv
 have cn:He (∀ g n cc wr,bR p N wr bs m (cM bs m k bits (aN m (aN m q)) 11).1->n=(cM bs m k bits (aN m (aN m q)) 11).2.length->bV wr N.heap.size (.slice (some ⟨g,0,none⟩) n cc) n (gM (cM bs m k bits (aN m (aN m q)) 11).2) (gL (cM bs m k bits (aN m (aN m q)) 11).2)->DW p w bs m q (.returned (.slice (some ⟨g,0,none⟩) n cc)) wr):=fun g n cc wr h1 h2 h3=>by
  have e:cM bs m k bits (aN m (aN m q)) 11=vV bs m q:=by unfold vV;rw [b4.o,Hk.o,Hy.o]
  rw [e] at h1 h2 h3;refine ⟨g,n,cc,rfl,h2,?_,cb.o.trans h1⟩;obtain ⟨q1,q2⟩:=h3;exact ⟨q1,q2.imp id fun ⟨g,cap,cl,e,hg,r⟩=>⟨g,cap,cl,e,nZ cb.o.size hg,r⟩⟩
 have bu:He (bV w3 N.heap.size (.slice (some ⟨w1.heap.size+1,0,none⟩) 0 0) 0 (gM []) (gL [])):=fI b6.o ch (fun q hq e=>by have:=(World.ownsRow.lt b6.o q hq).1;injection e with e;omega)
 go_loopw [5,7] (fun v i wr=>∃ j:Nat,j<=11/\i=.int .i64 (j:Int)/\a90 p N bs m k bits (aN m (aN m q)) j v wr) (fun _ i _=>11 - (intOf i).toNat)
 case atStart=>exact ⟨0,by decide,rfl,_,0,0,rfl,nL,rfl,bu.o,cf.o⟩
 case round =>
  clear b6 bu ch cf cd b8;obtain ⟨j,hj,rfl,g,J,cc,rfl,de,ak,O,U⟩:=hrel
  by_cases bf:j<11
  ·have ax:((bits:Int) / 2 ^ j).tmod 2=((bits / 2 ^ j % 2:Nat):Int):=by
    have h0:((bits:Int) / 2 ^ j)=((bits / 2 ^ j:Nat):Int):=by simp
    rw [h0];generalize bits / 2 ^ j=z;rw [Int.tmod_eq_emod_of_nonneg (by omega)];omega
   have am:¬ bits / 2 ^ j % 2=1->bits / 2 ^ j % 2=0:=by
    generalize bits / 2 ^ j=z;omega
   have cy:(j:Int)<64:=by omega
   by_cases b5:j=7
   ·subst b5
    by_cases h1:bits / 2 ^ 7 % 2=1
    ·have bj:(((bits:Int) / 2 ^ 7).tmod 2 == 1)=true:=by rw [ax,h1];rfl
     have b0:bits / 128 % 2=1:=h1;have cm:((bits:Int) / 128 % 2 == 1)=true:=by rw [show (bits:Int) / 128 % 2=1 by omega];rfl
     clear b0 bj;have hc:gC k bits 7=true:=by unfold gC;rw [h1];rfl
     clear ax h1 am
     by_cases Z:0<eD bs m (cM bs m k bits (aN m (aN m q)) 7).1 % 4
     ·skip
      have HC:He (gC k bits 7=true):=hc;clear hc
      go_wp2_with fail
      refine (iC p wr U.o.1).mono ?_;rintro e w5 ⟨rfl,Y⟩;have hx:=U.o.1.nx;have H:He (cM bs m k bits (aN m (aN m q)) (7+1)=(aN m (cM bs m k bits (aN m (aN m q)) 7).1,(cM bs m k bits (aN m (aN m q)) 7).2 ++ [(nM 7,uP 7 (eD bs m (cM bs m k bits (aN m (aN m q)) 7).1))])):=by unfold He;rw [cM,if_pos HC.o]
      obtain ⟨x,aj⟩:∃ x,x=eD bs m (cM bs m k bits (aN m (aN m q)) 7).1:=⟨_,rfl⟩;rw [<- aj] at H hx Z ⊢;clear aj;have ae:He (bR p N w5 bs m (cM bs m k bits (aN m (aN m q)) (7+1)).1):=by unfold He;rw [H.o];exact U.o.trans Y
      have bb:w5.cell? ⟨w1.heap.size,7,none⟩=some (.string (nM 7)):=(World.cell?_of_block (a:=⟨w1.heap.size,7,none⟩) (ae.o.2.block w1.heap.size (by omega) (fun e=>by injection e with e;omega))).trans (bk.o 7 bf);have G:w5.ownsRow N.heap.size 127 2 (.slice (some ⟨g,0,none⟩) J cc) J (eQ (gM (cM bs m k bits (aN m (aN m q)) 7).2) (gL (cM bs m k bits (aN m (aN m q)) 7).2) J):=fI O.o Y.2 (fun q hq e=>by have:=(World.ownsRow.lt O.o q hq).1;injection e with e;omega);have Hl:He (J=(cM bs m k bits (aN m (aN m q)) 7).2.length):=ak.o;clear U O Y ak;generalize (cM bs m k bits (aN m (aN m q)) 7).2=l at *;have bq:N.heap.size<=w5.heap.size:=ae.o.size;have an:J+1<=maxLen:=by unfold maxLen;omega
      have aq:(J+1) * 24<=140737488355328:=by omega
      have ai:∀ o,N.heap.size<=(w5.alloc o).heap.size:=fun o=>by simp;omega
      have af:He (∀ q,(Value.slice (some ⟨g,0,none⟩) J cc).ownBlock=some q->N.heap.size<=q):=fun q hq=>(World.ownsRow.lt G q hq).1
      have ag:(100:Int)=uP 7 x:=by unfold uP;rw [if_pos ⟨rfl,Z⟩]
      have bz:decide ((0:Int)<(x:Int) % 4)=true:=decide_eq_true (by omega);have aw:He (100=uP 7 x):=ag;clear ag Z
      go_wp2_with (at_builtin;refine wpList_append_lies _ rfl _ _ 28 rfl N.heap.size 127 i0 _ 2 24 underlying28 hi bh bc bi rfl (by decide) _ _ _ rfl (World.ownsRow.alloc G _) ⟨w5.heap.size,0,none⟩ 1 1 [.string (nM 7),.int .i64 (100)] rfl rfl (eO _ _ _ _) (fP _ _) (by decide) an aq (ai _) (w5.heap.size+1) (by simp) ?_;intro gg cq w7 u I ah a6)
      have ad:He (bV w7 N.heap.size (.slice (some ⟨gg,0,none⟩) (J+1) cq) (J+1) (gM (cM bs m k bits (aN m (aN m q)) (7+1)).2) (gL (cM bs m k bits (aN m (aN m q)) (7+1)).2)):=by
       unfold He;rw [H.o,<- aw.o];rw [Hl.o] at u ⊢;exact jQ u
      have ao:He (bR p N w7 bs m (cM bs m k bits (aN m (aN m q)) (7+1)).1):=(ae.o.below bA).grow I af.o (by omega);have au:He (J+1=(cM bs m k bits (aN m (aN m q)) (7+1)).2.length):=by unfold He;rw [H.o,List.length_append,<- Hl.o];rfl
      clear u I ah G ai af H;exact ⟨⟨7+1,by omega,by go_num,gg,J+1,cq,rfl,by omega,au.o,ad.o,ao.o⟩,by first|(simp [intOf];omega)|simp [intOf]⟩
     skip
     have HC:He (gC k bits 7=true):=hc;clear hc
     go_wp2_with fail
     refine (iC p wr U.o.1).mono ?_;rintro e w5 ⟨rfl,Y⟩;have hx:=U.o.1.nx;have H:He (cM bs m k bits (aN m (aN m q)) (7+1)=(aN m (cM bs m k bits (aN m (aN m q)) 7).1,(cM bs m k bits (aN m (aN m q)) 7).2 ++ [(nM 7,uP 7 (eD bs m (cM bs m k bits (aN m (aN m q)) 7).1))])):=by unfold He;rw [cM,if_pos HC.o]
     obtain ⟨x,aj⟩:∃ x,x=eD bs m (cM bs m k bits (aN m (aN m q)) 7).1:=⟨_,rfl⟩;rw [<- aj] at H hx Z ⊢;clear aj;have ae:He (bR p N w5 bs m (cM bs m k bits (aN m (aN m q)) (7+1)).1):=by unfold He;rw [H.o];exact U.o.trans Y
     have bb:w5.cell? ⟨w1.heap.size,7,none⟩=some (.string (nM 7)):=(World.cell?_of_block (a:=⟨w1.heap.size,7,none⟩) (ae.o.2.block w1.heap.size (by omega) (fun e=>by injection e with e;omega))).trans (bk.o 7 bf);have G:w5.ownsRow N.heap.size 127 2 (.slice (some ⟨g,0,none⟩) J cc) J (eQ (gM (cM bs m k bits (aN m (aN m q)) 7).2) (gL (cM bs m k bits (aN m (aN m q)) 7).2) J):=fI O.o Y.2 (fun q hq e=>by have:=(World.ownsRow.lt O.o q hq).1;injection e with e;omega);have Hl:He (J=(cM bs m k bits (aN m (aN m q)) 7).2.length):=ak.o;clear U O Y ak;generalize (cM bs m k bits (aN m (aN m q)) 7).2=l at *;have bq:N.heap.size<=w5.heap.size:=ae.o.size;have an:J+1<=maxLen:=by unfold maxLen;omega
     have aq:(J+1) * 24<=140737488355328:=by omega
     have ai:∀ o,N.heap.size<=(w5.alloc o).heap.size:=fun o=>by simp;omega
     have af:He (∀ q,(Value.slice (some ⟨g,0,none⟩) J cc).ownBlock=some q->N.heap.size<=q):=fun q hq=>(World.ownsRow.lt G q hq).1
     have ag:(x:Int) % 3 * 50+(x:Int) / 128=uP 7 x:=by unfold uP;rw [if_neg (fun h=>Z h.2)];omega
     have bz:decide ((0:Int)<(x:Int) % 4)=false:=decide_eq_false (fun h=>Z (by omega));have aw:He ((x:Int) % 3 * 50+(x:Int) / 128=uP 7 x):=ag;clear ag Z
     go_wp2_with (at_builtin;refine wpList_append_lies _ rfl _ _ 28 rfl N.heap.size 127 i0 _ 2 24 underlying28 hi bh bc bi rfl (by decide) _ _ _ rfl (World.ownsRow.alloc G _) ⟨w5.heap.size,0,none⟩ 1 1 [.string (nM 7),.int .i64 ((x:Int) % 3 * 50+(x:Int) / 128)] rfl rfl (eO _ _ _ _) (fP _ _) (by decide) an aq (ai _) (w5.heap.size+1) (by simp) ?_;intro gg cq w7 u I ah a6)
     have ad:He (bV w7 N.heap.size (.slice (some ⟨gg,0,none⟩) (J+1) cq) (J+1) (gM (cM bs m k bits (aN m (aN m q)) (7+1)).2) (gL (cM bs m k bits (aN m (aN m q)) (7+1)).2)):=by
      unfold He;rw [H.o,<- aw.o];rw [Hl.o] at u ⊢;exact jQ u
     have ao:He (bR p N w7 bs m (cM bs m k bits (aN m (aN m q)) (7+1)).1):=(ae.o.below bA).grow I af.o (by omega);have au:He (J+1=(cM bs m k bits (aN m (aN m q)) (7+1)).2.length):=by unfold He;rw [H.o,List.length_append,<- Hl.o];rfl
     clear u I ah G ai af H;exact ⟨⟨7+1,by omega,by go_num,gg,J+1,cq,rfl,by omega,au.o,ad.o,ao.o⟩,by first|(simp [intOf];omega)|simp [intOf]⟩
    have bj:(((bits:Int) / 2 ^ 7).tmod 2 == 1)=false:=by rw [ax,am h1];rfl
    have b0:bits / 128 % 2=0:=am h1;have cm:((bits:Int) / 128 % 2 == 1)=false:=by rw [show (bits:Int) / 128 % 2=0 by omega];rfl
    clear b0 bj
    by_cases bn:0<k % 4
    ·have cj:decide ((0:Int)<(k:Int) % 4)=true:=decide_eq_true (by omega)
     have hc:gC k bits 7=true:=by unfold gC;simp [bn]
     clear ax h1 am bn
     by_cases Z:0<eD bs m (cM bs m k bits (aN m (aN m q)) 7).1 % 4
     ·skip
      have HC:He (gC k bits 7=true):=hc;clear hc
      go_wp2_with fail
      refine (iC p wr U.o.1).mono ?_;rintro e w5 ⟨rfl,Y⟩;have hx:=U.o.1.nx;have H:He (cM bs m k bits (aN m (aN m q)) (7+1)=(aN m (cM bs m k bits (aN m (aN m q)) 7).1,(cM bs m k bits (aN m (aN m q)) 7).2 ++ [(nM 7,uP 7 (eD bs m (cM bs m k bits (aN m (aN m q)) 7).1))])):=by unfold He;rw [cM,if_pos HC.o]
      obtain ⟨x,aj⟩:∃ x,x=eD bs m (cM bs m k bits (aN m (aN m q)) 7).1:=⟨_,rfl⟩;rw [<- aj] at H hx Z ⊢;clear aj;have ae:He (bR p N w5 bs m (cM bs m k bits (aN m (aN m q)) (7+1)).1):=by unfold He;rw [H.o];exact U.o.trans Y
      have bb:w5.cell? ⟨w1.heap.size,7,none⟩=some (.string (nM 7)):=(World.cell?_of_block (a:=⟨w1.heap.size,7,none⟩) (ae.o.2.block w1.heap.size (by omega) (fun e=>by injection e with e;omega))).trans (bk.o 7 bf);have G:w5.ownsRow N.heap.size 127 2 (.slice (some ⟨g,0,none⟩) J cc) J (eQ (gM (cM bs m k bits (aN m (aN m q)) 7).2) (gL (cM bs m k bits (aN m (aN m q)) 7).2) J):=fI O.o Y.2 (fun q hq e=>by have:=(World.ownsRow.lt O.o q hq).1;injection e with e;omega);have Hl:He (J=(cM bs m k bits (aN m (aN m q)) 7).2.length):=ak.o;clear U O Y ak;generalize (cM bs m k bits (aN m (aN m q)) 7).2=l at *;have bq:N.heap.size<=w5.heap.size:=ae.o.size;have an:J+1<=maxLen:=by unfold maxLen;omega
      have aq:(J+1) * 24<=140737488355328:=by omega
      have ai:∀ o,N.heap.size<=(w5.alloc o).heap.size:=fun o=>by simp;omega
      have af:He (∀ q,(Value.slice (some ⟨g,0,none⟩) J cc).ownBlock=some q->N.heap.size<=q):=fun q hq=>(World.ownsRow.lt G q hq).1
      have ag:(100:Int)=uP 7 x:=by unfold uP;rw [if_pos ⟨rfl,Z⟩]
      have bz:decide ((0:Int)<(x:Int) % 4)=true:=decide_eq_true (by omega);have aw:He (100=uP 7 x):=ag;clear ag Z
      go_wp2_with (at_builtin;refine wpList_append_lies _ rfl _ _ 28 rfl N.heap.size 127 i0 _ 2 24 underlying28 hi bh bc bi rfl (by decide) _ _ _ rfl (World.ownsRow.alloc G _) ⟨w5.heap.size,0,none⟩ 1 1 [.string (nM 7),.int .i64 (100)] rfl rfl (eO _ _ _ _) (fP _ _) (by decide) an aq (ai _) (w5.heap.size+1) (by simp) ?_;intro gg cq w7 u I ah a6)
      have ad:He (bV w7 N.heap.size (.slice (some ⟨gg,0,none⟩) (J+1) cq) (J+1) (gM (cM bs m k bits (aN m (aN m q)) (7+1)).2) (gL (cM bs m k bits (aN m (aN m q)) (7+1)).2)):=by
       unfold He;rw [H.o,<- aw.o];rw [Hl.o] at u ⊢;exact jQ u
      have ao:He (bR p N w7 bs m (cM bs m k bits (aN m (aN m q)) (7+1)).1):=(ae.o.below bA).grow I af.o (by omega);have au:He (J+1=(cM bs m k bits (aN m (aN m q)) (7+1)).2.length):=by unfold He;rw [H.o,List.length_append,<- Hl.o];rfl
      clear u I ah G ai af H;exact ⟨⟨7+1,by omega,by go_num,gg,J+1,cq,rfl,by omega,au.o,ad.o,ao.o⟩,by first|(simp [intOf];omega)|simp [intOf]⟩
     skip
     have HC:He (gC k bits 7=true):=hc;clear hc
     go_wp2_with fail
     refine (iC p wr U.o.1).mono ?_;rintro e w5 ⟨rfl,Y⟩;have hx:=U.o.1.nx;have H:He (cM bs m k bits (aN m (aN m q)) (7+1)=(aN m (cM bs m k bits (aN m (aN m q)) 7).1,(cM bs m k bits (aN m (aN m q)) 7).2 ++ [(nM 7,uP 7 (eD bs m (cM bs m k bits (aN m (aN m q)) 7).1))])):=by unfold He;rw [cM,if_pos HC.o]
     obtain ⟨x,aj⟩:∃ x,x=eD bs m (cM bs m k bits (aN m (aN m q)) 7).1:=⟨_,rfl⟩;rw [<- aj] at H hx Z ⊢;clear aj;have ae:He (bR p N w5 bs m (cM bs m k bits (aN m (aN m q)) (7+1)).1):=by unfold He;rw [H.o];exact U.o.trans Y
     have bb:w5.cell? ⟨w1.heap.size,7,none⟩=some (.string (nM 7)):=(World.cell?_of_block (a:=⟨w1.heap.size,7,none⟩) (ae.o.2.block w1.heap.size (by omega) (fun e=>by injection e with e;omega))).trans (bk.o 7 bf);have G:w5.ownsRow N.heap.size 127 2 (.slice (some ⟨g,0,none⟩) J cc) J (eQ (gM (cM bs m k bits (aN m (aN m q)) 7).2) (gL (cM bs m k bits (aN m (aN m q)) 7).2) J):=fI O.o Y.2 (fun q hq e=>by have:=(World.ownsRow.lt O.o q hq).1;injection e with e;omega);have Hl:He (J=(cM bs m k bits (aN m (aN m q)) 7).2.length):=ak.o;clear U O Y ak;generalize (cM bs m k bits (aN m (aN m q)) 7).2=l at *;have bq:N.heap.size<=w5.heap.size:=ae.o.size;have an:J+1<=maxLen:=by unfold maxLen;omega
     have aq:(J+1) * 24<=140737488355328:=by omega
     have ai:∀ o,N.heap.size<=(w5.alloc o).heap.size:=fun o=>by simp;omega
     have af:He (∀ q,(Value.slice (some ⟨g,0,none⟩) J cc).ownBlock=some q->N.heap.size<=q):=fun q hq=>(World.ownsRow.lt G q hq).1
     have ag:(x:Int) % 3 * 50+(x:Int) / 128=uP 7 x:=by unfold uP;rw [if_neg (fun h=>Z h.2)];omega
     have bz:decide ((0:Int)<(x:Int) % 4)=false:=decide_eq_false (fun h=>Z (by omega));have aw:He ((x:Int) % 3 * 50+(x:Int) / 128=uP 7 x):=ag;clear ag Z
     go_wp2_with (at_builtin;refine wpList_append_lies _ rfl _ _ 28 rfl N.heap.size 127 i0 _ 2 24 underlying28 hi bh bc bi rfl (by decide) _ _ _ rfl (World.ownsRow.alloc G _) ⟨w5.heap.size,0,none⟩ 1 1 [.string (nM 7),.int .i64 ((x:Int) % 3 * 50+(x:Int) / 128)] rfl rfl (eO _ _ _ _) (fP _ _) (by decide) an aq (ai _) (w5.heap.size+1) (by simp) ?_;intro gg cq w7 u I ah a6)
     have ad:He (bV w7 N.heap.size (.slice (some ⟨gg,0,none⟩) (J+1) cq) (J+1) (gM (cM bs m k bits (aN m (aN m q)) (7+1)).2) (gL (cM bs m k bits (aN m (aN m q)) (7+1)).2)):=by
      unfold He;rw [H.o,<- aw.o];rw [Hl.o] at u ⊢;exact jQ u
     have ao:He (bR p N w7 bs m (cM bs m k bits (aN m (aN m q)) (7+1)).1):=(ae.o.below bA).grow I af.o (by omega);have au:He (J+1=(cM bs m k bits (aN m (aN m q)) (7+1)).2.length):=by unfold He;rw [H.o,List.length_append,<- Hl.o];rfl
     clear u I ah G ai af H;exact ⟨⟨7+1,by omega,by go_num,gg,J+1,cq,rfl,by omega,au.o,ad.o,ao.o⟩,by first|(simp [intOf];omega)|simp [intOf]⟩
    have cj:decide ((0:Int)<(k:Int) % 4)=false:=decide_eq_false (by omega);have hc:gC k bits 7=false:=by unfold gC;rw [decide_eq_false bn,am h1];simp
    clear ax h1 am bn;have H:He (cM bs m k bits (aN m (aN m q)) (7+1)=cM bs m k bits (aN m (aN m q)) 7):=by unfold He;rw [cM,if_neg (by rw [hc];decide)]
    clear hc;go_wp2
    exact ⟨⟨7+1,by omega,by go_num,g,J,cc,rfl,by omega,by rw [H.o];exact ak.o,by rw [H.o];exact O.o,by rw [H.o];exact U.o⟩,by first|(simp [intOf];omega)|simp [intOf]⟩
   have cw:((j:Int) == 7)=false:=by simp;omega
   by_cases h1:bits / 2 ^ j % 2=1
   ·have bj:(((bits:Int) / 2 ^ j).tmod 2 == 1)=true:=by rw [ax,h1];rfl
    have hc:gC k bits j=true:=by unfold gC;rw [h1];rfl
    have Z:¬ (j=7/\0<eD bs m (cM bs m k bits (aN m (aN m q)) j).1 % 4):=fun h=>b5 h.1
    clear ax h1 am;have HC:He (gC k bits j=true):=hc;clear hc
    go_wp2_with fail
    refine (iC p wr U.o.1).mono ?_;rintro e w5 ⟨rfl,Y⟩;have hx:=U.o.1.nx;have H:He (cM bs m k bits (aN m (aN m q)) (j+1)=(aN m (cM bs m k bits (aN m (aN m q)) j).1,(cM bs m k bits (aN m (aN m q)) j).2 ++ [(nM j,uP j (eD bs m (cM bs m k bits (aN m (aN m q)) j).1))])):=by unfold He;rw [cM,if_pos HC.o]
    obtain ⟨x,aj⟩:∃ x,x=eD bs m (cM bs m k bits (aN m (aN m q)) j).1:=⟨_,rfl⟩;rw [<- aj] at H hx Z ⊢;clear aj;have ae:He (bR p N w5 bs m (cM bs m k bits (aN m (aN m q)) (j+1)).1):=by unfold He;rw [H.o];exact U.o.trans Y
    have bb:w5.cell? ⟨w1.heap.size,j,none⟩=some (.string (nM j)):=(World.cell?_of_block (a:=⟨w1.heap.size,j,none⟩) (ae.o.2.block w1.heap.size (by omega) (fun e=>by injection e with e;omega))).trans (bk.o j bf);have G:w5.ownsRow N.heap.size 127 2 (.slice (some ⟨g,0,none⟩) J cc) J (eQ (gM (cM bs m k bits (aN m (aN m q)) j).2) (gL (cM bs m k bits (aN m (aN m q)) j).2) J):=fI O.o Y.2 (fun q hq e=>by have:=(World.ownsRow.lt O.o q hq).1;injection e with e;omega);have Hl:He (J=(cM bs m k bits (aN m (aN m q)) j).2.length):=ak.o;clear U O Y ak;generalize (cM bs m k bits (aN m (aN m q)) j).2=l at *;have bq:N.heap.size<=w5.heap.size:=ae.o.size;have an:J+1<=maxLen:=by unfold maxLen;omega
    have aq:(J+1) * 24<=140737488355328:=by omega
    have ai:∀ o,N.heap.size<=(w5.alloc o).heap.size:=fun o=>by simp;omega
    have af:He (∀ q,(Value.slice (some ⟨g,0,none⟩) J cc).ownBlock=some q->N.heap.size<=q):=fun q hq=>(World.ownsRow.lt G q hq).1
    have ag:(x:Int) % 3 * 50+(x:Int) / 128=uP j x:=by unfold uP;rw [if_neg Z];omega
    have aw:He ((x:Int) % 3 * 50+(x:Int) / 128=uP j x):=ag;clear ag Z
    go_wp2_with (at_builtin;refine wpList_append_lies _ rfl _ _ 28 rfl N.heap.size 127 i0 _ 2 24 underlying28 hi bh bc bi rfl (by decide) _ _ _ rfl (World.ownsRow.alloc G _) ⟨w5.heap.size,0,none⟩ 1 1 [.string (nM j),.int .i64 ((x:Int) % 3 * 50+(x:Int) / 128)] rfl rfl (eO _ _ _ _) (fP _ _) (by decide) an aq (ai _) (w5.heap.size+1) (by simp) ?_;intro gg cq w7 u I ah a6)
    have ad:He (bV w7 N.heap.size (.slice (some ⟨gg,0,none⟩) (J+1) cq) (J+1) (gM (cM bs m k bits (aN m (aN m q)) (j+1)).2) (gL (cM bs m k bits (aN m (aN m q)) (j+1)).2)):=by
     unfold He;rw [H.o,<- aw.o];rw [Hl.o] at u ⊢;exact jQ u
    have ao:He (bR p N w7 bs m (cM bs m k bits (aN m (aN m q)) (j+1)).1):=(ae.o.below bA).grow I af.o (by omega);have au:He (J+1=(cM bs m k bits (aN m (aN m q)) (j+1)).2.length):=by unfold He;rw [H.o,List.length_append,<- Hl.o];rfl
    clear u I ah G ai af H;exact ⟨⟨j+1,by omega,by go_num,gg,J+1,cq,rfl,by omega,au.o,ad.o,ao.o⟩,by first|(simp [intOf];omega)|simp [intOf]⟩
   have bj:(((bits:Int) / 2 ^ j).tmod 2 == 1)=false:=by rw [ax,am h1];rfl
   have hc:gC k bits j=false:=by unfold gC;rw [am h1];simp [b5]
   clear ax h1 am;have H:He (cM bs m k bits (aN m (aN m q)) (j+1)=cM bs m k bits (aN m (aN m q)) j):=by unfold He;rw [cM,if_neg (by rw [hc];decide)]
   clear hc;go_wp2
   exact ⟨⟨j+1,by omega,by go_num,g,J,cc,rfl,by omega,by rw [H.o];exact ak.o,by rw [H.o];exact O.o,by rw [H.o];exact U.o⟩,by first|(simp [intOf];omega)|simp [intOf]⟩
  have ci:j=11:=by omega
  subst ci;go_wp2
  go_ret;exact cn.o _ _ _ _ U.o ak.o O.o
variable {a aa ga pa:Option Addr}{B b k ca cg cp cap:Nat}
structure Ev where
 id:ByteArray
 sd:ByteArray
 ty:ByteArray
 key:ByteArray
 val:ByteArray
 st:Bool
 tm:Int
 np:Nat
 na:Nat
 ng:Nat
 Pv:Nat->ByteArray
 Av:Nat->ByteArray
 M:Nat->ByteArray
 L:Nat->Int
variable {e:Ev}{E:Nat->Ev}
def Ev.code (e:Ev):Int:=bF e.id e.sd e.ty e.key e.val e.st e.tm e.np e.na e.ng e.Pv e.Av e.M e.L
abbrev ec (e:Ev)(p:Option Addr)(c:Nat)(a:Option Addr)(d:Nat)(g:Option Addr)(f:Nat):Array Value:=#[.string e.id,.string e.sd,.string e.ty,.bool e.st,.string e.key,.int .i64 e.tm,.slice p e.np c,.slice a e.na d,.string e.val,.slice g e.ng f]
abbrev Ev.val' (e:Ev)(pa:Option Addr)(cp:Nat)(aa:Option Addr)(ca:Nat)(ga:Option Addr)(cg:Nat):Value :=
 DA e.id e.sd e.ty e.key e.val e.st e.tm pa e.np cp aa e.na ca ga e.ng cg
structure cI (w:World)(e:Ev)(pa:Option Addr)(cp:Nat)(aa:Option Addr)(ca:Nat)(ga:Option Addr)(cg:Nat):Prop where
 hid:e.id.size<=maxLen
 hsd:e.sd.size<=maxLen
 hty:e.ty.size<=maxLen
 hkey:e.key.size<=maxLen
 hval:e.val.size<=maxLen
 hp:dE w pa e.np cp e.Pv
 ha:dE w aa e.na ca e.Av
 hg:gN w ga e.ng cg e.M e.L
theorem cI.below (h:cI w e pa cp aa ca ga cg)(hb:Below w.heap.size w w'):cI w' e pa cp aa ca ga cg :=
 ⟨h.hid,h.hsd,h.hty,h.hkey,h.hval,h.hp.below hb,h.ha.below hb,h.hg.below hb⟩
structure eP (w:World)(b o:Nat)(e:Ev)(pa:Option Addr)(cp:Nat)(aa:Option Addr)(ca:Nat)(ga:Option Addr)(cg:Nat):Prop where
 c0:w.cell? ⟨b,o,none⟩=some (.string e.id)
 c1:w.cell? ⟨b,o+1,none⟩=some (.string e.sd)
 c2:w.cell? ⟨b,o+2,none⟩=some (.string e.ty)
 c3:w.cell? ⟨b,o+3,none⟩=some (.bool e.st)
 c4:w.cell? ⟨b,o+4,none⟩=some (.string e.key)
 c5:w.cell? ⟨b,o+5,none⟩=some (.int .i64 e.tm)
 c6:w.cell? ⟨b,o+6,none⟩=some (.slice pa e.np cp)
 c7:w.cell? ⟨b,o+7,none⟩=some (.slice aa e.na ca)
 c8:w.cell? ⟨b,o+8,none⟩=some (.string e.val)
 c9:w.cell? ⟨b,o+9,none⟩=some (.slice ga e.ng cg)
theorem eP.below {o:Nat}(h:eP w b o e pa cp aa ca ga cg)(hb:Below B w w')(u:b<B):eP w' b o e pa cp aa ca ga cg :=
 ⟨(hb.cell (by exact u)).trans h.c0,(hb.cell (by exact u)).trans h.c1,(hb.cell (by exact u)).trans h.c2,(hb.cell (by exact u)).trans h.c3,(hb.cell (by exact u)).trans h.c4,(hb.cell (by exact u)).trans h.c5,(hb.cell (by exact u)).trans h.c6,(hb.cell (by exact u)).trans h.c7,(hb.cell (by exact u)).trans h.c8,(hb.cell (by exact u)).trans h.c9⟩
def mT (w:World)(b o:Nat)(e:Ev):Prop:=∃ pa cp aa ca ga cg,eP w b o e pa cp aa ca ga cg/\cI w e pa cp aa ca ga cg
theorem mT.below {o:Nat}(h:mT w b o e)(hb:Below w.heap.size w w')(u:b<w.heap.size):mT w' b o e:=by
 obtain ⟨pa,cp,aa,ca,ga,cg,G,H⟩:=h;exact ⟨pa,cp,aa,ca,ga,cg,G.below hb u,H.below hb⟩
structure dW (w:World)(a:Option Addr)(n cap:Nat)(E:Nat->Ev):Prop where
 le:n<=cap
 max:cap<=maxLen
 cells:n=0\/∃ b off,a=some ⟨b,off,none⟩/\b<w.heap.size/\∀ i,i<n->mT w b (off+i * 10) (E i)
theorem dW.below (h:dW w a n cap E)(hb:Below w.heap.size w w'):dW w' a n cap E:=by
 refine ⟨h.le,h.max,?_⟩;rcases h.cells with G|⟨b,off,e,u,H⟩
 ·exact Or.inl G
 exact Or.inr ⟨b,off,e,nT u hb.size,fun i hi=>(H i hi).below hb u⟩
theorem dW.take (h:dW w a n cap E)(G:k<=n):dW w a k cap E:=by
 refine ⟨nZ G h.le,h.max,?_⟩;rcases h.cells with I|⟨b,off,e,u,H⟩
 ·exact Or.inl (by omega)
 exact Or.inr ⟨b,off,e,u,fun i hi=>H i (by omega)⟩
def aL (E:Nat->Ev):Nat->ByteArray->Int
 | 0,_=>-1
 | n+1,s=>if 0<=aL E n s then aL E n s else if (E n).id.toList == s.toList then (n:Int) else -1
theorem cJ (E:Nat->Ev)(s:ByteArray):∀ n,-1<=aL E n s/\aL E n s<n
 | 0=>by simp [aL]
 | n+1=>by
  have:=cJ E s n;unfold aL;split
  ·omega
  split <;> omega
theorem mO (E:Nat->Ev)(s:ByteArray):∀ n,(∀ i,i<n->((E i).id.toList == s.toList)=false)->aL E n s=-1
 | 0,_=>rfl
 | n+1,h=>by
  unfold aL;rw [mO E s n (fun i hi=>h i (by omega)),if_neg (by omega),h n (by omega)];simp
theorem mD (E : Nat -> Ev) (s : ByteArray) (k : Nat) (u : 0 <= aL E k s) : ∀ n, k <= n -> aL E n s = aL E k s
  | 0, h => by have : k = 0 := by omega
               subst this; rfl
  | n + 1, h => by
    by_cases e : k = n + 1
    · subst e; rfl
    · have := mD E s k u n (by omega)
      rw [aL, this, if_pos u]
theorem zZ (E:Nat->Ev)(s:ByteArray)(n k:Nat)(H:k<n)(u:∀ i,i<k->((E i).id.toList == s.toList)=false)(G:((E k).id.toList == s.toList)=true):aL E n s=(k:Int):=by
 have e:aL E (k+1) s=(k:Int):=by rw [aL,mO E s k u,if_neg (by omega),G];simp
 rw [mD E s (k+1) (by omega) n (by omega),e]
def eM (E:Nat->Ev)(n:Nat)(S:Nat->ByteArray):Nat->Bool
 | 0=>true
 | m+1=>eM E n S m && decide (0<=aL E n (S m))
theorem tL (E:Nat->Ev)(n:Nat)(S:Nat->ByteArray):∀ m k,k<m->eM E n S (k+1)=false->eM E n S m=false
 | 0,_,h,_=>absurd h (Nat.not_lt_zero _)
 | m+1,k,h,e=>by
  by_cases u:k=m
  ·subst u;exact e
  unfold eM;rw [tL E n S m k (by omega) e];rfl
def dC (E:Nat->Ev)(n:Nat)(S:Nat->ByteArray)(m:Nat):Bool:=decide (m<=300) && eM E n S m
def aO (E:Nat->Ev)(n:Nat)(e:Ev):Int :=
 if e.code≠0 then e.code
 else if 0<=aL E n e.id then 6
 else if dC E n e.Pv e.np=false\/dC E n e.Av e.na=false then 7
 else if n=0/\(e.ty.toList == [99,114,101,97,116,101])=false then 8
 else if 0<n/\((e.ty.toList == [99,114,101,97,116,101])=true\/e.np=0\/e.na=0) then 8
 else if 300<=n then 9
 else 0
def aF (E:Nat->Ev):Nat->Bool
 | 0=>true
 | n+1=>aF E n && decide (aO E n (E n)=0)
theorem qI (E:Nat->Ev):∀ n k,k<n->aF E (k+1)=false->aF E n=false
 | 0,_,h,_=>absurd h (Nat.not_lt_zero _)
 | n+1,k,h,e=>by
  by_cases u:k=n
  ·subst u;exact e
  unfold aF;rw [qI E n k (by omega) e];rfl
theorem uD (n:Nat):strOfNums [(n:Int)]=⟨#[UInt8.ofNat n]⟩:=by
 simp [strOfNums]
theorem BO (W:World)(B n:Nat)(u:W.cell? ⟨B,0,none⟩=some (.int .u8 (n:Int))) :
  (convert 22 9 (.slice (some ⟨B,0,none⟩) 1 1)).run prog W=.ok (.string ⟨#[UInt8.ofNat n]⟩) W:=by
 rw [run_convert_bytes_arg W 22 5 underlying22 underlying5 B 0 1 1 [(n:Int)] rfl (fun i hi=>by
  have:i=0:=by omega
  subst this;exact u) 9 underlying9,uD n]
end Go.Proofs.YtpfeegcdlikegaaGreat
