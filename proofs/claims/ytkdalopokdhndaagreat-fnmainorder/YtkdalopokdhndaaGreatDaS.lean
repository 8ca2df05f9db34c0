import Derived.Test.YtkdalopokdhndaaGreatXeOZ
import Derived.Test.YtkdalopokdhndaaGreatDmS
set_option maxHeartbeats 16000000
set_option maxRecDepth 100000
namespace Go.Proofs.YtkdalopokdhndaaGreat
open Go.RowKit
variable {P:Nat->Prop}{B i m n p q ca cg cp q' rb rc:Nat}{W w W' w':World}{bs:Nat->Nat}{E:Nat->Ev}{e:Ev}{aa ga pa:Option Addr}{T:Nat->Ls}
def AnPost (p:Nat)(w:World)(bs:Nat->Nat)(m:Nat)(x:Ending)(w':World):Prop :=
 ∃ a n cap E q,x=.returned (.agg #[.slice a n cap])∧Hid (∀ W,KL w.heap.size w' W->SlV W a n cap E)∧n<=300∧DwF p w w' bs m q
structure DaW (P:Nat->Prop)(p:Nat)(w W:World)(bs:Nat->Nat)(m q B L rb rc n:Nat)(E:Nat->Ev):Prop where
 z:∃ v,W.cell? ⟨w.heap.size,0,none⟩=some v
 f:W.frozen? ⟨w.heap.size,0,none⟩=false
 sz:w.heap.size<W.heap.size
 b:W.cell? ⟨B,0,none⟩=some (.slice (some ⟨rb,0,none⟩) n rc)
 bl:B<W.heap.size
 br:rb<B
 bL:w.heap.size<B
 rm:RmQ P L W rb rc n E
 lo:w.heap.size<L
 dw:DwF p w W bs m q
 hp:p<w.heap.size
 n3:n<=300
theorem DaW.put {L:Nat}(h:DaW P p w W bs m q B L rb rc n E)(hi:i<n)(he:EvN W rb L e pa cp aa ca ga cg):DaW (fun j=>P j∨j=i) p w (fio (tenC e pa cp aa ca ga cg) rb (i * 10) 10 W) bs m q B L rb rc n (putE E i e):=by
 have hK:=fio_kb (tenC e pa cp aa ca ga cg) rb (i * 10) W 10;have h1:=h.rm.lo;have h2:=h.lo;have h3:=h.br;exact ⟨h.z.imp fun _ hv=>(hK.cell h.sz (by omega)).trans hv,(hK.frz h.sz (by omega)).trans h.f,nT h.sz hK.1,(hK.cell h.bl (by omega)).trans h.b,nT h.bl hK.1,h.br,h.bL,h.rm.put hi he,h.lo,fio_dwf h.dw (by omega) h.hp _ 10,h.hp,h.n3⟩
theorem DaW.blw {L:Nat}(h:DaW P p w W bs m q B L rb rc n E)(hb:Below W.heap.size W W'):DaW P p w W' bs m q B L rb rc n E :=
 ⟨h.z.imp fun _ hv=>(hb.cell (by exact h.sz)).trans hv,(hb.frozen (by exact h.sz)).trans h.f,nT h.sz hb.size,(hb.cell (by exact h.bl)).trans h.b,nT h.bl hb.size,h.br,h.bL,h.rm.far (KL.blw hb),h.lo,h.dw.below hb,h.hp,h.n3⟩
theorem DaW.drew {L:Nat}(h:DaW P p w W bs m q B L rb rc n E):DaW P p w W.drew bs m q B L rb rc n E:=h.blw kB.drew
theorem DaW.fin {L:Nat}(h:DaW P p w W bs m q B L rb rc n E)(hP:∀ i,i<n->P i):AnPost p w bs m (.returned (.agg #[.slice (some ⟨rb,0,none⟩) n rc])) (W.setCell ⟨w.heap.size,0,none⟩ (.slice (some ⟨rb,0,none⟩) n rc)) :=
 ⟨_,n,rc,E,q,rfl,fun _ hk=>((h.rm.far ((KL.refl _ W).set h.lo 0 _)).far (hk.up (Nat.le_of_lt h.lo))).slv hP,h.n3,h.dw.own nL h.hp _ _⟩
theorem DaW.nil {L:Nat}(h:DaW P p w W bs m q B L rb rc n E):AnPost p w bs m (.returned (.agg #[.slice none 0 0])) (W.setCell ⟨w.heap.size,0,none⟩ (.slice none 0 0)) :=
 ⟨none,0,0,E,q,rfl,fun _ _=>⟨nL,by decide,Or.inl rfl⟩,by decide,h.dw.own nL h.hp _ _⟩
theorem Kb.dr (h:Kb B w w'):Kb B w w'.drew:=h
def DaC (p:Nat)(w:World)(bs:Nat->Nat)(m B L rb rc n:Nat)(W:World):Prop:=∃ P q E,(∀ i,i<n->P i)∧DaW P p w W bs m q B L rb rc n E
theorem daW_spoil {w5:World}{L:Nat}(h:DaW (fun _=>True) p w W bs m q B L rb rc n E)(hR:RowV QO W L (.slice (some ⟨rb,0,none⟩) n rc) n E T)(hi:i<n)(hB:(T i).hi<=B)
  {e:Ev} {pa aa ga:Option Addr} {cp ca cg:Nat} (hok:EvOk w5 e pa cp aa ca ga cg) (x1:XeS pa e.np (T i).lo (T i).hi W.heap.size) (x2:XeS aa e.na (T i).lo (T i).hi W.heap.size) (x3:XeS ga e.ng (T i).lo (T i).hi W.heap.size) (hs:W.heap.size<=w5.heap.size)
  (hk:∀ b,b<W.heap.size->b≠p->(b<(T i).lo∨(T i).hi<=b)->w5.heap[b]?=W.heap[b]?) (hd:DwF p w w5 bs m q'):DaW (fun j=>j≠i) p w w5 bs m q' B L rb rc n E∧EvN w5 rb L e pa cp aa ca ga cg:=by
 have hp:=h.hp;have hlo:=h.lo;have hl:=hR.low i hi;have hsz:=h.sz;have hbl:=h.bl;have hbr:=h.br;have hbL:=h.bL;have hap:=hR.apart rb rfl i hi;have h1:=h.rm.sz;have h9:=h.rm.lo;have b1:=hk w.heap.size hsz (by omega) (Or.inl (by omega));have b2:=hk B hbl (by omega) (Or.inr hB);exact ⟨⟨h.z.imp fun _ hv=>(World.cell?_of_block (a:=⟨w.heap.size,0,none⟩) b1).trans hv,(World.frozen?_of_block (a:=⟨w.heap.size,0,none⟩) b1).trans h.f,nT hsz hs,(World.cell?_of_block (a:=⟨B,0,none⟩) b2).trans h.b,nT hbl hs,hbr,hbL,hR.rmS (by omega) hi hs hk,hlo,hd,hp,h.n3⟩,⟨hok,x1.ni hap h1 hl (by omega),x2.ni hap h1 hl (by omega),x3.ni hap h1 hl (by omega)⟩⟩
theorem drawAnyR (p:Nat)(w:World)(h:RdF w p bs m q)(hqm:q<=m):Calls Tryz.prog 101 #[.pointer (some ⟨p,0,none⟩)] w (AnPost p w bs m):=by
 obtain ⟨wa,hwa⟩:∃ wa,wa=w.alloc (.cells #[.slice none 0 0] 25):=⟨_,rfl⟩;have hba:Below w.heap.size w wa:=by rw [hwa];exact bA
 have hsa:w.heap.size<wa.heap.size:=by rw [hwa];simp
 have za:wa.cell? ⟨w.heap.size,0,none⟩=some (.slice none 0 0):=by rw [hwa];exact kA rfl
 have fa:wa.frozen? ⟨w.heap.size,0,none⟩=false:=by rw [hwa];exact kF rfl
 have hp:=h.lt;have hda:DwF p w wa bs m q:=(DwF.refl h).below hba
 go_enter Tryz.func101,Tryz.ntmps101
 go_wp2_with fail
 rw [<- hwa];clear hwa;refine (nextF p wa hda.1).mono ?_;rintro x w1 ⟨rfl,hd1⟩;have hk:=hda.1.nx;generalize nxB bs m q=k at *;have hq1:nxQ m q<=m:=by unfold nxQ;split <;> omega
 have hdw1:=hda.trans hd1;have z1:w1.cell? ⟨w.heap.size,0,none⟩=some (.slice none 0 0):=(hd1.2.cell_far ⟨w.heap.size,0,none⟩ (by exact hsa) (fun e=>absurd (Option.some.inj e) (by show w.heap.size≠p;omega))).trans za;have f1:w1.frozen? ⟨w.heap.size,0,none⟩=false:=(hd1.2.frozen_far ⟨w.heap.size,0,none⟩ (by exact hsa) (fun e=>absurd (Option.some.inj e) (by show w.heap.size≠p;omega))).trans fa;have s1:w.heap.size<w1.heap.size:=nT hsa hd1.size
 go_wp2_with fail
 refine (drawRoom p w1 hd1.1 hq1).mono ?_;rintro x w2 ⟨i0,rb,rc,T,sg,sc,Aa,Ca,hi0,hok,rfl,hR,-,-,hd2⟩;generalize drFin bs m (nxQ m q)=s at *;have hpos:=hok.pos hi0;have hroom:=hok.room;have hn3:=room_300 hok.room;obtain ⟨w3,hw3⟩:∃ w3,w3=w2.alloc (.cells #[.slice (some ⟨rb,0,none⟩) s.n rc] 25):=⟨_,rfl⟩;have hb3:Below w2.heap.size w2 w3:=by rw [hw3];exact bA
 have c3:w3.cell? ⟨w2.heap.size,0,none⟩=some (.slice (some ⟨rb,0,none⟩) s.n rc):=by rw [hw3];exact kA rfl
 have s3:w2.heap.size<w3.heap.size:=by rw [hw3];simp
 have n1:∀ {W:World},some w.heap.size≠some p:=fun {_} e=>absurd (Option.some.inj e) (by omega)
 have z2:=(hd2.2.cell_far ⟨w.heap.size,0,none⟩ (by exact s1) (n1 (W:=w))).trans z1;have f2:=(hd2.2.frozen_far ⟨w.heap.size,0,none⟩ (by exact s1) (n1 (W:=w))).trans f1;have s2:w.heap.size<w2.heap.size:=nT s1 hd2.size;have hR3:=hR.below qcO hb3;have hrb:=(hR.at qkO).1;have HW:Hid (DaW (fun _=>True) p w w3 bs m s.q w2.heap.size w1.heap.size rb rc s.n s.E):=⟨⟨_,(hb3.cell (by exact s2)).trans z2⟩,(hb3.frozen (by exact s2)).trans f2,nT s2 hb3.size,c3,s3,hrb,s2,hR3.rmX nL rfl (fun _ _ _ _ _ _=>rfl),s1,(hdw1.trans hd2).below hb3,hp,hn3⟩;have HR:Hid (RowV QO w3 w1.heap.size (.slice (some ⟨rb,0,none⟩) s.n rc) s.n s.E T∧(∀ i,i<s.n->(T i).hi<=w2.heap.size)∧DwF p w1 w3 bs m s.q∧DwF p w w1 bs m (nxQ m q)):=⟨hR3,fun i hi=>(hR.q i hi).j.hh.2,hd2.below hb3,hdw1⟩;obtain ⟨B,hB⟩:∃ B,B=w2.heap.size:=⟨_,rfl⟩;rw [<- hB] at HW HR;generalize s.n=n at *;generalize s.E=E at *;generalize s.q=qs at *;have hle:=hR.at qkO |>.2.2.1.le
 have hmx:=hR.at qkO |>.2.2.1.max
 unfold maxLen at hmx
 go_upto_region 3 with fail
 rw [<- hw3,<- hB];clear hw3 hB hb3 c3 s3 z2 f2 s2 z1 f1 hR3 hR hd2 hd1 hda hdw1 za fa hsa hba hok hi0 hq1 hqm n1 s1 h hrb;obtain ⟨L,hL⟩:∃ L,L=w1.heap.size:=⟨_,rfl⟩;rw [<- hL] at HW HR;have hpL:w1.heap.size=L:=hL.symm;clear hL;have b0:=HW.out.b
 go_upto_if 21 with fail
 go_cut [6] (fun v wx=>v=.int .i64 (n:Int)∧∃ P q E,(∀ i,i<n->P i)∧DaW P p w wx bs m q B L rb rc n E)
 case first =>
  by_cases h7:k % 8=7
  ·have t7:(k:Int) % 8=7:=by omega
   obtain ⟨i,hi⟩:∃ i,i=k / 8 % n:=⟨_,rfl⟩;have hin:i<n:=by rw [hi];exact Nat.mod_lt _ hpos
   have hn0:¬ n=0:=by omega
   have htm:((k:Int) / 8) % (n:Int)=(i:Int):=by rw [hi,Int.natCast_emod,Int.natCast_ediv];rfl
   have HCi:Hid (EvCells w3 rb (i * 10) (E i) (T i).pa (T i).cp (T i).aa (T i).ca (T i).ga (T i).cg):=(HR.out.1.at qkO).2.2.2 i hin;have d0:w3.cell? ⟨rb,i * 10,none⟩=some (.string (E i).id):=HCi.out.c0;have d1:w3.cell? ⟨rb,i * 10+1,none⟩=some (.string (E i).sd):=HCi.out.c1;have d2:w3.cell? ⟨rb,i * 10+2,none⟩=some (.string (E i).ty):=HCi.out.c2;have d3:w3.cell? ⟨rb,i * 10+3,none⟩=some (.bool (E i).st):=HCi.out.c3;have d4:w3.cell? ⟨rb,i * 10+4,none⟩=some (.string (E i).key):=HCi.out.c4;have d5:w3.cell? ⟨rb,i * 10+5,none⟩=some (.int .i64 (E i).tm):=HCi.out.c5;have d6:w3.cell? ⟨rb,i * 10+6,none⟩=some (.slice (T i).pa (E i).np (T i).cp):=HCi.out.c6;have d7:w3.cell? ⟨rb,i * 10+7,none⟩=some (.slice (T i).aa (E i).na (T i).ca):=HCi.out.c7;have d8:w3.cell? ⟨rb,i * 10+8,none⟩=some (.string (E i).val):=HCi.out.c8;have d9:w3.cell? ⟨rb,i * 10+9,none⟩=some (.slice (T i).ga (E i).ng (T i).cg):=HCi.out.c9;have hbd:=evCode_bds (room_code hroom hin)
   have HSp:Hid (∀ W,Below w3.heap.size w3 W->Calls Tryz.prog 66 #[.pointer (some ⟨p,0,none⟩),.agg #[.string (E i).id,.string (E i).sd,.string (E i).ty,.bool (E i).st,.string (E i).key,.int .i64 (E i).tm,.slice (T i).pa (E i).np (T i).cp,.slice (T i).aa (E i).na (T i).ca,.string (E i).val,.slice (T i).ga (E i).ng (T i).cg]] W fun x w'=>∃ e pa cp aa ca ga cg,x=.returned (.agg (ec e pa cp aa ca ga cg))∧Hid ((DaW (fun j=>j≠i) p w w' bs m (nxQ m (nxQ m qs)) B L rb rc n E∧EvN w' rb L e pa cp aa ca ga cg)∧w'.cell? ⟨B,0,none⟩=some (.slice (some ⟨rb,0,none⟩) n rc)∧(∀ o,o<10->w'.frozen? ⟨rb,i * 10+o,none⟩=false)∧(∀ o,o<10->∃ v,w'.cell? ⟨rb,i * 10+o,none⟩=some v))):=fun W hW=>by
    have hRW:=HR.out.1.below qcO hW;have hsp:=spoilEvent p (E i) (T i) w1 W (nT hp (by have:=HW.out.lo;omega)) (by rw [hpL];exact hRW.low i hin) (HR.out.2.2.1.below hW) (hRW.q i hin) (by have:=hbd.hnp;omega) (by have:=hbd.hna;omega) (by have:=hbd.hng;omega);refine hsp.mono ?_;rintro x w' ⟨pa,cp,aa,ca,ga,cg,rfl,hok,x1,x2,x3,hs,hk,hd⟩;have hD:=daW_spoil (HW.out.blw hW) hRW hin (HR.out.2.1 i hin) hok x1 x2 x3 hs hk (HR.out.2.2.2.trans hd);exact ⟨_,pa,cp,aa,ca,ga,cg,rfl,hD,hD.1.b,fun o ho=>hD.1.rm.fz _ (by omega),fun o ho=>hD.1.rm.cl _ (by omega)⟩
   have hrf:Below w3.heap.size w3 w3:=kB;have Hi:Hid (i=k / 8 % n):=hi;clear hi HCi hbd HR hroom HW;have i0:(0:Int)<=(i:Int):=by omega
   have i1:(i:Int)<(n:Int):=by omega
   go_wp2_with fail
   refine wp_region_held_drew (S:=fun X=>X.cell? ⟨B,0,none⟩=some (.slice (some ⟨rb,0,none⟩) n rc)) (by kernel_rfl) ?_ (fun hHeld=>?_)
   ·(try dsimp only);exact b0
   refine tq 0 rfl ?_;simp only [si];refine tq 1 rfl ?_;simp only [si];refine tq 2 rfl ?_;simp only [si];refine tq 3 rfl ?_;simp only [si];refine tq 4 rfl ?_;simp only [si];refine tq 5 rfl ?_;simp only [si];refine tq 6 rfl ?_;simp only [si];refine tq 7 rfl ?_;simp only [si];refine rd 8 rfl fun K hK=>?_
   go_simp;refine hK.out _ _ ?_ (fun hHeld=>?_)
   ·(try dsimp only);exact b0
   clear hK K;try simp only [si]
   refine rd 9 rfl fun K hK=>?_
   go_simp
   go_at_call 66
   refine (HSp.out _ (by with_reducible (repeat refine .drew ?_);exact hrf)).mono ?_;rintro x w5 ⟨e5,pa5,cp5,aa5,ca5,ga5,cg5,rfl,HX⟩;have b5:=HX.out.2.1;dsimp only;refine hK.out _ _ ?_ (fun hHeld=>?_)
   ·(try dsimp only);exact b5
   clear hK K;try simp only [si]
   refine tq 10 rfl ?_;simp only [si];have f50:w5.frozen? ⟨rb,i * 10,none⟩=false:=HX.out.2.2.1 0 (by decide);have f51:w5.frozen? ⟨rb,i * 10+1,none⟩=false:=HX.out.2.2.1 1 (by decide);have f52:w5.frozen? ⟨rb,i * 10+2,none⟩=false:=HX.out.2.2.1 2 (by decide);have f53:w5.frozen? ⟨rb,i * 10+3,none⟩=false:=HX.out.2.2.1 3 (by decide);have f54:w5.frozen? ⟨rb,i * 10+4,none⟩=false:=HX.out.2.2.1 4 (by decide);have f55:w5.frozen? ⟨rb,i * 10+5,none⟩=false:=HX.out.2.2.1 5 (by decide);have f56:w5.frozen? ⟨rb,i * 10+6,none⟩=false:=HX.out.2.2.1 6 (by decide);have f57:w5.frozen? ⟨rb,i * 10+7,none⟩=false:=HX.out.2.2.1 7 (by decide);have f58:w5.frozen? ⟨rb,i * 10+8,none⟩=false:=HX.out.2.2.1 8 (by decide);have f59:w5.frozen? ⟨rb,i * 10+9,none⟩=false:=HX.out.2.2.1 9 (by decide);obtain ⟨v50,c50⟩:∃ v,w5.cell? ⟨rb,i * 10,none⟩=some v:=HX.out.2.2.2 0 (by decide);obtain ⟨v51,c51⟩:∃ v,w5.cell? ⟨rb,i * 10+1,none⟩=some v:=HX.out.2.2.2 1 (by decide);obtain ⟨v52,c52⟩:∃ v,w5.cell? ⟨rb,i * 10+2,none⟩=some v:=HX.out.2.2.2 2 (by decide);obtain ⟨v53,c53⟩:∃ v,w5.cell? ⟨rb,i * 10+3,none⟩=some v:=HX.out.2.2.2 3 (by decide);obtain ⟨v54,c54⟩:∃ v,w5.cell? ⟨rb,i * 10+4,none⟩=some v:=HX.out.2.2.2 4 (by decide);obtain ⟨v55,c55⟩:∃ v,w5.cell? ⟨rb,i * 10+5,none⟩=some v:=HX.out.2.2.2 5 (by decide);obtain ⟨v56,c56⟩:∃ v,w5.cell? ⟨rb,i * 10+6,none⟩=some v:=HX.out.2.2.2 6 (by decide);obtain ⟨v57,c57⟩:∃ v,w5.cell? ⟨rb,i * 10+7,none⟩=some v:=HX.out.2.2.2 7 (by decide);obtain ⟨v58,c58⟩:∃ v,w5.cell? ⟨rb,i * 10+8,none⟩=some v:=HX.out.2.2.2 8 (by decide);obtain ⟨v59,c59⟩:∃ v,w5.cell? ⟨rb,i * 10+9,none⟩=some v:=HX.out.2.2.2 9 (by decide);have HP:Hid (DaW (fun j=>j≠i∨j=i) p w ((((((((((w5.setCell ⟨rb,i * 10,none⟩ (.string e5.id)).setCell ⟨rb,i * 10+1,none⟩ (.string e5.sd)).setCell ⟨rb,i * 10+2,none⟩ (.string e5.ty)).setCell ⟨rb,i * 10+3,none⟩ (.bool e5.st)).setCell ⟨rb,i * 10+4,none⟩ (.string e5.key)).setCell ⟨rb,i * 10+5,none⟩ (.int .i64 e5.tm)).setCell ⟨rb,i * 10+6,none⟩ (.slice pa5 e5.np cp5)).setCell ⟨rb,i * 10+7,none⟩ (.slice aa5 e5.na ca5)).setCell ⟨rb,i * 10+8,none⟩ (.string e5.val)).setCell ⟨rb,i * 10+9,none⟩ (.slice ga5 e5.ng cg5)) bs m (nxQ m (nxQ m qs)) B L rb rc n (putE E i e5)):=HX.out.1.1.put hin HX.out.1.2;refine rd 11 rfl fun K hK=>?_
   go_simp
   (try dsimp only)
   refine hK.out _ _ ?_ (fun hHeld=>?_)
   ·(try dsimp only);exact HP.out.b
   clear hK K;try simp only [si]
   refine wpAnyH_done (by kernel_rfl) ?_ _
   (try go_wp2_with fail)
   go_meet;exact ⟨rfl,_,_,_,fun j _=>(Nat.decEq j i).byCases Or.inr Or.inl,by with_reducible first|exact HP.out|exact HP.out.drew|exact HP.out.drew.drew|exact HP.out.drew.drew.drew⟩
  have t7:¬ (k:Int) % 8=7:=by omega
  have HC:Hid (DaC p w bs m B L rb rc n w3):=⟨_,_,_,fun _ _=>trivial,HW.out⟩;clear HW HR
  go_wp2_with fail
  go_meet;exact ⟨rfl,HC.out⟩
 case rest =>
  obtain ⟨rfl,P,qz,E,hP0,hW0⟩:=hcut;have hP:Hid (∀ i,i<n->P i):=hP0;have HW':Hid (DaW P p w wc bs m qz B L rb rc n E):=hW0;clear HW HR hP0 hW0;obtain ⟨W,hW⟩:∃ W:World,W=wc:=⟨_,rfl⟩;subst hW;have HW:Hid (_):=HW'.out;clear HW' b0
  by_cases h6:k % 16=6
  ·have t6:(k:Int) % 16=6:=by omega
   by_cases h1:1<n
   ·have t1:(1:Int)<(n:Int):=by omega
    have b0:=HW.out.b;obtain ⟨l,hl⟩:∃ l,n=l+1:=⟨n - 1,by omega⟩;obtain ⟨j,hj⟩:∃ j,j=k / 16 % n:=⟨_,rfl⟩;have hjn:j<n:=by rw [hj];exact Nat.mod_lt _ (by omega)
    have hln:l<n:=by omega
    have hn0:¬ n=0:=by omega
    have hl1:(n:Int) - 1=(l:Int):=by omega
    have hwl:IntKind.i64.wrap (l:Int)=(l:Int):=by rw [IntKind.wrap_i64];omega
    have hwk:IntKind.i64.wrap ((k:Int) / 16)=(k:Int) / 16:=by rw [IntKind.wrap_i64];omega
    have htm:((k:Int) / 16).tmod (n:Int)=(j:Int):=by rw [Int.tmod_eq_emod_of_nonneg (by omega),hj,Int.natCast_emod,Int.natCast_ediv];rfl
    clear hl;obtain ⟨p1,k1,a1,k2,g1,k3,hcl,hel⟩:=HW.out.rm.ev l hln (hP.out l hln);obtain ⟨p2,l1,a2,l2,g2,l3,hcj,hej⟩:=HW.out.rm.ev j hjn (hP.out j hjn);have d0:W.cell? ⟨rb,l * 10,none⟩=some (.string (E l).id):=hcl.c0;have d1:W.cell? ⟨rb,l * 10+1,none⟩=some (.string (E l).sd):=hcl.c1;have d2:W.cell? ⟨rb,l * 10+2,none⟩=some (.string (E l).ty):=hcl.c2;have d3:W.cell? ⟨rb,l * 10+3,none⟩=some (.bool (E l).st):=hcl.c3;have d4:W.cell? ⟨rb,l * 10+4,none⟩=some (.string (E l).key):=hcl.c4;have d5:W.cell? ⟨rb,l * 10+5,none⟩=some (.int .i64 (E l).tm):=hcl.c5;have d6:W.cell? ⟨rb,l * 10+6,none⟩=some (.slice p1 (E l).np k1):=hcl.c6;have d7:W.cell? ⟨rb,l * 10+7,none⟩=some (.slice a1 (E l).na k2):=hcl.c7;have d8:W.cell? ⟨rb,l * 10+8,none⟩=some (.string (E l).val):=hcl.c8;have d9:W.cell? ⟨rb,l * 10+9,none⟩=some (.slice g1 (E l).ng k3):=hcl.c9;obtain ⟨W4,hW4⟩:∃ W4,W4=W.alloc (.cells (ec (E l) p1 k1 a1 k2 g1 k3) 30):=⟨_,rfl⟩;have hb4:Below W.heap.size W W4:=by rw [hW4];exact bA
    have HW4:Hid (_):=HW.out.blw hb4;have hcj4:=hcj.below hb4 HW.out.rm.sz;have hcl4:=hcl.below hb4 HW.out.rm.sz;have hel4:=hel.nk (KL.blw hb4).kn;have hej4:=hej.nk (KL.blw hb4).kn;have y0:W4.cell? ⟨W.heap.size,0,none⟩=some (.string (E l).id):=by rw [hW4];exact kA rfl
    have y1:W4.cell? ⟨W.heap.size,1,none⟩=some (.string (E l).sd):=by rw [hW4];exact kA rfl
    have y2:W4.cell? ⟨W.heap.size,2,none⟩=some (.string (E l).ty):=by rw [hW4];exact kA rfl
    have y3:W4.cell? ⟨W.heap.size,3,none⟩=some (.bool (E l).st):=by rw [hW4];exact kA rfl
    have y4:W4.cell? ⟨W.heap.size,4,none⟩=some (.string (E l).key):=by rw [hW4];exact kA rfl
    have y5:W4.cell? ⟨W.heap.size,5,none⟩=some (.int .i64 (E l).tm):=by rw [hW4];exact kA rfl
    have y6:W4.cell? ⟨W.heap.size,6,none⟩=some (.slice p1 (E l).np k1):=by rw [hW4];exact kA rfl
    have y7:W4.cell? ⟨W.heap.size,7,none⟩=some (.slice a1 (E l).na k2):=by rw [hW4];exact kA rfl
    have y8:W4.cell? ⟨W.heap.size,8,none⟩=some (.string (E l).val):=by rw [hW4];exact kA rfl
    have y9:W4.cell? ⟨W.heap.size,9,none⟩=some (.slice g1 (E l).ng k3):=by rw [hW4];exact kA rfl
    have hV:W.heap.size<W4.heap.size:=by rw [hW4];simp
    have hbV:=HW.out.bl;have hrV:=HW.out.rm.sz;obtain ⟨V,hVV⟩:∃ V,V=W.heap.size:=⟨_,rfl⟩;rw [<- hVV] at y0 y1 y2 y3 y4 y5 y6 y7 y8 y9 hV hbV hrV;have hj0:(0:Int)<=(j:Int):=by omega
    have hj1:(j:Int)<(n:Int):=by omega
    have hl0:(0:Int)<=(l:Int):=by omega
    have hl2:(l:Int)<(n:Int):=by omega
    have HJ:Hid (j=k / 16 % n):=hj;clear hj
    go_upto_region 9 with fail
    rw [<- hW4,<- hVV];clear hW4 hVV d0 d1 d2 d3 d4 d5 d6 d7 d8 d9 b0 hcl hcj hel hej hb4 HW;have b4:=HW4.out.b;have d0:W4.cell? ⟨rb,j * 10,none⟩=some (.string (E j).id):=hcj4.c0;have d1:W4.cell? ⟨rb,j * 10+1,none⟩=some (.string (E j).sd):=hcj4.c1;have d2:W4.cell? ⟨rb,j * 10+2,none⟩=some (.string (E j).ty):=hcj4.c2;have d3:W4.cell? ⟨rb,j * 10+3,none⟩=some (.bool (E j).st):=hcj4.c3;have d4:W4.cell? ⟨rb,j * 10+4,none⟩=some (.string (E j).key):=hcj4.c4;have d5:W4.cell? ⟨rb,j * 10+5,none⟩=some (.int .i64 (E j).tm):=hcj4.c5;have d6:W4.cell? ⟨rb,j * 10+6,none⟩=some (.slice p2 (E j).np l1):=hcj4.c6;have d7:W4.cell? ⟨rb,j * 10+7,none⟩=some (.slice a2 (E j).na l2):=hcj4.c7;have d8:W4.cell? ⟨rb,j * 10+8,none⟩=some (.string (E j).val):=hcj4.c8;have d9:W4.cell? ⟨rb,j * 10+9,none⟩=some (.slice g2 (E j).ng l3):=hcj4.c9;have f40:W4.frozen? ⟨rb,l * 10,none⟩=false:=HW4.out.rm.fz _ (by omega);have f41:W4.frozen? ⟨rb,l * 10+1,none⟩=false:=HW4.out.rm.fz _ (by omega);have f42:W4.frozen? ⟨rb,l * 10+2,none⟩=false:=HW4.out.rm.fz _ (by omega);have f43:W4.frozen? ⟨rb,l * 10+3,none⟩=false:=HW4.out.rm.fz _ (by omega);have f44:W4.frozen? ⟨rb,l * 10+4,none⟩=false:=HW4.out.rm.fz _ (by omega);have f45:W4.frozen? ⟨rb,l * 10+5,none⟩=false:=HW4.out.rm.fz _ (by omega);have f46:W4.frozen? ⟨rb,l * 10+6,none⟩=false:=HW4.out.rm.fz _ (by omega);have f47:W4.frozen? ⟨rb,l * 10+7,none⟩=false:=HW4.out.rm.fz _ (by omega);have f48:W4.frozen? ⟨rb,l * 10+8,none⟩=false:=HW4.out.rm.fz _ (by omega);have f49:W4.frozen? ⟨rb,l * 10+9,none⟩=false:=HW4.out.rm.fz _ (by omega);obtain ⟨v40,c40⟩:∃ v,W4.cell? ⟨rb,l * 10,none⟩=some v:=HW4.out.rm.cl _ (by omega);obtain ⟨v41,c41⟩:∃ v,W4.cell? ⟨rb,l * 10+1,none⟩=some v:=HW4.out.rm.cl _ (by omega);obtain ⟨v42,c42⟩:∃ v,W4.cell? ⟨rb,l * 10+2,none⟩=some v:=HW4.out.rm.cl _ (by omega);obtain ⟨v43,c43⟩:∃ v,W4.cell? ⟨rb,l * 10+3,none⟩=some v:=HW4.out.rm.cl _ (by omega);obtain ⟨v44,c44⟩:∃ v,W4.cell? ⟨rb,l * 10+4,none⟩=some v:=HW4.out.rm.cl _ (by omega);obtain ⟨v45,c45⟩:∃ v,W4.cell? ⟨rb,l * 10+5,none⟩=some v:=HW4.out.rm.cl _ (by omega);obtain ⟨v46,c46⟩:∃ v,W4.cell? ⟨rb,l * 10+6,none⟩=some v:=HW4.out.rm.cl _ (by omega);obtain ⟨v47,c47⟩:∃ v,W4.cell? ⟨rb,l * 10+7,none⟩=some v:=HW4.out.rm.cl _ (by omega);obtain ⟨v48,c48⟩:∃ v,W4.cell? ⟨rb,l * 10+8,none⟩=some v:=HW4.out.rm.cl _ (by omega);obtain ⟨v49,c49⟩:∃ v,W4.cell? ⟨rb,l * 10+9,none⟩=some v:=HW4.out.rm.cl _ (by omega);have HP:Hid (Kb rb W4 ((((((((((W4.setCell ⟨rb,l * 10,none⟩ (.string (E j).id)).setCell ⟨rb,l * 10+1,none⟩ (.string (E j).sd)).setCell ⟨rb,l * 10+2,none⟩ (.string (E j).ty)).setCell ⟨rb,l * 10+3,none⟩ (.bool (E j).st)).setCell ⟨rb,l * 10+4,none⟩ (.string (E j).key)).setCell ⟨rb,l * 10+5,none⟩ (.int .i64 (E j).tm)).setCell ⟨rb,l * 10+6,none⟩ (.slice p2 (E j).np l1)).setCell ⟨rb,l * 10+7,none⟩ (.slice a2 (E j).na l2)).setCell ⟨rb,l * 10+8,none⟩ (.string (E j).val)).setCell ⟨rb,l * 10+9,none⟩ (.slice g2 (E j).ng l3))∧DaW (fun i=>P i∨i=l) p w ((((((((((W4.setCell ⟨rb,l * 10,none⟩ (.string (E j).id)).setCell ⟨rb,l * 10+1,none⟩ (.string (E j).sd)).setCell ⟨rb,l * 10+2,none⟩ (.string (E j).ty)).setCell ⟨rb,l * 10+3,none⟩ (.bool (E j).st)).setCell ⟨rb,l * 10+4,none⟩ (.string (E j).key)).setCell ⟨rb,l * 10+5,none⟩ (.int .i64 (E j).tm)).setCell ⟨rb,l * 10+6,none⟩ (.slice p2 (E j).np l1)).setCell ⟨rb,l * 10+7,none⟩ (.slice a2 (E j).na l2)).setCell ⟨rb,l * 10+8,none⟩ (.string (E j).val)).setCell ⟨rb,l * 10+9,none⟩ (.slice g2 (E j).ng l3)) bs m qz B L rb rc n (putE E l (E j))):=⟨fio_kb (tenC (E j) p2 l1 a2 l2 g2 l3) rb (l * 10) W4 10,HW4.out.put hln hej4⟩;have HY:Hid (EvCells W4 V 0 (E l) p1 k1 a1 k2 g1 k3):=⟨y0,y1,y2,y3,y4,y5,y6,y7,y8,y9⟩;have HE:Hid (EvN W4 rb L (E l) p1 k1 a1 k2 g1 k3):=hel4;have nV:V≠rb:=by omega
    clear hcj4 hcl4 hel4 hej4 y0 y1 y2 y3 y4 y5 y6 y7 y8 y9
    go_cut [62] (fun _ wx=>Kb rb W4 wx∧DaW (fun i=>P i∨i=l) p w wx bs m qz B L rb rc n (putE E l (E j)))
    case first =>
     refine wp_region_held_drew (S:=fun X=>X.cell? ⟨B,0,none⟩=some (.slice (some ⟨rb,0,none⟩) n rc)) (by kernel_rfl) ?_ (fun hHeld=>?_)
     ·(try dsimp only);exact b4
     refine tq 0 rfl ?_;simp only [si];refine tq 1 rfl ?_;simp only [si];refine tq 2 rfl ?_;simp only [si];refine wpAnyH_take (i:=3) (v:=.int .i64 (l:Int)) rfl (by kernel_rfl) (by kernel_rfl) (by kernel_rfl) (fun _ _ _ h=>h) (Or.inl ⟨by rfl,?hm13⟩) (by assumption) ?_
     case hm13=>(intro w h;(try dsimp only at h);go_simp;try exact hwl)
     simp only [si];refine tq 4 rfl ?_;simp only [si];refine tq 5 rfl ?_;simp only [si];refine tq 6 rfl ?_;simp only [si];refine wpAnyH_take (i:=7) (v:=.int .i64 ((k:Int) / 16)) rfl (by kernel_rfl) (by kernel_rfl) (by kernel_rfl) (fun _ _ _ h=>h) (Or.inl ⟨by rfl,?hm17⟩) (by assumption) ?_
     case hm17=>(intro w h;(try dsimp only at h);go_simp;try exact hwk)
     simp only [si];refine tq 8 rfl ?_;simp only [si];refine wpAnyH_take (i:=9) (v:=.int .i64 (j:Int)) rfl (by kernel_rfl) (by kernel_rfl) (by kernel_rfl) (fun _ _ _ h=>h) (Or.inl ⟨by rfl,?hm19⟩) (by assumption) ?_
     case hm19=>(intro w h;(try dsimp only at h);go_simp;try rw [if_neg hn0,htm])
     simp only [si];refine tq 10 rfl ?_;simp only [si];refine rd 11 rfl fun K hK=>?_
     go_simp;refine hK.out _ _ ?_ (fun hHeld=>?_)
     ·(try dsimp only);exact b4
     clear hK K;try simp only [si]
     refine tq 12 rfl ?_;simp only [si];refine rd 13 rfl fun K hK=>?_
     go_simp
     (try dsimp only)
     refine hK.out _ _ ?_ (fun hHeld=>?_)
     ·(try dsimp only);with_reducible exact HP.out.2.drew.b
     clear hK K;try simp only [si]
     refine wpAnyH_done (by kernel_rfl) ?_ _
     (try go_wp2_with fail)
     go_meet
     first
      | with_reducible exact HP.out
      | with_reducible exact ⟨Kb.dr HP.out.1,HP.out.2.drew⟩
      | with_reducible exact ⟨Kb.dr (Kb.dr HP.out.1),HP.out.2.drew.drew⟩
      | with_reducible exact ⟨Kb.dr (Kb.dr (Kb.dr HP.out.1)),HP.out.2.drew.drew.drew⟩
    case rest =>
     obtain ⟨hK5,hH5⟩:=hcut;obtain ⟨W6,hW6⟩:∃ W6:World,W6=wc:=⟨_,rfl⟩;subst hW6;have H5:Hid (_):=hH5;clear hH5;have b6:=H5.out.b;have hY6:EvCells W6 V 0 (E l) p1 k1 a1 k2 g1 k3:=HY.out.kept fun x _=>hK5.cell hV nV
     have hE6:=HE.out.nk hK5.kn;have y0:W6.cell? ⟨V,0,none⟩=some (.string (E l).id):=hY6.c0;have y1:W6.cell? ⟨V,1,none⟩=some (.string (E l).sd):=hY6.c1;have y2:W6.cell? ⟨V,2,none⟩=some (.string (E l).ty):=hY6.c2;have y3:W6.cell? ⟨V,3,none⟩=some (.bool (E l).st):=hY6.c3;have y4:W6.cell? ⟨V,4,none⟩=some (.string (E l).key):=hY6.c4;have y5:W6.cell? ⟨V,5,none⟩=some (.int .i64 (E l).tm):=hY6.c5;have y6:W6.cell? ⟨V,6,none⟩=some (.slice p1 (E l).np k1):=hY6.c6;have y7:W6.cell? ⟨V,7,none⟩=some (.slice a1 (E l).na k2):=hY6.c7;have y8:W6.cell? ⟨V,8,none⟩=some (.string (E l).val):=hY6.c8;have y9:W6.cell? ⟨V,9,none⟩=some (.slice g1 (E l).ng k3):=hY6.c9;have f60:W6.frozen? ⟨rb,j * 10,none⟩=false:=H5.out.rm.fz _ (by omega);have f61:W6.frozen? ⟨rb,j * 10+1,none⟩=false:=H5.out.rm.fz _ (by omega);have f62:W6.frozen? ⟨rb,j * 10+2,none⟩=false:=H5.out.rm.fz _ (by omega);have f63:W6.frozen? ⟨rb,j * 10+3,none⟩=false:=H5.out.rm.fz _ (by omega);have f64:W6.frozen? ⟨rb,j * 10+4,none⟩=false:=H5.out.rm.fz _ (by omega);have f65:W6.frozen? ⟨rb,j * 10+5,none⟩=false:=H5.out.rm.fz _ (by omega);have f66:W6.frozen? ⟨rb,j * 10+6,none⟩=false:=H5.out.rm.fz _ (by omega);have f67:W6.frozen? ⟨rb,j * 10+7,none⟩=false:=H5.out.rm.fz _ (by omega);have f68:W6.frozen? ⟨rb,j * 10+8,none⟩=false:=H5.out.rm.fz _ (by omega);have f69:W6.frozen? ⟨rb,j * 10+9,none⟩=false:=H5.out.rm.fz _ (by omega);obtain ⟨v60,c60⟩:∃ v,W6.cell? ⟨rb,j * 10,none⟩=some v:=H5.out.rm.cl _ (by omega);obtain ⟨v61,c61⟩:∃ v,W6.cell? ⟨rb,j * 10+1,none⟩=some v:=H5.out.rm.cl _ (by omega);obtain ⟨v62,c62⟩:∃ v,W6.cell? ⟨rb,j * 10+2,none⟩=some v:=H5.out.rm.cl _ (by omega);obtain ⟨v63,c63⟩:∃ v,W6.cell? ⟨rb,j * 10+3,none⟩=some v:=H5.out.rm.cl _ (by omega);obtain ⟨v64,c64⟩:∃ v,W6.cell? ⟨rb,j * 10+4,none⟩=some v:=H5.out.rm.cl _ (by omega);obtain ⟨v65,c65⟩:∃ v,W6.cell? ⟨rb,j * 10+5,none⟩=some v:=H5.out.rm.cl _ (by omega);obtain ⟨v66,c66⟩:∃ v,W6.cell? ⟨rb,j * 10+6,none⟩=some v:=H5.out.rm.cl _ (by omega);obtain ⟨v67,c67⟩:∃ v,W6.cell? ⟨rb,j * 10+7,none⟩=some v:=H5.out.rm.cl _ (by omega);obtain ⟨v68,c68⟩:∃ v,W6.cell? ⟨rb,j * 10+8,none⟩=some v:=H5.out.rm.cl _ (by omega);obtain ⟨v69,c69⟩:∃ v,W6.cell? ⟨rb,j * 10+9,none⟩=some v:=H5.out.rm.cl _ (by omega);have HQ:Hid (DaW (fun i=>(P i∨i=l)∨i=j) p w ((((((((((W6.setCell ⟨rb,j * 10,none⟩ (.string (E l).id)).setCell ⟨rb,j * 10+1,none⟩ (.string (E l).sd)).setCell ⟨rb,j * 10+2,none⟩ (.string (E l).ty)).setCell ⟨rb,j * 10+3,none⟩ (.bool (E l).st)).setCell ⟨rb,j * 10+4,none⟩ (.string (E l).key)).setCell ⟨rb,j * 10+5,none⟩ (.int .i64 (E l).tm)).setCell ⟨rb,j * 10+6,none⟩ (.slice p1 (E l).np k1)).setCell ⟨rb,j * 10+7,none⟩ (.slice a1 (E l).na k2)).setCell ⟨rb,j * 10+8,none⟩ (.string (E l).val)).setCell ⟨rb,j * 10+9,none⟩ (.slice g1 (E l).ng k3)) bs m qz B L rb rc n (putE (putE E l (E j)) j (E l))):=H5.out.put hjn hE6;clear HP HY HE hK5 hY6 hE6 H5 HW4 b4 d0 d1 d2 d3 d4 d5 d6 d7 d8 d9
     go_wp2_with fail
     go_cut [70] (fun _ wx=>∃ P q E,(∀ i,i<n->P i)∧DaW P p w wx bs m q B L rb rc n E)
     case first =>
      refine wp_region_held_drew (S:=fun X=>X.cell? ⟨B,0,none⟩=some (.slice (some ⟨rb,0,none⟩) n rc)) (by kernel_rfl) ?_ (fun hHeld=>?_)
      ·(try dsimp only);exact b6
      refine tq 0 rfl ?_;simp only [si];refine tq 1 rfl ?_;simp only [si];refine tq 2 rfl ?_;simp only [si];refine wpAnyH_take (i:=3) (v:=.int .i64 ((k:Int) / 16)) rfl (by kernel_rfl) (by kernel_rfl) (by kernel_rfl) (fun _ _ _ h=>h) (Or.inl ⟨by rfl,?hm25⟩) (by assumption) ?_
      case hm25=>(intro w h;(try dsimp only at h);go_simp;try exact hwk)
      simp only [si];refine tq 4 rfl ?_;simp only [si];refine wpAnyH_take (i:=5) (v:=.int .i64 (j:Int)) rfl (by kernel_rfl) (by kernel_rfl) (by kernel_rfl) (fun _ _ _ h=>h) (Or.inl ⟨by rfl,?hm27⟩) (by assumption) ?_
      case hm27=>(intro w h;(try dsimp only at h);go_simp;try rw [if_neg hn0,htm])
      simp only [si];refine rd 6 rfl fun K hK=>?_
      go_simp;refine hK.out _ _ ?_ (fun hHeld=>?_)
      ·(try dsimp only);exact b6
      clear hK K;try simp only [si]
      refine tq 7 rfl ?_;simp only [si];refine rd 8 rfl fun K hK=>?_
      go_simp
      (try dsimp only)
      refine hK.out _ _ ?_ (fun hHeld=>?_)
      ·(try dsimp only);with_reducible exact HQ.out.drew.b
      clear hK K;try simp only [si]
      refine wpAnyH_done (by kernel_rfl) ?_ _
      (try go_wp2_with fail)
      go_meet;refine ⟨fun i=>(P i∨i=l)∨i=j,qz,putE (putE E l (E j)) j (E l),fun i hi=>Or.inl (Or.inl (hP.out i hi)),?_⟩;with_reducible first|exact HQ.out.drew|exact HQ.out|exact HQ.out.drew.drew|exact HQ.out.drew.drew.drew
     case rest =>
      obtain ⟨P,qz,E,hP0,hW0⟩:=hcut;clear hP HQ;have hP:Hid (∀ i,i<n->P i):=hP0;have HW:Hid (DaW P p w wc bs m qz B L rb rc n E):=hW0;clear hP0 hW0;have t5:¬ (k:Int) % 32=5:=by omega
      have HF:Hid (_):=HW.out.fin hP.out;obtain ⟨zv,z0⟩:=HW.out.z;have f0:=HW.out.f;have b0:=HW.out.b;clear HW;go_wp2
      refine bodyPost_ret (v:=.agg #[.slice (some ⟨rb,0,none⟩) n rc]) (by simp [results,Tryz.results101,go_sem,z0]) rfl ?_;exact HF.out
   have t1:¬ (1:Int)<(n:Int):=by omega
   have t5:¬ (k:Int) % 32=5:=by omega
   have HF:Hid (_):=HW.out.fin hP.out;obtain ⟨zv,z0⟩:=HW.out.z;have f0:=HW.out.f;have b0:=HW.out.b;clear HW;go_wp2
   refine bodyPost_ret (v:=.agg #[.slice (some ⟨rb,0,none⟩) n rc]) (by simp [results,Tryz.results101,go_sem,z0]) rfl ?_;exact HF.out
  have t6:¬ (k:Int) % 16=6:=by omega
  by_cases h5:k % 32=5
  ·have t5:(k:Int) % 32=5:=by omega
   have HF:Hid (_):=HW.out.nil;obtain ⟨zv,z0⟩:=HW.out.z;have f0:=HW.out.f;clear HW;go_wp2
   refine bodyPost_ret (v:=.agg #[.slice none 0 0]) (by simp [results,Tryz.results101,go_sem,z0]) rfl ?_;exact HF.out
  have t5:¬ (k:Int) % 32=5:=by omega
  have HF:Hid (_):=HW.out.fin hP.out;obtain ⟨zv,z0⟩:=HW.out.z;have f0:=HW.out.f;have b0:=HW.out.b;clear HW;go_wp2
  refine bodyPost_ret (v:=.agg #[.slice (some ⟨rb,0,none⟩) n rc]) (by simp [results,Tryz.results101,go_sem,z0]) rfl ?_;exact HF.out
end Go.Proofs.YtkdalopokdhndaaGreat
