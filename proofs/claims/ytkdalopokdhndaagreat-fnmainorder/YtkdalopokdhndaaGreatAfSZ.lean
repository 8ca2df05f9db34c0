import Derived.Test.YtkdalopokdhndaaGreatRsSZ
import Derived.Lib.SliceRun
set_option maxHeartbeats 16000000
set_option maxRecDepth 100000
namespace Go.Proofs.YtkdalopokdhndaaGreat
open Go.RowKit
variable {w:World}{i m n be na oe sc cap base base':Nat}{v:Value}{l:List Ent}{a sa:Option Addr}{E:Nat->Ev}{A L:Nat->List Ent}
theorem OwnE.low (h:OwnE w base v l)(hb:base'<=base):OwnE w base' v l:=by
 obtain ⟨q1,q2⟩:=h;exact ⟨q1,q2.imp id fun ⟨g,cap,cur,e,hg,r⟩=>⟨g,cap,cur,e,nZ hb hg,r⟩⟩
theorem l6Af_sl (w:World)(hroom:roomTo E n=true)(hm:m<=20)(hf:∀ i,i<m->FitL E n (L i))(h:SlV w a n cap E)(hs:SlEE w sa m sc L) :
  Calls Tryz.prog 190 #[.agg #[.slice a n cap],.slice sa m sc] w (fun e w'=>e=.returned (.bool true)∧Below w.heap.size w w'):=by
 obtain ⟨wb,hwb⟩:∃ wb,wb=w.alloc (.cells #[.slice a n cap] 25):=⟨_,rfl⟩;have hb0:Below w.heap.size w wb:=by rw [hwb];exact bA
 have hs0:w.heap.size<wb.heap.size:=by rw [hwb];simp
 have hbx:Hid (∀ wx,Below wb.heap.size wb wx->wx.cell? ⟨w.heap.size,0,none⟩=some (.slice a n cap)):=fun wx hx=>by subst hwb;exact box_cells (hx.mono (by simp)) 0
 have HRo:Hid (Calls Tryz.prog 28 #[.agg #[.slice a n cap]] wb fun e w'=>e=.returned (.bool true)∧Below wb.heap.size wb w'):=by
  have:=roomS_sl wb (h.below hb0);rw [hroom] at this;exact this
 have HE:Hid (SlV w a n cap E):=h;have Hs:Hid (SlEE w sa m sc L):=hs;have Hf:Hid (∀ i,i<m->fitB E n (L i)=true):=fun i hi=>(hf i hi).fitB hroom
 clear hroom h hs hf;have hm20:¬ (20:Int)<(m:Int):=by omega
 go_enter Tryz.func190,Tryz.ntmps190
 go_wp2_with fail
 rw [<- hwb];clear hwb;refine HRo.out.mono ?_;rintro e w1 ⟨rfl,hb1⟩;clear HRo;have hw1:=hb0.trans (hb1.mono hb0.size)
 go_wp2_with fail
 go_loopw [5] (fun i wr=>∃ k:Nat,k<=m∧i=.int .i64 (k:Int)∧Below wb.heap.size wb wr) (fun i _=>m - (intOf i).toNat)
 case atStart=>exact ⟨0,nz,rfl,hb1⟩
 case round =>
  clear hb1 hw1;obtain ⟨k,hk,rfl,hB⟩:=hrel;have hbw:=hb0.trans (hB.mono hb0.size)
  by_cases hlt:k<m
  ·rcases Hs.out.cells with h0|⟨sb,so,rfl,hsb,hsc⟩
   ·omega
   obtain ⟨ea,ec,hce,hse⟩:=hsc k hlt
   have HFt0:∀ W,Below wr.heap.size wr W->Calls Tryz.prog 29 #[.agg #[.slice a n cap],.slice ea (L k).length ec] W fun e w'=>e=.returned (.bool true)∧Below wr.heap.size wr w':=fun W hW=>by
    have:=l5F_sl W ((HE.out.below hbw).below hW) ((hse.below hbw).below hW);rw [Hf.out k hlt] at this;refine this.mono ?_;rintro e w' ⟨rfl,hb⟩;exact ⟨rfl,hW.trans (hb.mono hW.size)⟩
   have hck:=(hbw.cell (p:=⟨sb,so+k,none⟩) (by exact hsb)).trans hce;obtain ⟨ll,hll⟩:∃ ll,ll=(L k).length:=⟨_,rfl⟩;rw [<- hll] at hck HFt0;have HFt:Hid (_):=HFt0;clear hll hce hse hsc HFt0;have HS:Hid (∀ W,Below wr.heap.size wr W->W.cell? ⟨w.heap.size,0,none⟩=some (.slice a n cap)∧W.cell? ⟨sb,so+k,none⟩=some (.slice ea ll ec)):=fun W hW=>⟨hbx.out _ (hB.trans (hW.mono hB.size)),(hW.cell (p:=⟨sb,so+k,none⟩) (by exact nT hsb hbw.size)).trans hck⟩
   have hrf:Below wr.heap.size wr wr:=kB
   go_wp2_with fail
   skip
   refine wp_region_held_drew (S:=fun W=>W.cell? ⟨w.heap.size,0,none⟩=some (.slice a n cap)∧W.cell? ⟨sb,so+k,none⟩=some (.slice ea ll ec)) (by kernel_rfl) ?_ (fun hHeld=>?_)
   ·(try dsimp only);exact HS.out _ (by with_reducible (repeat refine .drew ?_);exact hrf)
   refine tq 0 rfl ?_;simp only [si];refine tq 1 rfl ?_;simp only [si];refine tq 2 rfl ?_;simp only [si];refine tq 3 rfl ?_;simp only [si];refine tq 4 rfl ?_;simp only [si];refine rd 5 rfl fun K hK=>?_
   go_simp
   go_at_call 29
   refine (HFt.out _ (by with_reducible (repeat refine .drew ?_);exact hrf)).mono ?_;rintro e w2 ⟨rfl,hb2⟩;clear HFt;try dsimp only
   refine hK.out _ _ ?_ (fun hHeld=>?_)
   ·(try dsimp only);exact HS.out _ (by with_reducible (repeat refine .drew ?_);exact hb2)
   clear hK K;try simp only [si]
   refine tq 6 rfl ?_;simp only [si];refine wpAnyH_done (by kernel_rfl) ?_ _
   (try go_wp2)
   first
    | exact ⟨⟨k+1,by omega,by go_num,hB.trans (hb2.mono hB.size)⟩,by simp [intOf];omega⟩
    | exact ⟨⟨k+1,by omega,by go_num,(hB.trans (hb2.mono hB.size)).drew⟩,by simp [intOf];omega⟩
  go_wp2
  go_ret;exact ⟨rfl,hbw⟩
def RvPost (w:World)(E:Nat->Ev)(n:Nat)(L:Nat->List Ent)(m:Nat)(e:Ending)(w':World):Prop:=∃ v l,e=.returned (.tuple #[v,.bool true])∧OwnE w' w.heap.size v l∧ResR E n L m l∧Below w.heap.size w w'
theorem resolve_sl (w:World)(hroom:roomTo E n=true)(hm:m<=20)(hf:∀ i,i<m->FitL E n (L i))(h:SlV w a n cap E)(hs:SlEE w sa m sc L) :
  Calls Tryz.prog 126 #[.agg #[.slice a n cap],.slice sa m sc] w (RvPost w E n L m):=by
 have hb0:∀ o,Below w.heap.size w (w.alloc o):=fun o=>bA
 have HA:Hid (∀ W,Below w.heap.size w W->Calls Tryz.prog 190 #[.agg #[.slice a n cap],.slice sa m sc] W (fun e w'=>e=.returned (.bool true)∧Below W.heap.size W w')):=fun W hW=>l6Af_sl W hroom hm hf (h.below hW) (hs.below hW)
 have HR:Hid (∀ W,Below w.heap.size w W->Calls Tryz.prog 191 #[.agg #[.slice a n cap],.slice sa m sc] W (RsPost W E n L m)):=fun W hW=>l6Rs_sl W hroom hm hf (h.below hW) (hs.below hW)
 clear hroom h hs hf
 go_enter Tryz.func126,Tryz.ntmps126
 go_wp2_with fail
 refine (HA.out _ (hb0 _)).mono ?_;rintro e w1 ⟨rfl,hb1⟩;have hB1:=hb1.mono (B':=w.heap.size+1) (by simp);have hw1:=(hb0 _).trans (hb1.mono (by simp));have hcl:=box_cells hB1 0;clear hb1 HA
 go_wp2_with fail
 refine (HR.out _ hw1).mono ?_;rintro e w2 ⟨v,l,rfl,ho,hr,hb2⟩;have Hr:Hid (ResR E n L m l):=hr;have Ho:Hid (OwnE w2 w.heap.size v l):=ho.low hw1.size;clear hr ho HR;have hw2:=hw1.trans (hb2.mono hw1.size);go_wp2
 exact bodyPost_ret (v:=.tuple #[v,.bool true]) (by simp [results,Tryz.results126,go_sem]) rfl ⟨v,l,rfl,Ho.out,Hr.out,hw2⟩
def BfRel (wb:World)(A:Nat->List Ent)(P:Nat->Nat)(k:Nat)(v:Value)(wr:World):Prop :=
 ∃ (g cc:Nat) (F:Nat->List Ent) (A':Nat->Option Addr) (C:Nat->Nat),v=.slice (some ⟨g,0,none⟩) k cc∧Hid (RowL List.length PE 26 wr wb.heap.size (.slice (some ⟨g,0,none⟩) k cc) k F A' C)∧Hid (∀ i,i<k->F i=A (P i))∧Below wb.heap.size wb wr
def prP (E:Nat->Ev)(n i k:Nat):Nat:=(posV E n ((E i).Pv k)).toNat
theorem l7Bf_any (w:World)(hroom:roomTo E n=true)(hi:i<n)(hna:i<=na)(hf:∀ j,j<i->FitL E n (A j))(h:SlV w (some ⟨be,oe,none⟩) n cap E)(hbe:be<w.heap.size)(hce:∀ q,q<n->EvAt w be (oe+q * 10) (E q))(hs:SlEE w sa na sc A) :
  Calls Tryz.prog 188 #[.agg #[.slice (some ⟨be,oe,none⟩) n cap],.slice sa na sc,.int .i64 (i:Int)] w (RsPost w E n (fun k=>A (prP E n i k)) (E i).np):=by
 obtain ⟨j0,hj,hj0,hj1,hj2⟩:=info_parts Tryz.infoRowE;have h300:=room_300 hroom;obtain ⟨wa,hwa⟩:∃ wa,wa=w.alloc (.cells #[.slice (some ⟨be,oe,none⟩) n cap] 25):=⟨_,rfl⟩;have hb0:Below w.heap.size w wa:=by rw [hwa];exact bA
 have hs0:w.heap.size<wa.heap.size:=by rw [hwa];simp
 have Hs1:Hid (wa.heap.size=w.heap.size+1):=by unfold Hid;rw [hwa];simp
 have hbx:Hid (∀ wx,Below wa.heap.size wa wx->wx.cell? ⟨w.heap.size,0,none⟩=some (.slice (some ⟨be,oe,none⟩) n cap)):=fun wx hx=>by subst hwa;exact box_cells (hx.mono (by simp)) 0
 have x0:(w.alloc (.cells #[.slice (some ⟨be,oe,none⟩) n cap] 25)).cell? ⟨w.heap.size,0,none⟩=some (.slice (some ⟨be,oe,none⟩) n cap):=kA rfl;obtain ⟨pa,cp,aa,ca,ga,cg,hec,hok⟩:=hce i hi
 have hp6:(w.alloc (.cells #[.slice (some ⟨be,oe,none⟩) n cap] 25)).cell? ⟨be,oe+i * 10+6,none⟩=some (.slice pa (E i).np cp):=by
  rw [<- hwa];exact (hb0.cell (p:=⟨be,oe+i * 10+6,none⟩) (by exact hbe)).trans hec.c6
 have hn10:(E i).np<=10:=(code_refs (room_code hroom hi)).1
 have HP:Hid (∀ k,k<(E i).np->posV E n ((E i).Pv k)=((prP E n i k:Nat):Int)∧prP E n i k<i):=fun k hk=>by
  have:=room_prev hroom hi hk;unfold prP;omega
 have HE:Hid (SlV w (some ⟨be,oe,none⟩) n cap E):=h;have Hs:Hid (SlEE w sa na sc A):=hs;have Hp:Hid (SlS w pa (E i).np cp (E i).Pv):=hok.hp
 have HRs:Hid (∀ W sa' sc' F,Below w.heap.size w W->(∀ k,k<(E i).np->F k=A (prP E n i k))->SlEE W sa' (E i).np sc' F->Calls Tryz.prog 191 #[.agg #[.slice (some ⟨be,oe,none⟩) n cap],.slice sa' (E i).np sc'] W (RsPost W E n (fun k=>A (prP E n i k)) (E i).np)):=fun W sa' sc' F hW hF hee=>by
  refine l6Rs_sl W hroom (by omega) (fun k hk=>hf _ (HP.out k hk).2) (h.below hW) ⟨hee.le,hee.max,?_⟩;exact hee.cells.imp id fun ⟨b,off,e,hlt,hc⟩=>⟨b,off,e,hlt,fun k hk=>by have:=hc k hk;rw [hF k hk] at this;exact this⟩
 have hnn:n<=300:=h300;have hx64:(i:Int)<(n:Int):=by omega
 have hx0:(0:Int)<=(i:Int):=by omega
 clear hroom h hs hf hec hok hce;obtain ⟨np,hnp⟩:∃ np,np=(E i).np:=⟨_,rfl⟩;rw [<- hnp] at hp6 hn10 HP Hp HRs ⊢;clear hnp;obtain ⟨Pv,hPv⟩:∃ Pv,Pv=(E i).Pv:=⟨_,rfl⟩;rw [<- hPv] at Hp HP;clear hPv;have hcapn:n<=cap∧cap<=maxLen:=⟨HE.out.le,HE.out.max⟩;unfold maxLen at hcapn
 go_enter Tryz.func188,Tryz.ntmps188
 go_wp2_with fail
 rw [<- hwa];clear x0 hp6;obtain ⟨wb,hwb⟩:∃ wb,wb=wa:=⟨_,rfl⟩;rw [<- hwb] at hb0 hs0 hbx Hs1 ⊢;clear hwa hwb;have hrN:RowL List.length PE 26 (wb.alloc (.cells #[] 26)) wb.heap.size (.slice (some ⟨wb.heap.size,0,none⟩) 0 0) 0 (fun _=>[]) (fun _=>none) (fun _=>0):=RowL.new wb _ nL _ _ _;have hbN:Below wb.heap.size wb (wb.alloc (.cells #[] 26)):=bA;have HrN:Hid (RowL List.length PE 26 (wb.alloc (.cells #[] 26)) wb.heap.size (.slice (some ⟨w.heap.size+1,0,none⟩) 0 0) 0 (fun _=>[]) (fun _=>none) (fun _=>0)):=by rw [show w.heap.size+1=wb.heap.size from Hs1.out.symm];exact hrN
 clear hrN Hs1
 go_loopw [8,9] (fun v kv wr=>∃ k:Nat,k<=np∧kv=.int .i64 (k:Int)∧BfRel wb A (prP E n i) k v wr) (fun _ kv _=>np - (intOf kv).toNat)
 case atStart=>exact ⟨0,nz,rfl,_,_,_,_,_,rfl,HrN.out,fun i hi=>absurd hi (Nat.not_lt_zero _),hbN⟩
 case round =>
  clear hbN HrN;obtain ⟨k,hk,rfl,g,cc,F,A',C,rfl,hrow,hF,hB⟩:=hrel;have hbw:=hb0.trans (hB.mono hb0.size);have hsr:wb.heap.size<=wr.heap.size:=hB.size
  have hg1:Hid (wb.heap.size<=g∧g<wr.heap.size):=by
   rcases hrow.out.cells with ⟨q,_⟩|⟨g',cap',q,q1,q2,_⟩
   ·cases q
   injection q with q _ _;injection q with q;injection q with q _ _
   subst q;exact ⟨q1,q2⟩
  by_cases hlt:k<np
  ·rcases Hp.out.cells with h0|⟨pb,po,rfl,hpb,hpc⟩
   ·omega
   obtain ⟨hpos,hpi⟩:=HP.out k hlt;rcases Hs.out.cells with h0|⟨ab,ao,rfl,hab,hac⟩
   ·omega
   obtain ⟨ea,ec,hce,hse⟩:=hac (prP E n i k) (by omega);have hcp:=(hbw.cell (p:=⟨pb,po+k,none⟩) (by exact hpb)).trans (hpc k hlt);have hca:=(hbw.cell (p:=⟨ab,ao+prP E n i k,none⟩) (by exact hab)).trans hce
   have Hnin:Hid (∀ q,wb.heap.size<=q->NIn ea (A (prP E n i k)).length (some q)):=fun q hq=>by
    rcases hse.cells with h0|⟨b,off,e,hb,_⟩
    ·exact Or.inl (by rw [h0];rfl)
    refine Or.inr fun b' off' e' e2=>?_
    rw [e] at e';injection e' with e'
    injection e' with e1 _ _
    injection e2 with e2
    omega
   have Hse:Hid (SlE wr ea ec (A (prP E n i k))):=hse.below hbw
   have HAt0:∀ W,Below wr.heap.size wr W->Calls Tryz.prog 55 #[.agg #[.slice (some ⟨be,oe,none⟩) n cap],.string (Pv k)] W fun e w'=>e=.returned (.int .i64 ((prP E n i k:Nat):Int))∧Below wr.heap.size wr w':=fun W hW=>by
    refine (l2At_sl (Pv k) W ((HE.out.below hbw).below hW)).mono ?_;rintro e w' ⟨rfl,rfl⟩;exact ⟨by rw [hpos],hW.alloc hW.size _⟩
   clear hpos hpc hac hce hse;obtain ⟨p,hp⟩:∃ p,p=prP E n i k:=⟨_,rfl⟩;obtain ⟨x,hx⟩:∃ x,x=Pv k:=⟨_,rfl⟩;obtain ⟨ll,hll⟩:∃ ll,ll=(A (prP E n i k)).length:=⟨_,rfl⟩;have Hll:Hid (ll=(A (prP E n i k)).length):=hll;rw [<- hll] at hca;rw [<- hp] at hca HAt0 hpi;rw [<- hx] at hcp HAt0;have HAt:Hid (_):=HAt0;clear hp hx hll HAt0
   have HS1:Hid (∀ W,Below wb.heap.size wb W->W.cell? ⟨w.heap.size,0,none⟩=some (.slice (some ⟨be,oe,none⟩) n cap)∧W.cell? ⟨pb,po+k,none⟩=some (.string x)∧W.cell? ⟨ab,ao+p,none⟩=some (.slice ea ll ec)):=fun W hW=>by
    have h1:pb<wb.heap.size:=nT hpb hb0.size;have h2:ab<wb.heap.size:=nT hab hb0.size;refine ⟨hbx.out _ hW,?_,?_⟩
    ·rw [hW.cell (p:=⟨pb,po+k,none⟩) (by exact h1),<- hB.cell (p:=⟨pb,po+k,none⟩) (by exact h1)]
     exact hcp
    rw [hW.cell (p:=⟨ab,ao+p,none⟩) (by exact h2),<- hB.cell (p:=⟨ab,ao+p,none⟩) (by exact h2)];exact hca
   have HS:Hid (∀ W,Below wr.heap.size wr W->W.cell? ⟨w.heap.size,0,none⟩=some (.slice (some ⟨be,oe,none⟩) n cap)∧W.cell? ⟨pb,po+k,none⟩=some (.string x)∧W.cell? ⟨ab,ao+p,none⟩=some (.slice ea ll ec)):=fun W hW=>HS1.out W (hB.trans (hW.mono hsr))
   have HO:Hid (∀ W,Below wr.heap.size wr W->W.ownsRow wb.heap.size 26 1 (.slice (some ⟨g,0,none⟩) k cc) k (encA List.length F A' C k)):=fun W hW=>(hrow.out.below lcE hW).own
   have HB4:Hid (∀ X w4:World,Below wr.heap.size wr X->X.grownBy w4 (Value.slice (some ⟨g,0,none⟩) k cc).ownBlock->Below wb.heap.size wb w4):=fun X w4 hX hg=>(hB.trans (hX.mono hsr)).grown hg (nZ hsr hX.size) (fun q hq=>by
    have:some g=some q:=hq;injection this with this
    have:=hg1.out;omega)
   have hrf:Below wr.heap.size wr wr:=kB;have hm1:k+1<=maxLen:=by unfold maxLen;omega
   have hm2:(k+1) * 24<=140737488355328:=by omega
   have hpn:(p:Int)<(na:Int):=by omega
   have hp0:(0:Int)<=(p:Int):=by omega
   have hpn2:p<na:=by omega
   go_wp2_with fail
   refine wp_region_held_drew (S:=fun W=>W.cell? ⟨w.heap.size,0,none⟩=some (.slice (some ⟨be,oe,none⟩) n cap)∧W.cell? ⟨pb,po+k,none⟩=some (.string x)∧W.cell? ⟨ab,ao+p,none⟩=some (.slice ea ll ec)) (by kernel_rfl) ?_ (fun hHeld=>?_)
   ·(try dsimp only);exact HS.out _ (by with_reducible (repeat refine .drew ?_);exact hrf)
   refine tq 0 rfl ?_;simp only [si];refine tq 1 rfl ?_;simp only [si];refine tq 2 rfl ?_;simp only [si];refine tq 3 rfl ?_;simp only [si];refine tq 4 rfl ?_;simp only [si];refine tq 5 rfl ?_;simp only [si];refine tq 6 rfl ?_;simp only [si];refine rd 7 rfl fun K hK=>?_
   go_simp
   go_at_call 55
   refine (HAt.out _ (by with_reducible (repeat refine .drew ?_);exact hrf)).mono ?_;rintro e w2 ⟨rfl,hb2⟩;clear HAt;try dsimp only
   refine hK.out _ _ ?_ (fun hHeld=>?_)
   ·(try dsimp only);exact HS.out _ (by with_reducible (repeat refine .drew ?_);exact hb2)
   clear hK K;try simp only [si]
   refine tq 8 rfl ?_;simp only [si];refine tq 9 rfl ?_;simp only [si];refine rd 10 rfl fun K hK=>?_
   go_simp;refine hK.out _ _ ?_ (fun hHeld=>?_)
   ·(try dsimp only);exact HS.out _ (by first|exact hb2.alloc hb2.size _|exact (hb2.alloc hb2.size _).drew|exact (hb2.drew.alloc hb2.size _))
   clear hK K;try simp only [si]
   refine rd 11 rfl fun K hK=>?_
   refine step_append_lies _ (by rfl) _ _ _ (by rfl) wb.heap.size 26 j0 _ 1 24 Tryz.underlying104 hj hj0 hj1 hj2 rfl (by decide) (.slice (some ⟨g,0,none⟩) k cc) k (encA List.length F A' C k) (by rfl) (HO.out _ (by first|exact hb2.alloc hb2.size _|exact (hb2.alloc hb2.size _).drew|exact (hb2.drew.alloc hb2.size _))) ⟨w2.heap.size,0,none⟩ 1 1 [.slice ea ll ec] (by rfl) (by rfl) (one_cellS _ _ _) (one_slice _ ⟨_,_,_,rfl⟩) (by decide) hm1 hm2 (by simp;have:=hb2.size;omega) (w2.heap.size+1) (by simp) ?_;intro gg cq w4 hown4 hgr4 hat4 hlt4;have hB4:=HB4.out _ w4 (by first|exact hb2.alloc hb2.size _|exact (hb2.alloc hb2.size _).drew|exact (hb2.drew.alloc hb2.size _)) hgr4;refine hK.out _ _ ?_ (fun hHeld=>?_)
   ·(try dsimp only);exact HS1.out _ hB4
   clear hK K;try simp only [si]
   refine tq 12 rfl ?_;simp only [si];refine wpAnyH_done (by kernel_rfl) ?_ _
   have Hrow2:Hid (RowL List.length PE 26 w4 wb.heap.size (.slice (some ⟨gg,0,none⟩) (k+1) cq) (k+1) (extF F k (A (prP E n i k))) (extF A' k ea) (extF C k ec)):=by
    have hX:∀ X,Below w2.heap.size w2 X->X.grownBy w4 (Value.slice (some ⟨g,0,none⟩) k cc).ownBlock->((Value.slice (some ⟨g,0,none⟩) k cc).ownBlock=some gg∨X.heap.size<=gg)->RowL List.length PE 26 w4 wb.heap.size (.slice (some ⟨gg,0,none⟩) (k+1) cq) (k+1) (extF F k (A (prP E n i k))) (extF A' k ea) (extF C k ec):=fun X hX hg hgg=>by
     have hwX:=hb2.trans (hX.mono hb2.size);exact (hrow.out.below lcE hwX).snoc lcE (lcE.below Hse.out hwX) (Hnin.out g hg1.out.1) (by rw [<- Hll.out];exact hown4) hg hgg
    exact hX _ (by first|exact bA|exact bA.drew) hgr4 (hat4.imp (fun q=>q) (fun q=>by simp;omega))
   have HF2:Hid (∀ j,j<k+1->extF F k (A (prP E n i k)) j=A (prP E n i j)):=fun j hj=>by
    by_cases e:j=k
    ·subst e;rw [extF_at]
    rw [extF_lt _ _ (by omega)];exact hF.out j (by omega)
   clear hown4 hgr4 hat4 hlt4 hrow hF HO HB4 Hse Hnin
   (try go_wp2)
   first
    | exact ⟨⟨k+1,by omega,by go_num,gg,cq,_,_,_,rfl,Hrow2.out,HF2.out,hB4⟩,by simp [intOf];omega⟩
    | exact ⟨⟨k+1,by omega,by go_num,gg,cq,_,_,_,rfl,Hrow2.out.below lcE kB.drew,HF2.out,hB4.drew⟩,by simp [intOf];omega⟩
  have hkm:np=k:=by omega
  subst hkm;obtain ⟨ta,tc,e1,hee⟩:=hrow.out.ee;injection e1 with e11 _ e13
  subst e11 e13;have HR:Hid (Calls Tryz.prog 191 #[.agg #[.slice (some ⟨be,oe,none⟩) n cap],.slice (some ⟨g,0,none⟩) np cc] wr (RsPost wr E n (fun k=>A (prP E n i k)) np)):=HRs.out wr _ _ F hbw hF.out hee;have xr:=hbx.out _ hB;clear hee hrow hF HRs
  go_wp2_with fail
  refine HR.out.mono ?_;rintro e w2 ⟨v,l,rfl,ho,hr,hb2⟩;have HPp:Hid (RsPost w E n (fun k=>A (prP E n i k)) np (.returned v) w2):=⟨v,l,rfl,ho.low hbw.size,hr,hbw.trans (hb2.mono hbw.size)⟩;clear HR hr ho;go_wp2
  go_ret;exact HPp.out
def AfR (E:Nat->Ev)(n:Nat)(A:Nat->List Ent)(i:Nat)(l:List Ent):Prop:=∃ s,ResR E n (fun k=>A (prP E n i k)) (E i).np s∧l=if (E i).st=true∧alV (evO E n s) (E i)=0 then setL s ⟨(E i).ty,(E i).key,(E i).id⟩ false else s
def AfPost (w:World)(E:Nat->Ev)(n:Nat)(A:Nat->List Ent)(i:Nat)(e:Ending)(w':World):Prop:=∃ v l,e=.returned v∧OwnE w' w.heap.size v l∧AfR E n A i l∧Below w.heap.size w w'
theorem AfR.fit (hr:roomTo E n=true)(hi:i<n)(hf:∀ j,j<i->FitL E n (A j))(h:AfR E n A i l):FitL E n l:=by
 obtain ⟨s,h1,rfl⟩:=h;have hs:=h1.fit hr (fun k hk=>hf _ (by have:=room_prev hr hi hk;unfold prP;omega));split
 ·rename_i hc
  exact hs.set fun _=>fit1_of hr hi hc.1
 exact hs
theorem AfR.uniq {l':List Ent}(h:AfR E n A i l)(h':AfR E n A i l'):l=l':=by
 obtain ⟨s,h1,rfl⟩:=h;obtain ⟨s',h1',rfl⟩:=h';rw [h1.uniq h1']
theorem l7Af_any (w:World)(hroom:roomTo E n=true)(hi:i<n)(hna:i<=na)(hf:∀ j,j<i->FitL E n (A j))(h:SlV w (some ⟨be,oe,none⟩) n cap E)(hbe:be<w.heap.size)(hce:∀ q,q<n->EvAt w be (oe+q * 10) (E q))(hs:SlEE w sa na sc A) :
  Calls Tryz.prog 122 #[.agg #[.slice (some ⟨be,oe,none⟩) n cap],.slice sa na sc,.int .i64 (i:Int)] w (AfPost w E n A i):=by
 have h300:=room_300 hroom;obtain ⟨pa,cp,aa,ca,ga,cg,hec,hok⟩:=hce i hi;obtain ⟨wa,hwa⟩:∃ wa,wa=w.alloc (.cells #[.slice (some ⟨be,oe,none⟩) n cap] 25):=⟨_,rfl⟩;have hb0:Below w.heap.size w wa:=by rw [hwa];exact bA
 have hs0:w.heap.size<wa.heap.size:=by rw [hwa];simp
 have hecw:=hec.below hb0 hbe;have HBf:Hid (∀ W,Below w.heap.size w W->Calls Tryz.prog 188 #[.agg #[.slice (some ⟨be,oe,none⟩) n cap],.slice sa na sc,.int .i64 (i:Int)] W (RsPost W E n (fun k=>A (prP E n i k)) (E i).np)):=fun W hW=>l7Bf_any W hroom hi hna hf (h.below hW) (nT hbe hW.size) (fun q hq=>(hce q hq).below hW hbe) (hs.below hW)
 have Hfit:Hid (∀ l,ResR E n (fun k=>A (prP E n i k)) (E i).np l->FitL E n l):=fun l h1=>h1.fit hroom (fun k hk=>hf _ (by have:=room_prev hroom hi hk;unfold prP;omega))
 have HAl:Hid (∀ W l va vc,Below w.heap.size w W->FitL E n l->SlE W va vc l->Calls Tryz.prog 30 #[.agg #[.slice (some ⟨be,oe,none⟩) n cap],.slice va l.length vc,(E i).val' pa cp aa ca ga cg] W fun x w'=>x=.returned (.int .i64 (alV (evO E n l) (E i)))∧Below W.heap.size W w'):=fun W l va vc hW hl hv=>l5Al_sl (E i) pa cp aa ca ga cg W (viewS_of (h.below hW) hv) (evO_asc hroom (hl.fitB hroom)) (hok.below hW) (room_code hroom hi)
 have HRf:Hid (∀ l,FitL E n l->(E i).st=true->FitL E n (setL l ⟨(E i).ty,(E i).key,(E i).id⟩ false)):=fun l hl hst=>hl.set fun _=>fit1_of hroom hi hst
 have HA1:Hid (∀ s,ResR E n (fun k=>A (prP E n i k)) (E i).np s->((E i).st=false∨alV (evO E n s) (E i)≠0)->AfR E n A i s):=fun s h1 h2=>⟨s,h1,by
  rw [if_neg];rintro ⟨q1,q2⟩;rcases h2 with h2|h2
  ·rw [h2] at q1;cases q1
  exact h2 q2⟩
 have HA2:Hid (∀ s,ResR E n (fun k=>A (prP E n i k)) (E i).np s->(E i).st=true->alV (evO E n s) (E i)=0->AfR E n A i (setL s ⟨(E i).ty,(E i).key,(E i).id⟩ false)):=fun s h1 h2 h3=>⟨s,h1,by rw [if_pos ⟨h2,h3⟩]⟩
 have Hz:Hid (∀ j,j<n->(E j).ty.size<=maxLen∧(E j).key.size<=maxLen∧(E j).id.size<=maxLen):=fun j hj=>by
  obtain ⟨_,_,_,_,_,_,_,hk⟩:=hce j hj;exact ⟨hk.hty,hk.hkey,hk.hid⟩
 have Hlen:Hid (∀ l,FitL E n l->l.length<=300):=fun l hl=>nZ (hl.len hroom) h300
 have hcapn:n<=cap∧cap<=maxLen:=⟨h.le,h.max⟩;unfold maxLen at hcapn;have hx64:(i:Int)<(n:Int):=by omega
 have hx0:(0:Int)<=(i:Int):=by omega
 clear hroom h hs hf hok hce hec hna;obtain ⟨ev,hev⟩:∃ ev,ev=E i:=⟨_,rfl⟩;rw [<- hev] at hecw HAl HRf HA1 HA2 HBf Hfit;clear hev;obtain ⟨c0,c1,c2,c3,c4,c5,c6,c7,c8,c9⟩:=hecw;rw [hwa] at c0 c1 c2 c3 c4 c5 c6 c7 c8 c9;have x0:(w.alloc (.cells #[.slice (some ⟨be,oe,none⟩) n cap] 25)).cell? ⟨w.heap.size,0,none⟩=some (.slice (some ⟨be,oe,none⟩) n cap):=kA rfl
 go_enter Tryz.func122,Tryz.ntmps122
 go_wp2_with fail
 clear c0 c1 c2 c3 c4 c5 c6 c7 c8 c9 x0;rw [<- hwa];obtain ⟨wb,hwb⟩:∃ wb,wb=wa.alloc (.cells #[.string ev.id,.string ev.sd,.string ev.ty,.bool ev.st,.string ev.key,.int .i64 ev.tm,.slice pa ev.np cp,.slice aa ev.na ca,.string ev.val,.slice ga ev.ng cg] 30):=⟨_,rfl⟩;have hab:Below wa.heap.size wa wb:=by rw [hwb];exact bA
 have hwb0:=hb0.trans (hab.mono hb0.size);have hsa:wa.heap.size=w.heap.size+1:=by rw [hwa];simp
 have hsb:wb.heap.size=wa.heap.size+1:=by rw [hwb];simp
 have HC:Hid (∀ W,Below wb.heap.size wb W->W.cell? ⟨w.heap.size,0,none⟩=some (.slice (some ⟨be,oe,none⟩) n cap)∧∀ o,W.cell? ⟨w.heap.size+1,o,none⟩=(#[.string ev.id,.string ev.sd,.string ev.ty,.bool ev.st,.string ev.key,.int .i64 ev.tm,.slice pa ev.np cp,.slice aa ev.na ca,.string ev.val,.slice ga ev.ng cg]:Array Value)[o]?):=fun W hW=>by
  refine ⟨(hW.cell (by show w.heap.size<wb.heap.size;omega)).trans ((hab.cell (by show w.heap.size<wa.heap.size;omega)).trans (by rw [hwa];exact kA rfl)),fun o=>(hW.cell (by show w.heap.size+1<wb.heap.size;omega)).trans ?_⟩;rw [hwb];exact kA hsa.symm
 rw [<- hwb];clear hwb hwa hsa hsb;obtain ⟨y0,yc⟩:=HC.out wb kB;clear yc
 go_wp2_with fail
 refine (HBf.out _ hwb0).mono ?_;rintro e w1 ⟨v1,s,rfl,ho1,hr1,hb1⟩;have hw1:=hwb0.trans (hb1.mono hwb0.size);have hfs:=Hfit.out s hr1;have Hr1:Hid (_):=hr1;obtain ⟨ta,tc,e1,hts⟩:=ho1.sl (fun i hi=>(hfs.ok Hz.out).at i hi);subst e1;have hsl:=Hlen.out s hfs;have HP0:Hid (ev.st=false∨alV (evO E n s) ev≠0->∀ W,Below w1.heap.size w1 W->AfPost w E n A i (.returned (.slice ta s.length tc)) W):=fun h1 W hW=>⟨_,s,rfl,(ho1.below hW).low hwb0.size,HA1.out s Hr1.out h1,hw1.trans (hW.mono hw1.size)⟩
 have HAl1:Hid (Calls Tryz.prog 30 #[.agg #[.slice (some ⟨be,oe,none⟩) n cap],.slice ta s.length tc,.agg #[.string ev.id,.string ev.sd,.string ev.ty,.bool ev.st,.string ev.key,.int .i64 ev.tm,.slice pa ev.np cp,.slice aa ev.na ca,.string ev.val,.slice ga ev.ng cg]] w1 fun x w'=>x=.returned (.int .i64 (alV (evO E n s) ev))∧Below w1.heap.size w1 w'):=HAl.out w1 s ta tc hw1 hfs hts
 have HSt:Hid (ev.st=true->alV (evO E n s) ev=0->∀ W,Below w1.heap.size w1 W->Calls Tryz.prog 38 #[.slice ta s.length tc,entV ⟨ev.ty,ev.key,ev.id⟩,.bool false] W (AfPost w E n A i)):=fun h1 h2 W hW=>by
  refine (set_sl ⟨ev.ty,ev.key,ev.id⟩ false W (by omega) (hts.below hW)).mono ?_;rintro e w' ⟨v,rfl,ho,hb⟩;have hwW:=hw1.trans (hW.mono hw1.size);exact ⟨v,_,rfl,ho.low hwW.size,HA2.out s Hr1.out h1 h2,hwW.trans (hb.mono hwW.size)⟩
 obtain ⟨sl,hsl0⟩:∃ sl,sl=s.length:=⟨_,rfl⟩;rw [<- hsl0] at HP0 HAl1 HSt hsl ⊢;obtain ⟨al,hal0⟩:∃ al,al=alV (evO E n s) ev:=⟨_,rfl⟩;rw [<- hal0] at HP0 HAl1 HSt;clear hsl0 hal0 ho1 hr1 Hr1 hfs hts HA1 HA2 HAl HRf HBf Hfit Hz Hlen y0;obtain ⟨d0,dc⟩:=HC.out w1 hb1;have d1:=dc 0;have d2:=dc 1;have d3:=dc 2;have d4:=dc 3;have d5:=dc 4;have d6:=dc 5;have d7:=dc 6;have d8:=dc 7;have d9:=dc 8;have d10:=dc 9;clear dc;simp only [List.getElem?_toArray,List.getElem?_cons_zero,List.getElem?_cons_succ] at d1 d2 d3 d4 d5 d6 d7 d8 d9 d10;cases hst:ev.st
 case false =>
  rw [hst] at d4;have HP:Hid (∀ W,Below w1.heap.size w1 W->AfPost w E n A i (.returned (.slice ta sl tc)) W):=HP0.out (Or.inl hst);clear HP0 HSt HAl1 hst;go_wp2
  go_ret;exact HP.out _ kB
 case true =>
  have hEV:(.agg #[.string ev.id,.string ev.sd,.string ev.ty,.bool ev.st,.string ev.key,.int .i64 ev.tm,.slice pa ev.np cp,.slice aa ev.na ca,.string ev.val,.slice ga ev.ng cg]:Value)=.agg #[.string ev.id,.string ev.sd,.string ev.ty,.bool true,.string ev.key,.int .i64 ev.tm,.slice pa ev.np cp,.slice aa ev.na ca,.string ev.val,.slice ga ev.ng cg]:=by rw [hst]
  rw [hEV] at HAl1;rw [hst] at d4
  by_cases hal:al=0
  ·subst hal
   have HS1:Hid (∀ W,Below w1.heap.size w1 W->Calls Tryz.prog 38 #[.slice ta sl tc,entV ⟨ev.ty,ev.key,ev.id⟩,.bool false] W (AfPost w E n A i)):=HSt.out hst rfl;clear HP0 HSt hst hEV
   go_wp2_with fail
   refine HAl1.out.mono ?_;rintro e w2 ⟨rfl,hb2⟩;obtain ⟨g0,gc⟩:=HC.out w2 (hb1.trans (hb2.mono hb1.size));have g1:=gc 0;have g3:=gc 2;have g5:=gc 4;clear gc d0 d1 d2 d3 d4 d5 d6 d7 d8 d9 d10 HAl1;simp only [List.getElem?_toArray,List.getElem?_cons_zero,List.getElem?_cons_succ] at g1 g3 g5
   go_wp2_with fail
   refine (HS1.out _ hb2).mono ?_;rintro e w3 ⟨v,l,rfl,ho,hr,hb3⟩;have HP:Hid (AfPost w E n A i (.returned v) w3):=⟨v,l,rfl,ho,hr,hb3⟩;clear ho hr HS1;go_wp2
   go_ret;exact HP.out
  have HP:Hid (∀ W,Below w1.heap.size w1 W->AfPost w E n A i (.returned (.slice ta sl tc)) W):=HP0.out (Or.inr hal);have hab2:(al == 0)=false:=by simpa using hal
  clear HP0 HSt hst hEV hal
  go_wp2_with fail
  refine HAl1.out.mono ?_;rintro e w2 ⟨rfl,hb2⟩;clear HAl1;go_wp2
  go_ret;exact HP.out _ hb2
variable {b off:Nat}{M S:Nat->ByteArray}
theorem strs_src (hc:∀ i,i<n->w.cell? ⟨b,off+i,none⟩=some (.string (S i)))(j:Nat)(u:Value)(h:(strs S n)[j]?=some u):w.cell? ((⟨b,off,none⟩:Addr).add j)=some u:=by
 have hj:j<n:=by
  have:=(List.getElem?_eq_some_iff.1 h).1
  rwa [strs_len] at this
 rw [strs_get S n j hj] at h;rw [Addr.add_lit];exact (hc j hj).trans h
theorem strs_one (S:Nat->ByteArray)(n:Nat)(u:Value)(h:u ∈ strs S n):u.oneCell'=true:=by
 unfold strs at h;obtain ⟨i,_,rfl⟩:=List.mem_map.1 h;rfl
theorem encG_src {L:Nat->Int}(h1:∀ i,i<n->w.cell? ⟨b,off+i * 2,none⟩=some (.string (M i)))(h2:∀ i,i<n->w.cell? ⟨b,off+i * 2+1,none⟩=some (.int .i64 (L i)))(j:Nat)(u:Value)(h:(encG M L n)[j]?=some u):w.cell? ((⟨b,off,none⟩:Addr).add j)=some u:=by
 have hj:j<n * 2:=by
  have:=(List.getElem?_eq_some_iff.1 h).1
  rwa [encG_len] at this
 have hi:=encG_get M L n (j / 2) (by omega);rcases (by omega:j=j / 2 * 2∨j=j / 2 * 2+1) with e|e
 ·rw [e,hi.1] at h
  have:=(h1 (j / 2) (by omega)).trans h;rw [<- e] at this;rw [Addr.add_lit];exact this
 rw [e,hi.2] at h
 have:=(h2 (j / 2) (by omega)).trans h;rw [show off+j / 2 * 2+1=off+j by omega] at this;rw [Addr.add_lit];exact this
theorem encG_one (M:Nat->ByteArray)(L:Nat->Int)(n:Nat)(u:Value)(h:u ∈ encG M L n):u.oneCell'=true:=by
 unfold encG at h;obtain ⟨i,_,hi⟩:=List.mem_flatMap.1 h;simp only [List.mem_cons,List.not_mem_nil,or_false] at hi;rcases hi with rfl|rfl <;> rfl
theorem OwnG.slw {L:Nat->Int}(h:OwnG w base v n M L)(hs:∀ i,i<n->(M i).size<=maxLen) :
  ∃ a cap,v=.slice a n cap∧SlG w a n cap M L∧SlW w base a n 2:=by
 rcases row_cells h with ⟨rfl,rfl⟩|⟨g,cap,rfl,hg,hlt,hn,hc,hx,hf⟩
 ·exact ⟨none,0,rfl,⟨nL,by decide,hs,Or.inl rfl⟩,Or.inl rfl⟩
 refine ⟨_,cap,rfl,⟨hn,hc,hs,Or.inr ⟨g,0,rfl,hlt,fun i hi=>?_,fun i hi=>?_⟩⟩,Or.inr ⟨g,0,rfl,hg,hlt,fun i hi=>⟨?_,hf _⟩⟩⟩
 ·rw [show 0+i * 2=0+(i * 2) by omega,hx _ (by omega)];exact (encG_get M L n i hi).1
 ·rw [show 0+i * 2+1=0+(i * 2+1) by omega,hx _ (by omega)];exact (encG_get M L n i hi).2
 exact ⟨_,(hx i hi).trans (List.getElem?_eq_getElem (by rw [encG_len];omega))⟩

theorem Tryz.infoEvent:(Tryz.prog.info? 30).map (fun i=>(i.zero,i.size,i.bytes))=some (some (.agg #[.string ByteArray.empty,.string ByteArray.empty,.string ByteArray.empty,.bool false,.string ByteArray.empty,.int .i64 0,.slice none 0 0,.slice none 0 0,.string ByteArray.empty,.slice none 0 0]),10,168):=by kernel_rfl
def EvReach (e:Ev):Prop:=e.np * 16<=140737488351232∧e.na * 16<=140737488351232∧e.ng * 24<=140737488351232
end Go.Proofs.YtkdalopokdhndaaGreat
