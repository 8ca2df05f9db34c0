import Derived.Test.YtkdalopokdhndaaGreatRvPZ
import Derived.Test.YtkdalopokdhndaaGreatAgSZ
import Derived.Deep.RegionLaw
set_option maxHeartbeats 16000000
set_option maxRecDepth 100000
namespace Go.Proofs.YtkdalopokdhndaaGreat
open Go.RowKit
variable {W w' wr:World}{l:List Ent}{a ia sa:Option Addr}{m n be oe sc cap icap:Nat}{E:Nat->Ev}{S:Nat->ByteArray}
def TyPost (w:World)(l:List Ent)(e:Ending)(w':World):Prop:=∃ a c,e=.returned (.slice a l.length c)∧SlE w' a c l∧Below w.heap.size w w'
def TyRel (wb:World)(l:List Ent)(v:Value)(wr:World):Prop:=∃ a c nn l',v=.slice a nn c∧Hid (nn=l'.length)∧Hid (SlE wr a c l')∧Hid (l'=l)∧Below wb.heap.size wb wr
def StP (wr:World)(l:List Ent)(e:Ending)(w':World):Prop:=∃ a c nn l',e=.returned (.slice a nn c)∧Hid (nn=l'.length)∧Hid (SlE w' a c l')∧Hid (l'=l)∧Below wr.heap.size wr w'
theorem stP_of {e:Ending}(hW:Below wr.heap.size wr W)(h:∃ v,e=.returned v∧OwnE w' W.heap.size v l∧Below W.heap.size W w')(hk:AllOk l):StP wr l e w':=by
 obtain ⟨v,rfl,ho,hb⟩:=h;obtain ⟨a,c,rfl,hs⟩:=ho.sl (fun i hi=>hk.at i hi);exact ⟨a,c,_,l,rfl,rfl,hs,rfl,hW.trans (hb.mono hW.size)⟩
theorem l6Try_none {s:List Ent}(w:World)(hs:SlE w sa sc s) :
  Calls Tryz.prog 230 #[.agg #[.slice a n cap],.slice sa s.length sc,.slice ia 0 icap] w (TyPost w s):=by
 have hb0:∀ o,Below w.heap.size w (w.alloc o):=fun o=>bA
 have HP:Hid (∀ o,TyPost w s (.returned (.slice sa s.length sc)) (w.alloc o)):=fun o=>⟨sa,sc,rfl,hs.below (hb0 o),hb0 o⟩
 clear hs
 go_enter Tryz.func230,Tryz.ntmps230
 go_wp2_with fail
 refine wp_loop_rounds 1 ?_;rw [rounds_succ];go_wp2
 go_ret;exact HP.out _
theorem l6Try_any {s:List Ent}(w:World)(hroom:roomTo E n=true)(hfit:FitL E n s)(hm:m<=300)(hth:∀ i,i<m->0<=posV E n (S i))(h:SlV w (some ⟨be,oe,none⟩) n cap E)(hbe:be<w.heap.size)(hce:∀ q,q<n->EvAt w be (oe+q * 10) (E q))(hs:SlE w sa sc s)(hids:SlS w ia m icap S) :
  Calls Tryz.prog 230 #[.agg #[.slice (some ⟨be,oe,none⟩) n cap],.slice sa s.length sc,.slice ia m icap] w (TyPost w (tryL E n s (lsT S m))):=by
 obtain ⟨wb,hwb⟩:∃ wb,wb=w.alloc (.cells #[.slice (some ⟨be,oe,none⟩) n cap] 25):=⟨_,rfl⟩;have hb0:Below w.heap.size w wb:=by rw [hwb];exact bA
 have hs0:w.heap.size<wb.heap.size:=by rw [hwb];simp
 have hbx:Hid (∀ wx,Below wb.heap.size wb wx->wx.cell? ⟨w.heap.size,0,none⟩=some (.slice (some ⟨be,oe,none⟩) n cap)):=fun wx hx=>by subst hwb;exact box_cells (hx.mono (by simp)) 0
 have h300:=room_300 hroom;have Hpl:Hid (∀ i,i<m->∃ y,y<n∧posV E n (S i)=(y:Int)∧(E y).id=S i):=fun i hi'=>posV_nat (hth i hi')
 have Hz:Hid (∀ i,i<n->(E i).ty.size<=maxLen∧(E i).key.size<=maxLen∧(E i).id.size<=maxLen):=fun i hi=>by
  obtain ⟨_,_,_,_,_,_,_,hok⟩:=hce i hi;exact ⟨hok.hty,hok.hkey,hok.hid⟩
 have HFk:Hid (∀ k,k<=m->FitL E n (tryL E n s (lsT S k))):=fun k hk=>FitL.tryL hroom hfit (fun t ht=>by
  obtain ⟨i,hi,rfl⟩:=lsT_mem.1 ht;exact hth i (by omega))
 have HE:Hid (SlV w (some ⟨be,oe,none⟩) n cap E):=h;have Hce:Hid (∀ q,q<n->EvAt w be (oe+q * 10) (E q)):=hce;have HI:Hid (SlS w ia m icap S):=hids;have Hroom:Hid (_):=hroom;have HS0:Hid (SlE wb sa sc s):=hs.below hb0;clear hroom h hids hth hfit hs hce
 go_enter Tryz.func230,Tryz.ntmps230
 go_wp2_with fail
 rw [<- hwb];clear hwb;generalize hsl:s.length=sl;have Hsl:Hid (sl=s.length):=hsl.symm;clear hsl
 go_loopw [1,7] (fun v i wr=>∃ k:Nat,k<=m∧i=.int .i64 (k:Int)∧TyRel wb (tryL E n s (lsT S k)) v wr) (fun _ i _=>m - (intOf i).toNat)
 case atStart=>exact ⟨0,nz,rfl,sa,sc,sl,s,rfl,Hsl.out,HS0.out,rfl,kB⟩
 case round =>
  obtain ⟨k,hk,rfl,ta,tc,tn,l,rfl,htn,hts,htl,hB⟩:=hrel;have hbw:=hb0.trans (hB.mono hb0.size);have hso:wb.heap.size<=wr.heap.size:=hB.size;have x0:=hbx.out _ hB;have hfl:FitL E n l:=by rw [htl.out];exact HFk.out k hk
  by_cases hlt:k<m
  ·rcases HI.out.cells with h0|⟨bi,oi,rfl,hbi,hci⟩
   ·omega
   obtain ⟨y,hy,ey,eid⟩:=Hpl.out k hlt;have hck:wr.cell? ⟨bi,oi+k,none⟩=some (.string (E y).id):=by rw [eid];exact (hbw.cell (by exact hbi)).trans (hci k hlt)
   obtain ⟨pa,cp,aa,ca,ga,cg,hec,hok⟩:=Hce.out y hy;have hcode:(E y).code=0:=room_code Hroom.out hy
   have hev:Hid (∀ W,Below wr.heap.size wr W->Calls Tryz.prog 103 #[.agg #[.slice (some ⟨be,oe,none⟩) n cap],.string (E y).id] W (fun x w'=>x=.returned ((E y).val' pa cp aa ca ga cg)∧Below W.heap.size W w')):=fun W hW=>by
    have hw:=hbw.trans (hW.mono hbw.size);exact l6EvX _ W (HE.out.below hw) (nT hbe hw.size) (hec.below hw hbe) hy (posV_here Hroom.out hy)
   have hrf:Below wr.heap.size wr wr:=kB;have hal:Below wr.heap.size wr (wr.alloc (.cells #[.string ⟨#[]⟩,.string ⟨#[]⟩,.string ⟨#[]⟩,.bool false,.string ⟨#[]⟩,.int .i64 0,.slice none 0 0,.slice none 0 0,.string ⟨#[]⟩,.slice none 0 0] 30)):=bA;have hlt1:bi<wr.heap.size:=nT hbi hbw.size;have hlt0:w.heap.size<wr.heap.size:=by omega
   have hck1:(wr.alloc (.cells #[.string ⟨#[]⟩,.string ⟨#[]⟩,.string ⟨#[]⟩,.bool false,.string ⟨#[]⟩,.int .i64 0,.slice none 0 0,.slice none 0 0,.string ⟨#[]⟩,.slice none 0 0] 30)).drew.cell? ⟨bi,oi+k,none⟩=some (.string (E y).id):=(hal.drew.cell (by show bi<wr.heap.size;omega)).trans hck;have x01:(wr.alloc (.cells #[.string ⟨#[]⟩,.string ⟨#[]⟩,.string ⟨#[]⟩,.bool false,.string ⟨#[]⟩,.int .i64 0,.slice none 0 0,.slice none 0 0,.string ⟨#[]⟩,.slice none 0 0] 30)).drew.cell? ⟨w.heap.size,0,none⟩=some (.slice (some ⟨be,oe,none⟩) n cap):=(hal.drew.cell (by show w.heap.size<wr.heap.size;omega)).trans x0
   have HNo:Hid ((E y).st=false∨alV (evO E n (viewL E n l (E y))) (E y)≠0->tryL E n s (lsT S (k+1))=l):=fun hn=>by
    rw [htl.out] at hn ⊢;exact try_no ey hn
   have HYes:Hid ((E y).st=true->alV (evO E n (viewL E n l (E y))) (E y)=0->tryL E n s (lsT S (k+1))=setL l ⟨(E y).ty,(E y).key,(E y).id⟩ false):=fun h1 h2=>by
    rw [htl.out] at h2 ⊢;exact try_yes ey h1 h2
   have Hvf:Hid (∀ j,FitL E n (viewTo E n l (E y) j)):=view_fit Hroom.out hfl hy;have Hok:Hid (EvOk w (E y) pa cp aa ca ga cg):=hok;have HNd:Hid (∀ W,Below w.heap.size w W->Calls Tryz.prog 127 #[(E y).val' pa cp aa ca ga cg] W (NdPost W (E y))):=fun W hW=>ndS_any (E y) W (Hok.out.below hW)
   have HFr0:Hid (∀ W kind key,Below w.heap.size w W->Calls Tryz.prog 218 #[.agg #[.slice (some ⟨be,oe,none⟩) n cap],(E y).val' pa cp aa ca ga cg,.string kind,.string key] W fun x w'=>x=.returned (.string (frV E n (evP kind key) (E y)))∧Below W.heap.size W w'):=fun W kind key hW=>l6From_sl kind key W Hroom.out hy (HE.out.below hW) (Hok.out.below hW)
   have HAl:Hid (∀ W va vc,Below w.heap.size w W->SlE W va vc (viewL E n l (E y))->Calls Tryz.prog 30 #[.agg #[.slice (some ⟨be,oe,none⟩) n cap],.slice va (viewL E n l (E y)).length vc,(E y).val' pa cp aa ca ga cg] W fun x w'=>x=.returned (.int .i64 (alV (evO E n (viewL E n l (E y))) (E y)))∧Below W.heap.size W w'):=fun W va vc hW hv=>l5Al_sl (E y) pa cp aa ca ga cg W (viewS_of (HE.out.below hW) hv) (evO_asc Hroom.out ((Hvf.out _).fitB Hroom.out)) (Hok.out.below hW) hcode
   have Hnd0:Hid (ndL (E y)≠[]):=by
    unfold Hid ndL;rw [if_pos hcode];split <;> simp
   have Hzy:=Hz.out y hy
   have hfs:Hid (fit1 E n ⟨(E y).ty,(E y).key,(E y).id⟩=true∨(E y).st=false):=by
    cases hst:(E y).st
    ·exact Or.inr rfl
    exact Or.inl (fit1_of Hroom.out hy hst)
   clear hci ey eid hec hok hcode;obtain ⟨ev,hev0⟩:∃ ev,ev=E y:=⟨_,rfl⟩;rw [<- hev0] at hev hck hck1 HNo HYes Hvf HNd HFr0 HAl Hnd0 Hzy hfs;clear hev0 Hok;have Hzv:Hid (ev.ty.size<=maxLen∧ev.key.size<=maxLen∧ev.id.size<=maxLen):=Hzy;clear Hzy
   go_wp2_with fail
   go_cut [8] from 13 to 91 (fun pv wx=>CutG wr ev pa cp aa ca ga cg pv wx)
   case first =>
    clear HNo HYes Hvf HNd HFr0 HAl Hnd0 hfs Hzv hts htl htn hfl
    go_region_with (first
     | (go_at_call 103;refine (hev.out _ (by with_reducible (repeat refine .drew ?_);exact hrf)).mono ?_;rintro e w2 ⟨hee,hb2'⟩;have hef:e=.returned (.agg #[.string ev.id,.string ev.sd,.string ev.ty,.bool ev.st,.string ev.key,.int .i64 ev.tm,.slice pa ev.np cp,.slice aa ev.na ca,.string ev.val,.slice ga ev.ng cg]):=hee;clear hee;subst hef;have hb2:Below wr.heap.size wr w2:=Below.trans (by with_reducible (repeat refine .drew ?_);exact hrf) hb2')
     | (go_at_call 103;(refine (hev.out _ (by with_reducible (repeat refine .drew ?_);exact hal)).mono ?_;rintro e w2 ⟨hee,hb2'⟩;have hef:e=.returned (.agg #[.string ev.id,.string ev.sd,.string ev.ty,.bool ev.st,.string ev.key,.int .i64 ev.tm,.slice pa ev.np cp,.slice aa ev.na ca,.string ev.val,.slice ga ev.ng cg]):=hee;clear hee;subst hef;have hs2:wr.heap.size<w2.heap.size:=nT (by simp) hb2'.size;have hb2:Below wr.heap.size wr w2:=Below.trans (by with_reducible (repeat refine .drew ?_);exact hal) (hb2'.mono (by simp));have hz:∀ o,o<10->∃ v,w2.cell? ⟨wr.heap.size,o,none⟩=some v:=fun o ho=>(zero_ev wr o ho).imp fun v hv=>(hb2'.cell (p:=⟨wr.heap.size,o,none⟩) (by simp)).trans hv;obtain ⟨z0,y0⟩:=hz 0 (by decide);obtain ⟨z1,y1⟩:=hz 1 (by decide);obtain ⟨z2,y2⟩:=hz 2 (by decide);obtain ⟨z3,y3⟩:=hz 3 (by decide);obtain ⟨z4,y4⟩:=hz 4 (by decide);obtain ⟨z5,y5⟩:=hz 5 (by decide);obtain ⟨z6,y6⟩:=hz 6 (by decide);obtain ⟨z7,y7⟩:=hz 7 (by decide);obtain ⟨z8,y8⟩:=hz 8 (by decide);obtain ⟨z9,y9⟩:=hz 9 (by decide);clear hz;have hf:∀ o,w2.frozen? ⟨wr.heap.size,o,none⟩=false:=fun o=>(hb2'.frozen (p:=⟨wr.heap.size,o,none⟩) (by simp)).trans (kF rfl))))
    all_goals (try go_wp2_with fail)
    all_goals go_meet
    all_goals first
     | with_reducible exact cutG_a hb2
     | with_reducible exact cutG_b hb2 hs2 y0 y1 y2 y3 y4 y5 y6 y7 y8 y9
   case rest =>
    obtain ⟨B,rfl,hBl,hcells,hbc⟩:=hcut;obtain ⟨w5,hw5⟩:∃ w5:World,w5=wc:=⟨_,rfl⟩;subst hw5;have hBc:=hB.trans (hbc.mono hso);have hbwc:=hb0.trans (hBc.mono hb0.size);have x0c:=hbx.out _ hBc;obtain ⟨c0,c1,c2,c3,c4,c5,c6,c7,c8,c9⟩:=hcells;simp only [Nat.zero_add] at c1 c2 c3 c4 c5 c6 c7 c8 c9;have hts5:Hid (SlE w5 ta tc l):=hts.out.below hbc;clear hck hck1 x01 hal hev x0 hts hrf;cases hst:ev.st
    case false =>
     rw [hst] at c3;have HN:Hid (tryL E n s (lsT S (k+1))=l):=HNo.out (Or.inl hst);clear HNo HYes Hvf HNd HFr0 HAl Hnd0 hfs hst;go_wp2
     go_roundw
     case rel=>exact ⟨k+1,by omega,by go_num,ta,tc,tn,l,rfl,htn.out,hts5.out,HN.out.symm,hBc⟩
     simp [intOf];omega
    case true =>
     have Hfs:Hid (fit1 E n ⟨ev.ty,ev.key,ev.id⟩=true):=by
      rcases hfs.out with h1|h1
      ·exact h1
      rw [hst] at h1;cases h1
     have hEV:ev.val' pa cp aa ca ga cg=.agg #[.string ev.id,.string ev.sd,.string ev.ty,.bool true,.string ev.key,.int .i64 ev.tm,.slice pa ev.np cp,.slice aa ev.na ca,.string ev.val,.slice ga ev.ng cg]:=by
      show (.agg #[.string ev.id,.string ev.sd,.string ev.ty,.bool ev.st,.string ev.key,.int .i64 ev.tm,.slice pa ev.np cp,.slice aa ev.na ca,.string ev.val,.slice ga ev.ng cg]:Value)=.agg #[.string ev.id,.string ev.sd,.string ev.ty,.bool true,.string ev.key,.int .i64 ev.tm,.slice pa ev.np cp,.slice aa ev.na ca,.string ev.val,.slice ga ev.ng cg]
      rw [hst]
     rw [hst] at c3;have HS13:Hid (∀ W,Below w5.heap.size w5 W->W.cell? ⟨w.heap.size,0,none⟩=some (.slice (some ⟨be,oe,none⟩) n cap)∧W.cell? ⟨B,0,none⟩=some (.string ev.id)∧W.cell? ⟨B,1,none⟩=some (.string ev.sd)∧W.cell? ⟨B,2,none⟩=some (.string ev.ty)∧W.cell? ⟨B,3,none⟩=some (.bool true)∧W.cell? ⟨B,4,none⟩=some (.string ev.key)∧W.cell? ⟨B,5,none⟩=some (.int .i64 ev.tm)∧W.cell? ⟨B,6,none⟩=some (.slice pa ev.np cp)∧W.cell? ⟨B,7,none⟩=some (.slice aa ev.na ca)∧W.cell? ⟨B,8,none⟩=some (.string ev.val)∧W.cell? ⟨B,9,none⟩=some (.slice ga ev.ng cg)):=fun W hW=>⟨hbx.out _ (hBc.trans (hW.mono hBc.size)),(hW.cell (by exact hBl)).trans c0,(hW.cell (by exact hBl)).trans c1,(hW.cell (by exact hBl)).trans c2,(hW.cell (by exact hBl)).trans c3,(hW.cell (by exact hBl)).trans c4,(hW.cell (by exact hBl)).trans c5,(hW.cell (by exact hBl)).trans c6,(hW.cell (by exact hBl)).trans c7,(hW.cell (by exact hBl)).trans c8,(hW.cell (by exact hBl)).trans c9⟩
     have HNo2:Hid (alV (evO E n (viewL E n l ev)) ev≠0->tryL E n s (lsT S (k+1))=l):=fun hn=>HNo.out (Or.inr hn)
     have HYes2:Hid (alV (evO E n (viewL E n l ev)) ev=0->tryL E n s (lsT S (k+1))=setL l ⟨ev.ty,ev.key,ev.id⟩ false):=HYes.out hst;rw [hEV] at HNd HFr0 HAl;have hNd5:Hid (Calls Tryz.prog 127 #[.agg #[.string ev.id,.string ev.sd,.string ev.ty,.bool true,.string ev.key,.int .i64 ev.tm,.slice pa ev.np cp,.slice aa ev.na ca,.string ev.val,.slice ga ev.ng cg]] w5 (NdPost w5 ev)):=HNd.out w5 hbwc;clear HNo HYes HNd hfs hst hEV
     go_wp2_with fail
     refine hNd5.out.mono ?_;rintro e w6 ⟨v6,rfl,ho6,hb6⟩;have hB6:=hbc.trans (hb6.mono hbc.size);obtain ⟨na,nc,e6,hso6⟩:=ho6.sl;subst e6;rcases hso6.cells with hq|⟨nb,no,rfl,hnb,hn1,hn2⟩
     ·exact absurd hq Hnd0.out
     have Hn12:Hid (∀ i,i<(ndL ev).length->w6.cell? ⟨nb,no+i * 2,none⟩=some (.string (eAt (ndL ev) i).ty)∧w6.cell? ⟨nb,no+i * 2+1,none⟩=some (.string (eAt (ndL ev) i).key)):=fun i hi=>⟨hn1 i hi,hn2 i hi⟩
     have hnl:=nd_lenS ev;obtain ⟨nl,hnl0⟩:∃ nl,nl=(ndL ev).length:=⟨_,rfl⟩;rw [<- hnl0] at hnl;have Hnl:Hid (nl=(ndL ev).length):=hnl0;rw [<- hnl0];clear hnl0 hn1 hn2 hso6 ho6 hNd5;have hw6:Below w5.heap.size w5 w6:=hb6;have hoN:OwnE (w6.alloc (.cells #[] 79)) w6.heap.size (.slice (some ⟨w6.heap.size,0,none⟩) 0 0) []:=OwnE.new w6 _ nL;obtain ⟨wn,hwn⟩:∃ wn,wn=w6.alloc (.cells #[] 79):=⟨_,rfl⟩;have hb6n:Below w6.heap.size w6 wn:=by rw [hwn];exact bA
     have h5n:=hw6.trans (hb6n.mono hw6.size)
     have hvN:Hid (SlE wn (some ⟨w6.heap.size,0,none⟩) 0 []):=by
      rw [hwn];obtain ⟨a1,c1',e1,hs1⟩:=hoN.sl (fun i hi=>absurd hi (Nat.not_lt_zero _));injection e1 with e11 _ e13
      subst e11 e13;exact hs1
     clear hoN
     go_wp2_with fail
     rw [<- hwn];clear hwn
     go_loopw [10,11] (fun v jv wi=>∃ j:Nat,j<=nl∧jv=.int .i64 (j:Int)∧TyRel wn (viewTo E n l ev j) v wi) (fun _ jv _=>nl - (intOf jv).toNat)
     case atStart=>exact ⟨0,nz,rfl,_,0,0,[],rfl,rfl,hvN.out,rfl,kB⟩
     case round =>
      clear hvN;obtain ⟨j,hj,rfl,ga1,gc1,gn,vl,rfl,hgn,hgs,hgl,hBi⟩:=hrel;have h6i:=hb6n.trans (hBi.mono hb6n.size);have h5i:=h5n.trans (hBi.mono h5n.size);have hBbi:=hBc.trans (h5i.mono hBc.size);have hbwi:=hb0.trans (hBbi.mono hb0.size)
      by_cases hltj:j<nl
      ·obtain ⟨y1,y2⟩:=Hn12.out j (by rw [<- Hnl.out];exact hltj)
       have HVs:Hid (∀ z,z=(if (findB l (eAt (ndL ev) j).ty (eAt (ndL ev) j).key).toList.isEmpty then frV E n (evP (eAt (ndL ev) j).ty (eAt (ndL ev) j).key) ev else findB l (eAt (ndL ev) j).ty (eAt (ndL ev) j).key)->setL vl ⟨(eAt (ndL ev) j).ty,(eAt (ndL ev) j).key,z⟩ false=viewTo E n l ev (j+1)):=fun z hz=>by
        subst hz;rw [hgl.out];rfl
       obtain ⟨x,hx⟩:∃ x,x=eAt (ndL ev) j:=⟨_,rfl⟩;rw [<- hx] at y1 y2 HVs;clear hx
       have HS2:Hid (∀ W,Below wr.heap.size wr W->W.cell? ⟨nb,no+j * 2,none⟩=some (.string x.ty)∧W.cell? ⟨nb,no+j * 2+1,none⟩=some (.string x.key)):=fun W hW=>by
        have h6W:=h6i.trans (hW.mono h6i.size);exact ⟨(h6W.cell (by exact hnb)).trans y1,(h6W.cell (by exact hnb)).trans y2⟩
       have HS13i:Hid (∀ W,Below wr.heap.size wr W->W.cell? ⟨w.heap.size,0,none⟩=some (.slice (some ⟨be,oe,none⟩) n cap)∧W.cell? ⟨B,0,none⟩=some (.string ev.id)∧W.cell? ⟨B,1,none⟩=some (.string ev.sd)∧W.cell? ⟨B,2,none⟩=some (.string ev.ty)∧W.cell? ⟨B,3,none⟩=some (.bool true)∧W.cell? ⟨B,4,none⟩=some (.string ev.key)∧W.cell? ⟨B,5,none⟩=some (.int .i64 ev.tm)∧W.cell? ⟨B,6,none⟩=some (.slice pa ev.np cp)∧W.cell? ⟨B,7,none⟩=some (.slice aa ev.na ca)∧W.cell? ⟨B,8,none⟩=some (.string ev.val)∧W.cell? ⟨B,9,none⟩=some (.slice ga ev.ng cg)∧W.cell? ⟨nb,no+j * 2,none⟩=some (.string x.ty)∧W.cell? ⟨nb,no+j * 2+1,none⟩=some (.string x.key)):=fun W hW=>by
        obtain ⟨f0,f1,f2,f3,f4,f5,f6,f7,f8,f9,f10⟩:=HS13.out W (h5i.trans (hW.mono h5i.size));exact ⟨f0,f1,f2,f3,f4,f5,f6,f7,f8,f9,f10,HS2.out W hW⟩
       have hfl2:(vl).length<=1000:=by rw [hgl.out];have:=(Hvf.out j).len Hroom.out;omega
       have HSe0:∀ z,z=(if (findB l x.ty x.key).toList.isEmpty then frV E n (evP x.ty x.key) ev else findB l x.ty x.key)->∀ W,Below wr.heap.size wr W->Calls Tryz.prog 38 #[.slice ga1 gn gc1,entV ⟨x.ty,x.key,z⟩,.bool false] W (StP wr (viewTo E n l ev (j+1))):=fun z hz W hW=>by
        rw [hgn.out];refine (set_sl ⟨x.ty,x.key,z⟩ false W (by omega) (hgs.out.below hW)).mono fun e w' hp=>?_
        rw [HVs.out z hz] at hp;exact stP_of hW hp ((Hvf.out (j+1)).ok Hz.out)
       have HFi0:∀ W,Below wr.heap.size wr W->Calls Tryz.prog 39 #[.slice ta tn tc,.string x.ty,.string x.key] W fun e w'=>e=.returned (.string (findB l x.ty x.key))∧Below wr.heap.size wr w':=fun W hW=>by
        rw [htn.out];have h5W:=h5i.trans (hW.mono h5i.size);refine (l4Find_sl x.ty x.key W (hts5.out.below h5W)).mono ?_;rintro e w' ⟨rfl,hb⟩;exact ⟨rfl,hW.trans (hb.mono hW.size)⟩
       have HFr1:∀ W,Below wr.heap.size wr W->Calls Tryz.prog 218 #[.agg #[.slice (some ⟨be,oe,none⟩) n cap],.agg #[.string ev.id,.string ev.sd,.string ev.ty,.bool true,.string ev.key,.int .i64 ev.tm,.slice pa ev.np cp,.slice aa ev.na ca,.string ev.val,.slice ga ev.ng cg],.string x.ty,.string x.key] W fun e w'=>e=.returned (.string (frV E n (evP x.ty x.key) ev))∧Below wr.heap.size wr w':=fun W hW=>by
        refine (HFr0.out W x.ty x.key (hbwi.trans (hW.mono hbwi.size))).mono ?_;rintro e w' ⟨rfl,hb⟩;exact ⟨rfl,hW.trans (hb.mono hW.size)⟩
       obtain ⟨idf,hidf⟩:∃ idf,idf=findB l x.ty x.key:=⟨_,rfl⟩;obtain ⟨idr,hidr⟩:∃ idr,idr=frV E n (evP x.ty x.key) ev:=⟨_,rfl⟩;rw [<- hidf,<- hidr] at HSe0;rw [<- hidf] at HFi0;rw [<- hidr] at HFr1;have HFi:Hid (_):=HFi0;have HFr:Hid (_):=HFr1;have hrf:Below wr.heap.size wr wr:=kB;have hj64:(j:Int)<9223372036854775807:=by omega
       clear hidf hidr HFi0 HFr1 y1 y2 HVs hfl2;cases hemp:idf.toList.isEmpty
       case false =>
        have HSe:Hid (∀ z,z=idf->∀ W,Below wr.heap.size wr W->Calls Tryz.prog 38 #[.slice ga1 gn gc1,entV ⟨x.ty,x.key,z⟩,.bool false] W (StP wr (viewTo E n l ev (j+1)))):=fun z hz=>HSe0 z (by rw [hz,hemp];rfl)
        clear HSe0;have HS13:=HS13i
        go_wp2_with fail
        refine wp_region_held_drew (S:=fun W=>W.cell? ⟨nb,no+j * 2,none⟩=some (.string x.ty)∧W.cell? ⟨nb,no+j * 2+1,none⟩=some (.string x.key)) (by kernel_rfl) ?_ (fun hHeld=>?_)
        ·(try dsimp only);exact HS2.out _ (by with_reducible (repeat refine .drew ?_);exact hrf)
        refine tq 0 rfl ?_;simp only [si];refine tq 1 rfl ?_;simp only [si];refine tq 2 rfl ?_;simp only [si];refine tq 3 rfl ?_;simp only [si];refine tq 4 rfl ?_;simp only [si];refine tq 5 rfl ?_;simp only [si];refine tq 6 rfl ?_;simp only [si];refine tq 7 rfl ?_;simp only [si];refine tq 8 rfl ?_;simp only [si];refine tq 9 rfl ?_;simp only [si];refine tq 10 rfl ?_;simp only [si];refine rd 11 rfl fun K hK=>?_
        go_simp
        go_at_call 39
        refine (HFi.out _ (by with_reducible (repeat refine .drew ?_);exact hrf)).mono ?_;rintro e w8 ⟨rfl,hb8⟩;try dsimp only
        refine hK.out _ _ ?_ (fun hHeld=>?_)
        ·(try dsimp only);exact HS2.out _ (by with_reducible (repeat refine .drew ?_);exact hb8)
        clear hK K;try simp only [si]
        refine tq 12 rfl ?_;simp only [si];refine wpAnyH_done (by kernel_rfl) ?_ _
        go_wp2_with fail
        refine wp_region_held_drew (S:=fun W=>W.cell? ⟨nb,no+j * 2,none⟩=some (.string x.ty)∧W.cell? ⟨nb,no+j * 2+1,none⟩=some (.string x.key)) (by kernel_rfl) ?_ (fun hHeld=>?_)
        ·(try dsimp only);exact HS2.out _ (by with_reducible (repeat refine .drew ?_);exact hb8)
        refine tq 0 rfl ?_;simp only [si];refine tq 1 rfl ?_;simp only [si];refine tq 2 rfl ?_;simp only [si];refine tq 3 rfl ?_;simp only [si];refine tq 4 rfl ?_;simp only [si];refine tq 5 rfl ?_;simp only [si];refine tq 6 rfl ?_;simp only [si];refine tq 7 rfl ?_;simp only [si];refine tq 8 rfl ?_;simp only [si];refine tq 9 rfl ?_;simp only [si];refine tq 10 rfl ?_;simp only [si];refine tq 11 rfl ?_;simp only [si];refine tq 12 rfl ?_;simp only [si];refine rd 13 rfl fun K hK=>?_
        go_simp
        go_at_call 38
        refine (HSe.out idf rfl _ (by with_reducible (repeat refine .drew ?_);exact hb8)).mono ?_;rintro e w10 ⟨va,vc,vn,vl2,rfl,hvn2,hvs2,hve2,hb10⟩;try dsimp only
        refine hK.out _ _ ?_ (fun hHeld=>?_)
        ·(try dsimp only);exact HS2.out _ (by with_reducible (repeat refine .drew ?_);exact hb10)
        clear hK K;try simp only [si]
        refine tq 14 rfl ?_;simp only [si];refine wpAnyH_done (by kernel_rfl) ?_ _;clear HFi HFr HSe
        (try go_wp2)
        first
         | exact ⟨⟨j+1,by omega,by go_num,va,vc,vn,vl2,rfl,hvn2,hvs2,hve2.out,hBi.trans (hb10.mono hBi.size)⟩,by simp [intOf];omega⟩
         | exact ⟨⟨j+1,by omega,by go_num,va,vc,vn,vl2,rfl,hvn2,hvs2.out.below kB.drew,hve2.out,(hBi.trans (hb10.mono hBi.size)).drew⟩,by simp [intOf];omega⟩
       case true =>
        have HSe:Hid (∀ z,z=idr->∀ W,Below wr.heap.size wr W->Calls Tryz.prog 38 #[.slice ga1 gn gc1,entV ⟨x.ty,x.key,z⟩,.bool false] W (StP wr (viewTo E n l ev (j+1)))):=fun z hz=>HSe0 z (by rw [hz,hemp];rfl)
        clear HSe0;have HS13:=HS13i
        have hie:idf=⟨#[]⟩:=by
         refine ba_inj ?_
         have:idf.toList=[]:=by simpa using hemp
         rw [ByteArray.toList_eq] at this;exact this
        subst hie
        go_wp2_with fail
        refine wp_region_held_drew (S:=fun W=>W.cell? ⟨nb,no+j * 2,none⟩=some (.string x.ty)∧W.cell? ⟨nb,no+j * 2+1,none⟩=some (.string x.key)) (by kernel_rfl) ?_ (fun hHeld=>?_)
        ·(try dsimp only);exact HS2.out _ (by with_reducible (repeat refine .drew ?_);exact hrf)
        refine tq 0 rfl ?_;simp only [si];refine tq 1 rfl ?_;simp only [si];refine tq 2 rfl ?_;simp only [si];refine tq 3 rfl ?_;simp only [si];refine tq 4 rfl ?_;simp only [si];refine tq 5 rfl ?_;simp only [si];refine tq 6 rfl ?_;simp only [si];refine tq 7 rfl ?_;simp only [si];refine tq 8 rfl ?_;simp only [si];refine tq 9 rfl ?_;simp only [si];refine tq 10 rfl ?_;simp only [si];refine rd 11 rfl fun K hK=>?_
        go_simp
        go_at_call 39
        refine (HFi.out _ (by with_reducible (repeat refine .drew ?_);exact hrf)).mono ?_;rintro e w8 ⟨rfl,hb8⟩;try dsimp only
        refine hK.out _ _ ?_ (fun hHeld=>?_)
        ·(try dsimp only);exact HS2.out _ (by with_reducible (repeat refine .drew ?_);exact hb8)
        clear hK K;try simp only [si]
        refine tq 12 rfl ?_;simp only [si];refine wpAnyH_done (by kernel_rfl) ?_ _
        go_wp2_with fail
        refine wp_region_held_drew (S:=fun W=>W.cell? ⟨w.heap.size,0,none⟩=some (.slice (some ⟨be,oe,none⟩) n cap)∧W.cell? ⟨B,0,none⟩=some (.string ev.id)∧W.cell? ⟨B,1,none⟩=some (.string ev.sd)∧W.cell? ⟨B,2,none⟩=some (.string ev.ty)∧W.cell? ⟨B,3,none⟩=some (.bool true)∧W.cell? ⟨B,4,none⟩=some (.string ev.key)∧W.cell? ⟨B,5,none⟩=some (.int .i64 ev.tm)∧W.cell? ⟨B,6,none⟩=some (.slice pa ev.np cp)∧W.cell? ⟨B,7,none⟩=some (.slice aa ev.na ca)∧W.cell? ⟨B,8,none⟩=some (.string ev.val)∧W.cell? ⟨B,9,none⟩=some (.slice ga ev.ng cg)∧W.cell? ⟨nb,no+j * 2,none⟩=some (.string x.ty)∧W.cell? ⟨nb,no+j * 2+1,none⟩=some (.string x.key)) (by kernel_rfl) ?_ (fun hHeld=>?_)
        ·(try dsimp only);exact HS13.out _ (by with_reducible (repeat refine .drew ?_);exact hb8)
        refine tq 0 rfl ?_;simp only [si];refine tq 1 rfl ?_;simp only [si];refine tq 2 rfl ?_;simp only [si];refine tq 3 rfl ?_;simp only [si];refine tq 4 rfl ?_;simp only [si];refine tq 5 rfl ?_;simp only [si];refine tq 6 rfl ?_;simp only [si];refine tq 7 rfl ?_;simp only [si];refine tq 8 rfl ?_;simp only [si];refine tq 9 rfl ?_;simp only [si];refine tq 10 rfl ?_;simp only [si];refine tq 11 rfl ?_;simp only [si];refine rd 12 rfl fun K hK=>?_
        go_simp
        go_at_call 218
        refine (HFr.out _ (by with_reducible (repeat refine .drew ?_);exact hb8)).mono ?_;rintro e w9 ⟨rfl,hb9⟩;try dsimp only
        refine hK.out _ _ ?_ (fun hHeld=>?_)
        ·(try dsimp only);exact HS13.out _ (by with_reducible (repeat refine .drew ?_);exact hb9)
        clear hK K;try simp only [si]
        refine tq 13 rfl ?_;simp only [si];refine wpAnyH_done (by kernel_rfl) ?_ _
        go_wp2_with fail
        refine wp_region_held_drew (S:=fun W=>W.cell? ⟨nb,no+j * 2,none⟩=some (.string x.ty)∧W.cell? ⟨nb,no+j * 2+1,none⟩=some (.string x.key)) (by kernel_rfl) ?_ (fun hHeld=>?_)
        ·(try dsimp only);exact HS2.out _ (by with_reducible (repeat refine .drew ?_);exact hb9)
        refine tq 0 rfl ?_;simp only [si];refine tq 1 rfl ?_;simp only [si];refine tq 2 rfl ?_;simp only [si];refine tq 3 rfl ?_;simp only [si];refine tq 4 rfl ?_;simp only [si];refine tq 5 rfl ?_;simp only [si];refine tq 6 rfl ?_;simp only [si];refine tq 7 rfl ?_;simp only [si];refine tq 8 rfl ?_;simp only [si];refine tq 9 rfl ?_;simp only [si];refine tq 10 rfl ?_;simp only [si];refine tq 11 rfl ?_;simp only [si];refine tq 12 rfl ?_;simp only [si];refine rd 13 rfl fun K hK=>?_
        go_simp
        go_at_call 38
        refine (HSe.out idr rfl _ (by with_reducible (repeat refine .drew ?_);exact hb9)).mono ?_;rintro e w10 ⟨va,vc,vn,vl2,rfl,hvn2,hvs2,hve2,hb10⟩;try dsimp only
        refine hK.out _ _ ?_ (fun hHeld=>?_)
        ·(try dsimp only);exact HS2.out _ (by with_reducible (repeat refine .drew ?_);exact hb10)
        clear hK K;try simp only [si]
        refine tq 14 rfl ?_;simp only [si];refine wpAnyH_done (by kernel_rfl) ?_ _;clear HFi HFr HSe
        (try go_wp2)
        first
         | exact ⟨⟨j+1,by omega,by go_num,va,vc,vn,vl2,rfl,hvn2,hvs2,hve2.out,hBi.trans (hb10.mono hBi.size)⟩,by simp [intOf];omega⟩
         | exact ⟨⟨j+1,by omega,by go_num,va,vc,vn,vl2,rfl,hvn2,hvs2.out.below kB.drew,hve2.out,(hBi.trans (hb10.mono hBi.size)).drew⟩,by simp [intOf];omega⟩
      have hjl:nl=j:=by omega
      subst hjl;have Hvl:Hid (vl=viewL E n l ev):=by unfold Hid viewL;rw [<- Hnl.out];exact hgl.out
      have HA:Hid (Calls Tryz.prog 30 #[.agg #[.slice (some ⟨be,oe,none⟩) n cap],.slice ga1 gn gc1,.agg #[.string ev.id,.string ev.sd,.string ev.ty,.bool true,.string ev.key,.int .i64 ev.tm,.slice pa ev.np cp,.slice aa ev.na ca,.string ev.val,.slice ga ev.ng cg]] wr fun x w'=>x=.returned (.int .i64 (alV (evO E n (viewL E n l ev)) ev))∧Below wr.heap.size wr w'):=by
       have:=HAl.out wr ga1 gc1 hbwi (by rw [<- Hvl.out];exact hgs.out);rw [<- Hvl.out,<- hgn.out] at this;rw [<- Hvl.out];exact this
      obtain ⟨q0,q1,q2,q3,q4,q5,q6,q7,q8,q9,q10⟩:=HS13.out _ h5i;obtain ⟨al,hal0⟩:∃ al,al=alV (evO E n (viewL E n l ev)) ev:=⟨_,rfl⟩;rw [<- hal0] at HA HNo2 HYes2;clear hal0 HAl HFr0 hgs hgl Hvl hgn
      go_wp2_with fail
      refine HA.out.mono ?_;rintro e w7 ⟨rfl,hb7⟩;have h57:=h5i.trans (hb7.mono h5i.size);have hB7:=hBc.trans (h57.mono hBc.size)
      by_cases hal:al=0
      ·subst hal
       have HSt:Hid (Calls Tryz.prog 38 #[.slice ta tn tc,entV ⟨ev.ty,ev.key,ev.id⟩,.bool false] w7 (StP w7 (tryL E n s (lsT S (k+1))))):=by
        rw [htn.out];refine (set_sl ⟨ev.ty,ev.key,ev.id⟩ false w7 (by have:=hfl.len Hroom.out;omega) (hts5.out.below h57)).mono fun e w' hp=>?_
        rw [<- HYes2.out rfl] at hp;exact stP_of kB hp ((HFk.out (k+1) (by omega)).ok Hz.out)
       obtain ⟨p0,p1,p2,p3,p4,p5,p6,p7,p8,p9,p10⟩:=HS13.out _ h57;clear HA HYes2 HNo2 q0 q1 q2 q3 q4 q5 q6 q7 q8 q9 q10
       go_wp2_with fail
       refine HSt.out.mono ?_;rintro e w8 ⟨va,vc,vn,vl2,rfl,hvn2,hvs2,hve2,hb8⟩;clear HSt;go_wp2
       first
        | exact ⟨⟨k+1,by omega,by go_num,va,vc,vn,vl2,rfl,hvn2,hvs2,hve2.out,hB7.trans (hb8.mono hB7.size)⟩,by simp [intOf];omega⟩
        | exact ⟨⟨k+1,by omega,by go_num,va,vc,vn,vl2,rfl,hvn2,hvs2.out.below kB.drew,hve2.out,(hB7.trans (hb8.mono hB7.size)).drew⟩,by simp [intOf];omega⟩
      have HN:Hid (tryL E n s (lsT S (k+1))=l):=HNo2.out hal;have hab:(al == 0)=false:=by simpa using hal
      have hts7:Hid (SlE w7 ta tc l):=hts5.out.below h57;clear HA HYes2 HNo2 hal q0 q1 q2 q3 q4 q5 q6 q7 q8 q9 q10;go_wp2
      exact ⟨⟨k+1,by omega,by go_num,ta,tc,tn,l,rfl,htn.out,hts7.out,HN.out.symm,hB7⟩,by simp [intOf];omega⟩
  have hkm:m=k:=by omega
  subst hkm
  have HP:Hid (TyPost w (tryL E n s (lsT S m)) (.returned (.slice ta tn tc)) wr):=by
   rw [htn.out,<- htl.out];exact ⟨ta,tc,rfl,hts.out,hbw⟩
  clear hts htl htn hfl;go_wp2
  go_ret;exact HP.out
theorem l6Try_sl {s:List Ent}(w:World)(hroom:roomTo E n=true)(hfit:FitL E n s)(hm:m<=300)(hth:∀ i,i<m->0<=posV E n (S i))(h:SlV w a n cap E)(hs:SlE w sa sc s)(hids:SlS w ia m icap S) :
  Calls Tryz.prog 230 #[.agg #[.slice a n cap],.slice sa s.length sc,.slice ia m icap] w (TyPost w (tryL E n s (lsT S m))):=by
 rcases Nat.eq_zero_or_pos m with rfl|hm0
 ·exact l6Try_none w hs
 rcases h.cells with h0|⟨be,oe,rfl,hbe,hce⟩
 ·have:=hth 0 hm0
  have:=posV_bd E (S 0) n;omega
 exact l6Try_any w hroom hfit hm hth h hbe hce hs hids
end Go.Proofs.YtkdalopokdhndaaGreat
