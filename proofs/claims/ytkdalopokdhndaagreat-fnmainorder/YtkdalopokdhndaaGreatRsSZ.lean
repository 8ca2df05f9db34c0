import Derived.Test.YtkdalopokdhndaaGreatTrS
import Derived.Test.YtkdalopokdhndaaGreatCfS
import Derived.Test.YtkdalopokdhndaaGreatPoS
set_option maxHeartbeats 16000000
set_option maxRecDepth 100000
namespace Go.Proofs.YtkdalopokdhndaaGreat
open Go.RowKit
variable {L:Nat->List Ent}{k m n sc cap:Nat}{E:Nat->Ev}{s:ByteArray}{a sa:Option Addr}
def RsPost (w:World)(E:Nat->Ev)(n:Nat)(L:Nat->List Ent)(m:Nat)(e:Ending)(w':World):Prop:=∃ v l,e=.returned v∧OwnE w' w.heap.size v l∧ResR E n L m l∧Below w.heap.size w w'
theorem lsT_getL (l:List ByteArray):lsT (getL l) l.length=l:=by
 refine List.ext_getElem (by rw [lsT_len]) fun i h1 h2=>?_
 simp [lsT,getL,List.getD,List.getElem?_eq_getElem h2]
theorem same_is {Se:List Ent}{So:List ByteArray}(hok:okTo L m=true)(h:SpFin L m Se So):Se=saI L m m :=
 (spFin_unique h (spFin_of hok h.srtO (fun t=>(h.memO t).trans (otI_in L m t m).symm))).1
theorem idQ_pos (h:s=⟨#[]⟩∨0<=posV E n s)(hr:roomTo E n=true):idQ E (posV E n s)=s:=by
 unfold idQ;rcases h with rfl|h
 ·rw [posV_empty hr emp_id,if_neg (by decide)]
 obtain ⟨p,hp,e,ei⟩:=posV_nat h;rw [if_pos h,e,Int.toNat_natCast,ei]
def lft (f o:List ByteArray)(k:Nat):List ByteArray:=(f.take k).filter fun s=>!hasB (getL o) o.length s
theorem lft_yes {f o:List ByteArray}(hk:k<f.length)(h:getL f k ∉ o):lft f o (k+1)=lft f o k ++ [getL f k]:=by
 unfold lft;have e:f[k]=getL f k:=by simp [getL,List.getD,List.getElem?_eq_getElem hk]
 have h':hasB (getL o) o.length (getL f k)=false:=by
  cases q:hasB (getL o) o.length (getL f k)
  ·rfl
  exact absurd ((hasB_in o _).1 q) h
 rw [List.take_succ_eq_append_getElem hk,List.filter_append,e];simp [h']
theorem lft_no {f o:List ByteArray}(hk:k<f.length)(h:getL f k ∈ o):lft f o (k+1)=lft f o k:=by
 unfold lft;have e:f[k]=getL f k:=by simp [getL,List.getD,List.getElem?_eq_getElem hk]
 have h':hasB (getL o) o.length (getL f k)=true:=(hasB_in o _).2 h;rw [List.take_succ_eq_append_getElem hk,List.filter_append,e];simp [h']
theorem lft_mem (f o:List ByteArray)(s:ByteArray):s ∈ lft f o f.length↔s ∈ f∧s ∉ o:=by
 unfold lft;rw [List.take_length,List.mem_filter,<- hasB_in o s];cases hasB (getL o) o.length s <;> simp
def MiP (wr:World)(E:Nat->Ev)(n:Nat)(D:Nat->Nat)(R:List ByteArray)(e:Ending)(w':World):Prop :=
 ∃ a c nl l,e=.returned (.slice a nl c)∧Hid (nl=l.length)∧Hid (SlS w' a nl c (getL l))∧Hid (OrdL E n D l)∧Hid (∀ s,s ∈ l↔s ∈ R)∧Below wr.heap.size wr w'
def TiP (wr:World)(l:List Ent)(e:Ending)(w':World):Prop:=∃ a c nn l',e=.returned (.slice a nn c)∧Hid (nn=l'.length)∧Hid (SlE w' a c l')∧Hid (l'=l)∧Below wr.heap.size wr w'
theorem l6Rs_sl (w:World)(hroom:roomTo E n=true)(hm:m<=20)(hf:∀ i,i<m->FitL E n (L i))(h:SlV w a n cap E)(hs:SlEE w sa m sc L) :
  Calls Tryz.prog 191 #[.agg #[.slice a n cap],.slice sa m sc] w (RsPost w E n L m):=by
 obtain ⟨i0,hi,hz0,hz1,hz2⟩:=info_parts Tryz.infoString;have h300:=room_300 hroom;obtain ⟨wb,hwb⟩:∃ wb,wb=w.alloc (.cells #[.slice a n cap] 25):=⟨_,rfl⟩;have hb0:Below w.heap.size w wb:=by rw [hwb];exact bA
 have hs0:w.heap.size<wb.heap.size:=by rw [hwb];simp
 have hbx:Hid (∀ wx,Below wb.heap.size wb wx->wx.cell? ⟨w.heap.size,0,none⟩=some (.slice a n cap)):=fun wx hx=>by subst hwb;exact box_cells (hx.mono (by simp)) 0
 have hok:okTo L m=true:=okTo_fit hroom hf;have hsp:spOk L m=true:=by unfold spOk;rw [hok,decide_eq_true hm];rfl
 have Hz:Hid (∀ i,i<n->(E i).ty.size<=maxLen∧(E i).key.size<=maxLen∧(E i).id.size<=maxLen):=fun i hi'=>by
  rcases h.cells with h0|⟨b,off,_,_,hc⟩
  ·omega
  obtain ⟨_,_,_,_,_,_,_,hok⟩:=hc i hi';exact ⟨hok.hty,hok.hkey,hok.hid⟩
 have HsF:Hid (FitL E n (saI L m m)):=same_fit hroom hf;have HSp:Hid (Calls Tryz.prog 228 #[.slice sa m sc] wb (SpPost wb L m)):=spS_sl wb (hs.below hb0);have HCf:Hid (∀ W,Below w.heap.size w W->Calls Tryz.prog 229 #[.agg #[.slice a n cap],.slice sa m sc] W (FuPost W (CfP E n L m))):=fun W hW=>l6Cf_sl W hroom hm hf (h.below hW) (hs.below hW)
 have Hin:Hid (∀ s,CfP E n L m s->∃ j,j<n∧(E j).id=s):=fun s hc=>cfP_in hroom hf hc
 have HE:Hid (SlV w a n cap E):=h;have Hroom:Hid (_):=hroom;have Hok:Hid (okTo L m=true):=hok;have Hsp:Hid (spOk L m=true):=hsp;clear hroom h hs hf hok hsp
 go_enter Tryz.func191,Tryz.ntmps191
 go_wp2_with fail
 rw [<- hwb];clear hwb;refine HSp.out.mono ?_;rintro e w1 ⟨hb1,v1,u1,Se,So,rfl,hoE,hoO,hsp⟩
 have hSe:Se=saI L m m:=by
  rcases hsp with ⟨_,h1⟩|⟨h1,_⟩
  ·exact same_is Hok.out h1
  rw [Hsp.out] at h1;cases h1
 rw [Hsp.out];subst hSe;have hw1:=hb0.trans (hb1.mono hb0.size);have x1:=hbx.out _ hb1;obtain ⟨ea,ec,e1,hse⟩:=hoE.sl (fun i hi=>(HsF.out.ok Hz.out).at i hi);subst e1;have Hse:Hid (SlE w1 ea ec (saI L m m)):=hse;have hSl:(saI L m m).length<=300:=nZ (HsF.out.len Hroom.out) h300;clear hsp hoE hoO HSp Hsp hse;obtain ⟨Sm,hSm⟩:∃ Sm,Sm=saI L m m:=⟨_,rfl⟩
 have HR:Hid (∀ (f r:List ByteArray) (o:List Nat),(Srt f∧∀ s,s ∈ f↔CfP E n L m s)->PoOrd E n (getL f) f.length o->(OrdL E n (fun p:Nat=>dp E n (ln E n (posV E n (findB (tryL E n Sm (o.map fun p=>(E p).id)) tPow tNil))) (p:Int)) r∧∀ s,s ∈ r↔s ∈ f∧s ∉ o.map fun p=>(E p).id)->ResR E n L m (patL (tryL E n (tryL E n Sm (o.map fun p=>(E p).id)) r) Sm Sm.length)):=fun f r o h1 h2 h3=>by
  subst hSm;exact ⟨f,r,o,h1,h2,h3,rfl⟩
 rw [<- hSm] at Hse HsF hSl ⊢;clear hSm;obtain ⟨sl,hsl⟩:∃ sl,sl=Sm.length:=⟨_,rfl⟩;rw [<- hsl];have Hsl:Hid (sl=Sm.length):=hsl;rw [<- hsl] at hSl;clear hsl
 go_wp2_with fail
 refine (HCf.out _ hw1).mono ?_;rintro e w2 ⟨v2,f,rfl,ho2,hs2,hm2,hb2⟩;have hB2:=hb1.trans (hb2.mono hb1.size);have hw2:=hb0.trans (hB2.mono hb0.size);have x2:=hbx.out _ hB2;have Hff:Hid (Srt f∧∀ s,s ∈ f↔CfP E n L m s):=⟨hs2,hm2⟩;have HfI:Hid (∀ s ∈ f,∃ j,j<n∧(E j).id=s):=fun s hs=>Hin.out s ((hm2 s).1 hs)
 have HfP:Hid (∀ s ∈ f,0<=posV E n s):=fun s hs=>by
  obtain ⟨j,hj,rfl⟩:=HfI.out s hs;rw [posV_here Hroom.out hj];omega
 have hfl:f.length<=300:=nZ (ids_len Hroom.out hs2.nodup HfI.out) h300
 obtain ⟨fa,fc,e2,hfs,_⟩:=ho2.sl (fun s hs=>by
  obtain ⟨j,hj,rfl⟩:=HfI.out s hs;exact (Hz.out j hj).2.2)
 subst e2;have HPo:Hid (Calls Tryz.prog 50 #[.agg #[.slice a n cap],.slice fa f.length fc] w2 (LpPost w2 E n (getL f) f.length)):=l6Po_sl w2 Hroom.out hfl (fun i hi=>HfP.out _ (getL_mem hi)) (HE.out.below hw2) hfs;have Hfs:Hid (SlS w2 fa f.length fc (getL f)):=hfs;obtain ⟨fl,hfl0⟩:∃ fl,fl=f.length:=⟨_,rfl⟩;rw [<- hfl0] at HPo hfl Hfs ⊢;have Hfl:Hid (fl=f.length):=hfl0;clear hfl0 hfs ho2 hs2 hm2 HCf x1
 go_wp2_with fail
 refine HPo.out.mono ?_;rintro e w3 ⟨v3,o,rfl,ho3,hpo,hb3⟩;have hB3:=hB2.trans (hb3.mono hB2.size);have hw3:=hb0.trans (hB3.mono hb0.size);have x3:=hbx.out _ hB3;have Hpo:Hid (PoOrd E n (getL f) f.length o):=by have:=hpo;rw [Hfl.out] at this;exact this
 have HoP:Hid (∀ t ∈ o.map (fun p=>(E p).id),0<=posV E n t):=po_in Hroom.out hpo
 have hol:(o.map fun p=>(E p).id).length<=300:=by
  rw [List.length_map]
  have hnd:(o.map fun p=>(E p).id).Nodup:=List.pairwise_map.2 (List.Pairwise.imp_of_mem (fun {p q} hp hq hne e=>by
   have h1:=posV_here Hroom.out (hpo.lt p hp);have h2:=posV_here Hroom.out (hpo.lt q hq);rw [e,h2] at h1;exact hne (by omega)) hpo.1.nodup)
  have:=ids_len Hroom.out hnd (fun s hs=>by
   obtain ⟨p,hp,rfl⟩:=List.mem_map.1 hs;exact ⟨p,hpo.lt p hp,rfl⟩)
  rw [List.length_map] at this;omega
 obtain ⟨O,hO⟩:∃ O,O=o.map fun p=>(E p).id:=⟨_,rfl⟩
 have HRO:Hid (∀ r:List ByteArray,(OrdL E n (fun p:Nat=>dp E n (ln E n (posV E n (findB (tryL E n Sm O) tPow tNil))) (p:Int)) r∧∀ s,s ∈ r↔s ∈ f∧s ∉ O)->ResR E n L m (patL (tryL E n (tryL E n Sm O) r) Sm Sm.length)):=fun r h3=>by
  subst hO;exact HR.out f r o Hff.out Hpo.out h3
 rw [<- hO] at ho3 HoP hol;clear hO hpo Hpo HR HPo x2
 have HOz:Hid (∀ s ∈ O,s.size<=maxLen):=fun s hs=>by
  obtain ⟨p,hp,_,ei⟩:=posV_nat (HoP.out s hs);rw [<- ei];exact (Hz.out p hp).2.2
 obtain ⟨oa,oc,e3,hos,_⟩:=ho3.sl HOz.out;subst e3;have hs13:Below w1.heap.size w1 w3:=hb2.trans (hb3.mono hb2.size)
 have HTr1:Hid (Calls Tryz.prog 230 #[.agg #[.slice a n cap],.slice ea sl ec,.slice oa O.length oc] w3 (TyPost w3 (tryL E n Sm O))):=by
  have:=l6Try_sl (S:=getL O) w3 Hroom.out HsF.out hol (fun i hi=>HoP.out _ (getL_mem hi)) (HE.out.below hw3) (Hse.out.below hs13) hos;rw [lsT_getL,<- Hsl.out] at this;exact this
 have Hos:Hid (SlS w3 oa O.length oc (getL O)):=hos;obtain ⟨ol,hol0⟩:∃ ol,ol=O.length:=⟨_,rfl⟩;have HhO:Hid (∀ s,hasB (getL O) ol s=true↔s ∈ O):=fun s=>by rw [hol0];exact hasB_in O s
 rw [<- hol0] at HTr1 Hos hol ⊢;clear hol0 hos ho3;have Ht1:Hid (FitL E n (tryL E n Sm O)):=FitL.tryL Hroom.out HsF.out HoP.out;obtain ⟨s1,hs1⟩:∃ s1,s1=tryL E n Sm O:=⟨_,rfl⟩;rw [<- hs1] at HTr1 Ht1 HRO;clear hs1
 go_wp2_with fail
 refine HTr1.out.mono ?_;rintro e w4 ⟨ta,tc,rfl,hts,hb4⟩;have hB4:=hB3.trans (hb4.mono hB3.size);have hw4:=hb0.trans (hB4.mono hb0.size);have h34:Below w3.heap.size w3 w4:=hb4;have h24:=hb3.trans (hb4.mono hb3.size);have h14:=hs13.trans (hb4.mono hs13.size);have Hts:Hid (SlE w4 ta tc s1):=hts;have hs1l:s1.length<=300:=nZ (Ht1.out.len Hroom.out) h300;obtain ⟨tn,htn0⟩:∃ tn,tn=s1.length:=⟨_,rfl⟩;rw [<- htn0] at hs1l ⊢;have Htn:Hid (tn=s1.length):=htn0;clear htn0 hts HTr1 x3;have hoN:OwnL (w4.alloc (.cells #[] 9)) w4.heap.size (.slice (some ⟨w4.heap.size,0,none⟩) 0 0) (lft f O 0):=OwnL.new w4 _ nL;have hbN:Below w4.heap.size w4 (w4.alloc (.cells #[] 9)):=bA
 go_wp2_with fail
 go_loopw [11,12] (fun v i wr=>∃ (k g mm cp:Nat),k<=fl∧i=.int .i64 (k:Int)∧v=.slice (some ⟨g,0,none⟩) mm cp∧Hid (mm=(lft f O k).length)∧mm<=k∧OwnL wr w4.heap.size (.slice (some ⟨g,0,none⟩) mm cp) (lft f O k)∧Below w4.heap.size w4 wr) (fun _ i _=>fl - (intOf i).toNat)
 case atStart=>exact ⟨0,_,0,0,nz,rfl,rfl,rfl,nL,hoN,hbN⟩
 case round =>
  clear hbN hoN;obtain ⟨k,g,mm,cp,hk,rfl,rfl,hmm,hmk,hown,hB⟩:=hrel;have h4r:w4.heap.size<=wr.heap.size:=hB.size;have h2r:=h24.trans (hB.mono h24.size);have h3r:=h34.trans (hB.mono h34.size)
  by_cases hlt:k<fl
  ·rcases Hfs.out.cells with h0|⟨bf,of,rfl,hbf,hcf⟩
   ·omega
   have hkf:k<f.length:=by rw [<- Hfl.out];exact hlt
   have ck:=(h2r.cell (p:=⟨bf,of+k,none⟩) (by exact hbf)).trans (hcf k hlt);have HY:Hid (getL f k ∈ O->lft f O (k+1)=lft f O k):=fun h=>lft_no hkf h
   have HN:Hid (getL f k ∉ O->lft f O (k+1)=lft f O k ++ [getL f k]):=fun h=>lft_yes hkf h
   have HhO1:=HhO.out (getL f k);have HH:Hid (∀ b1,hasB (getL O) ol (getL f k)=b1->Calls Tryz.prog 105 #[.slice oa ol oc,.string (getL f k)] wr fun e w'=>e=.returned (.bool b1)∧w'=wr):=fun b1 e1=>by rw [<- e1];exact has_sl _ wr (Hos.out.below h3r)
   obtain ⟨x,hx⟩:∃ x,x=getL f k:=⟨_,rfl⟩;rw [<- hx] at ck HY HN HhO1 HH;clear hx hcf;cases hh:hasB (getL O) ol x
   case true =>
    have Hn:Hid (lft f O (k+1)=lft f O k):=HY.out (HhO1.1 hh);have H1:Hid (Calls Tryz.prog 105 #[.slice oa ol oc,.string x] wr fun e w'=>e=.returned (.bool true)∧w'=wr):=HH.out _ hh;clear HY HN HhO1 HH hh
    go_wp2_with fail
    refine H1.out.mono ?_;rintro e w5 ⟨rfl,rfl⟩;go_wp2
    exact ⟨⟨k+1,g,mm,cp,by omega,by go_num,rfl,by rw [Hn.out];exact hmm,by omega,by rw [Hn.out];exact hown,hB⟩,by simp [intOf];omega⟩
   case false =>
    have Hn:Hid (lft f O (k+1)=lft f O k ++ [x]):=HN.out (fun q=>by have:=HhO1.2 q;rw [hh] at this;cases this);have H1:Hid (Calls Tryz.prog 105 #[.slice oa ol oc,.string x] wr fun e w'=>e=.returned (.bool false)∧w'=wr):=HH.out _ hh;clear HY HN HhO1 HH hh;generalize lft f O k=lk at *;have hm1:mm+1<=maxLen:=by unfold maxLen;omega
    have hm2:(mm+1) * 16<=140737488355328:=by omega
    have hm3:∀ o,w4.heap.size<=(wr.alloc o).heap.size:=fun o=>by simp;omega
    have hag:Hid (∀ q,(Value.slice (some ⟨g,0,none⟩) mm cp).ownBlock=some q->w4.heap.size<=q):=fun q hq=>(World.ownsRow.lt hown q hq).1
    have hown':wr.ownsRow w4.heap.size 9 1 (.slice (some ⟨g,0,none⟩) mm cp) mm (lk.map Value.string):=by have:=hown;unfold OwnL at this;rw [<- hmm.out] at this;exact this
    go_wp2_with fail
    refine H1.out.mono ?_;rintro e w5 ⟨rfl,rfl⟩;clear H1
    go_wp2_with (at_builtin;refine wpList_append_lies _ rfl _ _ 27 rfl w4.heap.size 9 i0 (.string ByteArray.empty) 1 16 Tryz.underlying27 hi hz0 hz1 hz2 rfl (by decide) _ _ _ rfl (World.ownsRow.alloc hown' _) ⟨w5.heap.size,0,none⟩ 1 1 [.string x] rfl rfl (one_cells _ _ _) (one_one _) (by decide) hm1 hm2 (hm3 _) (w5.heap.size+1) (by simp) ?_;intro gg cq w7 hown2 hgrow2 hat2 hlt2)
    have hown3:OwnL w7 w4.heap.size (.slice (some ⟨gg,0,none⟩) (mm+1) cq) (lft f O (k+1)):=by
     rw [Hn.out];rw [hmm.out] at hown2 ⊢;exact OwnL.snoc hown2
    have hbel2:Below w4.heap.size w4 w7:=(hB.alloc hB.size _).grown hgrow2 (hm3 _) hag.out;clear hown2 hgrow2 hat2 hown' hm3 hag;exact ⟨⟨k+1,gg,mm+1,cq,by omega,by go_num,rfl,by unfold Hid;rw [Hn.out,List.length_append,<- hmm.out];rfl,by omega,hown3,hbel2⟩,by simp [intOf];omega⟩
  have hkf:fl=k:=by omega
  subst hkf;have Hlm:Hid (∀ s,s ∈ lft f O fl↔s ∈ f∧s ∉ O):=fun s=>by rw [Hfl.out];exact lft_mem f O s
  have hbw:=hw4.trans (hB.mono hw4.size);have hBb:=hB4.trans (hB.mono hB4.size);obtain ⟨R,hR⟩:∃ R,R=lft f O fl:=⟨_,rfl⟩;rw [<- hR] at Hlm hown hmm;clear hR;have HRz:Hid (∀ s ∈ R,0<=posV E n s):=fun s hs=>HfP.out s ((Hlm.out s).1 hs).1
  have HRs:Hid (∀ s ∈ R,s.size<=maxLen):=fun s hs=>by
   obtain ⟨p,hp,_,ei⟩:=posV_nat (HRz.out s hs);rw [<- ei];exact (Hz.out p hp).2.2
  have hRl:R.length<=300:=by rw [<- hmm.out];omega
  obtain ⟨ra0,rc0,e5,hRsl,_⟩:=hown.sl HRs.out;rw [<- hmm.out] at e5 hRsl;injection e5 with e51 _ e53
  subst e51 e53;have x4:=hbx.out _ hBb;have HS:Hid (∀ W,Below wr.heap.size wr W->W.cell? ⟨w.heap.size,0,none⟩=some (.slice a n cap)):=fun W hW=>hbx.out _ (hBb.trans (hW.mono hBb.size))
  have hsr:Below w4.heap.size w4 wr:=hB;obtain ⟨pid,hpid⟩:∃ pid,pid=findB s1 tPow tNil:=⟨_,rfl⟩
  have Hpid:Hid (pid=⟨#[]⟩∨0<=posV E n pid):=by
   rcases findB_in s1 tPow tNil with h0|⟨z,hz,_,_,e3⟩
   ·exact Or.inl (hpid.trans h0)
   right
   rw [hpid,e3];obtain ⟨p,hp,ep,_⟩:=fit1_parts (Ht1.out.fit z hz);omega
  have HFi:Hid (∀ W,Below wr.heap.size wr W->Calls Tryz.prog 39 #[.slice ta tn tc,.string ⟨#[112,111,119,101,114]⟩,.string ⟨#[]⟩] W fun e w'=>e=.returned (.string pid)∧Below wr.heap.size wr w'):=fun W hW=>by
   rw [Htn.out,hpid];refine (l4Find_sl tPow tNil W ((Hts.out.below hsr).below hW)).mono ?_;rintro e w' ⟨rfl,hb⟩;exact ⟨rfl,hW.trans (hb.mono hW.size)⟩
  have HMo:Hid (∀ W,Below wr.heap.size wr W->Calls Tryz.prog 59 #[.agg #[.slice a n cap],.slice (some ⟨g,0,none⟩) mm cp,.string pid] W (MiP wr E n (fun p:Nat=>dp E n (ln E n (posV E n pid)) (p:Int)) R)):=fun W hW=>by
   have hq:=posV_bd E pid n
   have:=l6Ord_sl (posV E n pid) W Hroom.out hq.1 hq.2 (show mm<=300 by omega) (fun i hi=>HRz.out _ (getL_mem (by rw [<- hmm.out];exact hi))) ((HE.out.below hbw).below hW) (hRsl.below hW);rw [idQ_pos Hpid.out Hroom.out] at this;refine this.mono ?_;rintro e w' ⟨v,l,rfl,ho,hord,hmem,hb⟩;have hmem2:∀ s,s ∈ l↔s ∈ R:=fun s=>(hmem s).trans ⟨fun ⟨i,hi',e⟩=>e ▸ getL_mem (by rw [<- hmm.out];exact hi'),fun h=>by rw [hmm.out];exact mem_getL h⟩
   obtain ⟨a1,c1,rfl,hs1,_⟩:=ho.sl (fun s hs=>HRs.out s ((hmem2 s).1 hs));exact ⟨a1,c1,_,l,rfl,rfl,hs1,hord,hmem2,hW.trans (hb.mono hW.size)⟩
  have HTr:Hid (∀ W ra rc rn r,Below wr.heap.size wr W->Hid (rn=List.length r)->Hid (SlS W ra rn rc (getL r))->Hid (∀ s,s ∈ r↔s ∈ R)->Hid (OrdL E n (fun p:Nat=>dp E n (ln E n (posV E n pid)) (p:Int)) r)->Calls Tryz.prog 230 #[.agg #[.slice a n cap],.slice ta tn tc,.slice ra rn rc] W (TiP wr (tryL E n s1 r))):=fun W ra rc rn r hW h1 h2 h3 h4=>by
   have hnd:r.length<=300:=nZ (ids_len Hroom.out (h4.out.imp fun {a b} hab e=>by subst e;exact absurd hab (Bef.irrefl _)) (fun s hs=>by
    obtain ⟨p,hp,_,ei⟩:=posV_nat (HRz.out s ((h3.out s).1 hs));exact ⟨p,hp,ei⟩)) h300
   rw [Htn.out];rw [h1.out] at h2 ⊢
   have:=l6Try_sl (S:=getL r) W Hroom.out Ht1.out hnd (fun i hi=>HRz.out _ ((h3.out _).1 (getL_mem hi))) ((HE.out.below hbw).below hW) ((Hts.out.below hsr).below hW) h2.out;rw [lsT_getL] at this;refine this.mono ?_;rintro e w' ⟨a1,c1,rfl,hs1,hb⟩;exact ⟨a1,c1,_,_,rfl,rfl,hs1,rfl,hW.trans (hb.mono hW.size)⟩
  have hrf:Below wr.heap.size wr wr:=kB;have HseR:Hid (SlE wr ea ec Sm):=Hse.out.below (h14.trans (hB.mono h14.size));have HFin:Hid (∀ r,OrdL E n (fun p:Nat=>dp E n (ln E n (posV E n pid)) (p:Int)) r->(∀ s,s ∈ r↔s ∈ R)->ResR E n L m (patL (tryL E n s1 r) Sm Sm.length)):=fun r h1 h2=>HRO.out r ⟨by rw [<- hpid];exact h1,fun s=>(h2 s).trans (Hlm.out s)⟩
  have HTf:Hid (∀ r,(∀ s,s ∈ r↔s ∈ R)->FitL E n (tryL E n s1 r)):=fun r h2=>FitL.tryL Hroom.out Ht1.out (fun t ht=>HRz.out t ((h2 t).1 ht))
  clear hpid Hpid hRsl hown HRO Hlm HRz HRs hmm hRl Ht1 Hts HhO Hos Hfs
  go_wp2_with fail
  refine wp_region_held_drew (S:=fun W=>W.cell? ⟨w.heap.size,0,none⟩=some (.slice a n cap)) (by kernel_rfl) ?_ (fun hHeld=>?_)
  ·(try dsimp only);exact HS.out _ (by with_reducible (repeat refine .drew ?_);exact hrf)
  refine tq 0 rfl ?_;simp only [si];refine tq 1 rfl ?_;simp only [si];refine tq 2 rfl ?_;simp only [si];refine tq 3 rfl ?_;simp only [si];refine tq 4 rfl ?_;simp only [si];refine rd 5 rfl fun K hK=>?_
  go_simp
  go_at_call 39
  refine (HFi.out _ (by with_reducible (repeat refine .drew ?_);exact hrf)).mono ?_;rintro e w6 ⟨rfl,hb6⟩;clear HFi;try dsimp only
  refine hK.out _ _ ?_ (fun hHeld=>?_)
  ·(try dsimp only);exact HS.out _ (by with_reducible (repeat refine .drew ?_);exact hb6)
  clear hK K;try simp only [si]
  refine rd 6 rfl fun K hK=>?_
  go_simp
  go_at_call 59
  refine (HMo.out _ (by with_reducible (repeat refine .drew ?_);exact hb6)).mono ?_;rintro e w7 ⟨ra,rc,rn,r,rfl,hrn,hrs,hro,hrm,hb7⟩;clear HMo;try dsimp only
  refine hK.out _ _ ?_ (fun hHeld=>?_)
  ·(try dsimp only);exact HS.out _ (by with_reducible (repeat refine .drew ?_);exact hb7)
  clear hK K;try simp only [si]
  refine rd 7 rfl fun K hK=>?_
  go_simp
  go_at_call 230
  refine (HTr.out _ ra rc rn r (by with_reducible (repeat refine .drew ?_);exact hb7) hrn (hrs.out.below (by first|with_reducible exact kB|with_reducible exact kB.drew|with_reducible exact kB.drew.drew)) hrm hro).mono ?_;rintro e w8 ⟨xa,xc,xn,x,rfl,hxn,hxs,hxe,hb8⟩;clear HTr;try dsimp only
  refine hK.out _ _ ?_ (fun hHeld=>?_)
  ·(try dsimp only);exact HS.out _ (by with_reducible (repeat refine .drew ?_);exact hb8)
  clear hK K;try simp only [si]
  refine tq 8 rfl ?_;simp only [si];refine wpAnyH_done (by kernel_rfl) ?_ _
  have Hx:Hid (Calls Tryz.prog 231 #[.slice xa xn xc,.slice ea sl ec] w8 fun e w'=>∃ v,e=.returned v∧OwnE w' w8.heap.size v (patL x Sm Sm.length)∧Below w8.heap.size w8 w'):=by
   rw [hxn.out,Hsl.out];exact l4Patch_sl w8 (by rw [hxe.out];have:=(HTf.out r hrm.out).len Hroom.out;omega) (by rw [<- Hsl.out];omega) hxs.out (HseR.out.below hb8)
  have Hres:Hid (ResR E n L m (patL x Sm Sm.length)):=by unfold Hid;rw [hxe.out];exact HFin.out r hro.out hrm.out
  clear HFin HTf hro hrm hrs hrn hxs hxe hxn HseR;have hw8:=hbw.trans (hb8.mono hbw.size);generalize patL x Sm Sm.length=fin at *
  go_wp2_with fail
  refine Hx.out.mono ?_;rintro e w9 ⟨v9,rfl,ho9,hb9⟩
  have HP:Hid (RsPost w E n L m (.returned v9) w9):=by
   refine ⟨v9,fin,rfl,?_,Hres.out,hw8.trans (hb9.mono hw8.size)⟩;obtain ⟨q1,q2⟩:=ho9;exact ⟨q1,q2.imp id fun ⟨g,cap,cur,e,hg,r⟩=>⟨g,cap,cur,e,nZ hw8.size hg,r⟩⟩
  clear ho9 Hres Hx;go_wp2
  go_ret;exact HP.out
variable {l:List Ent}
def fdV (l:List Ent)(kind key:ByteArray):ByteArray:=if stB l then findB l kind key else ⟨#[]⟩
def fdOk (l:List Ent)(kind key:ByteArray):Bool:=stB l && !((findB l kind key).toList == [])
theorem findS_sl (kind key:ByteArray)(w:World)(h:SlE w a cap l) :
  Calls Tryz.prog 128 #[.slice a l.length cap,.string kind,.string key] w fun e w'=>e=.returned (.tuple #[.string (fdV l kind key),.bool (fdOk l kind key)])∧Below w.heap.size w w':=by
 go_enter Tryz.func128,Tryz.ntmps128
 go_wp2_with fail
 refine (stateS_sl _ h).mono ?_;rintro e w1 ⟨rfl,hb1⟩;cases hst:stB l
 case false =>
  have hv:Hid (fdV l kind key=⟨#[]⟩∧fdOk l kind key=false):=⟨by simp [fdV,hst],by simp [fdOk,hst]⟩;go_wp2
  refine bodyPost_ret (v:=.tuple #[.string ⟨#[]⟩,.bool false]) (by simp [results,Tryz.results128,go_sem]) rfl ⟨by rw [hv.out.1,hv.out.2],hb1⟩
 case true =>
  have hv:Hid (fdV l kind key=findB l kind key∧fdOk l kind key=!((findB l kind key).toList == [])):=⟨by simp [fdV,hst],by simp [fdOk,hst]⟩
  go_wp2_with fail
  refine (l4Find_sl kind key _ (h.below hb1)).mono ?_;rintro e w2 ⟨rfl,hb2⟩;have hbw:=hb1.trans (hb2.mono hb1.size);generalize findB l kind key=id at *;cases he:(id.toList == [])
  ·rw [he] at hv
   go_wp2
   refine bodyPost_ret (v:=.tuple #[.string id,.bool true]) (by simp [results,Tryz.results128,go_sem]) rfl ⟨by rw [hv.out.1,hv.out.2];rfl,hbw⟩
  rw [he] at hv;go_wp2
  refine bodyPost_ret (v:=.tuple #[.string id,.bool false]) (by simp [results,Tryz.results128,go_sem]) rfl ⟨by rw [hv.out.1,hv.out.2];rfl,hbw⟩
variable {i q:Nat}{bs:Nat->Nat}{A:Nat->List Ent}{e:Ev}
def gwP (k n i:Nat):Nat:=if k % 3=0 then n - 1 - i % n else n - 1 - (k / 8 % 4+i * 3) % n
theorem gwP_lt (h:0<n):gwP k n i<n:=by
 unfold gwP;split <;> omega
def gwC (k:Nat):Nat:=if 5<=k % 8 then 2+k % 8 / 7 else 1
theorem gwC_le (k:Nat):gwC k<=3∧1<=gwC k:=by
 unfold gwC;split <;> omega
def gwL (k n:Nat):Nat->List Nat
 | 0=>[]
 | i+1=>if gwP k n i ∈ gwL k n i then gwL k n i else gwL k n i ++ [gwP k n i]
theorem gwL_len (k n:Nat):∀ i,(gwL k n i).length<=i
 | 0=>nL
 | i+1=>by
  have:=gwL_len k n i;unfold gwL;split
  ·omega
  simp;omega
theorem gwL_lt {k n:Nat}(hn:0<n):∀ i,∀ x ∈ gwL k n i,x<n
 | 0,x,h=>by cases h
 | i+1,x,h=>by
  unfold gwL at h;split at h
  ·exact gwL_lt hn i x h
  rcases List.mem_append.1 h with h|h
  ·exact gwL_lt hn i x h
  rw [List.mem_singleton] at h;subst h;exact gwP_lt hn
def qwB:ByteArray:=⟨#[113,119,101,114,116,121,117,105,111,112,97,115,100,102]⟩
def gwId (k n:Nat):ByteArray:=⟨#[36]⟩ ++ qwB.extract ((k+n) % 14) ((k+n) % 14+1) ++ decB n
def gw0 (k n:Nat)(E:Nat->Ev):Ev :=
 { id:=gwId k n,sd:=usr (k / 4 % 16 % 5),ty:=⟨#[]⟩,key:=⟨#[]⟩,val:=⟨#[]⟩,st:=false,tm:=100+((k % 7:Nat):Int),np:=(gwL k n (gwC k)).length,na:=0,ng:=0,Pv:=getL ((gwL k n (gwC k)).map fun p=>(E p).id),Av:=getL [],M:=gM [],L:=gL [] }
def gw1 (bs:Nat->Nat)(m q:Nat)(E:Nat->Ev)(n:Nat):Ev:=cDr bs m (nxQ m q) (gw0 (nxB bs m q) n E)
def auTo (b nd:List Ent):Nat->List ByteArray
 | 0=>[]
 | j+1=>if fdOk b (eAt nd j).ty (eAt nd j).key=true then auTo b nd j ++ [fdV b (eAt nd j).ty (eAt nd j).key] else auTo b nd j
theorem auTo_len (b nd:List Ent):∀ j,(auTo b nd j).length<=j
 | 0=>nL
 | j+1=>by
  have:=auTo_len b nd j;unfold auTo;split
  ·simp;omega
  omega
def gwA (k:Nat)(E:Nat->Ev)(l:List ByteArray):List ByteArray:=if l.length=0∨k % 32=31 then [(E 0).id] else l
def gwB (k n:Nat)(E:Nat->Ev)(l:List ByteArray):List ByteArray:=if k % 16=7∧hasB (getL l) l.length (E (n - 1)).id=false then l ++ [(E (n - 1)).id] else l
def gwE (bs:Nat->Nat)(m q:Nat)(E:Nat->Ev)(n:Nat)(b:List Ent):Ev :=
 { gw1 bs m q E n with na:=(gwB (nxB bs m q) n E (gwA (nxB bs m q) E (auTo b (ndL (gw1 bs m q E n)) (ndL (gw1 bs m q E n)).length))).length,Av:=getL (gwB (nxB bs m q) n E (gwA (nxB bs m q) E (auTo b (ndL (gw1 bs m q E n)) (ndL (gw1 bs m q E n)).length))) }
def GwR (bs:Nat->Nat)(m q:Nat)(E:Nat->Ev)(n:Nat)(A:Nat->List Ent)(e:Ev):Prop :=
 ∃ b,ResR E n (fun i=>A ((gwL (nxB bs m q) n (gwC (nxB bs m q))).getD i 0)) (gwL (nxB bs m q) n (gwC (nxB bs m q))).length b∧e=gwE bs m q E n b
theorem GwR.uniq {e':Ev}(h:GwR bs m q E n A e)(h':GwR bs m q E n A e'):e=e':=by
 obtain ⟨b,h1,rfl⟩:=h;obtain ⟨b',h1',rfl⟩:=h';rw [h1.uniq h1']
def gwQ (bs:Nat->Nat)(m q:Nat):Nat:=cQr bs m (nxQ m q)
theorem fdV_size (h:∀ i,i<l.length->(eAt l i).id.size<=maxLen)(kind key:ByteArray):(fdV l kind key).size<=maxLen:=by
 unfold fdV findB posI
 repeat' split
 all_goals first
  | exact nz
  | (refine h _ ?_;simp only [Int.toNat_natCast];assumption)
  | omega
theorem auTo_size {l nd:List Ent}(h:∀ i,i<l.length->(eAt l i).id.size<=maxLen):∀ j,∀ s ∈ auTo l nd j,s.size<=maxLen
 | 0,s,hs=>by cases hs
 | j+1,s,hs=>by
  unfold auTo at hs;split at hs
  ·rcases List.mem_append.1 hs with hs|hs
   ·exact auTo_size h j s hs
   rw [List.mem_singleton] at hs;subst hs;exact fdV_size h _ _
  exact auTo_size h j s hs
theorem ndL_len (e:Ev):(ndL e).length<=8:=by
 have:=(uq_len e).1;unfold ndL ndY
 repeat' split
 all_goals (simp;try omega)
theorem gNm_small (i:Nat):(gNm i).size<=8:=by
 unfold gNm;split <;> decide
theorem gTo_small (bs:Nat->Nat)(m k bits q:Nat):∀ i x,x ∈ (gTo bs m k bits q i).2->x.1.size<=8
 | 0,x,h=>by cases h
 | i+1,x,h=>by
  unfold gTo at h;split at h
  ·rcases List.mem_append.1 h with h|h
   ·exact gTo_small bs m k bits q i x h
   rw [List.mem_singleton] at h;subst h;exact gNm_small i
  exact gTo_small bs m k bits q i x h
theorem gM_small {l:List (ByteArray × Int)}(h:∀ x ∈ l,x.1.size<=8)(i:Nat):(gM l i).size<=8:=by
 unfold gM
 by_cases hi:i<l.length
 ·rw [List.getD_eq_getElem?_getD,List.getElem?_eq_getElem hi];exact h _ (List.getElem_mem hi)
 rw [List.getD_eq_getElem?_getD,List.getElem?_eq_none (by omega)];exact nz
theorem cDr_keep (bs:Nat->Nat)(m q:Nat)(e:Ev):(cDr bs m q e).id=e.id∧(cDr bs m q e).sd=e.sd∧(cDr bs m q e).tm=e.tm∧(cDr bs m q e).np=e.np∧(cDr bs m q e).Pv=e.Pv∧(cDr bs m q e).na=e.na∧(cDr bs m q e).Av=e.Av:=by
 unfold cDr cnE
 repeat' split
 all_goals exact ⟨rfl,rfl,rfl,rfl,rfl,rfl,rfl⟩
theorem mVal_small (i:Nat):(mVal i).size<=100:=by
 unfold mVal
 repeat' split
 all_goals decide
theorem jVal_small (i:Nat):(jVal i).size<=100:=by
 unfold jVal
 repeat' split
 all_goals decide
theorem usr_small (k:Nat):(usr k).size<=100:=by rw [usr_size];decide
theorem tdec_small (k:Nat)(h:k<256):((⟨#[116]⟩:ByteArray) ++ decB (k / 16)).size<=100:=by
 rw [ByteArray.size_append]
 have:=decB_size (k / 16) (by omega)
 show 1+_<=100
 omega
theorem cDr_small (hk:nxB bs m q<256)(h1:e.sd.size<=100)(h2:e.key.size<=100)(h3:e.val.size<=100)(h4:∀ i,(e.M i).size<=100):(cDr bs m q e).ty.size<=100∧(cDr bs m q e).key.size<=100∧(cDr bs m q e).val.size<=100∧∀ i,((cDr bs m q e).M i).size<=100:=by
 unfold cDr cnE
 repeat' split
 ·exact ⟨by dsimp only;decide,usr_small _,mVal_small _,h4⟩
 ·exact ⟨by dsimp only;decide,h1,by dsimp only;decide,h4⟩
 ·exact ⟨by dsimp only;decide,h2,h3,fun i=>nZ (gM_small (gTo_small _ _ _ _ _ _) i) (by decide)⟩
 ·exact ⟨by dsimp only;decide,h2,jVal_small _,h4⟩
 ·exact ⟨by dsimp only;decide,usr_small _,tdec_small _ hk,h4⟩
 ·exact ⟨by dsimp only;decide,h2,tdec_small _ hk,h4⟩
 exact ⟨by dsimp only;decide,h2,h3,h4⟩
end Go.Proofs.YtkdalopokdhndaaGreat
