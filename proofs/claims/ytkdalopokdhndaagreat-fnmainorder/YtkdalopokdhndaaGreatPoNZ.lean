import Derived.Test.YtkdalopokdhndaaGreatPoB
set_option maxHeartbeats 16000000
set_option maxRecDepth 100000
namespace Go.Proofs.YtkdalopokdhndaaGreat
open Go.RowKit
variable {E:Nat->Ev}{k n p q lc cap:Nat}{out:List Nat}{a la:Option Addr}
abbrev idsL (E:Nat->Ev)(l:List Nat):Nat->ByteArray:=fun k=>(E (lX l k).toNat).id
theorem has_ids {l:List Nat}(hr:roomTo E n=true)(hl:∀ p ∈ l,p<n)(hp:p<n):hasB (idsL E l) l.length (E p).id=true↔p ∈ l:=by
 have key:∀ m,m<=l.length->(hasB (idsL E l) m (E p).id=true↔∃ k,k<m∧l.getD k 0=p):=fun m=>by
  induction m with
  | zero=>intro _;simp [hasB]
  | succ m ih =>
   intro hm;rw [hasB,Bool.or_eq_true,ih (by omega)]
   have hq:l.getD m 0<n:=hl _ (by
    rw [List.getD,List.getElem?_eq_getElem (by omega:m<l.length)];exact List.getElem_mem _)
   have e1:((idsL E l m).toList == (E p).id.toList)=true↔l.getD m 0=p:=by
    show ((E (lX l m).toNat).id.toList == (E p).id.toList)=true↔_
    unfold lX;rw [Int.toNat_natCast];constructor
    ·intro h
     have h1:=posV_here hr hp;rw [<- ba_of_toList h,posV_here hr hq] at h1;omega
    intro h;rw [h];simp
   rw [e1];constructor
   ·rintro (⟨k,hk,e⟩|e)
    ·exact ⟨k,by omega,e⟩
    exact ⟨m,by omega,e⟩
   rintro ⟨k,hk,e⟩
   by_cases h:k=m
   ·subst h;exact Or.inr e
   exact Or.inl ⟨k,by omega,e⟩
 rw [key _ nL];constructor
 ·rintro ⟨k,hk,e⟩
  rw [<- e,List.getD,List.getElem?_eq_getElem hk];exact List.getElem_mem _
 intro h;obtain ⟨k,hk,e⟩:=List.mem_iff_getElem.1 h;exact ⟨k,hk,by rw [List.getD,List.getElem?_eq_getElem hk];exact e⟩
theorem rdy_iff {L:List Nat}(hr:roomTo E n=true)(hL:∀ p ∈ L,p<n)(ho:∀ p ∈ out,p<n)(hp:p<n):rdyTo (E p).Av (idsL E L) L.length (idsL E out) out.length (E p).na=true↔Rdy E n (fun q=>q ∈ L) out p:=by
 rw [rdyTo_iff];constructor
 ·rintro h q ⟨k,hk,e⟩ hq
  obtain ⟨hlt,hid⟩:=auth_at hr hp hk e;have h1:=h k hk;rw [<- hid,has_ids hr hL (by omega),has_ids hr ho (by omega)] at h1;exact h1 hq
 intro h k hk h1;obtain ⟨j,hj,e,hid⟩:=auth_there hr hp hk;rw [<- hid] at h1 ⊢;rw [has_ids hr hL (by omega)] at h1;rw [has_ids hr ho (by omega)];exact h j ⟨k,hk,e⟩ h1
def NxPost (w:World)(E:Nat->Ev)(n:Nat)(L out:List Nat)(e:Ending)(w':World):Prop:=∃ s,e=.returned (.string s)∧((∃ p,Nxt E n (fun q=>q ∈ L) (auN E n) out p∧s=(E p).id)∨∀ p,¬ Cand E n (fun q=>q ∈ L) out p)∧Below w.heap.size w w'
def Bst (E:Nat->Ev)(n:Nat)(L out:List Nat)(k:Nat)(b:Int):Prop :=
 (b=-1∧∀ j,j<k->j<L.length->¬ Cand E n (fun q=>q ∈ L) out (L.getD j 0)) ∨
 ∃ p:Nat,b=(p:Int)∧p<n∧Cand E n (fun q=>q ∈ L) out p∧∀ j,j<k->j<L.length->Cand E n (fun q=>q ∈ L) out (L.getD j 0)->L.getD j 0=p∨Bef E (auN E n) p (L.getD j 0)
theorem Bst.skip {L:List Nat}{b:Int}(h:Bst E n L out k b)(hn:¬ Cand E n (fun q=>q ∈ L) out (L.getD k 0)):Bst E n L out (k+1) b:=by
 rcases h with ⟨h1,h2⟩|⟨p,h1,h2,h3,h4⟩
 ·refine Or.inl ⟨h1,fun j hj hl=>?_⟩
  by_cases e:j=k
  ·subst e;exact hn
  exact h2 j (by omega) hl
 refine Or.inr ⟨p,h1,h2,h3,fun j hj hl hc=>?_⟩
 by_cases e:j=k
 ·subst e;exact absurd hc hn
 exact h4 j (by omega) hl hc
theorem Bst.first {L:List Nat}(h:Bst E n L out k (-1))(hp:p<n)(ep:L.getD k 0=p)(hc:Cand E n (fun q=>q ∈ L) out p):Bst E n L out (k+1) (p:Int):=by
 rcases h with ⟨_,h2⟩|⟨q,h1,_⟩
 ·refine Or.inr ⟨p,rfl,hp,hc,fun j hj hl hcj=>?_⟩
  by_cases e:j=k
  ·subst e;exact Or.inl ep
  exact absurd hcj (h2 j (by omega) hl)
 omega
theorem Bst.keep {L:List Nat}(hr:roomTo E n=true)(h:Bst E n L out k (q:Int))(hp:p<n)(ep:L.getD k 0=p)(hs:¬ Bef E (auN E n) p q):Bst E n L out (k+1) (q:Int):=by
 rcases h with ⟨h1,_⟩|⟨y,h1,h2,h3,h4⟩
 ·omega
 have:y=q:=by omega
 subst this;refine Or.inr ⟨y,rfl,h2,h3,fun j hj hl hcj=>?_⟩
 by_cases e:j=k
 ·subst e
  rw [ep]
  by_cases e2:p=y
  ·exact Or.inl e2
  rcases Bef.total (D:=auN E n) hr hp h2 e2 with h5|h5
  ·exact absurd h5 hs
  exact Or.inr h5
 exact h4 j (by omega) hl hcj
theorem Bst.take {L:List Nat}(h:Bst E n L out k (q:Int))(hp:p<n)(ep:L.getD k 0=p)(hc:Cand E n (fun q=>q ∈ L) out p)(hs:Bef E (auN E n) p q):Bst E n L out (k+1) (p:Int):=by
 rcases h with ⟨h1,_⟩|⟨y,h1,h2,h3,h4⟩
 ·omega
 have:y=q:=by omega
 subst this;refine Or.inr ⟨p,rfl,hp,hc,fun j hj hl hcj=>?_⟩
 by_cases e:j=k
 ·subst e;exact Or.inl ep
 rcases h4 j (by omega) hl hcj with h5|h5
 ·rw [h5];exact Or.inr hs
 exact Or.inr (hs.trans h5)
theorem Bst.fin {L:List Nat}{b:Int}(h:Bst E n L out L.length b):(∃ p,Nxt E n (fun q=>q ∈ L) (auN E n) out p∧idQ E b=(E p).id)∨∀ p,¬ Cand E n (fun q=>q ∈ L) out p:=by
 have hget:∀ p,Cand E n (fun q=>q ∈ L) out p->∃ j,j<L.length∧L.getD j 0=p:=fun p hc=>by
  obtain ⟨k,hk,e⟩:=List.mem_iff_getElem.1 hc.1;exact ⟨k,hk,by rw [List.getD,List.getElem?_eq_getElem hk];exact e⟩
 rcases h with ⟨_,h2⟩|⟨p,h1,h2,h3,h4⟩
 ·refine Or.inr fun p hc=>?_
  obtain ⟨j,hj,rfl⟩:=hget p hc;exact h2 j hj hj hc
 refine Or.inl ⟨p,⟨h3,fun q hq=>?_⟩,by unfold idQ;rw [if_pos (by omega),h1,Int.toNat_natCast]⟩;obtain ⟨j,hj,rfl⟩:=hget q hq;exact h4 j hj hj hq
theorem l6Nx_sl {L:List Nat}{oa:Option Addr}{oc:Nat}(w:World)(hroom:roomTo E n=true)(hL:∀ p ∈ L,p<n)(ho:∀ p ∈ out,p<n)(h:SlV w a n cap E)(hl:SlS w la L.length lc (idsL E L))(hO:SlS w oa out.length oc (idsL E out)) :
  Calls Tryz.prog 106 #[.agg #[.slice a n cap],.slice la L.length lc,.slice oa out.length oc] w (NxPost w E n L out):=by
 have hlm:=nZ hl.le hl.max;unfold maxLen at hlm;obtain ⟨wb,hwb⟩:∃ wb,wb=w.alloc (.cells #[.slice a n cap] 25):=⟨_,rfl⟩;have hb0:Below w.heap.size w wb:=by rw [hwb];exact bA
 have hs0:wb.heap.size=w.heap.size+1:=by rw [hwb];simp
 have hbx:Hid (∀ wx,Below (w.heap.size+1) wb wx->wx.cell? ⟨w.heap.size,0,none⟩=some (.slice a n cap)):=fun wx hx=>by subst hwb;exact box_cells hx 0
 have Hroom:Hid (_):=hroom;have HE:Hid (SlV w a n cap E):=h;have Hl:Hid (SlS w la L.length lc (idsL E L)):=hl;have HO:Hid (SlS w oa out.length oc (idsL E out)):=hO;have HLn:Hid (∀ p ∈ L,p<n):=hL;have HOn:Hid (∀ p ∈ out,p<n):=ho;clear hroom h hl hO hL ho
 go_enter Tryz.func106,Tryz.ntmps106
 go_wp2_with fail
 rw [<- hwb];clear hwb
 go_loopw [7,8] (fun s i wr=>∃ (k:Nat) (b:Int),k<=L.length∧i=.int .i64 k∧s=.string (idQ E b)∧Hid (Bst E n L out k b)∧Below (w.heap.size+1) wb wr) (fun _ i _=>L.length - (intOf i).toNat)
 case atStart=>exact ⟨0,-1,nz,rfl,rfl,Or.inl ⟨rfl,fun j hj=>by omega⟩,kB⟩
 case round =>
  obtain ⟨k,b,hk,rfl,rfl,hB,hbr⟩:=hrel;have hbw:=hb0.trans (hbr.mono (by omega));have hso:w.heap.size+1<=wr.heap.size:=by have:=hbr.size;omega
  have x0:=hbx.out _ hbr
  by_cases hlt:k<L.length
  ·rcases Hl.out.cells with h0|⟨bl,ol,rfl,hbl,hcl⟩
   ·omega
   obtain ⟨y,hy,ey⟩:∃ y,y<n∧L.getD k 0=y:=⟨_,HLn.out _ (by rw [List.getD,List.getElem?_eq_getElem hlt];exact List.getElem_mem _),rfl⟩;rcases HE.out.cells with h0|⟨be,oe,rfl,hbe,hce⟩
   ·omega
   obtain ⟨pa,cp,aa,ca,ga,cg,hec,hok⟩:=hce y hy
   have hck:wr.cell? ⟨bl,ol+k,none⟩=some (.string (E y).id):=by
    have:=(hbw.cell (p:=⟨bl,ol+k,none⟩) hbl).trans (hcl k hlt);rw [this]
    show some (Value.string (E (lX L k).toNat).id)=_
    unfold lX;rw [ey,Int.toNat_natCast]
   have hev:Hid (∀ W,Below wr.heap.size wr W->Calls Tryz.prog 103 #[.agg #[.slice (some ⟨be,oe,none⟩) n cap],.string (E y).id] W (fun x w'=>x=.returned ((E y).val' pa cp aa ca ga cg)∧Below W.heap.size W w')):=fun W hW=>by
    have hw:=hbw.trans (hW.mono hbw.size);exact l6EvX _ W (HE.out.below hw) (nT hbe hw.size) (hec.below hw hbe) hy (posV_here Hroom.out hy)
   have hrf:Below wr.heap.size wr wr:=kB;have hal:Below wr.heap.size wr (wr.alloc (.cells #[.string ⟨#[]⟩,.string ⟨#[]⟩,.string ⟨#[]⟩,.bool false,.string ⟨#[]⟩,.int .i64 0,.slice none 0 0,.slice none 0 0,.string ⟨#[]⟩,.slice none 0 0] 30)):=bA;have hlt1:bl<wr.heap.size:=nT hbl hbw.size;have hck1:(wr.alloc (.cells #[.string ⟨#[]⟩,.string ⟨#[]⟩,.string ⟨#[]⟩,.bool false,.string ⟨#[]⟩,.int .i64 0,.slice none 0 0,.slice none 0 0,.string ⟨#[]⟩,.slice none 0 0] 30)).drew.cell? ⟨bl,ol+k,none⟩=some (.string (E y).id):=(hal.drew.cell (by show bl<wr.heap.size;omega)).trans hck;have x01:(wr.alloc (.cells #[.string ⟨#[]⟩,.string ⟨#[]⟩,.string ⟨#[]⟩,.bool false,.string ⟨#[]⟩,.int .i64 0,.slice none 0 0,.slice none 0 0,.string ⟨#[]⟩,.slice none 0 0] 30)).drew.cell? ⟨w.heap.size,0,none⟩=some (.slice (some ⟨be,oe,none⟩) n cap):=(hal.drew.cell (by show w.heap.size<wr.heap.size;omega)).trans x0
   have HC:Hid (∀ b1 b2,hasB (idsL E out) out.length (E y).id=b1->rdyTo (E y).Av (idsL E L) L.length (idsL E out) out.length (E y).na=b2->(Cand E n (fun q=>q ∈ L) out y↔b1=false∧b2=true)):=fun b1 b2 e1 e2=>by
    have q1:=has_ids Hroom.out HOn.out hy;have q2:=rdy_iff Hroom.out HLn.out HOn.out hy;rw [e1] at q1;rw [e2] at q2;have hyL:y ∈ L:=by rw [<- ey,List.getD,List.getElem?_eq_getElem hlt];exact List.getElem_mem _
    constructor
    ·rintro ⟨_,h2,h3⟩
     refine ⟨?_,q2.2 h3⟩;cases b1
     ·rfl
     exact absurd (q1.1 rfl) h2
    rintro ⟨h1,h2⟩;refine ⟨hyL,fun h=>?_,q2.1 h2⟩
    have:=q1.2 h;rw [h1] at this;cases this
   have Hey:Hid (L.getD k 0=y):=ey;have Hok:Hid (EvOk w (E y) pa cp aa ca ga cg):=hok;have Hec:Hid (∀ q,q<n->EvAt w be (oe+q * 10) (E q)):=hce;have HSo:Hid (∀ W q pb dp ab da gb dg,q<n->Below w.heap.size w W->EvOk W (E q) pb dp ab da gb dg->Calls Tryz.prog 172 #[.agg #[.slice (some ⟨be,oe,none⟩) n cap],(E y).val' pa cp aa ca ga cg,(E q).val' pb dp ab da gb dg] W fun x w'=>x=.returned (.bool (sooB E n y q))∧Below W.heap.size W w'):=fun W q pb dp ab da gb dg hq hW hk2=>l6So_sl W Hroom.out hy hq (HE.out.below hW) (Hok.out.below hW) hk2
   have HHas:Hid (∀ W,Below w.heap.size w W->Calls Tryz.prog 105 #[.slice oa out.length oc,.string (E y).id] W fun e w'=>e=.returned (.bool (hasB (idsL E out) out.length (E y).id))∧w'=W):=fun W hW=>has_sl _ W (HO.out.below hW)
   have HRd:Hid (∀ W,Below w.heap.size w W->Calls Tryz.prog 171 #[(E y).val' pa cp aa ca ga cg,.slice (some ⟨bl,ol,none⟩) L.length lc,.slice oa out.length oc] W fun x w'=>x=.returned (.bool (rdyTo (E y).Av (idsL E L) L.length (idsL E out) out.length (E y).na))∧Below W.heap.size W w'):=fun W hW=>l6Rd_sl W (Hok.out.below hW).ha (Hl.out.below hW) (HO.out.below hW)
   have Hid0:Hid ((E y).id=idQ E (y:Int)):=by unfold Hid idQ;rw [if_pos (by omega),Int.toNat_natCast]
   have HBf:Hid (∀ q,q<n->(sooB E n y q=true↔Bef E (auN E n) y q)):=fun q hq=>sooB_iff Hroom.out hy hq
   clear hce hec hok hcl ey;generalize hasB (idsL E out) out.length (E y).id=h1 at *;generalize rdyTo (E y).Av (idsL E L) L.length (idsL E out) out.length (E y).na=h2 at *;have HCd:Hid (Cand E n (fun q=>q ∈ L) out y↔h1=false∧h2=true):=HC.out _ _ rfl rfl;clear HC;obtain ⟨ev,hev0⟩:∃ ev,ev=E y:=⟨_,rfl⟩;rw [<- hev0] at hev hck hck1 HSo HHas HRd Hid0;have Hev0:Hid (ev=E y):=hev0;clear hev0
   go_wp2_with fail
   go_cut [9] from 10 to 48 (fun pv wx=>CutG wr ev pa cp aa ca ga cg pv wx)
   case first =>
    go_region_with (first
     | (go_at_call 103;refine (hev.out _ (by with_reducible (repeat refine .drew ?_);exact hrf)).mono ?_;rintro e w2 ⟨hee,hb2'⟩;have hef:e=.returned (.agg (ec ev pa cp aa ca ga cg)):=hee;clear hee;subst hef;have hb2:Below wr.heap.size wr w2:=Below.trans (by with_reducible (repeat refine .drew ?_);exact hrf) hb2')
     | (go_at_call 103;(refine (hev.out _ (by with_reducible (repeat refine .drew ?_);exact hal)).mono ?_;rintro e w2 ⟨hee,hb2'⟩;have hef:e=.returned (.agg (ec ev pa cp aa ca ga cg)):=hee;clear hee;subst hef;have hs2:wr.heap.size<w2.heap.size:=nT (by simp) hb2'.size;have hb2:Below wr.heap.size wr w2:=Below.trans (by with_reducible (repeat refine .drew ?_);exact hal) (hb2'.mono (by simp));have hz:∀ o,o<10->∃ v,w2.cell? ⟨wr.heap.size,o,none⟩=some v:=fun o ho=>(zero_ev wr o ho).imp fun v hv=>(hb2'.cell (p:=⟨wr.heap.size,o,none⟩) (by simp)).trans hv;obtain ⟨z0,y0⟩:=hz 0 (by decide);obtain ⟨z1,y1⟩:=hz 1 (by decide);obtain ⟨z2,y2⟩:=hz 2 (by decide);obtain ⟨z3,y3⟩:=hz 3 (by decide);obtain ⟨z4,y4⟩:=hz 4 (by decide);obtain ⟨z5,y5⟩:=hz 5 (by decide);obtain ⟨z6,y6⟩:=hz 6 (by decide);obtain ⟨z7,y7⟩:=hz 7 (by decide);obtain ⟨z8,y8⟩:=hz 8 (by decide);obtain ⟨z9,y9⟩:=hz 9 (by decide);clear hz;have hf:∀ o,w2.frozen? ⟨wr.heap.size,o,none⟩=false:=fun o=>(hb2'.frozen (p:=⟨wr.heap.size,o,none⟩) (by simp)).trans (kF rfl))))
    all_goals (try go_wp2_with fail)
    all_goals go_meet
    all_goals first
     | with_reducible exact cutG_a hb2
     | with_reducible exact cutG_b hb2 hs2 y0 y1 y2 y3 y4 y5 y6 y7 y8 y9
   case rest =>
    obtain ⟨B,rfl,hBl,hcells,hbc⟩:=hcut;obtain ⟨w5,hw5⟩:∃ w5:World,w5=wc:=⟨_,rfl⟩;subst hw5;have hBc:=hbr.trans (hbc.mono hso);have hbwc:=hb0.trans (hBc.mono (by omega));have x0c:=hbx.out _ hBc;have hckc:w5.cell? ⟨bl,ol+k,none⟩=some (.string ev.id):=(hbc.cell (p:=⟨bl,ol+k,none⟩) hlt1).trans hck;obtain ⟨c0,c1,c2,c3,c4,c5,c6,c7,c8,c9⟩:=hcells;clear hck hck1 x01 hal hev x0;cases h1
    case true =>
     have HB2:Hid (Bst E n L out (k+1) b):=hB.out.skip (by rw [Hey.out];exact fun h=>by have:=(HCd.out.1 h).1;cases this);clear HRd HSo HCd HBf hB
     go_wp2_with fail
     refine (HHas.out _ hbwc).mono ?_;rintro e w6 ⟨rfl,rfl⟩;go_wp2
     go_roundw
     case rel=>exact ⟨k+1,b,by omega,by go_num,rfl,HB2,hBc⟩
     simp [intOf];omega
    case false =>
     cases h2
     case false =>
      have HB2:Hid (Bst E n L out (k+1) b):=hB.out.skip (by rw [Hey.out];exact fun h=>by have:=(HCd.out.1 h).2;cases this);clear HSo HCd HBf hB
      go_wp2_with fail
      refine (HHas.out _ hbwc).mono ?_;rintro e w6 ⟨rfl,rfl⟩
      go_wp2_with fail
      refine (HRd.out _ hbwc).mono ?_;rintro e w7 ⟨rfl,hb7⟩;go_wp2
      go_roundw
      case rel=>exact ⟨k+1,b,by omega,by go_num,rfl,HB2,hBc.trans (hb7.mono (nZ hso hbc.size))⟩
      simp [intOf];omega
     case true =>
      have Hcd:Hid (Cand E n (fun q=>q ∈ L) out y):=HCd.out.2 ⟨rfl,rfl⟩;clear HCd
      go_wp2_with fail
      refine (HHas.out _ hbwc).mono ?_;rintro e w6 ⟨rfl,rfl⟩
      go_wp2_with fail
      refine (HRd.out _ hbwc).mono ?_;rintro e w7 ⟨rfl,hb7⟩;have hB7:=hBc.trans (hb7.mono (nZ hso hbc.size));have hbw7:=hb0.trans (hB7.mono (by omega));have x07:=hbx.out _ hB7;have hs7:w.heap.size+1<=w7.heap.size:=nZ (nZ hso hbc.size) hb7.size;have hck7:w7.cell? ⟨bl,ol+k,none⟩=some (.string ev.id):=(hb7.cell (p:=⟨bl,ol+k,none⟩) (by show bl<w6.heap.size;have:=hbc.size;omega)).trans hckc;have d0:=(hb7.cell (p:=⟨B,0,none⟩) hBl).trans c0;have d1:=(hb7.cell (p:=⟨B,0+1,none⟩) hBl).trans c1;have d2:=(hb7.cell (p:=⟨B,0+2,none⟩) hBl).trans c2;have d3:=(hb7.cell (p:=⟨B,0+3,none⟩) hBl).trans c3;have d4:=(hb7.cell (p:=⟨B,0+4,none⟩) hBl).trans c4;have d5:=(hb7.cell (p:=⟨B,0+5,none⟩) hBl).trans c5;have d6:=(hb7.cell (p:=⟨B,0+6,none⟩) hBl).trans c6;have d7:=(hb7.cell (p:=⟨B,0+7,none⟩) hBl).trans c7;have d8:=(hb7.cell (p:=⟨B,0+8,none⟩) hBl).trans c8;have d9:=(hb7.cell (p:=⟨B,0+9,none⟩) hBl).trans c9;clear c0 c1 c2 c3 c4 c5 c6 c7 c8 c9 hckc x0c HHas HRd;have hB7l:B<w7.heap.size:=nT hBl hb7.size;have hz7:w.heap.size<w7.heap.size:=by omega
      simp only [Nat.zero_add] at d0 d1 d2 d3 d4 d5 d6 d7 d8 d9;rcases Classical.em (b=-1) with hb1|hb1
      ·subst hb1
       have HB2:Hid (Bst E n L out (k+1) (y:Int)):=hB.out.first hy Hey.out Hcd.out;have e0:idQ E (-1)=⟨#[]⟩:=rfl;rw [e0];clear HSo HBf hB
       go_wp2_with fail
       go_region
       all_goals
        go_wp2
        go_roundw
        case rel=>exact ⟨k+1,(y:Int),by omega,by go_num,by rw [Hid0.out],HB2,by first|exact hB7|exact hB7.drew|exact hB7.drew.drew⟩
        simp [intOf];omega
      obtain ⟨q,rfl,hq⟩:∃ q:Nat,b=(q:Int)∧q<n:=by
       rcases hB.out with ⟨h1,_⟩|⟨q,h1,h2,_⟩
       ·exact absurd h1 hb1
       exact ⟨q,h1,h2⟩
      obtain ⟨pb,dp,ab,da,gb,dg,hecq,hokq⟩:=Hec.out q hq
      have hevq:Hid (∀ W,Below w7.heap.size w7 W->Calls Tryz.prog 103 #[.agg #[.slice (some ⟨be,oe,none⟩) n cap],.string (E q).id] W (fun x w'=>x=.returned ((E q).val' pb dp ab da gb dg)∧Below W.heap.size W w')):=fun W hW=>by
       have hw:=hbw7.trans (hW.mono hbw7.size);exact l6EvX _ W (HE.out.below hw) (nT hbe hw.size) (hecq.below hw hbe) hq (posV_here Hroom.out hq)
      have hso7:Hid (∀ W,Below w7.heap.size w7 W->Calls Tryz.prog 172 #[.agg #[.slice (some ⟨be,oe,none⟩) n cap],ev.val' pa cp aa ca ga cg,(E q).val' pb dp ab da gb dg] W fun x w'=>x=.returned (.bool (sooB E n y q))∧Below W.heap.size W w'):=fun W hW=>by
       have hw:=hbw7.trans (hW.mono hbw7.size);exact HSo.out W q pb dp ab da gb dg hq hw (hokq.below hw)
      have e0:idQ E (q:Int)=(E q).id:=by unfold idQ;rw [if_pos (by omega),Int.toNat_natCast]
      have Hidq:Hid (_=_):=e0;have hne:(E q).id.toList.isEmpty=false:=ev_id (room_code Hroom.out hq);have HT:Hid (sooB E n y q=true->Bst E n L out (k+1) (y:Int)):=fun h=>hB.out.take hy Hey.out Hcd.out ((HBf.out q hq).1 h)
      have HK:Hid (sooB E n y q=false->Bst E n L out (k+1) (q:Int)):=fun h=>hB.out.keep Hroom.out hy Hey.out (fun h'=>by have:=(HBf.out q hq).2 h';rw [h] at this;cases this)
      have hrf7:Below w7.heap.size w7 w7:=kB;rw [e0];clear HSo HBf hB hecq hokq e0;generalize sooB E n y q=sq at *;obtain ⟨eq,heq⟩:∃ eq,eq=E q:=⟨_,rfl⟩;rw [<- heq] at hevq hso7 hne Hidq ⊢;clear heq
      go_wp2_with fail
      go_cut [44] from 10 to 48 (fun pv wx=>pv=.bool sq∧Below w7.heap.size w7 wx)
      case first =>
       go_region_held3 (fun W=>W.cell? ⟨w.heap.size,0,none⟩=some (.slice (some ⟨be,oe,none⟩) n cap)∧W.cell? ⟨B,0,none⟩=some (.string ev.id)∧W.cell? ⟨B,1,none⟩=some (.string ev.sd)∧W.cell? ⟨B,2,none⟩=some (.string ev.ty)∧W.cell? ⟨B,3,none⟩=some (.bool ev.st)∧W.cell? ⟨B,4,none⟩=some (.string ev.key)∧W.cell? ⟨B,5,none⟩=some (.int .i64 ev.tm)∧W.cell? ⟨B,6,none⟩=some (.slice pa ev.np cp)∧W.cell? ⟨B,7,none⟩=some (.slice aa ev.na ca)∧W.cell? ⟨B,8,none⟩=some (.string ev.val)∧W.cell? ⟨B,9,none⟩=some (.slice ga ev.ng cg))
        (first|(with_reducible exact ⟨x07,d0,d1,d2,d3,d4,d5,d6,d7,d8,d9⟩)|go_keep)
        (first
         | (go_at_call 103;refine (hevq.out _ (by with_reducible (repeat refine .drew ?_);exact hrf7)).mono ?_;rintro e w8 ⟨hee,hb8'⟩;have hef:e=.returned (.agg (ec eq pb dp ab da gb dg)):=hee;clear hee;subst hef;have hb8:Below w7.heap.size w7 w8:=Below.trans (by with_reducible (repeat refine .drew ?_);exact hrf7) hb8';clear hb8';have kr:=(hb8.cell (p:=⟨w.heap.size,0,none⟩) hz7).trans x07;have k0:=(hb8.cell (p:=⟨B,0,none⟩) hB7l).trans d0;have k1:=(hb8.cell (p:=⟨B,1,none⟩) hB7l).trans d1;have k2:=(hb8.cell (p:=⟨B,2,none⟩) hB7l).trans d2;have k3:=(hb8.cell (p:=⟨B,3,none⟩) hB7l).trans d3;have k4:=(hb8.cell (p:=⟨B,4,none⟩) hB7l).trans d4;have k5:=(hb8.cell (p:=⟨B,5,none⟩) hB7l).trans d5;have k6:=(hb8.cell (p:=⟨B,6,none⟩) hB7l).trans d6;have k7:=(hb8.cell (p:=⟨B,7,none⟩) hB7l).trans d7;have k8:=(hb8.cell (p:=⟨B,8,none⟩) hB7l).trans d8;have k9:=(hb8.cell (p:=⟨B,9,none⟩) hB7l).trans d9)
         | (go_at_call 172;refine (hso7.out _ (by with_reducible (repeat refine .drew ?_);exact hb8)).mono ?_;rintro e w9 ⟨rfl,hb9'⟩;have hb9:Below w7.heap.size w7 w9:=Below.trans (by with_reducible (repeat refine .drew ?_);exact hb8) (hb9'.mono hb8.size);clear hb9';have jr:=(hb9.cell (p:=⟨w.heap.size,0,none⟩) hz7).trans x07;have j0:=(hb9.cell (p:=⟨B,0,none⟩) hB7l).trans d0;have j1:=(hb9.cell (p:=⟨B,1,none⟩) hB7l).trans d1;have j2:=(hb9.cell (p:=⟨B,2,none⟩) hB7l).trans d2;have j3:=(hb9.cell (p:=⟨B,3,none⟩) hB7l).trans d3;have j4:=(hb9.cell (p:=⟨B,4,none⟩) hB7l).trans d4;have j5:=(hb9.cell (p:=⟨B,5,none⟩) hB7l).trans d5;have j6:=(hb9.cell (p:=⟨B,6,none⟩) hB7l).trans d6;have j7:=(hb9.cell (p:=⟨B,7,none⟩) hB7l).trans d7;have j8:=(hb9.cell (p:=⟨B,8,none⟩) hB7l).trans d8;have j9:=(hb9.cell (p:=⟨B,9,none⟩) hB7l).trans d9))
       all_goals (try go_wp2_with fail)
       all_goals go_meet
       all_goals exact ⟨rfl,by first|exact hb9|exact hb9.drew⟩
      case rest =>
       obtain ⟨rfl,hbz⟩:=hcut;obtain ⟨wz,hwz⟩:∃ wz:World,wz=wc:=⟨_,rfl⟩;subst hwz;have hBz:=hB7.trans (hbz.mono hs7);have hckz:wz.cell? ⟨bl,ol+k,none⟩=some (.string ev.id):=(hbz.cell (p:=⟨bl,ol+k,none⟩) (by show bl<w7.heap.size;have:=hbc.size;have:=hb7.size;omega)).trans hck7;clear d0 d1 d2 d3 d4 d5 d6 d7 d8 d9 hevq hso7 hck7;cases sq
       case true =>
        have HB2:Hid (Bst E n L out (k+1) (y:Int)):=HT.out rfl;clear HT HK;go_wp2
        go_roundw
        case rel=>exact ⟨k+1,(y:Int),by omega,by go_num,by rw [Hid0.out],HB2,hBz⟩
        simp [intOf];omega
       case false =>
        have HB2:Hid (Bst E n L out (k+1) (q:Int)):=HK.out rfl;clear HT HK;go_wp2
        go_roundw
        case rel=>exact ⟨k+1,(q:Int),by omega,by go_num,by rw [Hidq.out],HB2,hBz⟩
        simp [intOf];omega
  have hkn:L.length=k:=by omega
  subst hkn;have HP:Hid (∀ W,Below w.heap.size w W->NxPost w E n L out (.returned (.string (idQ E b))) W):=fun W hW=>⟨_,rfl,(hB.out.fin).imp (fun ⟨p,h1,h2⟩=>⟨p,h1,h2⟩) id,hW⟩
  go_wp2
  go_ret;exact HP.out _ hbw
variable {i m base:Nat}{S:Nat->ByteArray}{s:ByteArray}{D:Nat->Nat}{w:World}{v:Value}{P:Nat->Prop}
inductive ChQ (E:Nat->Ev) (n:Nat) (G:ByteArray->Prop):ByteArray->Prop
 | base {p k:Nat}:p<n->G (E p).id->k<(E p).na->ChQ E n G ((E p).Av k)
 | step {s:ByteArray} {k p:Nat}:ChQ E n G s->p<n->(E p).id=s->k<(E p).na->ChQ E n G ((E p).Av k)
theorem chn_iff :Chn E n S m s↔ChQ E n (fun t=>∃ i,i<m∧S i=t) s:=by
 constructor
 ·intro h
  induction h with
  | base hi hp e hk=>exact ChQ.base hp ⟨_,hi,e.symm⟩ hk
  | step _ hp e hk ih=>exact ChQ.step ih hp e hk
 intro h
 induction h with
 | base hp hG hk=>obtain ⟨i,hi,e⟩:=hG;exact Chn.base hi hp e.symm hk
 | step _ hp e hk ih=>exact Chn.step ih hp e hk
theorem ChQ.mono {G G':ByteArray->Prop}(hG:∀ t,G t->G' t)(h:ChQ E n G s):ChQ E n G' s:=by
 induction h with
 | base hp h1 hk=>exact ChQ.base hp (hG _ h1) hk
 | step _ hp e hk ih=>exact ChQ.step ih hp e hk
def gvP (E:Nat->Ev)(n:Nat)(S:Nat->ByteArray)(m p:Nat):Prop:=∃ i,i<m∧posV E n (S i)=(p:Int)
def wgP (E:Nat->Ev)(n:Nat)(S:Nat->ByteArray)(m:Nat)(t:ByteArray):Prop:=∃ q,q<n∧gvP E n S m q∧wtyB (E q)=true∧(E q).id=t
def TkP (E:Nat->Ev)(n:Nat)(S:Nat->ByteArray)(m p:Nat):Prop:=p<n∧gvP E n S m p∧(wgP E n S m (E p).id∨ChQ E n (wgP E n S m) (E p).id)
theorem OrdP.congr {T T':Nat->Prop}{l:List Nat}(h:OrdP E n T D l)(hT:∀ p,T p↔T' p):OrdP E n T' D l:=by
 have:T=T':=funext fun p=>propext (hT p)
 rw [<- this];exact h
def PoOrd (E:Nat->Ev)(n:Nat)(S:Nat->ByteArray)(m:Nat)(o:List Nat):Prop:=OrdP E n (TkP E n S m) (auN E n) o∧∀ p,TkP E n S m p->p ∈ o
theorem PoOrd.uniq {o o':List Nat}(h:PoOrd E n S m o)(h':PoOrd E n S m o'):o=o':=h.1.uniq h'.1 h.2 h'.2
theorem PoOrd.lt {o:List Nat}(h:PoOrd E n S m o):∀ p ∈ o,p<n:=fun p hp=>(h.1.sub p hp).1
theorem idsL_get {l:List Nat}(hi:i<l.length):idsL E l i=getL (l.map fun p=>(E p).id) i:=by
 show (E (lX l i).toNat).id=_
 unfold lX getL;rw [Int.toNat_natCast];simp [List.getD,List.getElem?_eq_getElem hi]
theorem OwnL.nsl {l:List Nat}(h:OwnL w base v (l.map fun p=>(E p).id))(hs:∀ p ∈ l,(E p).id.size<=maxLen):∃ a cap,v=.slice a l.length cap∧SlS w a l.length cap (idsL E l):=by
 obtain ⟨a,cap,e,hsl,_⟩:=h.sl (fun s hs'=>by
  obtain ⟨p,hp,rfl⟩:=List.mem_map.1 hs';exact hs p hp)
 rw [List.length_map] at e hsl;refine ⟨a,cap,e,hsl.le,hsl.max,fun i hi=>by rw [idsL_get hi];exact hsl.size i hi,?_⟩;rcases hsl.cells with h0|⟨b,off,ea,hb,hc⟩
 ·exact Or.inl h0
 exact Or.inr ⟨b,off,ea,hb,fun i hi=>by rw [idsL_get hi];exact hc i hi⟩
theorem getD_mem {l:List Nat}(hk:k<l.length):l.getD k 0 ∈ l:=by
 rw [List.getD,List.getElem?_eq_getElem hk];exact List.getElem_mem _
theorem grow_mem {y:Nat}{l l':List Nat}(hy:posV E n (S k)=(y:Int))(h:∀ q,q ∈ l↔gvP E n S k q∧P q)(h':∀ q,q ∈ l'↔q ∈ l∨(q=y∧P y))(q:Nat):q ∈ l'↔gvP E n S (k+1) q∧P q:=by
 rw [h',h];constructor
 ·rintro (⟨⟨i,hi,e⟩,hp⟩|⟨rfl,hp⟩)
  ·exact ⟨⟨i,by omega,e⟩,hp⟩
  exact ⟨⟨k,by omega,hy⟩,hp⟩
 rintro ⟨⟨i,hi,e⟩,hp⟩
 by_cases ei:i=k
 ·subst ei
  have:q=y:=by omega
  subst this;exact Or.inr ⟨rfl,hp⟩
 exact Or.inl ⟨⟨i,by omega,e⟩,hp⟩
theorem short_left {l o:List Nat}(hl:l.Nodup)(h:o.length<l.length):∃ p,p ∈ l∧p ∉ o:=by
 apply Classical.byContradiction;intro hn
 have:∀ p ∈ l,p ∈ o:=fun p hp=>Classical.byContradiction fun h'=>hn ⟨p,hp,h'⟩
 have:=hl.length_le_of_subset this;omega
theorem full_in {l o:List Nat}(ho:o.Nodup)(hs:∀ p ∈ o,p ∈ l)(h:l.length<=o.length):∀ p ∈ l,p ∈ o:=by
 intro p hp;apply Classical.byContradiction;intro hn;have h1:(p :: o).Nodup:=List.nodup_cons.2 ⟨hn,ho⟩
 have:=h1.length_le_of_subset (l₂:=l) (fun q hq=>by
  rcases List.mem_cons.1 hq with rfl|hq
  ·exact hp
  exact hs q hq)
 simp at this;omega
def slC:Ent:=⟨⟨#[99,114,101,97,116,101]⟩,⟨#[]⟩,ByteArray.empty⟩
def slJ:Ent:=⟨⟨#[106,111,105,110,95,114,117,108,101,115]⟩,⟨#[]⟩,ByteArray.empty⟩
def slM (u:ByteArray):Ent:=⟨⟨#[109,101,109,98,101,114]⟩,u,ByteArray.empty⟩
def slP:Ent:=⟨⟨#[112,111,119,101,114]⟩,⟨#[]⟩,ByteArray.empty⟩
def isCr (e:Ev):Bool:=e.ty.toList == [99,114,101,97,116,101]
def isMb (e:Ev):Bool:=e.ty.toList == [109,101,109,98,101,114]
def isJn (e:Ev):Bool:=e.val.toList == [106,111,105,110]
def uq (e:Ev):List ByteArray:=if isMb e=false∨e.sd=e.key then [e.sd] else if e.sd.data.toList<e.key.data.toList then [e.sd,e.key] else [e.key,e.sd]
def us (e:Ev):List ByteArray:=if isMb e=false then [e.sd] else if e.sd=e.key then [e.sd,e.sd] else if e.sd.data.toList<e.key.data.toList then [e.sd,e.key] else [e.key,e.sd]
def ndY (e:Ev):List Ent:=if isMb e && isJn e then [slJ] else []
def ndL (e:Ev):List Ent:=if e.code=0 then (if isCr e then [slC] else slC :: (ndY e ++ (uq e).map slM ++ [slP])) else []
theorem lt_or_gt {a b:ByteArray}(h:a≠b)(h2:¬ a.data.toList<b.data.toList):b.data.toList<a.data.toList:=by
 rcases cmp_cases a.data.toList b.data.toList with ⟨h3,_⟩|⟨h3,_⟩|⟨h3,_⟩
 ·exact absurd h3 h2
 ·exact absurd (ba_eq h3) h
 exact h3
theorem uq_srt (e:Ev):Srt (uq e):=by
 unfold uq;split
 ·exact List.pairwise_singleton _ _
 rename_i h;rw [not_or] at h;split
 ·rename_i h2
  exact List.pairwise_cons.2 ⟨fun b hb=>by rw [List.mem_singleton] at hb;subst hb;exact h2,List.pairwise_singleton _ _⟩
 rename_i h2;exact List.pairwise_cons.2 ⟨fun b hb=>by rw [List.mem_singleton] at hb;subst hb;exact lt_or_gt h.2 h2,List.pairwise_singleton _ _⟩
theorem uq_mem (e:Ev)(s:ByteArray):s ∈ uq e↔s=e.sd∨(isMb e=true∧s=e.key):=by
 unfold uq;split
 ·rename_i h
  rw [List.mem_singleton];constructor
  ·exact Or.inl
  rintro (h1|⟨h1,h2⟩)
  ·exact h1
  rcases h with h|h
  ·rw [h] at h1;cases h1
  rw [h];exact h2
 rename_i h;rw [not_or] at h
 have hm:isMb e=true:=by
  cases hq:isMb e
  ·exact absurd hq h.1
  rfl
 split <;> simp [hm,or_comm]
end Go.Proofs.YtkdalopokdhndaaGreat
