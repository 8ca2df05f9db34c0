import Derived.Test.YtnbdlaglnefcbaaGreatAlPZ
namespace Go.Proofs.YtnbdlaglnefcbaaGreat
open Go.RowKit
def ChPost (w:World)(E:Nat->Ev)(n:Nat)(S:Nat->ByteArray)(m:Nat)(e:Ending)(w':World):Prop :=
 ∃ v l,e=.returned v∧OwnL w' w.heap.size v l∧Srt l∧(∀ s,s ∈ l↔Chn E n S m s)∧Below w.heap.size w w'
theorem addTo_has {l:List ByteArray}{A:Nat->ByteArray}{k q:Nat}(hq:q=(addTo l A k).length)(h:hasB (getL (addTo l A k)) q (A k)=true):addTo l A (k+1)=addTo l A k:=by
 subst hq;rw [addTo,addL,if_pos h]
theorem addTo_new {l:List ByteArray}{A:Nat->ByteArray}{k q:Nat}(hq:q=(addTo l A k).length)(h:hasB (getL (addTo l A k)) q (A k)=false):addTo l A (k+1)=addTo l A k ++ [A k]:=by
 subst hq;rw [addTo,addL,if_neg (by simp [h])]
theorem posV_nat {E:Nat->Ev}{n:Nat}{s:ByteArray}(h:0<=posV E n s):∃ p,p<n∧posV E n s=(p:Int)∧(E p).id=s:=by
 obtain ⟨i,hi,e,hb⟩:=posV_found E s n h
 exact ⟨i,hi,e,ba_of_toList hb⟩
set_option maxRecDepth 100000 in
set_option maxHeartbeats 4000000 in
theorem l2Chain_sl {a:Option Addr}{n cap:Nat}{E:Nat->Ev}{ia:Option Addr}{m icap:Nat}{S:Nat->ByteArray}(w:World)(hroom:roomTo E n=true)(h:SlV w a n cap E)(hids:SlS w ia m icap S)(hm:m<=300)(hth:∀ i,i<m->0<=posV E n (S i)) :
  Calls Tryz.prog 95 #[.agg #[.slice a n cap],.slice ia m icap] w (ChPost w E n S m):=by
 have h300:=room_300 hroom
 obtain ⟨i0,hi,hz0,hz1,hz2⟩:=info_parts Tryz.infoString
 obtain ⟨wb,hwb⟩:∃ wb,wb=w.alloc (.cells #[.slice a n cap] 25):=⟨_,rfl⟩
 have hb0:Below w.heap.size w wb:=by rw [hwb];exact bA
 have hs0:wb.heap.size=w.heap.size+1:=by rw [hwb];simp
 have hb1:Below (w.heap.size+1) wb (wb.alloc (.cells #[] 9)):=(Below.refl _ _).alloc (by omega) _
 have ho1:OwnL (wb.alloc (.cells #[] 9)) (w.heap.size+1) (.slice (some ⟨wb.heap.size,0,none⟩) 0 0) []:=OwnL.new wb _ (by omega)
 rw [hs0] at ho1
 have hbx:Hid (∀ wx,Below (w.heap.size+1) wb wx->wx.cell? ⟨w.heap.size,0,none⟩=some (.slice a n cap)):=fun wx hx=>by subst hwb;exact box_cells hx 0
 have Hth:Hid (_):=hth
 have Hroom:Hid (_):=hroom
 clear hth hroom
 go_enter Tryz.func95,Tryz.ntmps95
 go_wp2_with fail
 rw [<- hwb]
 go_loopw [5,6] (fun v i wr=>∃ (k g q cp:Nat) (l:List ByteArray),k<=m∧i=.int .i64 k∧v=.slice (some ⟨g,0,none⟩) q cp∧Hid (q=l.length)∧q<=n∧OwnL wr (w.heap.size+1) (.slice (some ⟨g,0,none⟩) q cp) l∧Hid (ChA E n S m (fun s=>∃ i,i<k∧S i=s) l)∧Below (w.heap.size+1) wb wr) (fun _ i _=>m - (intOf i).toNat)
 case atStart=>exact ⟨0,_,_,_,[],Nat.zero_le _,rfl,rfl,rfl,Nat.zero_le _,ho1,⟨List.nodup_nil,fun s hs=>absurd hs (by simp),fun p _ hP _ _=>absurd hP (by rintro ⟨i,hi,_⟩;omega)⟩,hb1⟩
 case round =>
  obtain ⟨k,g,q,cp,l,hk,rfl,rfl,hq,hqn,hown,hA,hB⟩:=hrel
  have hbw:=hb0.trans (hB.mono (by omega))
  have hbx0:=hbx.out _ hB
  have hso:w.heap.size+1<=wr.heap.size:=by have:=hB.size;omega
  by_cases hlt:k<m
  ·have hr9:=h.below hbw
   rcases hids.cells with h0|⟨bi,oi,rfl,hbi,hci⟩
   ·omega
   have hck:wr.cell? ⟨bi,oi+k,none⟩=some (.string (S k)):=(hbw.cell (by exact hbi)).trans (hci k hlt)
   obtain ⟨p,hp,hpk,hpi⟩:=posV_nat (Hth.out k hlt)
   have Hc:Hid (∀ j,j<(E p).na->Chn E n S m ((E p).Av j)):=fun j hj=>Chn.base hlt hp hpi hj
   have HP:Hid (∀ l':List ByteArray,(∃ r,l'=l ++ r)->∀ s,(∃ i,i<k+1∧S i=s)->(∃ i,i<k∧S i=s)∨s=(E p).id):=fun l' _ s ⟨i,hi,e⟩=>by
    by_cases ek:i=k
    ·subst ek;exact Or.inr (e.symm.trans hpi.symm)
    ·exact Or.inl ⟨i,by omega,e⟩
   clear hci
   rcases h.cells with h0|⟨b,off,rfl,hb,hc⟩
   ·omega
   obtain ⟨_,_,aa,ca,_,_,hcs,hok⟩:=hc p hp
   have c7:=(hcs.below hbw hb).c7
   have hsa:=hok.ha
   have hbo:b<wr.heap.size:=Nat.lt_of_lt_of_le hb hbw.size
   have hat:Hid (∀ W,SlV W (some ⟨b,off,none⟩) n cap E->Calls Tryz.prog 32 #[.agg #[.slice (some ⟨b,off,none⟩) n cap],.string (S k)] W fun e w'=>e=.returned (.int .i64 (p:Int))∧Below W.heap.size W w'):=fun W hW=>by
    refine (l2At_sl (S k) W hW).mono ?_
    rintro e w' ⟨rfl,rfl⟩
    rw [hpk]
    exact ⟨rfl,bA⟩
   have Hown:Hid (OwnL wr (w.heap.size+1) (.slice (some ⟨g,0,none⟩) q cp) l):=hown
   have hna:(E p).na<=maxLen:=Nat.le_trans hsa.le hsa.max
   unfold maxLen at hna
   clear hcs hok hc hpk hown hpi
   obtain ⟨wo,rfl⟩:∃ wo:World,wo=wr:=⟨_,rfl⟩
   go_wp2_with fail
   go_region_with (go_at_call 32;refine (hat.out _ (hr9.below (by first|exact Below.refl _ _|exact (Below.refl _ _).drew|exact (Below.refl _ _).drew.drew|exact (Below.refl _ _).drew.drew.drew))).mono ?_;rintro e w2 ⟨rfl,hb2⟩;have h12:Below wo.heap.size wo w2:=Below.trans (by first|exact Below.refl wo.heap.size wo|exact (Below.refl wo.heap.size wo).drew|exact (Below.refl wo.heap.size wo).drew.drew|exact (Below.refl wo.heap.size wo).drew.drew.drew) hb2;have hbx2:=hbx.out _ (hB.trans (h12.mono hso));have c72:=(h12.cell (by exact hbo)).trans c7)
   all_goals
    have hB2:=hB.trans (h12.mono hso)
    have hown2:=OwnL.below Hown.out h12
    clear hbx2 c72 hbx0 c7 hck
    go_wp2_with fail
    go_loopw [5,8] (fun v jv wi=>∃ (j g' q' cp':Nat),j<=(E p).na∧jv=.int .i64 j∧v=.slice (some ⟨g',0,none⟩) q' cp'∧Hid (q'=(addTo l (E p).Av j).length)∧q'<=n∧q<=q'∧OwnL wi (w.heap.size+1) (.slice (some ⟨g',0,none⟩) q' cp') (addTo l (E p).Av j)∧Below (w.heap.size+1) wb wi) (fun _ jv _=>(E p).na - (intOf jv).toNat)
    case atStart=>exact ⟨0,_,_,_,Nat.zero_le _,rfl,rfl,hq.out,hqn,Nat.le_refl _,OwnL.kept hown2 (fun _ _ _=>rfl),(by first|exact hB2|exact (hB2).drew|exact (hB2).drew.drew|exact (hB2).drew.drew.drew)⟩
    case round =>
     clear hown2 hB2
     obtain ⟨j,g',q',cp',hj,rfl,rfl,hq',hqn',hqq,hown',hBi⟩:=hrel
     have hbwi:=hb0.trans (hBi.mono (by omega))
     have hsi:w.heap.size+1<=wr.heap.size:=by have:=hBi.size;omega
     by_cases hlj:j<(E p).na
     ·rcases hsa.cells with h0|⟨ba,oa,rfl,hba,hca⟩
      ·omega
      have hcj:wr.cell? ⟨ba,oa+j,none⟩=some (.string ((E p).Av j)):=(hbwi.cell (by exact hba)).trans (hca j hlj)
      have hcl:∀ i,i<q'->wr.cell? ⟨g',0+i,none⟩=some (.string (getL (addTo l (E p).Av j) i)):=fun i hi=>by rw [Nat.zero_add];exact hown'.cell hq'.out (by rw [<- hq'.out];exact hi)
      have Hn:Hid ((addTo l (E p).Av (j+1)).length<=n):=hA.out.addLen Hroom.out hp (by omega)
      clear hca
      go_wp2_with fail
      refine (has_any g' 0 q' cp' (getL (addTo l (E p).Av j)) ((E p).Av j) wr (by unfold maxLen;omega) hcl).mono ?_
      rintro e w3 ⟨rfl,hw3⟩
      subst hw3
      clear hcl
      cases hh:hasB (getL (addTo l (E p).Av j)) q' ((E p).Av j)
      case true =>
       have Hs:Hid (addTo l (E p).Av (j+1)=addTo l (E p).Av j):=addTo_has hq'.out hh
       go_wp2
       refine ⟨⟨j+1,g',q',cp',by omega,by go_num,rfl,by rw [Hs.out];exact hq',hqn',hqq,by rw [Hs.out];exact hown',hBi⟩,by simp [intOf];omega⟩
      case false =>
       have Hs:Hid (addTo l (E p).Av (j+1)=addTo l (E p).Av j ++ [(E p).Av j]):=addTo_new hq'.out hh
       have hq1n':q'+1<=n:=by have:=Hn.out;rw [Hs.out,List.length_append,<- hq'.out] at this;simpa using this
       clear Hn hh
       generalize addTo l (E p).Av j=l' at *
       have hm1:q'+1<=maxLen:=by unfold maxLen;omega
       have hm2:(q'+1) * 16<=140737488355328:=by omega
       have hm3:∀ o,w.heap.size+1<=(w3.alloc o).heap.size:=fun o=>by simp;omega
       have hag:Hid (∀ r,(Value.slice (some ⟨g',0,none⟩) q' cp').ownBlock=some r->w.heap.size+1<=r):=fun r hr=>by have:=World.ownsRow.lt hown' r hr;exact this.1
       have hownr:w3.ownsRow (w.heap.size+1) 9 1 (.slice (some ⟨g',0,none⟩) q' cp') q' (l'.map Value.string):=by have:=hown';unfold OwnL at this;rw [<- hq'.out] at this;exact this
       go_wp2_with (at_builtin;refine wpList_append_lies _ rfl _ _ 26 rfl (w.heap.size+1) 9 i0 (.string ByteArray.empty) 1 16 Tryz.underlying26 hi hz0 hz1 hz2 rfl (by decide) _ _ _ rfl (World.ownsRow.alloc hownr _) ⟨w3.heap.size,0,none⟩ 1 1 [.string ((E p).Av j)] rfl rfl (one_cells _ _ _) (one_one _) (by decide) hm1 hm2 (hm3 _) (w3.heap.size+1) (by simp) ?_;intro gg cq w4 hown4 hgrow4 hat4 hlt4)
       have hown5:OwnL w4 (w.heap.size+1) (.slice (some ⟨gg,0,none⟩) (q'+1) cq) (l' ++ [(E p).Av j]):=by
        rw [hq'.out] at hown4 ⊢
        exact OwnL.snoc hown4
       have hB4:Below (w.heap.size+1) wb w4:=(hBi.alloc (by omega) _).grown hgrow4 (hm3 _) hag.out
       refine ⟨⟨j+1,_,_,_,by omega,by go_num,rfl,by rw [Hs.out];simp [hq'.out,Hid],hq1n',by omega,by rw [Hs.out];exact hown5,hB4⟩,by simp [intOf];omega⟩
     ·have hjn:(E p).na=j:=by omega
      subst hjn
      go_wp2
      refine ⟨⟨k+1,g',q',cp',addTo l (E p).Av (E p).na,by omega,by go_num,rfl,hq'.out,hqn',hown',hA.out.add Hroom.out hp Hc.out (HP.out (addTo l (E p).Av (E p).na) (addTo_pre l (E p).Av (E p).na)),hBi⟩,by simp [intOf];omega⟩
  ·have hkm:m=k:=by omega
   subst hkm
   obtain ⟨l1,rfl⟩:∃ l1,l1=l:=⟨_,rfl⟩
   obtain ⟨w5,rfl⟩:∃ w5:World,w5=wr:=⟨_,rfl⟩
   have hq1:=hq
   have hq1n:=hqn
   have hown1:=hown
   have hA1:=hA
   have hB1:=hB
   clear hq hqn hown hA hB hbw hso
   go_wp2_with fail
   clear hbx0
   go_loopw [5,9] (fun v i wr=>∃ (k g q cp:Nat) (l:List ByteArray),k<=q∧i=.int .i64 k∧v=.slice (some ⟨g,0,none⟩) q cp∧Hid (q=l.length)∧q<=n∧OwnL wr (w.heap.size+1) (.slice (some ⟨g,0,none⟩) q cp) l∧Hid (ChA E n S m (fun s=>(∃ i,i<m∧S i=s)∨∃ i,i<k∧getL l i=s) l)∧Below (w.heap.size+1) wb wr) (fun _ i _=>n - (intOf i).toNat)
   case atStart=>exact ⟨0,_,_,_,l1,Nat.zero_le _,rfl,rfl,hq1.out,hq1n,hown1,⟨hA1.out.nodup,hA1.out.sound,fun p hp hP=>hA1.out.closed p hp (hP.elim id fun ⟨i,hi,_⟩=>absurd hi (Nat.not_lt_zero _))⟩,hB1⟩
   case round =>
    obtain ⟨k,g,q,cp,l,hk,rfl,rfl,hq,hqn,hown,hA,hB⟩:=hrel
    have hbw:=hb0.trans (hB.mono (by omega))
    have hbx0:=hbx.out _ hB
    have hso:w.heap.size+1<=wr.heap.size:=by have:=hB.size;omega
    by_cases hlt:k<q
    ·have hr9:=h.below hbw
     have hck:wr.cell? ⟨g,k,none⟩=some (.string (getL l k)):=hown.cell hq.out (by rw [<- hq.out];exact hlt)
     have hin:getL l k ∈ l:=getL_mem (by rw [<- hq.out];exact hlt)
     obtain ⟨p,hp,hpi⟩:=chn_id Hroom.out (hA.out.sound _ hin)
     have hpk:posV E n (getL l k)=(p:Int):=by rw [<- hpi];exact posV_here Hroom.out hp
     have Hc:Hid (∀ j,j<(E p).na->Chn E n S m ((E p).Av j)):=fun j hj=>Chn.step (hA.out.sound _ hin) hp hpi hj
     have HP:Hid (∀ l':List ByteArray,(∃ r,l'=l ++ r)->∀ s,((∃ i,i<m∧S i=s)∨∃ i,i<k+1∧getL l' i=s)->((∃ i,i<m∧S i=s)∨∃ i,i<k∧getL l i=s)∨s=(E p).id):=fun l' ⟨r,er⟩ s hs=>by
      rcases hs with hs|⟨i,hi,e⟩
      ·exact Or.inl (Or.inl hs)
      ·have e1:getL l' i=getL l i:=by
        have:i<l.length:=by have:=hq.out;omega
        rw [er];simp [getL,List.getD,List.getElem?_append,this]
       rw [e1] at e
       by_cases ek:i=k
       ·subst ek;exact Or.inr (e.symm.trans hpi.symm)
       ·exact Or.inl (Or.inr ⟨i,by omega,e⟩)
     clear hin
     rcases h.cells with h0|⟨b,off,rfl,hb,hc⟩
     ·omega
     obtain ⟨_,_,aa,ca,_,_,hcs,hok⟩:=hc p hp
     have c7:=(hcs.below hbw hb).c7
     have hsa:=hok.ha
     have hbo:b<wr.heap.size:=Nat.lt_of_lt_of_le hb hbw.size
     have hat:Hid (∀ W,SlV W (some ⟨b,off,none⟩) n cap E->Calls Tryz.prog 32 #[.agg #[.slice (some ⟨b,off,none⟩) n cap],.string (getL l k)] W fun e w'=>e=.returned (.int .i64 (p:Int))∧Below W.heap.size W w'):=fun W hW=>by
      refine (l2At_sl (getL l k) W hW).mono ?_
      rintro e w' ⟨rfl,rfl⟩
      rw [hpk]
      exact ⟨rfl,bA⟩
     have Hown:Hid (OwnL wr (w.heap.size+1) (.slice (some ⟨g,0,none⟩) q cp) l):=hown
     have hna:(E p).na<=maxLen:=Nat.le_trans hsa.le hsa.max
     unfold maxLen at hna
     clear hcs hok hc hpk hown hpi
     obtain ⟨wo,rfl⟩:∃ wo:World,wo=wr:=⟨_,rfl⟩
     go_wp2_with fail
     go_region_with (go_at_call 32;refine (hat.out _ (hr9.below (by first|exact Below.refl _ _|exact (Below.refl _ _).drew|exact (Below.refl _ _).drew.drew|exact (Below.refl _ _).drew.drew.drew))).mono ?_;rintro e w2 ⟨rfl,hb2⟩;have h12:Below wo.heap.size wo w2:=Below.trans (by first|exact Below.refl wo.heap.size wo|exact (Below.refl wo.heap.size wo).drew|exact (Below.refl wo.heap.size wo).drew.drew|exact (Below.refl wo.heap.size wo).drew.drew.drew) hb2;have hbx2:=hbx.out _ (hB.trans (h12.mono hso));have c72:=(h12.cell (by exact hbo)).trans c7)
     all_goals
      have hB2:=hB.trans (h12.mono hso)
      have hown2:=OwnL.below Hown.out h12
      clear hbx2 c72 hbx0 c7 hck
      go_wp2_with fail
      go_loopw [5,11] (fun v jv wi=>∃ (j g' q' cp':Nat),j<=(E p).na∧jv=.int .i64 j∧v=.slice (some ⟨g',0,none⟩) q' cp'∧Hid (q'=(addTo l (E p).Av j).length)∧q'<=n∧q<=q'∧OwnL wi (w.heap.size+1) (.slice (some ⟨g',0,none⟩) q' cp') (addTo l (E p).Av j)∧Below (w.heap.size+1) wb wi) (fun _ jv _=>(E p).na - (intOf jv).toNat)
      case atStart=>exact ⟨0,_,_,_,Nat.zero_le _,rfl,rfl,hq.out,hqn,Nat.le_refl _,OwnL.kept hown2 (fun _ _ _=>rfl),(by first|exact hB2|exact (hB2).drew|exact (hB2).drew.drew|exact (hB2).drew.drew.drew)⟩
      case round =>
       clear hown2 hB2
       obtain ⟨j,g',q',cp',hj,rfl,rfl,hq',hqn',hqq,hown',hBi⟩:=hrel
       have hbwi:=hb0.trans (hBi.mono (by omega))
       have hsi:w.heap.size+1<=wr.heap.size:=by have:=hBi.size;omega
       by_cases hlj:j<(E p).na
       ·rcases hsa.cells with h0|⟨ba,oa,rfl,hba,hca⟩
        ·omega
        have hcj:wr.cell? ⟨ba,oa+j,none⟩=some (.string ((E p).Av j)):=(hbwi.cell (by exact hba)).trans (hca j hlj)
        have hcl:∀ i,i<q'->wr.cell? ⟨g',0+i,none⟩=some (.string (getL (addTo l (E p).Av j) i)):=fun i hi=>by rw [Nat.zero_add];exact hown'.cell hq'.out (by rw [<- hq'.out];exact hi)
        have Hn:Hid ((addTo l (E p).Av (j+1)).length<=n):=hA.out.addLen Hroom.out hp (by omega)
        clear hca
        go_wp2_with fail
        refine (has_any g' 0 q' cp' (getL (addTo l (E p).Av j)) ((E p).Av j) wr (by unfold maxLen;omega) hcl).mono ?_
        rintro e w3 ⟨rfl,hw3⟩
        subst hw3
        clear hcl
        cases hh:hasB (getL (addTo l (E p).Av j)) q' ((E p).Av j)
        case true =>
         have Hs:Hid (addTo l (E p).Av (j+1)=addTo l (E p).Av j):=addTo_has hq'.out hh
         go_wp2
         refine ⟨⟨j+1,g',q',cp',by omega,by go_num,rfl,by rw [Hs.out];exact hq',hqn',hqq,by rw [Hs.out];exact hown',hBi⟩,by simp [intOf];omega⟩
        case false =>
         have Hs:Hid (addTo l (E p).Av (j+1)=addTo l (E p).Av j ++ [(E p).Av j]):=addTo_new hq'.out hh
         have hq1n':q'+1<=n:=by have:=Hn.out;rw [Hs.out,List.length_append,<- hq'.out] at this;simpa using this
         clear Hn hh
         generalize addTo l (E p).Av j=l' at *
         have hm1:q'+1<=maxLen:=by unfold maxLen;omega
         have hm2:(q'+1) * 16<=140737488355328:=by omega
         have hm3:∀ o,w.heap.size+1<=(w3.alloc o).heap.size:=fun o=>by simp;omega
         have hag:Hid (∀ r,(Value.slice (some ⟨g',0,none⟩) q' cp').ownBlock=some r->w.heap.size+1<=r):=fun r hr=>by have:=World.ownsRow.lt hown' r hr;exact this.1
         have hownr:w3.ownsRow (w.heap.size+1) 9 1 (.slice (some ⟨g',0,none⟩) q' cp') q' (l'.map Value.string):=by have:=hown';unfold OwnL at this;rw [<- hq'.out] at this;exact this
         go_wp2_with (at_builtin;refine wpList_append_lies _ rfl _ _ 26 rfl (w.heap.size+1) 9 i0 (.string ByteArray.empty) 1 16 Tryz.underlying26 hi hz0 hz1 hz2 rfl (by decide) _ _ _ rfl (World.ownsRow.alloc hownr _) ⟨w3.heap.size,0,none⟩ 1 1 [.string ((E p).Av j)] rfl rfl (one_cells _ _ _) (one_one _) (by decide) hm1 hm2 (hm3 _) (w3.heap.size+1) (by simp) ?_;intro gg cq w4 hown4 hgrow4 hat4 hlt4)
         have hown5:OwnL w4 (w.heap.size+1) (.slice (some ⟨gg,0,none⟩) (q'+1) cq) (l' ++ [(E p).Av j]):=by
          rw [hq'.out] at hown4 ⊢
          exact OwnL.snoc hown4
         have hB4:Below (w.heap.size+1) wb w4:=(hBi.alloc (by omega) _).grown hgrow4 (hm3 _) hag.out
         refine ⟨⟨j+1,_,_,_,by omega,by go_num,rfl,by rw [Hs.out];simp [hq'.out,Hid],hq1n',by omega,by rw [Hs.out];exact hown5,hB4⟩,by simp [intOf];omega⟩
       ·have hjn:(E p).na=j:=by omega
        subst hjn
        go_wp2
        refine ⟨⟨k+1,g',q',cp',addTo l (E p).Av (E p).na,by omega,by go_num,rfl,hq'.out,hqn',hown',hA.out.add Hroom.out hp Hc.out (HP.out (addTo l (E p).Av (E p).na) (addTo_pre l (E p).Av (E p).na)),hBi⟩,by simp [intOf];omega⟩
    ·have hkq:q=k:=by omega
     subst hkq
     have Hmem:Hid (∀ s,s ∈ l↔Chn E n S m s):=fun s=>ChA.mem (by have:=hA.out;rw [hq.out] at this;exact this) s
     have hsz:∀ s ∈ l,s.size<=maxLen:=fun s hs=>by
      obtain ⟨j,hj,rfl⟩:=chn_id Hroom.out (hA.out.sound s hs)
      rcases h.cells with h0|⟨b,off,_,_,hc⟩
      ·omega
      ·obtain ⟨_,_,_,_,_,_,_,hok⟩:=hc j hj
       exact hok.hid
     obtain ⟨a',cap',e1,hsl,_⟩:=hown.sl hsz
     injection e1 with e1 e2 e3
     subst e3
     rw [<- e1,<- hq.out] at hsl
     clear e2 e1 hsz
     go_wp2_with fail
     refine (l2s_sl _ (by omega) hsl).mono ?_
     rintro e w2 ⟨v,l2,rfl,hown2,hsrt,hmem2,hb2⟩
     have Hm2:Hid (_):=hmem2
     have Hs2:Hid (_):=hsrt
     clear hmem2 hsrt
     go_wp2
     go_ret
     refine ⟨v,l2,rfl,hown2.mono (by omega),Hs2.out,fun s=>?_,hbw.trans (hb2.mono hbw.size)⟩
     rw [Hm2.out,<- Hmem.out]
     constructor
     ·rintro ⟨i,hi,rfl⟩
      exact getL_mem (by rw [<- hq.out];exact hi)
     ·intro hs
      obtain ⟨i,hi,e⟩:=mem_getL hs
      exact ⟨i,by rw [hq.out];exact hi,e⟩
structure FitL (E:Nat->Ev)(n:Nat)(l:List Ent):Prop where
 srt:SrtE l
 fit:∀ x ∈ l,fit1 E n x=true
theorem fit1_parts {E:Nat->Ev}{n:Nat}{x:Ent}(h:fit1 E n x=true):∃ p,p<n∧posV E n x.id=(p:Int)∧(E p).st=true∧(E p).ty=x.ty∧(E p).key=x.key∧(E p).id=x.id:=by
 unfold fit1 at h
 simp only [Bool.and_eq_true,decide_eq_true_eq] at h
 obtain ⟨h0,h1,h2,h3⟩:=h
 obtain ⟨p,hp,e,ei⟩:=posV_nat h0
 rw [e,Int.toNat_natCast] at h1 h2 h3
 exact ⟨p,hp,e,h1,ba_of_toList h2,ba_of_toList h3,ei⟩
theorem fit1_of {E:Nat->Ev}{n p:Nat}(hr:roomTo E n=true)(hp:p<n)(hs:(E p).st=true):fit1 E n ⟨(E p).ty,(E p).key,(E p).id⟩=true:=by
 unfold fit1
 simp only [posV_here hr hp,Int.toNat_natCast,hs,beq_self_eq_true,Bool.and_true]
 exact decide_eq_true (by omega)
theorem FitL.nil (E:Nat->Ev)(n:Nat):FitL E n []:=⟨List.Pairwise.nil,fun x h=>by cases h⟩
theorem FitL.len {E:Nat->Ev}{n:Nat}{l:List Ent}(hr:roomTo E n=true)(h:FitL E n l):l.length<=n:=by
 have hn:(l.map Ent.id).Nodup:=by
  refine List.pairwise_map.2 ((List.pairwise_iff_getElem.2 fun i j hi hj hij=>?_))
  intro e
  obtain ⟨p,_,ep,_,t1,k1,_⟩:=fit1_parts (h.fit _ (List.getElem_mem hi))
  obtain ⟨q,_,eq,_,t2,k2,_⟩:=fit1_parts (h.fit _ (List.getElem_mem hj))
  rw [e,eq] at ep
  have hpq:p=q:=by omega
  subst hpq
  have hx:l[i]=l[j]:=srt_uniq h.srt (List.getElem_mem hi) (List.getElem_mem hj) ⟨t1.symm.trans t2,k1.symm.trans k2⟩
  have hlt:=srt_at h.srt hij hj
  rw [eAt_get l i hi,eAt_get l j hj,hx] at hlt
  exact Lt.irrefl _ hlt
 have:=ids_len hr hn (fun s hs=>by
  obtain ⟨x,hx,rfl⟩:=List.mem_map.1 hs
  obtain ⟨p,hp,_,_,_,_,ei⟩:=fit1_parts (h.fit x hx)
  exact ⟨p,hp,ei⟩)
 rwa [List.length_map] at this
theorem FitL.ids {E:Nat->Ev}{n:Nat}{l:List Ent}(hr:roomTo E n=true)(h:FitL E n l):Ids l:=fun x hx=>by
 obtain ⟨p,hp,ep,_⟩:=fit1_parts (h.fit x hx)
 cases hc:x.id.toList.isEmpty
 ·rfl
 ·have:=posV_empty hr hc
  omega
theorem FitL.st {E:Nat->Ev}{n:Nat}{l:List Ent}(hr:roomTo E n=true)(h:FitL E n l):stB l=true:=by
 have h3:=Nat.le_trans (h.len hr) (room_300 hr)
 have hi:=h.ids hr
 unfold stB
 rw [ord_of h.srt,decide_eq_true h3,Bool.and_true,Bool.and_true]
 by_cases hc:idsTo l l.length=true
 ·exact hc
 ·exfalso
  have:∀ m,m<=l.length->idsTo l m=true:=fun m=>by
   induction m with
   | zero=>intro _;rfl
   | succ m ih =>
    intro hm
    unfold idsTo
    rw [ih (by omega),hi _ (eAt_mem l m (by omega))]
    rfl
  exact hc (this _ (Nat.le_refl _))
theorem FitL.fitB {E:Nat->Ev}{n:Nat}{l:List Ent}(hr:roomTo E n=true)(h:FitL E n l):fitB E n l=true:=by
 unfold Proofs.YtnbdlaglnefcbaaGreat.fitB
 rw [h.st hr,Bool.and_true]
 have:∀ m,m<=l.length->fitTo E n l m=true:=fun m=>by
  induction m with
  | zero=>intro _;rfl
  | succ m ih =>
   intro hm
   unfold fitTo
   rw [ih (by omega),h.fit _ (eAt_mem l m (by omega))]
   rfl
 exact this _ (Nat.le_refl _)
theorem FitL.set {E:Nat->Ev}{n:Nat}{l:List Ent}{x:Ent}(h:FitL E n l)(hx:x.id.toList.isEmpty=false->fit1 E n x=true):FitL E n (setL l x false):=by
 refine ⟨setL_srt h.srt x false,fun y hy=>?_⟩
 rcases (setL_in h.srt x false y).1 hy with ⟨h1,_⟩|⟨rfl,h2⟩
 ·exact h.fit y h1
 ·refine hx ?_
  unfold kept at h2
  simpa using h2
theorem FitL.pat {E:Nat->Ev}{n:Nat}{l ch:List Ent}(h:FitL E n l)(hc:FitL E n ch):∀ k,k<=ch.length->FitL E n (patL l ch k)
 | 0,_=>h
 | k+1,hk=>(h.pat hc k (by omega)).set fun _=>hc.fit _ (eAt_mem ch k (by omega))
theorem FitL.grow {E E':Nat->Ev}{n m:Nat}{l:List Ent}(hr':roomTo E' m=true)(hnm:n<=m)(he:∀ i,i<n->E' i=E i)(h:FitL E n l):FitL E' m l:=⟨h.srt,fun x hx=>by
 obtain ⟨p,hp,ep,h1,h2,h3,h4⟩:=fit1_parts (h.fit x hx)
 have hq:=fit1_of hr' (show p<m by omega) (by rw [he p hp];exact h1)
 rw [he p hp,h2,h3,h4] at hq
 exact hq⟩
def FuS (E:Nat->Ev)(n:Nat)(l:List Ent)(s:ByteArray):Prop:=(∃ x ∈ l,x.id=s)∨Chn E n (getL (l.map Ent.id)) l.length s
def DfP (P:Nat->ByteArray->Prop)(m:Nat)(s:ByteArray):Prop:=(∃ i,i<m∧P i s)∧∃ j,j<m∧¬ P j s
def CfP (E:Nat->Ev)(n:Nat)(L:Nat->List Ent)(m:Nat)(s:ByteArray):Prop:=(∃ x,(agTo L x m=false∧InS L m x)∧x.id=s)∨DfP (fun i=>FuS E n (L i)) m s
theorem chn_in {E:Nat->Ev}{n:Nat}{S:Nat->ByteArray}{m:Nat}{s:ByteArray}(hr:roomTo E n=true)(h:Chn E n S m s):∃ j,j<n∧(E j).id=s:=by
 cases h with
 | base _ hp _ hk=>obtain ⟨j,hj,_,e1⟩:=auth_there hr hp hk;exact ⟨j,by omega,e1⟩
 | step _ hp _ hk=>obtain ⟨j,hj,_,e1⟩:=auth_there hr hp hk;exact ⟨j,by omega,e1⟩
theorem fuS_in {E:Nat->Ev}{n:Nat}{l:List Ent}{s:ByteArray}(hr:roomTo E n=true)(hf:FitL E n l)(h:FuS E n l s):∃ j,j<n∧(E j).id=s:=by
 rcases h with ⟨x,hx,rfl⟩|h
 ·obtain ⟨p,hp,_,_,_,_,e⟩:=fit1_parts (hf.fit x hx);exact ⟨p,hp,e⟩
 ·exact chn_in hr h
theorem cfP_in {E:Nat->Ev}{n:Nat}{L:Nat->List Ent}{m:Nat}{s:ByteArray}(hr:roomTo E n=true)(hf:∀ i,i<m->FitL E n (L i))(h:CfP E n L m s):∃ j,j<n∧(E j).id=s:=by
 rcases h with ⟨x,⟨_,i,hi,hx⟩,rfl⟩|⟨⟨i,hi,h⟩,_⟩
 ·obtain ⟨p,hp,_,_,_,_,e⟩:=fit1_parts ((hf i hi).fit x hx);exact ⟨p,hp,e⟩
 ·exact fuS_in hr (hf i hi) h
def viewTo (E:Nat->Ev)(n:Nat)(s:List Ent)(e:Ev):Nat->List Ent
 | 0=>[]
 | k+1=>setL (viewTo E n s e k) ⟨(eAt (ndL e) k).ty,(eAt (ndL e) k).key,if (findB s (eAt (ndL e) k).ty (eAt (ndL e) k).key).toList.isEmpty then frV E n (evP (eAt (ndL e) k).ty (eAt (ndL e) k).key) e else findB s (eAt (ndL e) k).ty (eAt (ndL e) k).key⟩ false
def viewL (E:Nat->Ev)(n:Nat)(s:List Ent)(e:Ev):List Ent:=viewTo E n s e (ndL e).length
def try1 (E:Nat->Ev)(n:Nat)(s:List Ent)(e:Ev):List Ent:=if e.st=true∧alV (evO E n (viewL E n s e)) e=0 then setL s ⟨e.ty,e.key,e.id⟩ false else s
def tryL (E:Nat->Ev)(n:Nat)(s:List Ent):List ByteArray->List Ent
 | []=>s
 | t :: r=>tryL E n (try1 E n s (E (posV E n t).toNat)) r
theorem tryL_snoc (E:Nat->Ev)(n:Nat)(t:ByteArray):∀ (r:List ByteArray) (s:List Ent),tryL E n s (r ++ [t])=try1 E n (tryL E n s r) (E (posV E n t).toNat)
 | [],s=>rfl
 | u :: r,s=>by
  show tryL E n _ (r ++ [t])=_
  rw [tryL_snoc E n t r]
  rfl
theorem FitL.try1 {E:Nat->Ev}{n p:Nat}{s:List Ent}(hr:roomTo E n=true)(h:FitL E n s)(hp:p<n):FitL E n (try1 E n s (E p)):=by
 unfold Proofs.YtnbdlaglnefcbaaGreat.try1
 split
 ·rename_i hc
  exact h.set fun _=>fit1_of hr hp hc.1
 ·exact h
theorem FitL.tryL {E:Nat->Ev}{n:Nat}(hr:roomTo E n=true):∀ {r:List ByteArray} {s:List Ent},FitL E n s->(∀ t ∈ r,0<=posV E n t)->FitL E n (tryL E n s r)
 | [],_,h,_=>h
 | t :: r,s,h,ht=>by
  have h0:=ht t List.mem_cons_self
  have h1:=posV_bd E t n
  exact FitL.tryL hr (r:=r) (h.try1 hr (show (posV E n t).toNat<n by omega)) fun u hu=>ht u (List.mem_cons_of_mem _ hu)
def ResR (E:Nat->Ev)(n:Nat)(L:Nat->List Ent)(m:Nat)(l:List Ent):Prop :=
 ∃ (f r:List ByteArray) (o:List Nat),(Srt f∧∀ s,s ∈ f↔CfP E n L m s)∧PoOrd E n (getL f) f.length o ∧
  (OrdL E n (fun p:Nat=>dp E n (ln E n (posV E n (findB (tryL E n (saI L m m) (o.map fun p=>(E p).id)) tPow tNil))) (p:Int)) r∧∀ s,s ∈ r↔s ∈ f∧s ∉ o.map fun p=>(E p).id) ∧
  l=patL (tryL E n (tryL E n (saI L m m) (o.map fun p=>(E p).id)) r) (saI L m m) (saI L m m).length
theorem okTo_fit {E:Nat->Ev}{n:Nat}(hr:roomTo E n=true){L:Nat->List Ent}:∀ {m},(∀ i,i<m->FitL E n (L i))->okTo L m=true
 | 0,_=>rfl
 | m+1,h=>by
  unfold okTo
  rw [okTo_fit hr (fun i hi=>h i (by omega)),(h m (by omega)).st hr]
  rfl
theorem same_fit {E:Nat->Ev}{n:Nat}(hr:roomTo E n=true){L:Nat->List Ent}{m:Nat}(h:∀ i,i<m->FitL E n (L i)):FitL E n (saI L m m):=by
 rcases Nat.eq_zero_or_pos m with rfl|hm
 ·exact FitL.nil E n
 ·obtain ⟨h1,h2⟩:=saI_in hm (okTo_fit hr h)
  refine ⟨h1,fun x hx=>?_⟩
  obtain ⟨_,i,hi,hxi⟩:=(h2 x).1 hx
  exact (h i hi).fit x hxi
theorem po_in {E:Nat->Ev}{n:Nat}{S:Nat->ByteArray}{m:Nat}{o:List Nat}(hr:roomTo E n=true)(h:PoOrd E n S m o):∀ t ∈ o.map (fun p=>(E p).id),0<=posV E n t:=fun t ht=>by
 obtain ⟨p,hp,rfl⟩:=List.mem_map.1 ht
 rw [posV_here hr (h.lt p hp)]
 omega
theorem ResR.fit {E:Nat->Ev}{n:Nat}{L:Nat->List Ent}{m:Nat}{l:List Ent}(hr:roomTo E n=true)(hf:∀ i,i<m->FitL E n (L i))(h:ResR E n L m l):FitL E n l:=by
 obtain ⟨f,r,o,⟨_,h2⟩,h3,⟨_,h5⟩,rfl⟩:=h
 have hs:=same_fit hr hf
 have h6:=FitL.tryL hr hs (po_in hr h3)
 have h7:=FitL.tryL hr (r:=r) h6 (fun t ht=>by
  obtain ⟨j,hj,e⟩:=cfP_in hr hf ((h2 t).1 ((h5 t).1 ht).1)
  rw [<- e,posV_here hr hj]
  omega)
 exact h7.pat hs _ (Nat.le_refl _)
theorem ord_uniq {E:Nat->Ev}{n:Nat}{D:Nat->Nat}{l l':List ByteArray}(h:OrdL E n D l)(h':OrdL E n D l')(hm:∀ s,s ∈ l↔s ∈ l'):l=l':=by
 have nd:∀ {l:List ByteArray},OrdL E n D l->l.Nodup:=fun {l} h=>h.imp fun {a b} hab e=>by subst e;exact absurd hab (Bef.irrefl _)
 refine List.Perm.eq_of_pairwise (le:=fun a b:ByteArray=>Bef E D (plc E n a) (plc E n b)) (fun a b _ _ hab hba=>?_) h h' ((List.perm_ext_iff_of_nodup (nd h) (nd h')).2 hm)
 exact absurd (hab.trans hba) (Bef.irrefl _)
theorem ResR.uniq {E:Nat->Ev}{n:Nat}{L:Nat->List Ent}{m:Nat}{l l':List Ent}(h:ResR E n L m l)(h':ResR E n L m l'):l=l':=by
 obtain ⟨f,r,o,⟨h1,h2⟩,h3,⟨h4,h5⟩,rfl⟩:=h
 obtain ⟨f',r',o',⟨h1',h2'⟩,h3',⟨h4',h5'⟩,rfl⟩:=h'
 have ef:f=f':=srt_unique h1 h1' (fun s=>(h2 s).trans (h2' s).symm)
 subst ef
 have eo:o=o':=h3.uniq h3'
 subst eo
 have er:r=r':=ord_uniq h4 h4' (fun s=>(h5 s).trans (h5' s).symm)
 subst er
 rfl
end Go.Proofs.YtnbdlaglnefcbaaGreat
