import Derived.Test.YtpmebojkkjlkgaaGreatPoQZ
namespace Go.Proofs.YtpmebojkkjlkgaaGreat
open Go.RowKit
def ChPost (w : World) (E : Nat -> Ev) (n : Nat) (S : Nat -> ByteArray) (m : Nat) (e : Ending) (w' : World) : Prop :=
 ∃ v l, e = .returned v ∧ OwnL w' w.heap.size v l ∧ Srt l ∧ (∀ s, s ∈ l ↔ Chn E n S m s) ∧ Below w.heap.size w w'
theorem addTo_has {l : List ByteArray} {A : Nat -> ByteArray} {k q : Nat} (hq : q = (addTo l A k).length) (h : hasB (getL (addTo l A k)) q (A k) = true) : addTo l A (k + 1) = addTo l A k := by
 subst hq; rw [addTo, addL, if_pos h]
theorem addTo_new {l : List ByteArray} {A : Nat -> ByteArray} {k q : Nat} (hq : q = (addTo l A k).length) (h : hasB (getL (addTo l A k)) q (A k) = false) : addTo l A (k + 1) = addTo l A k ++ [A k] := by
 subst hq; rw [addTo, addL, if_neg (by simp [h])]
theorem posV_nat {E : Nat -> Ev} {n : Nat} {s : ByteArray} (h : 0 <= posV E n s) : ∃ p, p < n ∧ posV E n s = (p : Int) ∧ (E p).id = s := by
 obtain ⟨i, hi, e, hb⟩ := posV_found E s n h
 exact ⟨i, hi, e, ba_of_toList hb⟩
set_option maxRecDepth 100000 in
set_option maxHeartbeats 4000000 in
theorem l2Chain_sl {a : Option Addr} {n cap : Nat} {E : Nat -> Ev} {ia : Option Addr} {m icap : Nat} {S : Nat -> ByteArray} (w : World) (hroom : roomTo E n = true) (h : SlV w a n cap E) (hids : SlS w ia m icap S) (hm : m <= 300) (hth : ∀ i, i < m -> 0 <= posV E n (S i)) :
  Calls Tryz.prog 20 #[.agg #[.slice a n cap], .slice ia m icap] w (ChPost w E n S m) := by
 have h300 := room_300 hroom
 obtain ⟨i0, hi, hz0, hz1, hz2⟩ := info_parts Tryz.infoString
 obtain ⟨wb, hwb⟩ : ∃ wb, wb = w.alloc (.cells #[.slice a n cap] 25) := ⟨_, rfl⟩
 have hb0 : Below w.heap.size w wb := by rw [hwb]; exact (Below.refl _ _).alloc (Nat.le_refl _) _
 have hs0 : wb.heap.size = w.heap.size + 1 := by rw [hwb]; simp
 have hb1 : Below (w.heap.size + 1) wb (wb.alloc (.cells #[] 9)) := (Below.refl _ _).alloc (by omega) _
 have ho1 : OwnL (wb.alloc (.cells #[] 9)) (w.heap.size + 1) (.slice (some ⟨wb.heap.size, 0, none⟩) 0 0) [] := OwnL.new wb _ (by omega)
 rw [hs0] at ho1
 have hbx : Hid (∀ wx, Below (w.heap.size + 1) wb wx -> wx.cell? ⟨w.heap.size, 0, none⟩ = some (.slice a n cap)) := fun wx hx => by subst hwb; exact box_cells hx 0
 have Hth : Hid (_) := hth
 have Hroom : Hid (_) := hroom
 clear hth hroom
 go_enter Tryz.func20, Tryz.ntmps20
 go_wp2_with fail
 rw [<- hwb]
 go_loopw [5, 6] (fun v i wr => ∃ (k g q cp : Nat) (l : List ByteArray), k <= m ∧ i = .int .i64 k ∧ v = .slice (some ⟨g, 0, none⟩) q cp ∧ Hid (q = l.length) ∧ q <= n ∧ OwnL wr (w.heap.size + 1) (.slice (some ⟨g, 0, none⟩) q cp) l ∧ Hid (ChA E n S m (fun s => ∃ i, i < k ∧ S i = s) l) ∧ Below (w.heap.size + 1) wb wr) (fun _ i _ => m - (intOf i).toNat)
 case atStart => exact ⟨0, _, _, _, [], Nat.zero_le _, rfl, rfl, rfl, Nat.zero_le _, ho1, ⟨List.nodup_nil, fun s hs => absurd hs (by simp), fun p _ hP _ _ => absurd hP (by rintro ⟨i, hi, _⟩; omega)⟩, hb1⟩
 case round =>
  obtain ⟨k, g, q, cp, l, hk, rfl, rfl, hq, hqn, hown, hA, hB⟩ := hrel
  have hbw := hb0.trans (hB.mono (by omega))
  have hbx0 := hbx.out _ hB
  have hso : w.heap.size + 1 <= wr.heap.size := by have := hB.size; omega
  by_cases hlt : k < m
  ·have hr9 := h.below hbw
   rcases hids.cells with h0 | ⟨bi, oi, rfl, hbi, hci⟩
   ·omega
   have hck : wr.cell? ⟨bi, oi + k, none⟩ = some (.string (S k)) := (hbw.cell (by exact hbi)).trans (hci k hlt)
   obtain ⟨p, hp, hpk, hpi⟩ := posV_nat (Hth.out k hlt)
   have Hc : Hid (∀ j, j < (E p).na -> Chn E n S m ((E p).Av j)) := fun j hj => Chn.base hlt hp hpi hj
   have HP : Hid (∀ l' : List ByteArray, (∃ r, l' = l ++ r) -> ∀ s, (∃ i, i < k + 1 ∧ S i = s) -> (∃ i, i < k ∧ S i = s) ∨ s = (E p).id) := fun l' _ s ⟨i, hi, e⟩ => by
    by_cases ek : i = k
    ·subst ek; exact Or.inr (e.symm.trans hpi.symm)
    ·exact Or.inl ⟨i, by omega, e⟩
   clear hci
   rcases h.cells with h0 | ⟨b, off, rfl, hb, hc⟩
   ·omega
   obtain ⟨_, _, aa, ca, _, _, hcs, hok⟩ := hc p hp
   have c7 := (hcs.below hbw hb).c7
   have hsa := hok.ha
   have hbo : b < wr.heap.size := Nat.lt_of_lt_of_le hb hbw.size
   have hat : Hid (∀ W, SlV W (some ⟨b, off, none⟩) n cap E -> Calls Tryz.prog 33 #[.agg #[.slice (some ⟨b, off, none⟩) n cap], .string (S k)] W fun e w' => e = .returned (.int .i64 (p : Int)) ∧ Below W.heap.size W w') := fun W hW => by
    refine (l2At_sl (S k) W hW).mono ?_
    rintro e w' ⟨rfl, rfl⟩
    rw [hpk]
    exact ⟨rfl, (Below.refl _ _).alloc (Nat.le_refl _) _⟩
   have Hown : Hid (OwnL wr (w.heap.size + 1) (.slice (some ⟨g, 0, none⟩) q cp) l) := hown
   have hna : (E p).na <= maxLen := Nat.le_trans hsa.le hsa.max
   unfold maxLen at hna
   clear hcs hok hc hpk hown hpi
   obtain ⟨wo, rfl⟩ : ∃ wo : World, wo = wr := ⟨_, rfl⟩
   go_wp2_with fail
   go_region_with (go_at_call 33; refine (hat.out _ (hr9.below (by first | exact Below.refl _ _ | exact (Below.refl _ _).drew | exact (Below.refl _ _).drew.drew | exact (Below.refl _ _).drew.drew.drew))).mono ?_; rintro e w2 ⟨rfl, hb2⟩; have h12 : Below wo.heap.size wo w2 := Below.trans (by first | exact Below.refl wo.heap.size wo | exact (Below.refl wo.heap.size wo).drew | exact (Below.refl wo.heap.size wo).drew.drew | exact (Below.refl wo.heap.size wo).drew.drew.drew) hb2; have hbx2 := hbx.out _ (hB.trans (h12.mono hso)); have c72 := (h12.cell (by exact hbo)).trans c7)
   all_goals
    have hB2 := hB.trans (h12.mono hso)
    have hown2 := OwnL.below Hown.out h12
    clear hbx2 c72 hbx0 c7 hck
    go_wp2_with fail
    go_loopw [5, 8] (fun v jv wi => ∃ (j g' q' cp' : Nat), j <= (E p).na ∧ jv = .int .i64 j ∧ v = .slice (some ⟨g', 0, none⟩) q' cp' ∧ Hid (q' = (addTo l (E p).Av j).length) ∧ q' <= n ∧ q <= q' ∧ OwnL wi (w.heap.size + 1) (.slice (some ⟨g', 0, none⟩) q' cp') (addTo l (E p).Av j) ∧ Below (w.heap.size + 1) wb wi) (fun _ jv _ => (E p).na - (intOf jv).toNat)
    case atStart => exact ⟨0, _, _, _, Nat.zero_le _, rfl, rfl, hq.out, hqn, Nat.le_refl _, OwnL.kept hown2 (fun _ _ _ => rfl), (by first | exact hB2 | exact (hB2).drew | exact (hB2).drew.drew | exact (hB2).drew.drew.drew)⟩
    case round =>
     clear hown2 hB2
     obtain ⟨j, g', q', cp', hj, rfl, rfl, hq', hqn', hqq, hown', hBi⟩ := hrel
     have hbwi := hb0.trans (hBi.mono (by omega))
     have hsi : w.heap.size + 1 <= wr.heap.size := by have := hBi.size; omega
     by_cases hlj : j < (E p).na
     ·rcases hsa.cells with h0 | ⟨ba, oa, rfl, hba, hca⟩
      ·omega
      have hcj : wr.cell? ⟨ba, oa + j, none⟩ = some (.string ((E p).Av j)) := (hbwi.cell (by exact hba)).trans (hca j hlj)
      have hcl : ∀ i, i < q' -> wr.cell? ⟨g', 0 + i, none⟩ = some (.string (getL (addTo l (E p).Av j) i)) := fun i hi => by rw [Nat.zero_add]; exact hown'.cell hq'.out (by rw [<- hq'.out]; exact hi)
      have Hn : Hid ((addTo l (E p).Av (j + 1)).length <= n) := hA.out.addLen Hroom.out hp (by omega)
      clear hca
      go_wp2_with fail
      refine (has_any g' 0 q' cp' (getL (addTo l (E p).Av j)) ((E p).Av j) wr (by unfold maxLen; omega) hcl).mono ?_
      rintro e w3 ⟨rfl, hw3⟩
      subst hw3
      clear hcl
      cases hh : hasB (getL (addTo l (E p).Av j)) q' ((E p).Av j)
      case true =>
       have Hs : Hid (addTo l (E p).Av (j + 1) = addTo l (E p).Av j) := addTo_has hq'.out hh
       go_wp2
       refine ⟨⟨j + 1, g', q', cp', by omega, by go_num, rfl, by rw [Hs.out]; exact hq', hqn', hqq, by rw [Hs.out]; exact hown', hBi⟩, by simp [intOf]; omega⟩
      case false =>
       have Hs : Hid (addTo l (E p).Av (j + 1) = addTo l (E p).Av j ++ [(E p).Av j]) := addTo_new hq'.out hh
       have hq1n' : q' + 1 <= n := by have := Hn.out; rw [Hs.out, List.length_append, <- hq'.out] at this; simpa using this
       clear Hn hh
       generalize addTo l (E p).Av j = l' at *
       have hm1 : q' + 1 <= maxLen := by unfold maxLen; omega
       have hm2 : (q' + 1) * 16 <= 140737488355328 := by omega
       have hm3 : ∀ o, w.heap.size + 1 <= (w3.alloc o).heap.size := fun o => by simp; omega
       have hag : Hid (∀ r, (Value.slice (some ⟨g', 0, none⟩) q' cp').ownBlock = some r -> w.heap.size + 1 <= r) := fun r hr => by have := World.ownsRow.lt hown' r hr; exact this.1
       have hownr : w3.ownsRow (w.heap.size + 1) 9 1 (.slice (some ⟨g', 0, none⟩) q' cp') q' (l'.map Value.string) := by have := hown'; unfold OwnL at this; rw [<- hq'.out] at this; exact this
       go_wp2_with (at_builtin; refine wpList_append_lies _ rfl _ _ 38 rfl (w.heap.size + 1) 9 i0 (.string ByteArray.empty) 1 16 Tryz.underlying38 hi hz0 hz1 hz2 rfl (by decide) _ _ _ rfl (World.ownsRow.alloc hownr _) ⟨w3.heap.size, 0, none⟩ 1 1 [.string ((E p).Av j)] rfl rfl (one_cells _ _ _) (one_one _) (by decide) hm1 hm2 (hm3 _) (w3.heap.size + 1) (by simp) ?_; intro gg cq w4 hown4 hgrow4 hat4 hlt4)
       have hown5 : OwnL w4 (w.heap.size + 1) (.slice (some ⟨gg, 0, none⟩) (q' + 1) cq) (l' ++ [(E p).Av j]) := by
        rw [hq'.out] at hown4 ⊢
        exact OwnL.snoc hown4
       have hB4 : Below (w.heap.size + 1) wb w4 := (hBi.alloc (by omega) _).grown hgrow4 (hm3 _) hag.out
       refine ⟨⟨j + 1, _, _, _, by omega, by go_num, rfl, by rw [Hs.out]; simp [hq'.out, Hid], hq1n', by omega, by rw [Hs.out]; exact hown5, hB4⟩, by simp [intOf]; omega⟩
     ·have hjn : (E p).na = j := by omega
      subst hjn
      go_wp2
      refine ⟨⟨k + 1, g', q', cp', addTo l (E p).Av (E p).na, by omega, by go_num, rfl, hq'.out, hqn', hown', hA.out.add Hroom.out hp Hc.out (HP.out (addTo l (E p).Av (E p).na) (addTo_pre l (E p).Av (E p).na)), hBi⟩, by simp [intOf]; omega⟩
  ·have hkm : m = k := by omega
   subst hkm
   obtain ⟨l1, rfl⟩ : ∃ l1, l1 = l := ⟨_, rfl⟩
   obtain ⟨w5, rfl⟩ : ∃ w5 : World, w5 = wr := ⟨_, rfl⟩
   have hq1 := hq
   have hq1n := hqn
   have hown1 := hown
   have hA1 := hA
   have hB1 := hB
   clear hq hqn hown hA hB hbw hso
   go_wp2_with fail
   clear hbx0
   go_loopw [5, 9] (fun v i wr => ∃ (k g q cp : Nat) (l : List ByteArray), k <= q ∧ i = .int .i64 k ∧ v = .slice (some ⟨g, 0, none⟩) q cp ∧ Hid (q = l.length) ∧ q <= n ∧ OwnL wr (w.heap.size + 1) (.slice (some ⟨g, 0, none⟩) q cp) l ∧ Hid (ChA E n S m (fun s => (∃ i, i < m ∧ S i = s) ∨ ∃ i, i < k ∧ getL l i = s) l) ∧ Below (w.heap.size + 1) wb wr) (fun _ i _ => n - (intOf i).toNat)
   case atStart => exact ⟨0, _, _, _, l1, Nat.zero_le _, rfl, rfl, hq1.out, hq1n, hown1, ⟨hA1.out.nodup, hA1.out.sound, fun p hp hP => hA1.out.closed p hp (hP.elim id fun ⟨i, hi, _⟩ => absurd hi (Nat.not_lt_zero _))⟩, hB1⟩
   case round =>
    obtain ⟨k, g, q, cp, l, hk, rfl, rfl, hq, hqn, hown, hA, hB⟩ := hrel
    have hbw := hb0.trans (hB.mono (by omega))
    have hbx0 := hbx.out _ hB
    have hso : w.heap.size + 1 <= wr.heap.size := by have := hB.size; omega
    by_cases hlt : k < q
    ·have hr9 := h.below hbw
     have hck : wr.cell? ⟨g, k, none⟩ = some (.string (getL l k)) := hown.cell hq.out (by rw [<- hq.out]; exact hlt)
     have hin : getL l k ∈ l := getL_mem (by rw [<- hq.out]; exact hlt)
     obtain ⟨p, hp, hpi⟩ := chn_id Hroom.out (hA.out.sound _ hin)
     have hpk : posV E n (getL l k) = (p : Int) := by rw [<- hpi]; exact posV_here Hroom.out hp
     have Hc : Hid (∀ j, j < (E p).na -> Chn E n S m ((E p).Av j)) := fun j hj => Chn.step (hA.out.sound _ hin) hp hpi hj
     have HP : Hid (∀ l' : List ByteArray, (∃ r, l' = l ++ r) -> ∀ s, ((∃ i, i < m ∧ S i = s) ∨ ∃ i, i < k + 1 ∧ getL l' i = s) -> ((∃ i, i < m ∧ S i = s) ∨ ∃ i, i < k ∧ getL l i = s) ∨ s = (E p).id) := fun l' ⟨r, er⟩ s hs => by
      rcases hs with hs | ⟨i, hi, e⟩
      ·exact Or.inl (Or.inl hs)
      ·have e1 : getL l' i = getL l i := by
        have : i < l.length := by have := hq.out; omega
        rw [er]; simp [getL, List.getD, List.getElem?_append, this]
       rw [e1] at e
       by_cases ek : i = k
       ·subst ek; exact Or.inr (e.symm.trans hpi.symm)
       ·exact Or.inl (Or.inr ⟨i, by omega, e⟩)
     clear hin
     rcases h.cells with h0 | ⟨b, off, rfl, hb, hc⟩
     ·omega
     obtain ⟨_, _, aa, ca, _, _, hcs, hok⟩ := hc p hp
     have c7 := (hcs.below hbw hb).c7
     have hsa := hok.ha
     have hbo : b < wr.heap.size := Nat.lt_of_lt_of_le hb hbw.size
     have hat : Hid (∀ W, SlV W (some ⟨b, off, none⟩) n cap E -> Calls Tryz.prog 33 #[.agg #[.slice (some ⟨b, off, none⟩) n cap], .string (getL l k)] W fun e w' => e = .returned (.int .i64 (p : Int)) ∧ Below W.heap.size W w') := fun W hW => by
      refine (l2At_sl (getL l k) W hW).mono ?_
      rintro e w' ⟨rfl, rfl⟩
      rw [hpk]
      exact ⟨rfl, (Below.refl _ _).alloc (Nat.le_refl _) _⟩
     have Hown : Hid (OwnL wr (w.heap.size + 1) (.slice (some ⟨g, 0, none⟩) q cp) l) := hown
     have hna : (E p).na <= maxLen := Nat.le_trans hsa.le hsa.max
     unfold maxLen at hna
     clear hcs hok hc hpk hown hpi
     obtain ⟨wo, rfl⟩ : ∃ wo : World, wo = wr := ⟨_, rfl⟩
     go_wp2_with fail
     go_region_with (go_at_call 33; refine (hat.out _ (hr9.below (by first | exact Below.refl _ _ | exact (Below.refl _ _).drew | exact (Below.refl _ _).drew.drew | exact (Below.refl _ _).drew.drew.drew))).mono ?_; rintro e w2 ⟨rfl, hb2⟩; have h12 : Below wo.heap.size wo w2 := Below.trans (by first | exact Below.refl wo.heap.size wo | exact (Below.refl wo.heap.size wo).drew | exact (Below.refl wo.heap.size wo).drew.drew | exact (Below.refl wo.heap.size wo).drew.drew.drew) hb2; have hbx2 := hbx.out _ (hB.trans (h12.mono hso)); have c72 := (h12.cell (by exact hbo)).trans c7)
     all_goals
      have hB2 := hB.trans (h12.mono hso)
      have hown2 := OwnL.below Hown.out h12
      clear hbx2 c72 hbx0 c7 hck
      go_wp2_with fail
      go_loopw [5, 11] (fun v jv wi => ∃ (j g' q' cp' : Nat), j <= (E p).na ∧ jv = .int .i64 j ∧ v = .slice (some ⟨g', 0, none⟩) q' cp' ∧ Hid (q' = (addTo l (E p).Av j).length) ∧ q' <= n ∧ q <= q' ∧ OwnL wi (w.heap.size + 1) (.slice (some ⟨g', 0, none⟩) q' cp') (addTo l (E p).Av j) ∧ Below (w.heap.size + 1) wb wi) (fun _ jv _ => (E p).na - (intOf jv).toNat)
      case atStart => exact ⟨0, _, _, _, Nat.zero_le _, rfl, rfl, hq.out, hqn, Nat.le_refl _, OwnL.kept hown2 (fun _ _ _ => rfl), (by first | exact hB2 | exact (hB2).drew | exact (hB2).drew.drew | exact (hB2).drew.drew.drew)⟩
      case round =>
       clear hown2 hB2
       obtain ⟨j, g', q', cp', hj, rfl, rfl, hq', hqn', hqq, hown', hBi⟩ := hrel
       have hbwi := hb0.trans (hBi.mono (by omega))
       have hsi : w.heap.size + 1 <= wr.heap.size := by have := hBi.size; omega
       by_cases hlj : j < (E p).na
       ·rcases hsa.cells with h0 | ⟨ba, oa, rfl, hba, hca⟩
        ·omega
        have hcj : wr.cell? ⟨ba, oa + j, none⟩ = some (.string ((E p).Av j)) := (hbwi.cell (by exact hba)).trans (hca j hlj)
        have hcl : ∀ i, i < q' -> wr.cell? ⟨g', 0 + i, none⟩ = some (.string (getL (addTo l (E p).Av j) i)) := fun i hi => by rw [Nat.zero_add]; exact hown'.cell hq'.out (by rw [<- hq'.out]; exact hi)
        have Hn : Hid ((addTo l (E p).Av (j + 1)).length <= n) := hA.out.addLen Hroom.out hp (by omega)
        clear hca
        go_wp2_with fail
        refine (has_any g' 0 q' cp' (getL (addTo l (E p).Av j)) ((E p).Av j) wr (by unfold maxLen; omega) hcl).mono ?_
        rintro e w3 ⟨rfl, hw3⟩
        subst hw3
        clear hcl
        cases hh : hasB (getL (addTo l (E p).Av j)) q' ((E p).Av j)
        case true =>
         have Hs : Hid (addTo l (E p).Av (j + 1) = addTo l (E p).Av j) := addTo_has hq'.out hh
         go_wp2
         refine ⟨⟨j + 1, g', q', cp', by omega, by go_num, rfl, by rw [Hs.out]; exact hq', hqn', hqq, by rw [Hs.out]; exact hown', hBi⟩, by simp [intOf]; omega⟩
        case false =>
         have Hs : Hid (addTo l (E p).Av (j + 1) = addTo l (E p).Av j ++ [(E p).Av j]) := addTo_new hq'.out hh
         have hq1n' : q' + 1 <= n := by have := Hn.out; rw [Hs.out, List.length_append, <- hq'.out] at this; simpa using this
         clear Hn hh
         generalize addTo l (E p).Av j = l' at *
         have hm1 : q' + 1 <= maxLen := by unfold maxLen; omega
         have hm2 : (q' + 1) * 16 <= 140737488355328 := by omega
         have hm3 : ∀ o, w.heap.size + 1 <= (w3.alloc o).heap.size := fun o => by simp; omega
         have hag : Hid (∀ r, (Value.slice (some ⟨g', 0, none⟩) q' cp').ownBlock = some r -> w.heap.size + 1 <= r) := fun r hr => by have := World.ownsRow.lt hown' r hr; exact this.1
         have hownr : w3.ownsRow (w.heap.size + 1) 9 1 (.slice (some ⟨g', 0, none⟩) q' cp') q' (l'.map Value.string) := by have := hown'; unfold OwnL at this; rw [<- hq'.out] at this; exact this
         go_wp2_with (at_builtin; refine wpList_append_lies _ rfl _ _ 38 rfl (w.heap.size + 1) 9 i0 (.string ByteArray.empty) 1 16 Tryz.underlying38 hi hz0 hz1 hz2 rfl (by decide) _ _ _ rfl (World.ownsRow.alloc hownr _) ⟨w3.heap.size, 0, none⟩ 1 1 [.string ((E p).Av j)] rfl rfl (one_cells _ _ _) (one_one _) (by decide) hm1 hm2 (hm3 _) (w3.heap.size + 1) (by simp) ?_; intro gg cq w4 hown4 hgrow4 hat4 hlt4)
         have hown5 : OwnL w4 (w.heap.size + 1) (.slice (some ⟨gg, 0, none⟩) (q' + 1) cq) (l' ++ [(E p).Av j]) := by
          rw [hq'.out] at hown4 ⊢
          exact OwnL.snoc hown4
         have hB4 : Below (w.heap.size + 1) wb w4 := (hBi.alloc (by omega) _).grown hgrow4 (hm3 _) hag.out
         refine ⟨⟨j + 1, _, _, _, by omega, by go_num, rfl, by rw [Hs.out]; simp [hq'.out, Hid], hq1n', by omega, by rw [Hs.out]; exact hown5, hB4⟩, by simp [intOf]; omega⟩
       ·have hjn : (E p).na = j := by omega
        subst hjn
        go_wp2
        refine ⟨⟨k + 1, g', q', cp', addTo l (E p).Av (E p).na, by omega, by go_num, rfl, hq'.out, hqn', hown', hA.out.add Hroom.out hp Hc.out (HP.out (addTo l (E p).Av (E p).na) (addTo_pre l (E p).Av (E p).na)), hBi⟩, by simp [intOf]; omega⟩
    ·have hkq : q = k := by omega
     subst hkq
     have Hmem : Hid (∀ s, s ∈ l ↔ Chn E n S m s) := fun s => ChA.mem (by have := hA.out; rw [hq.out] at this; exact this) s
     have hsz : ∀ s ∈ l, s.size <= maxLen := fun s hs => by
      obtain ⟨j, hj, rfl⟩ := chn_id Hroom.out (hA.out.sound s hs)
      rcases h.cells with h0 | ⟨b, off, _, _, hc⟩
      ·omega
      ·obtain ⟨_, _, _, _, _, _, _, hok⟩ := hc j hj
       exact hok.hid
     obtain ⟨a', cap', e1, hsl, _⟩ := hown.sl hsz
     injection e1 with e1 e2 e3
     subst e3
     rw [<- e1, <- hq.out] at hsl
     clear e2 e1 hsz
     go_wp2_with fail
     refine (l2s_sl _ (by omega) hsl).mono ?_
     rintro e w2 ⟨v, l2, rfl, hown2, hsrt, hmem2, hb2⟩
     have Hm2 : Hid (_) := hmem2
     have Hs2 : Hid (_) := hsrt
     clear hmem2 hsrt
     go_wp2
     go_ret
     refine ⟨v, l2, rfl, hown2.mono (by omega), Hs2.out, fun s => ?_, hbw.trans (hb2.mono hbw.size)⟩
     rw [Hm2.out, <- Hmem.out]
     constructor
     ·rintro ⟨i, hi, rfl⟩
      exact getL_mem (by rw [<- hq.out]; exact hi)
     ·intro hs
      obtain ⟨i, hi, e⟩ := mem_getL hs
      exact ⟨i, by rw [hq.out]; exact hi, e⟩
end Go.Proofs.YtpmebojkkjlkgaaGreat
