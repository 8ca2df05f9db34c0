import Derived.Test.YtgocjlpbokhoeaaGqS
import Derived.Test.YtgocjlpbokhoeaaSvS
namespace Go.Proofs.Ytgocjlpbokhoeaa
open Go.RowKit
theorem RowP.dwf {p base n : Nat} {w w' : World} {v : Value} {G : Nat → Grp} {T : Nat → Lg} {bs : Nat → Nat} {m q : Nat} (h : RowP w base v n G T) (hd : DwF p w w' bs m q) (hp : p < base) : RowP w' base v n G T :=
  h.kept hd.size (fun g hg => hd.2.block g (h.gt g hg).2 (fun e => by injection e with e; have := (h.gt g hg).1; omega)) fun i hi b h1 h2 => hd.2.block b (Nat.lt_of_lt_of_le h2 (h.q i hi).hh.2) (fun e => by injection e with e; have := h.low i hi; omega)
structure StI (p : Nat) (w : World) (B : Nat) (bs : Nat → Nat) (m n : Nat) (G : Nat → Grp) (s : List Ent) (q : Nat) (sv : Value) (W : World) : Prop where
  dw : DwF p w W bs m q
  bx : ∃ va vc T, W.cell? ⟨B, 0, none⟩ = some (.slice va n vc) ∧ RowP W (B + 1) (.slice va n vc) n G T
  fz : W.frozen? ⟨B, 0, none⟩ = false
  rs : ∃ u, W.cell? ⟨w.heap.size, 0, none⟩ = some u
  rf : W.frozen? ⟨w.heap.size, 0, none⟩ = false
  so : OwnE W (B + 1) sv s
  ok : AllOk s
  hB : w.heap.size < B ∧ B < W.heap.size
theorem StI.below {p B m n q : Nat} {w W W' : World} {bs : Nat → Nat} {G : Nat → Grp} {s : List Ent} {sv : Value} (h : StI p w B bs m n G s q sv W) (hb : Below W.heap.size W W') : StI p w B bs m n G s q sv W' := by
  have hB := h.hB
  have hw : w.heap.size < W.heap.size := by omega
  exact ⟨h.dw.below hb, h.bx.imp fun _ ⟨vc, T, h1, h2⟩ => ⟨vc, T, (hb.cell (p := ⟨B, 0, none⟩) hB.2).trans h1, h2.below hb⟩, (hb.frozen (p := ⟨B, 0, none⟩) hB.2).trans h.fz, h.rs.imp fun _ hu => (hb.cell (p := ⟨w.heap.size, 0, none⟩) hw).trans hu, (hb.frozen (p := ⟨w.heap.size, 0, none⟩) hw).trans h.rf, h.so.below hb, h.ok, hB.1, Nat.lt_of_lt_of_le hB.2 hb.size⟩
theorem StI.draw {p B m n q q' : Nat} {w W W' : World} {bs : Nat → Nat} {G : Nat → Grp} {s : List Ent} {sv : Value} (h : StI p w B bs m n G s q sv W) (hd : DwF p W W' bs m q') (hp : p < w.heap.size) : StI p w B bs m n G s q' sv W' := by
  have hB := h.hB
  have hw : w.heap.size < W.heap.size := by omega
  have hne : ∀ b, w.heap.size ≤ b → some b ≠ some p := fun b h1 e => by injection e with e; omega
  exact ⟨h.dw.trans hd, h.bx.imp fun _ ⟨vc, T, h1, h2⟩ => ⟨vc, T, (hd.2.cell_far ⟨B, 0, none⟩ hB.2 (hne B (by omega))).trans h1, h2.dwf hd (by omega)⟩, (hd.2.frozen_far ⟨B, 0, none⟩ hB.2 (hne B (by omega))).trans h.fz, h.rs.imp fun _ hu => (hd.2.cell_far ⟨w.heap.size, 0, none⟩ hw (hne _ (Nat.le_refl _))).trans hu, (hd.2.frozen_far ⟨w.heap.size, 0, none⟩ hw (hne _ (Nat.le_refl _))).trans h.rf, h.so.dwf hd (by omega), h.ok, hB.1, Nat.lt_of_lt_of_le hB.2 hd.size⟩
theorem StI.list {p B m n q X : Nat} {w W : World} {bs : Nat → Nat} {G : Nat → Grp} {s s' : List Ent} {sv sv' : Value} (h : StI p w B bs m n G s q sv W) (ho : OwnE W X sv' s') (hX : B < X) (hok : AllOk s') : StI p w B bs m n G s' q sv' W :=
  ⟨h.dw, h.bx, h.fz, h.rs, h.rf, ho.base_le hX, hok, h.hB⟩
theorem StI.store {p B m n n' q X : Nat} {w W : World} {bs : Nat → Nat} {G G' : Nat → Grp} {s : List Ent} {sv : Value} {va : Option Addr} {vc : Nat} {T : Nat → Lg} (h : StI p w B bs m n G s q sv W) (hp : p < w.heap.size) (hr : RowP W X (.slice va n' vc) n' G' T) (hX : B < X) : StI p w B bs m n' G' s q sv (W.setCell ⟨B, 0, none⟩ (.slice va n' vc)) := by
  have hB := h.hB
  obtain ⟨_, _, _, hc, _⟩ := h.bx
  refine ⟨h.dw.own (by omega) hp _ _, ⟨va, vc, T, set_same ⟨_, hc⟩, (hr.base_le hX).setB (fun g hg => by have := (hr.gt g hg).1; omega) (fun i hi => Or.inl (by have := hr.low i hi; omega))⟩, by rw [World.frozen?_setCell]; exact h.fz, h.rs.imp fun _ hu => by rw [far_block (by omega)]; exact hu, by rw [World.frozen?_setCell]; exact h.rf, ?_, h.ok, hB.1, by simpa [World.setCell] using hB.2⟩
  exact own_keptP h.so fun g hg => Below.heap_setCell _ _ _ _ (by show g ≠ B; have := (World.ownsRow.lt h.so g hg).1; omega)
def DsPost (p : Nat) (w : World) (bs : Nat → Nat) (m n : Nat) (G : Nat → Grp) (q : Nat) (e : Ending) (w' : World) : Prop := ∃ va vc T, e = .returned (.agg #[.slice va n vc]) ∧ RowP w' w.heap.size (.slice va n vc) n G T ∧ DwF p w w' bs m q
set_option maxRecDepth 100000 in
set_option maxHeartbeats 4000000 in
theorem drawSto (p : Nat) {bs : Nat → Nat} {m q : Nat} (w : World) (h : RdF w p bs m q) : Calls Try.prog 36 #[.pointer (some ⟨p, 0, none⟩)] w (DsPost p w bs m (stoD bs m q).n (stoD bs m q).G (stoD bs m q).q) := by
  have hp := h.lt
  have hb0 : ∀ o, Below w.heap.size w (w.alloc o) := fun o => (Below.refl _ _).alloc (Nat.le_refl _) _
  go_enter Try.func36, Try.ntmps36
  go_wp2_with fail
  refine (nextF p _ (h.below (hb0 _))).mono ?_
  rintro e w1 ⟨rfl, hd1⟩
  have hdw : DwF p w w1 bs m (nxQ m q) := DwF.of_below h (hb0 _) hd1
  have r0 : w1.cell? ⟨w.heap.size, 0, none⟩ = some (.slice none 0 0) := by
    refine (hd1.2.cell_far ⟨w.heap.size, 0, none⟩ (by simp) (fun e => absurd (Option.some.inj e) (by show w.heap.size ≠ p; omega))).trans ?_
    exact World.cell?_alloc_at _ _ _ _ rfl
  have rf0 : w1.frozen? ⟨w.heap.size, 0, none⟩ = false := by
    refine (hd1.2.frozen_far ⟨w.heap.size, 0, none⟩ (by simp) (fun e => absurd (Option.some.inj e) (by show w.heap.size ≠ p; omega))).trans ?_
    exact World.frozen?_alloc_at _ _ _ _ rfl
  have hlt1 : w.heap.size < w1.heap.size := by have := hd1.2.size; simp at this; omega
  clear hd1
  obtain ⟨x, hx⟩ : ∃ x, x = nxB bs m q := ⟨_, rfl⟩
  have HN : Hid (stoD bs m q = runD bs m q (1 + x % 8)) := by rw [hx]; rfl
  have H0 : Hid (runD bs m q 0 = ⟨0, fun _ => ⟨-1, []⟩, drL bs m (nxQ m q), -1, drLq bs m (nxQ m q)⟩) := rfl
  have HS : Hid (∀ i, runD bs m q (i + 1) = stpD bs m i (runD bs m q i)) := fun _ => rfl
  have HOk : Hid (∀ i, i ≤ 9 → DstOk (runD bs m q i) i) := runD_ok bs m q
  rw [← hx]
  clear hx
  have hx8 : x % 8 < 8 := Nat.mod_lt _ (by decide)
  have hN9 : 1 + x % 8 ≤ 8 := by omega
  have hm8 : (1 : Int) + (x : Int) % 8 = ((1 + x % 8 : Nat) : Int) := by omega
  generalize runD bs m q = R at *
  generalize nxQ m q = q1 at *
  generalize 1 + x % 8 = N at *
  obtain ⟨B, hB⟩ : ∃ B, B = w1.heap.size := ⟨_, rfl⟩
  obtain ⟨wb, hwb⟩ : ∃ wb, wb = w1.alloc (.cells #[.slice none 0 0] 25) := ⟨_, rfl⟩
  have hbb : Below w1.heap.size w1 wb := by rw [hwb]; exact (Below.refl _ _).alloc (Nat.le_refl _) _
  have HI : Hid (∀ (l : List Ent) (q2 : Nat) (W : World) (a : Option Addr) (c : Nat), DwF p wb W bs m q2 → OwnE W wb.heap.size (.slice a l.length c) l → AllOk l → StI p w B bs m 0 (fun _ => ⟨-1, []⟩) l q2 (.slice a l.length c) W) := fun l q2 W a c hd ho hok => by
    have hsb : wb.heap.size = B + 1 := by rw [hwb, hB]; simp
    have hne : ∀ b, w.heap.size ≤ b → some b ≠ some p := fun b h1 e => by injection e with e; omega
    refine ⟨(hdw.below hbb).trans hd, ⟨none, 0, fun _ => ⟨none, 0, 0, 0⟩, ?_, RowP.none _ _ _ _⟩, ?_, ⟨.slice none 0 0, ?_⟩, ?_, ho.base_le (by omega), hok, by omega, ?_⟩
    · refine (hd.2.cell_far ⟨B, 0, none⟩ (by show B < _; omega) (hne B (by omega))).trans ?_
      rw [hwb, hB]; exact World.cell?_alloc_at _ _ _ _ rfl
    · refine (hd.2.frozen_far ⟨B, 0, none⟩ (by show B < _; omega) (hne B (by omega))).trans ?_
      rw [hwb, hB]; exact World.frozen?_alloc_at _ _ _ _ rfl
    · refine (hd.2.cell_far ⟨w.heap.size, 0, none⟩ (by show w.heap.size < _; omega) (hne _ (Nat.le_refl _))).trans ?_
      exact (hbb.cell (p := ⟨w.heap.size, 0, none⟩) hlt1).trans r0
    · refine (hd.2.frozen_far ⟨w.heap.size, 0, none⟩ (by show w.heap.size < _; omega) (hne _ (Nat.le_refl _))).trans ?_
      exact (hbb.frozen (p := ⟨w.heap.size, 0, none⟩) hlt1).trans rf0
    · have := hd.size; omega
  have hrb := (hdw.below hbb).1
  clear hbb r0 rf0 hdw
  go_wp2_with fail
  rw [← hwb, ← hB]
  clear hwb hB hlt1
  refine (drawL p _ hrb).mono ?_
  rintro e w2 ⟨a2, c2, rfl, ho2, hok2, hl2, hd2⟩
  have HI0 : Hid (StI p w B bs m (R 0).n (R 0).G (R 0).s (R 0).q (.slice a2 (drL bs m q1).length c2) w2) := by rw [H0.out]; exact HI.out _ _ _ _ _ hd2 ho2 hok2
  have Hg0 : Hid ((R 0).g = -1) := by rw [H0.out]; rfl
  clear HI hrb ho2 hok2 hl2 hd2 H0 h
  generalize (drL bs m q1).length = l0 at *
  go_wp2_with fail
  clear hm8
  go_loopw [5, 6, 7] (fun v gv iv wr => ∃ (i : Nat), i ≤ N ∧ iv = .int .i64 (i : Int) ∧ gv = .int .i64 (R i).g ∧ Hid (StI p w B bs m (R i).n (R i).G (R i).s (R i).q v wr)) (fun _ _ i _ => N - (intOf i).toNat)
  case atStart => exact ⟨0, Nat.zero_le _, rfl, by rw [Hg0.out], HI0⟩
  case round =>
    clear HI0 Hg0
    obtain ⟨wo, rfl⟩ : ∃ wo : World, wo = wr := ⟨_, rfl⟩
    obtain ⟨i, hi, rfl, rfl, HI⟩ := hrel
    obtain ⟨ga, gc, e1, hsl⟩ := HI.out.so.sl HI.out.ok.at
    subst e1
    by_cases hlt : i < N
    · have HO := HOk.out i (by omega)
      have hlen := HO.len
      have hltz : (i : Int) < (N : Int) := by omega
      go_wp2_with fail
      refine (nextF p _ HI.out.dw.1).mono ?_
      rintro e w3 ⟨rfl, hd3⟩
      have hk256 := HI.out.dw.1.nx
      have HI3 : Hid (StI p w B bs m (R i).n (R i).G (R i).s (nxQ m (R i).q) (.slice ga (R i).s.length gc) w3) := HI.out.draw hd3 hp
      have HSt : Hid (stS bs m (R i) = inL bs m (nxB bs m (R i).q) (R i).s (nxQ m (R i).q) (1 + nxB bs m (R i).q % 2)) := rfl
      have HSp : Hid (stpD bs m i (R i) = ⟨svN (R i).G (R i).n (stS bs m (R i)) (fnC (R i).G (stS bs m (R i)) (R i).n), extP (R i).G (R i).n (nwG (R i).G (R i).n (stS bs m (R i)) (nrG (nxB bs m (R i).q) i (R i).g)), stS bs m (R i), svC (R i).G (R i).n (stS bs m (R i)) (fnC (R i).G (stS bs m (R i)) (R i).n), qnx m (1 + nxB bs m (R i).q % 2) (nxQ m (R i).q)⟩) := rfl
      have HSo : Hid (∀ j, SrtE (inL bs m (nxB bs m (R i).q) (R i).s (nxQ m (R i).q) j) ∧ Ids (inL bs m (nxB bs m (R i).q) (R i).s (nxQ m (R i).q) j) ∧ Ty6 (inL bs m (nxB bs m (R i).q) (R i).s (nxQ m (R i).q) j) ∧ (inL bs m (nxB bs m (R i).q) (R i).s (nxQ m (R i).q) j).length ≤ (R i).s.length + j) := inL_st HO.srt HO.ids HO.ty
      have HIl : Hid (∀ j, inL bs m (nxB bs m (R i).q) (R i).s (nxQ m (R i).q) (j + 1) = setL (inL bs m (nxB bs m (R i).q) (R i).s (nxQ m (R i).q) j) (wpE (nxB bs m (R i).q) (slE (nxB bs m (qnx m j (nxQ m (R i).q))))) false) := fun _ => rfl
      have HI0 : Hid (inL bs m (nxB bs m (R i).q) (R i).s (nxQ m (R i).q) 0 = (R i).s) := rfl
      clear HI hd3 hsl HO
      generalize nxB bs m (R i).q = k at *
      generalize nxQ m (R i).q = q2 at *
      generalize inL bs m k (R i).s q2 = L at *
      have h2 : k % 2 < 2 := Nat.mod_lt _ (by decide)
      have HI4 : Hid (StI p w B bs m (R i).n (R i).G (L 0) (qnx m 0 q2) (.slice ga (R i).s.length gc) w3) := by rw [HI0.out]; exact HI3.out
      clear HI3 HI0
      generalize (R i).s.length = sl0 at *
      go_wp2_with fail
      go_loopw [5, 9] (fun v jv wr => ∃ (j : Nat), j ≤ 1 + k % 2 ∧ jv = .int .i64 (j : Int) ∧ Hid (StI p w B bs m (R i).n (R i).G (L j) (qnx m j q2) v wr)) (fun _ j _ => 1 + k % 2 - (intOf j).toNat)
      case atStart => exact ⟨0, Nat.zero_le _, rfl, HI4⟩
      case round =>
        clear HI4
        obtain ⟨j, hj, rfl, HJ⟩ := hrel
        obtain ⟨ja, jc, e1, hsl⟩ := HJ.out.so.sl HJ.out.ok.at
        subst e1
        by_cases hjl : j < 1 + k % 2
        · have hjz : (j : Int) < 1 + (k : Int) % 2 := by omega
          go_wp2_with fail
          refine (slotF p _ HJ.out.dw.1).mono ?_
          rintro e w5 ⟨rfl, hd5⟩
          have hen := slE_ok HJ.out.dw.1.nx
          have HJ5 : Hid (StI p w B bs m (R i).n (R i).G (L j) (qnx m (j + 1) q2) (.slice ja (L j).length jc) w5) := HJ.out.draw hd5 hp
          have HE := HIl.out j
          have hlj := (HSo.out j).2.2.2
          generalize slE (nxB bs m (qnx m j q2)) = en at *
          have hen2 : (wpE k en).ty.size ≤ maxLen ∧ (wpE k en).key.size ≤ maxLen ∧ (wpE k en).id.size ≤ maxLen := by
            unfold wpE
            split
            · exact ⟨hen.1, hen.2.1, Nat.zero_le _⟩
            · exact hen
          have HSet : Hid (∀ W, Below w5.heap.size w5 W → Calls Try.prog 19 #[.slice ja (L j).length jc, entV (wpE k en), .bool false] W fun e w' => ∃ v, e = .returned v ∧ Hid (StI p w B bs m (R i).n (R i).G (L (j + 1)) (qnx m (j + 1) q2) v w')) := fun W hW => by
            have h6 := HJ5.out.below hW
            obtain ⟨ja', jc', e2, hs6⟩ := h6.so.sl h6.ok.at
            injection e2 with e3 _ e4
            subst e3 e4
            refine (set_sl (wpE k en) false W (by omega) hs6).mono ?_
            rintro e w' ⟨v, rfl, h7, h8⟩
            refine ⟨v, rfl, ?_⟩
            rw [HE]
            exact (h6.below h8).list h7 h6.hB.2 (h6.ok.set hen2)
          clear HJ hd5 hsl HJ5 hen hen2 HE
          have hbA : ∀ o, Below w5.heap.size w5 (w5.alloc o) := fun o => (Below.refl _ _).alloc (Nat.le_refl _) _
          by_cases h5 : k % 5 = 4
          · have h5z : (k : Int) % 5 = 4 := by omega
            have hwp : wpE k en = ⟨en.ty, en.key, ⟨#[]⟩⟩ := if_pos h5
            rw [hwp] at HSet
            go_wp2_with fail
            refine (HSet.out _ (hbA _)).mono ?_
            rintro e w6 ⟨v6, rfl, HJ6⟩
            clear HSet
            go_wp2
            exact ⟨⟨j + 1, by omega, by go_num, HJ6⟩, by simp [intOf]; omega⟩
          · have h5z : ¬ (k : Int) % 5 = 4 := by omega
            have hwp : wpE k en = en := if_neg h5
            rw [hwp] at HSet
            go_wp2_with fail
            refine (HSet.out _ (hbA _)).mono ?_
            rintro e w6 ⟨v6, rfl, HJ6⟩
            clear HSet
            go_wp2
            exact ⟨⟨j + 1, by omega, by go_num, HJ6⟩, by simp [intOf]; omega⟩
        · have hjM : j = 1 + k % 2 := by omega
          subst hjM
          have hjz : ¬ ((1 + k % 2 : Nat) : Int) < 1 + (k : Int) % 2 := by omega
          have hst : stB (stS bs m (R i)) = true := ((HOk.out i (by omega)).step (bs := bs) (m := m) (by omega)).2
          rw [← HSt.out] at HJ hsl
          clear HSo HIl hlen h2
          have HGo : Hid (∀ (g : Int), g = nrG k i (R i).g → ∃ va vc, wr.cell? ⟨B, 0, none⟩ = some (.slice va (R i).n vc) ∧ Hid (Calls Try.prog 5 #[.agg #[.slice va (R i).n vc], .slice ja (stS bs m (R i)).length jc, .int .i64 g] wr fun x w' => ∃ va' vc', x = .returned (.tuple #[.agg #[.slice va' (R (i + 1)).n vc'], .int .i64 (R (i + 1)).g]) ∧ (∃ u, w'.cell? ⟨B, 0, none⟩ = some u) ∧ w'.frozen? ⟨B, 0, none⟩ = false ∧ Hid (StI p w B bs m (R (i + 1)).n (R (i + 1)).G (R (i + 1)).s (R (i + 1)).q (.slice ja (stS bs m (R i)).length jc) (w'.setCell ⟨B, 0, none⟩ (.slice va' (R (i + 1)).n vc'))))) := fun g hg => by
            obtain ⟨va, vc, T, hc, hr⟩ := HJ.out.bx
            refine ⟨va, vc, hc, ?_⟩
            obtain ⟨a', c', e2, hT⟩ := hr.slt
            injection e2 with e3 _ e4
            subst e3 e4
            refine (svS_sl (R i).n vc g (fnC (R i).G (stS bs m (R i)) (R i).n) wr (fnC_fnd _ _ _) hT hsl).mono ?_
            rintro x w' ⟨v, T', rfl, hrp, hb⟩
            obtain ⟨va', vc', rfl, _⟩ := hrp.out.slt
            have h7 := HJ.out.below hb
            rw [hg] at hrp
            have h8 := h7.store hp hrp.out HJ.out.hB.2
            obtain ⟨_, _, _, hc7, _⟩ := h7.bx
            rw [HS.out i, HSp.out]
            exact ⟨va', vc', rfl, ⟨_, hc7⟩, h7.fz, h8⟩
          obtain ⟨sl1, hsl1⟩ : ∃ sl1, sl1 = (stS bs m (R i)).length := ⟨_, rfl⟩
          rw [← hsl1] at HGo
          have HL : Hid (L (1 + k % 2) = stS bs m (R i)) := HSt.out.symm
          rw [HL.out, ← hsl1]
          clear HJ hsl HSp hst HL hsl1 HSt
          have hi2 : ¬ (i : Int) + 2 = 0 := by omega
          by_cases h8 : k % 8 = 7
          · have h8z : (k : Int) % 8 = 7 := by omega
            have hgv : (k : Int) / 8 % ((i : Int) + 2) - 1 = nrG k i (R i).g := by unfold nrG; rw [if_pos h8]; simp
            have hwr : wrap64 ((k : Int) / 8 % ((i : Int) + 2) - 1) = (k : Int) / 8 % ((i : Int) + 2) - 1 := by
              have h1 := Int.emod_nonneg ((k : Int) / 8) hi2
              have h2 := Int.emod_lt_of_pos ((k : Int) / 8) (show (0 : Int) < (i : Int) + 2 by omega)
              generalize (k : Int) / 8 % ((i : Int) + 2) = z at *
              unfold wrap64
              omega
            obtain ⟨va, vc, hc, hcall⟩ := HGo.out _ rfl
            rw [← hgv] at hcall
            clear HGo hgv
            go_wp2_with fail
            refine hcall.out.mono ?_
            rintro e w7 ⟨va', vc', rfl, ⟨u, hcu⟩, hfu, HN7⟩
            clear hcall hc
            go_wp2
            exact ⟨⟨i + 1, by omega, by go_num, rfl, HN7⟩, by simp [intOf]; omega⟩
          · have h8z : ¬ (k : Int) % 8 = 7 := by omega
            have hgv : (R i).g = nrG k i (R i).g := by unfold nrG; rw [if_neg h8]
            obtain ⟨va, vc, hc, hcall⟩ := HGo.out _ hgv
            clear HGo hgv
            go_wp2_with fail
            refine hcall.out.mono ?_
            rintro e w7 ⟨va', vc', rfl, ⟨u, hcu⟩, hfu, HN7⟩
            clear hcall hc
            go_wp2
            exact ⟨⟨i + 1, by omega, by go_num, rfl, HN7⟩, by simp [intOf]; omega⟩
    · have hiN : i = N := by omega
      subst hiN
      obtain ⟨va, vc, T, hc, hr⟩ := HI.out.bx
      obtain ⟨u, hu⟩ := HI.out.rs
      have hf := HI.out.rf
      have hBs := HI.out.hB
      have HP : Hid (DsPost p w bs m (stoD bs m q).n (stoD bs m q).G (stoD bs m q).q (.returned (.agg #[.slice va (R i).n vc])) (wo.setCell ⟨w.heap.size, 0, none⟩ (.slice va (R i).n vc))) := by
        rw [HN.out]
        refine ⟨va, vc, T, rfl, (hr.base_le (by omega)).setB (fun g hg => by have := (hr.gt g hg).1; omega) (fun j hj => Or.inl (by have := hr.low j hj; omega)), HI.out.dw.own (Nat.le_refl _) hp _ _⟩
      clear HI hr hsl HOk HS HN
      go_wp2
      exact bodyPost_ret (v := .agg #[.slice va (R i).n vc]) (by simp [results, Try.results36, go_sem, hu]) rfl HP.out
end Go.Proofs.Ytgocjlpbokhoeaa
