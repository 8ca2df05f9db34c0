import Derived.Test.YtgocjlpbokhoeaaLyO
import Derived.Test.YtgocjlpbokhoeaaLyP
namespace Go.Proofs.Ytgocjlpbokhoeaa
open Go.RowKit
structure SlQ (w : World) (a : Option Addr) (n cap : Nat) (X : Nat → Value) : Prop where
  le : n ≤ cap
  max : cap ≤ maxLen
  cells : n = 0 ∨ ∃ b off, a = some ⟨b, off, none⟩ ∧ b < w.heap.size ∧ ∀ i, i < n → w.cell? ⟨b, off + i, none⟩ = some (X i)
theorem SlQ.below {w w' : World} {a : Option Addr} {n cap : Nat} {X : Nat → Value} (h : SlQ w a n cap X) (hb : Below w.heap.size w w') : SlQ w' a n cap X :=
  ⟨h.le, h.max, h.cells.imp id fun ⟨b, off, e, hlt, hc⟩ => ⟨b, off, e, Nat.lt_of_lt_of_le hlt hb.size, fun i hi => (hb.cell (by exact hlt)).trans (hc i hi)⟩⟩
theorem hasPl_any (a : Option Addr) (n cap : Nat) (z : Int) (w : World) :
    Calls Try.prog 53 #[.slice a n cap, .int .i64 z] w fun e w' => e = .returned (.bool (decide (0 ≤ z) && decide (z < n))) ∧ w' = w := by
  by_cases h0 : 0 ≤ z
  · have hv : Hid ((decide (0 ≤ z) && decide (z < n)) = decide (z < n)) := by unfold Hid; rw [decide_eq_true h0]; rfl
    generalize (decide (0 ≤ z) && decide (z < n)) = r at *
    go_enter Try.func53, Try.ntmps53
    go_wp2
    go_ret
    exact ⟨ret_bool hv.out.symm, rfl⟩
  · have hv : Hid ((decide (0 ≤ z) && decide (z < n)) = false) := by unfold Hid; rw [decide_eq_false h0]; rfl
    generalize (decide (0 ≤ z) && decide (z < n)) = r at *
    go_enter Try.func53, Try.ntmps53
    go_wp2
    go_ret
    exact ⟨ret_bool hv.out.symm, rfl⟩
def LoPost (w : World) (x : Option Nat) (G : Nat → Grp) (k : Nat) (e : Ending) (w' : World) : Prop := Below w.heap.size w w' ∧
  ∃ q t, e = .returned (.tuple #[.pointer q, .bool t]) ∧ t = grpOk G k ∧ (t = true → LayAt w' x (.pointer q) (csF G k))
set_option maxRecDepth 100000 in
set_option maxHeartbeats 2000000 in
theorem layerOf_any {x : Option Nat} {a : Option Addr} {cap : Nat} {X : Nat → Value} {G : Nat → Grp} {k : Nat} {sa : Option Addr} {sc : Nat} (w : World) (hx : ∀ q, x = some q → q < w.heap.size) (hx2 : ApS x sa (G k).sets)
    (hT : stoTo G k = true) (hk : ∀ i, i < k → AllOk (G i).sets) (hkn : k ≤ 1000000) (hs : SlQ w a k cap X) (hX : ∀ i, i < k → LayAt w x (X i) (csF G i)) (h : SlE w sa sc (G k).sets) :
    Calls Try.prog 47 #[.slice a k cap, .agg #[.int .i64 (G k).par, .slice sa (G k).sets.length sc]] w (LoPost w x G k) := by
  obtain ⟨wb, hwb⟩ : ∃ wb, wb = w.alloc (.cells #[.int .i64 (G k).par, .slice sa (G k).sets.length sc] 46) := ⟨_, rfl⟩
  have hg : Grw w wb := by rw [hwb]; exact (Grw.refl _).alloc _
  have hs1 : w.heap.size < wb.heap.size := by rw [hwb]; simp
  have y0 : wb.cell? ⟨w.heap.size, 0, none⟩ = some (.int .i64 (G k).par) := by rw [hwb]; exact World.cell?_alloc_at _ _ _ _ rfl
  have y1 : wb.cell? ⟨w.heap.size, 1, none⟩ = some (.slice sa (G k).sets.length sc) := by rw [hwb]; exact World.cell?_alloc_at _ _ _ _ rfl
  have HT : Hid (stoTo G k = true) := hT
  have HK : Hid (∀ i, i < k → AllOk (G i).sets) := hk
  have HX : Hid (∀ i, i < k → LayAt w x (X i) (csF G i)) := hX
  have Hx : Hid ((∀ q, x = some q → q < w.heap.size) ∧ ApS x sa (G k).sets) := ⟨hx, hx2⟩
  have Hx1 : Hid (∀ W, Below w.heap.size w W → ∀ q, x = some q → q < W.heap.size) := fun W hW q hq => Nat.lt_of_lt_of_le (hx q hq) hW.size
  have Hsl : Hid (∀ W, Below w.heap.size w W → SlE W sa sc (G k).sets) := fun W hW => h.below hW
  clear hT hk hX hx hx2 h
  by_cases hp : (G k).par = -1
  · have hv : Hid (grpOk G k = stB (G k).sets) := grp_root hp
    have hc : Hid (csF G k = [(G k).sets]) := (cs_root (by omega)).1
    rw [hp] at y0 hwb ⊢
    clear hp
    go_enter Try.func47, Try.ntmps47
    go_wp2_with fail
    rw [← hwb]
    clear hwb
    go_region_with (first
      | (go_at_call 59; refine (firstL_any (x := x) _ (Hx1.out _ (by first | exact hg.below | exact hg.below.drew | exact hg.below.drew.drew)) Hx.out.2 (Hsl.out _ (by first | exact hg.below | exact hg.below.drew | exact hg.below.drew.drew))).mono ?_; rintro e w1 ⟨fb, rfl, hL1, hg1'⟩; have hg1 : Grw wb w1 := Grw.trans (by first | exact Grw.refl wb | exact (Grw.refl wb).drew | exact (Grw.refl wb).drew.drew) hg1'; have z1 := (hg1.cell (by exact hs1)).trans y1)
      | (go_at_call 27; refine (stateI_sl _ (Hsl.out _ (by first | exact (hg.trans hg1).below | exact (hg.trans hg1).below.drew | exact (hg.trans hg1).below.drew.drew))).mono ?_; rintro e w2 ⟨rfl, hb2'⟩))
    all_goals
      have hb2 : Below w1.heap.size w1 w2 := Below.trans (by first | exact Below.refl w1.heap.size w1 | exact (Below.refl w1.heap.size w1).drew | exact (Below.refl w1.heap.size w1).drew.drew) hb2'
      have hbw := (hg.trans hg1).below.trans (hb2.mono (hg.trans hg1).below.size)
      have HL2 : Hid (LayAt w2 x (.pointer (some ⟨fb, 0, none⟩)) [(G k).sets]) := LayAt.below (L := [(G k).sets]) hL1 hb2
      clear hL1 z1
      generalize stB (G k).sets = st at *
      go_wp2
      exact bodyPost_ret (v := .tuple #[.pointer (some ⟨fb, 0, none⟩), .bool st]) (by simp [results, Try.results47, go_sem]) rfl ⟨hbw, _, _, rfl, hv.out.symm, fun _ => by rw [hc.out]; exact HL2.out⟩
  · obtain ⟨pz, hpz⟩ : ∃ pz, pz = (G k).par := ⟨_, rfl⟩
    have HP : Hid (pz = (G k).par) := hpz
    have hv := grp_node hp
    rw [← hpz] at y0 hwb hp hv ⊢
    have hpb : (pz == -1) = false := by simpa using hp
    clear hpz
    have Hv : Hid (_) := hv
    clear hv hp
    by_cases hpl : (decide (0 ≤ pz) && decide (pz < (k : Int))) = true
    · have hpn : Hid ((decide (0 ≤ pz) && decide (pz < (k : Int))) = true) := hpl
      rw [Bool.and_eq_true, decide_eq_true_eq, decide_eq_true_eq] at hpl
      obtain ⟨q, rfl⟩ : ∃ q : Nat, pz = (q : Int) := ⟨pz.toNat, by omega⟩
      have hqk : q < k := by omega
      have hpl1 : Hid (∀ W, Calls Try.prog 53 #[.slice a k cap, .int .i64 (q : Int)] W fun e w' => e = .returned (.bool true) ∧ w' = W) := fun W => by have := hasPl_any a k cap (q : Int) W; rw [hpn.out] at this; exact this
      clear hpl
      cases hch : chB (G k).sets
      · have hgf : Hid (grpOk G k = false) := by unfold Hid; rw [Hv.out, hch, Bool.false_and, Bool.and_false]
        go_enter Try.func47, Try.ntmps47
        go_wp2_with fail
        rw [← hwb]
        clear hwb
        refine (hpl1.out _).mono ?_
        rintro e w1 ⟨rfl, rfl⟩
        go_wp2_with fail
        refine (changesI_sl _ (Hsl.out _ hg.below)).mono ?_
        rintro e w2 ⟨rfl, hb2⟩
        rw [hch]
        go_wp2
        exact bodyPost_ret (v := .tuple #[.pointer none, .bool false]) (by simp [results, Try.results47, go_sem]) rfl ⟨hg.below.trans (hb2.mono hg.below.size), _, _, rfl, hgf.out.symm, fun h => by cases h⟩
      · obtain ⟨h600, hSs⟩ := ch_parts hch
        have hF := stoTo_front HT.out
        obtain ⟨T, R, hTR⟩ := cs_cons hF hqk
        obtain ⟨hbd1, hbd2⟩ := cs_bd HT.out q hqk
        have hok := cs_ok HT.out HK.out q hqk
        have hLq := HX.out q hqk
        have hfq := cs_facts hF q hqk
        have hFk : Front G (k + 1) := fun j hj => by
          by_cases e : j = k
          · subst e; rw [← HP.out]; omega
          · exact hF j (by omega)
        obtain ⟨_, e1, e2, e3⟩ := cs_node hFk (Nat.lt_succ_self k) (by rw [← HP.out]; omega)
        have eq2 : (G k).par.toNat = q := by rw [← HP.out]; rfl
        rw [eq2] at e1 e2 e3
        have hck : Hid (csF G k = (G k).sets :: T :: R) := by rw [e1, hTR]; exact rfl
        have hlk : Hid (lnk G (k + 1) k = (T :: R).length) := by unfold Hid; rw [e2, ← hTR, hfq.1]; omega
        have hex : Hid (expF G (k + 1) k = stOf ((G k).sets :: T :: R)) := by unfold Hid; rw [e3, ← hfq.2, hTR]; rfl
        rw [hTR] at hbd1 hbd2 hok hLq
        clear hTR hfq e1 e2 e3 eq2 hF hFk HX HK HT
        have HLq : Hid (LayAt w x (X q) (T :: R)) := hLq
        obtain ⟨lb, pp, la, lc, hXq, _⟩ := hLq
        rcases hs.cells with h0 | ⟨rb, ro, rfl, hrb, hrc⟩
        · omega
        have hr0 := hrc q hqk
        rw [hXq] at hr0 HLq
        clear hrc hXq
        have Hover : Hid (∀ W, Below w.heap.size w W → Calls Try.prog 61 #[.pointer (some ⟨lb, 0, none⟩), .slice sa (G k).sets.length sc] W fun e w' => ∃ b, e = .returned (.pointer (some ⟨b, 0, none⟩)) ∧ LayAt w' x (.pointer (some ⟨b, 0, none⟩)) ((G k).sets :: T :: R) ∧ Grw W w') := fun W hW =>
          layOver_any W (Hx1.out W hW) Hx.out.2 (LayAt.below (L := T :: R) HLq.out hW) hok (by omega) hSs h600 (by omega) (Hsl.out W hW)
        have hkmax := hs.le
        have hkmx := hs.max
        unfold maxLen at hkmx
        clear hok hSs hs HLq
        go_enter Try.func47, Try.ntmps47
        go_wp2_with fail
        rw [← hwb]
        clear hwb
        refine (hpl1.out _).mono ?_
        rintro e w1 ⟨rfl, rfl⟩
        go_wp2_with fail
        refine (changesI_sl _ (Hsl.out _ hg.below)).mono ?_
        rintro e w2 ⟨rfl, hb2⟩
        rw [hch]
        have hbw2 := hg.below.trans (hb2.mono hg.below.size)
        have z0 := (hb2.cell (by exact hs1)).trans y0
        have z1 := (hb2.cell (by exact hs1)).trans y1
        have zr := (hbw2.cell (by exact hrb)).trans hr0
        have hqI : (q : Int) < (k : Int) := by omega
        clear y0 y1 hr0 hb2
        go_wp2_with fail
        go_region_with (go_at_call 61; refine (Hover.out _ (by first | exact hbw2 | exact hbw2.drew | exact hbw2.drew.drew)).mono ?_; rintro e w3 ⟨nb, rfl, hL3, hg3'⟩; have hg3 : Grw w2 w3 := Grw.trans (by first | exact Grw.refl w2 | exact (Grw.refl w2).drew | exact (Grw.refl w2).drew.drew) hg3')
        all_goals
          have hbw3 := hbw2.trans (hg3.below.mono hbw2.size)
          have HL3 : Hid (LayAt w3 x (.pointer (some ⟨nb, 0, none⟩)) ((G k).sets :: T :: R)) := hL3
          obtain ⟨b3, pp3, a3, cp3, hp3, hlt3, k0, k1, k2, k3, _⟩ := hL3
          injection hp3 with hp3
          injection hp3 with hp3
          injection hp3 with hp3 _ _
          subst hp3
          have hgk : Hid (grpOk G k = (decide ((T :: R).length ≤ 4) && decide ((stOf ((G k).sets :: T :: R)).length ≤ 300))) := by unfold Hid; rw [Hv.out, hpn.out, hch, hlk.out, hex.out]; rfl
          clear Hover z0 z1 zr k0 k1 Hv hlk hex hpn
          generalize (stOf ((G k).sets :: T :: R)).length = n3 at *
          generalize (T :: R).length = n2 at *
          by_cases hl4 : n2 ≤ 4
          · have hgk2 : Hid (grpOk G k = decide ((n3 : Int) ≤ 300)) := by unfold Hid; rw [hgk.out, decide_eq_true hl4, Bool.true_and, decide_eq_decide]; omega
            have hd4 : decide ((n2 : Int) ≤ 4) = true := decide_eq_true (by omega)
            clear hgk
            go_wp2_with fail
            go_quiet (fail)
            have hbw4 : Below w.heap.size w (w3.drewN nq) := hbw3.trans (Dr.below ⟨nq, rfl⟩ _)
            have HL4 : Hid (LayAt (w3.drewN nq) x (.pointer (some ⟨nb, 0, none⟩)) ((G k).sets :: T :: R)) := LayAt.below (L := (G k).sets :: T :: R) HL3.out (Dr.below ⟨nq, rfl⟩ _)
            go_wp2
            exact bodyPost_ret (v := .tuple #[.pointer (some ⟨nb, 0, none⟩), .bool (decide ((n3 : Int) ≤ 300))]) (by simp [results, Try.results47, go_sem]) rfl ⟨hbw4, _, _, rfl, hgk2.out.symm, fun _ => by rw [hck.out]; exact HL4.out⟩
          · have hgk2 : Hid (grpOk G k = false) := by unfold Hid; rw [hgk.out, decide_eq_false hl4, Bool.false_and]
            obtain ⟨m2, rfl⟩ : ∃ m2, n2 = m2 + 5 := ⟨n2 - 5, by omega⟩
            have hd4 : ¬ ((m2 : Int) + 5 ≤ 4) := by omega
            have hd5 : decide ((m2 : Int) + 5 ≤ 4) = false := decide_eq_false (by omega)
            have hd6 : decide (m2 + 5 ≤ 4) = false := decide_eq_false (by omega)
            clear hgk hl4
            go_wp2_with fail
            go_quiet (fail)
            have hbw4 : Below w.heap.size w (w3.drewN nq) := hbw3.trans (Dr.below ⟨nq, rfl⟩ _)
            go_wp2
            exact bodyPost_ret (v := .tuple #[.pointer (some ⟨nb, 0, none⟩), .bool false]) (by simp [results, Try.results47, go_sem]) rfl ⟨hbw4, _, _, rfl, hgk2.out.symm, fun h => by cases h⟩
    · have hpn : (decide (0 ≤ pz) && decide (pz < (k : Int))) = false := by cases hq : (decide (0 ≤ pz) && decide (pz < (k : Int))) <;> simp_all
      have hgf : Hid (grpOk G k = false) := by unfold Hid; rw [Hv.out, hpn, Bool.false_and]
      have hpl1 : Hid (∀ W, Calls Try.prog 53 #[.slice a k cap, .int .i64 pz] W fun e w' => e = .returned (.bool false) ∧ w' = W) := fun W => by have := hasPl_any a k cap pz W; rw [hpn] at this; exact this
      clear hpn hpl
      go_enter Try.func47, Try.ntmps47
      go_wp2_with fail
      rw [← hwb]
      clear hwb
      refine (hpl1.out _).mono ?_
      rintro e w1 ⟨rfl, rfl⟩
      go_wp2
      exact bodyPost_ret (v := .tuple #[.pointer none, .bool false]) (by simp [results, Try.results47, go_sem]) rfl ⟨hg.below, _, _, rfl, hgf.out.symm, fun h => by cases h⟩
end Go.Proofs.Ytgocjlpbokhoeaa
