/-
  impl.Tips.
-/
import Derived.Test.YtghbednpeboicaaSoI
import Derived.Test.YtghbednpeboicaaTpS
namespace Go.Proofs.Ytghbednpeboicaa
open Go.RowKit Go.Maps Go.ChangeMaps

/-- the marks behind k events and p of the events that the next one follows. -/
def tipN (E : Nat → Ev) (n k p : Nat) : Nat → Bool := fun i => !(hitTo E n i k || hitB E n (E k) i p)
theorem tipN_zero (E : Nat → Ev) (n k i : Nat) : tipN E n k 0 i = !hitTo E n i k := by simp [tipN, hitB]
theorem tipN_end (E : Nat → Ev) (n k i : Nat) : tipN E n k (E k).np i = !hitTo E n i (k + 1) := by simp [tipN, hitTo]
theorem tipN_step {E : Nat → Ev} {n k p j i : Nat} (hj : posV E n ((E k).Pv p) = (j : Int)) : (if i = j then false else tipN E n k p i) = tipN E n k (p + 1) i := by
  unfold tipN
  rw [hitB, hj]
  by_cases e : i = j
  · subst e; simp
  · have : ¬ ((j : Int) = (i : Int)) := by omega
    simp [e, this]

set_option maxRecDepth 100000 in
set_option maxHeartbeats 1000000 in
theorem tipI_any (b off n cap : Nat) (E : Nat → Ev) (w : World) (h : SlV w (some ⟨b, off, none⟩) n cap E) (hb : b < w.heap.size) (hc : ∀ i, i < n → EvAt w b (off + i * 10) (E i)) :
    Calls Try.prog 9 #[.agg #[.slice (some ⟨b, off, none⟩) n cap]] w (TipPost w E n (roomTo E n)) := by
  have hb0 : ∀ o, Below w.heap.size w (w.alloc o) := fun o => (Below.refl _ _).alloc (Nat.le_refl _) _
  go_enter Try.func9, Try.ntmps9
  go_wp2_with fail
  refine (graph_sl _ (h.below (hb0 _))).mono ?_
  rintro e w1 ⟨hb1, hp⟩
  have hw1 := (hb0 _).trans (hb1.mono (hb0 _).size)
  rcases hp with ⟨hq, m, ra, rc, rfl, hmp, _⟩ | ⟨hq, rfl⟩
  · have h300 := room_300 hq
    have Hq : Hid (_) := hq
    have Hc : Hid (∀ i, i < n → EvAt w b (off + i * 10) (E i)) := hc
    clear hq hc hb1
    go_wp2_with fail
    obtain ⟨W, hW⟩ : ∃ W, W = (w1.alloc (.cells #[.slice (some ⟨b, off, none⟩) n cap, .map (some m), .slice ra n rc] 62)).alloc (.cells #[.bool true] 4) := ⟨_, rfl⟩
    have hsW : W.heap.size = w1.heap.size + 1 + 1 := by rw [hW]; simp
    have h1W : Below w1.heap.size w1 W := by rw [hW]; exact ((Below.refl _ _).alloc (Nat.le_refl _) _).alloc (by simp) _
    have hgx : Hid (∀ o, W.cell? ⟨w1.heap.size, o, none⟩ = (#[.slice (some ⟨b, off, none⟩) n cap, .map (some m), .slice ra n rc] : Array Value)[o]?) := fun o => by
      rw [hW, World.cell?_alloc_past _ _ _ (by simp)]
      exact World.cell?_alloc_at _ _ _ _ rfl
    have htx : W.cell? ⟨w1.heap.size + 1, 0, none⟩ = some (.bool true) := by
      rw [hW, World.cell?_alloc_at _ _ _ _ (by simp)]; rfl
    rw [← hW]
    refine (rep_any n (w1.heap.size + 1) W h300 (by omega) htx).mono ?_
    rintro e w2 ⟨bm, rfl, hbm, hbl, hb2⟩
    have hwW := hw1.trans (h1W.mono hw1.size)
    have hmpW := hmp.below h1W
    have hbW : b < W.heap.size := Nat.lt_of_lt_of_le hb hwW.size
    have hg0 : ∀ wx, Below W.heap.size W wx → wx.cell? ⟨w1.heap.size, 0, none⟩ = some (.slice (some ⟨b, off, none⟩) n cap) := fun wx hx => (hx.cell (by show w1.heap.size < _; omega)).trans (hgx.out 0)
    have hg1 : ∀ wx, Below W.heap.size W wx → wx.cell? ⟨w1.heap.size, 1, none⟩ = some (.map (some m)) := fun wx hx => (hx.cell (by show w1.heap.size < _; omega)).trans (hgx.out 1)
    have hg2 : ∀ wx, Below W.heap.size W wx → wx.cell? ⟨w1.heap.size, 2, none⟩ = some (.slice ra n rc) := fun wx hx => (hx.cell (by show w1.heap.size < _; omega)).trans (hgx.out 2)
    have G0 : Hid (_) := hg0
    have G1 : Hid (_) := hg1
    have G2 : Hid (_) := hg2
    have c20 := hg0 _ hb2
    clear hg0 hg1 hg2 hgx htx hW hmp h1W
    go_wp2_with fail
    go_loopw [26] (fun i wr => ∃ k : Nat, k ≤ n ∧ i = .int .i64 k ∧ BlAt wr bm n (fun i => !hitTo E n i k) ∧ Below W.heap.size W wr) (fun i _ => n - (intOf i).toNat)
    case atStart => exact ⟨0, Nat.zero_le _, rfl, hbl.congr (fun i _ => rfl), hb2⟩
    case round =>
      clear c20 hbl hb2
      obtain ⟨k, hk, rfl, hbl, hbr⟩ := hrel
      obtain ⟨wo, rfl⟩ : ∃ wo : World, wo = wr := ⟨_, rfl⟩
      by_cases hlt : k < n
      · obtain ⟨pa, cp, aa, ca, ga, cg, hcs, hok⟩ := Hc.out k hlt
        have hbw := hwW.trans (hbr.mono hwW.size)
        obtain ⟨c0, c1, c2, c3, c4, c5, c6, c7, c8, c9⟩ := hcs.below hbw hb
        have hslW := (hok.below hwW).hp
        have hsz := hslW.size
        have hbA : ∀ o, Below W.heap.size W (wo.alloc o) := fun o => hbr.alloc hbr.size _
        have hblA : ∀ o, BlAt (wo.alloc o) bm n (fun i => !hitTo E n i k) := fun o => hbl.below ((Below.refl _ _).alloc (Nat.le_refl _) _)
        clear hcs hok
        have hnp : (E k).np ≤ maxLen := Nat.le_trans hslW.le hslW.max
        unfold maxLen at hnp
        go_wp2_with fail
        go_loopw [33] (fun i wi => ∃ p : Nat, p ≤ (E k).np ∧ i = .int .i64 p ∧ BlAt wi bm n (tipN E n k p) ∧ Below W.heap.size W wi) (fun i _ => (E k).np - (intOf i).toNat)
        case atStart => exact ⟨0, Nat.zero_le _, rfl, (hblA _).congr (fun i _ => (tipN_zero E n k i).symm), hbA _⟩
        case round =>
          clear hbA hblA c0 c1 c2 c3 c4 c5 c6 c7 c8 c9 hbl
          obtain ⟨p, hp, rfl, hbl, hbi⟩ := hrel
          by_cases hlp : p < (E k).np
          · rcases hslW.cells with h0 | ⟨bp, op, rfl, hbp, hcp⟩
            · omega
            have hck : wr.cell? ⟨bp, op + p, none⟩ = some (.string ((E k).Pv p)) := (hbi.cell (by exact hbp)).trans (hcp p hlp)
            have g1 := G1.out _ hbi
            obtain ⟨D, hD, hK⟩ := hmpW.below hbi
            obtain ⟨hp0, hp1⟩ := room_prev Hq.out hlt hlp
            obtain ⟨j, hj⟩ : ∃ j : Nat, posV E n ((E k).Pv p) = (j : Int) := ⟨(posV E n ((E k).Pv p)).toNat, by omega⟩
            have hkey : keyOf Try.prog 9 (.string ((E k).Pv p)) = some (.string ((E k).Pv p).data.toList) := Go.WideMaps.keyOf_string_mk Try.underlying9 (hsz p hlp)
            have hat1 : D.atKey (.string ((E k).Pv p).data.toList) (.lit (.int .i64 0)) = .lit (.int .i64 (j : Int)) := by
              rw [← hj]; exact (hK ((E k).Pv p)).2 (by unfold knE; exact decide_eq_true hp0)
            have hjn : j < n := by omega
            have Hbl : Hid (BlAt (wr.setCell ⟨bm, j, none⟩ (.bool false)) bm n (tipN E n k (p + 1))) := (hbl.set hjn false).congr (fun i _ => tipN_step hj)
            have hm1 := (hbl.2 j hjn).1
            have hm2 := (hbl.2 j hjn).2
            clear hK hj hp0 hp1 hcp hbl
            go_wp2_with (at_lookup; refine wpList_lookup_own_int _ rfl _ _ 59 rfl 9 3 .i64 lawStr Try.underlying59 Try.underlying3 (zeroInt _) m n D rfl hD _ _ rfl hkey ?_; intro c hat hwc; have hcv : c = (j : Int) := by (have := hat.symm.trans hat1; simpa using this))
            go_roundw
            case rel => exact ⟨p + 1, by omega, by go_num, Hbl.out, hbi.setCell hbm _⟩
            case measure => simp [intOf]; omega
          · have hpn : p = (E k).np := by omega
            subst hpn
            go_wp2
            refine ⟨⟨k + 1, by omega, by go_num, hbl.congr (fun i _ => tipN_end E n k i), hbi⟩, by simp [intOf]; omega⟩
      · have hkn : k = n := by omega
        subst hkn
        have g0 := G0.out _ hbr
        have g1 := G1.out _ hbr
        have g2 := G2.out _ hbr
        have hbw := hwW.trans (hbr.mono hwW.size)
        have hslV := h.below hbw
        go_wp2_with fail
        refine (soI_sl _ Hq.out hslV hbl).mono ?_
        rintro e w3 ⟨v, l, rfl, hown, hsrt, hmem, hb3⟩
        have Hs : Hid (_) := hsrt
        have Hm : Hid (_) := hmem
        clear hsrt hmem
        go_wp2
        refine bodyPost_ret (v := .tuple #[v, .int .i64 0]) (by simp [results, Try.results9, go_sem]) rfl ?_
        refine ⟨hbw.trans (hb3.mono hbw.size), Or.inl ⟨Hq.out, v, l, rfl, hown.mono hbw.size, Hs.out, fun s => ?_⟩⟩
        rw [Hm.out]
        constructor
        · rintro ⟨i, hi, h1, h2⟩
          exact ⟨i, hi, by rw [hitTo_fol Hq.out hi] at h1; simpa using h1, h2⟩
        · rintro ⟨i, hi, h1, h2⟩
          exact ⟨i, hi, by rw [hitTo_fol Hq.out hi, h1]; rfl, h2⟩
  · have Hq : Hid (_) := hq
    clear hq
    go_wp2
    refine bodyPost_ret (v := .tuple #[.slice none 0 0, .int .i64 1]) (by simp [results, Try.results9, go_sem]) rfl ⟨hw1.alloc hw1.size _, Or.inr ⟨Hq.out, _, rfl, OwnL.nil _ _⟩⟩

set_option maxRecDepth 100000 in
set_option maxHeartbeats 1000000 in
theorem tipI_zero (a : Option Addr) (cap : Nat) (E : Nat → Ev) (w : World) (h : SlV w a 0 cap E) :
    Calls Try.prog 9 #[.agg #[.slice a 0 cap]] w (TipPost w E 0 true) := by
  have hb0 : ∀ o, Below w.heap.size w (w.alloc o) := fun o => (Below.refl _ _).alloc (Nat.le_refl _) _
  go_enter Try.func9, Try.ntmps9
  go_wp2_with fail
  refine (graph_sl _ (h.below (hb0 _))).mono ?_
  rintro e w1 ⟨hb1, hp⟩
  have hw1 := (hb0 _).trans (hb1.mono (hb0 _).size)
  rcases hp with ⟨hq, m, ra, rc, rfl, hmp, _⟩ | ⟨hq, rfl⟩
  · clear hq hb1
    go_wp2_with fail
    obtain ⟨W, hW⟩ : ∃ W, W = (w1.alloc (.cells #[.slice a 0 cap, .map (some m), .slice ra 0 rc] 62)).alloc (.cells #[.bool true] 4) := ⟨_, rfl⟩
    have hsW : W.heap.size = w1.heap.size + 1 + 1 := by rw [hW]; simp
    have h1W : Below w1.heap.size w1 W := by rw [hW]; exact ((Below.refl _ _).alloc (Nat.le_refl _) _).alloc (by simp) _
    have hgx : Hid (∀ o, W.cell? ⟨w1.heap.size, o, none⟩ = (#[.slice a 0 cap, .map (some m), .slice ra 0 rc] : Array Value)[o]?) := fun o => by
      rw [hW, World.cell?_alloc_past _ _ _ (by simp)]
      exact World.cell?_alloc_at _ _ _ _ rfl
    have htx : W.cell? ⟨w1.heap.size + 1, 0, none⟩ = some (.bool true) := by
      rw [hW, World.cell?_alloc_at _ _ _ _ (by simp)]; rfl
    rw [← hW]
    refine (rep_any 0 (w1.heap.size + 1) W (by decide) (by omega) htx).mono ?_
    rintro e w2 ⟨bm, rfl, hbm, hbl, hb2⟩
    have hwW := hw1.trans (h1W.mono hw1.size)
    have hbw := hwW.trans (hb2.mono hwW.size)
    have c0 : w2.cell? ⟨w1.heap.size, 0, none⟩ = _ := (hb2.cell (by show w1.heap.size < _; omega)).trans (hgx.out 0)
    have c1 : w2.cell? ⟨w1.heap.size, 1, none⟩ = _ := (hb2.cell (by show w1.heap.size < _; omega)).trans (hgx.out 1)
    have c2 : w2.cell? ⟨w1.heap.size, 2, none⟩ = _ := (hb2.cell (by show w1.heap.size < _; omega)).trans (hgx.out 2)
    clear hgx htx hW hmp h1W
    go_wp2_with fail
    refine wp_loop_rounds 1 ?_
    rw [rounds_succ]
    go_wp2_with fail
    refine (soI_zero a cap bm 0 m ra 0 rc E (fun _ => true) _).mono ?_
    rintro e w3 ⟨v, l, rfl, hown, hsrt, hmem, hb3⟩
    have Hs : Hid (_) := hsrt
    have Hm : Hid (_) := hmem
    clear hsrt hmem
    go_wp2
    refine bodyPost_ret (v := .tuple #[v, .int .i64 0]) (by simp [results, Try.results9, go_sem]) rfl ?_
    refine ⟨hbw.trans (hb3.mono hbw.size), Or.inl ⟨rfl, v, l, rfl, hown.mono hbw.size, Hs.out, fun s => ?_⟩⟩
    rw [Hm.out]
    constructor
    · rintro ⟨i, hi, _⟩; exact absurd hi (Nat.not_lt_zero _)
    · rintro ⟨i, hi, _⟩; exact absurd hi (Nat.not_lt_zero _)
  · cases hq

theorem tipI_sl {a : Option Addr} {n cap : Nat} {E : Nat → Ev} (w : World) (h : SlV w a n cap E) :
    Calls Try.prog 9 #[.agg #[.slice a n cap]] w (TipPost w E n (roomTo E n)) := by
  rcases h.cells with rfl | ⟨b, off, rfl, hb, hc⟩
  · exact tipI_zero a cap E w h
  · exact tipI_any b off n cap E w h hb hc
end Go.Proofs.Ytghbednpeboicaa
