import Derived.Test.YtgocjlpbokhoeaaExS
import Derived.Test.YtgocjlpbokhoeaaDlLM
namespace Go.Proofs.Ytgocjlpbokhoeaa
open Go.RowKit
def grpOk (G : Nat → Grp) (i : Nat) : Bool :=
  (decide (-1 ≤ (G i).par) && decide ((G i).par < i)) && (chB (G i).sets && ((!decide ((G i).par = -1) || stB (G i).sets) && (decide (lnk G (i + 1) i ≤ 4) && decide ((expF G (i + 1) i).length ≤ 300))))
def stoTo (G : Nat → Grp) : Nat → Bool
  | 0 => true
  | k + 1 => stoTo G k && grpOk G k
def stoB (G : Nat → Grp) (n : Nat) : Bool := decide (n ≤ 1000) && stoTo G n
theorem stoTo_le (G : Nat → Grp) : ∀ n k, k < n → stoTo G (k + 1) = false → stoTo G n = false
  | 0, _, h, _ => absurd h (Nat.not_lt_zero _)
  | n + 1, k, h, e => by
    by_cases hk : k = n
    · subst hk; exact e
    · unfold stoTo; rw [stoTo_le G n k (by omega) e]; rfl
theorem stoTo_at {G : Nat → Grp} : ∀ {n : Nat}, stoTo G n = true → ∀ j, j < n → grpOk G j = true
  | 0, _, j, hj => absurd hj (Nat.not_lt_zero _)
  | n + 1, h, j, hj => by
    unfold stoTo at h
    rw [Bool.and_eq_true] at h
    by_cases e : j = n
    · subst e; exact h.2
    · exact stoTo_at h.1 j (by omega)
theorem grpOk_parts {G : Nat → Grp} {i : Nat} (h : grpOk G i = true) : -1 ≤ (G i).par ∧ (G i).par < i ∧ (G i).sets.length ≤ 600 ∧ lnk G (i + 1) i ≤ 4 ∧ (expF G (i + 1) i).length ≤ 300 := by
  unfold grpOk at h
  simp only [Bool.and_eq_true, decide_eq_true_eq] at h
  exact ⟨h.1.1, h.1.2, ch_len h.2.1, h.2.2.2.1, h.2.2.2.2⟩
theorem stoTo_front {G : Nat → Grp} {n : Nat} (h : stoTo G n = true) : Front G n := fun j hj => by
  have := grpOk_parts (stoTo_at h j hj)
  exact ⟨this.1, this.2.1⟩
set_option maxRecDepth 100000 in
set_option maxHeartbeats 4000000 in
theorem storeS_sl {a : Option Addr} {n cap : Nat} {G : Nat → Grp} (w : World) (h : SlT w a n cap G) :
    Calls Try.prog 17 #[.agg #[.slice a n cap]] w fun e w' => e = .returned (.bool (stoB G n)) ∧ Below w.heap.size w w' := by
  have hb0 : ∀ o, Below w.heap.size w (w.alloc o) := fun o => (Below.refl _ _).alloc (Nat.le_refl _) _
  have hnm := Nat.le_trans h.le h.max
  unfold maxLen at hnm
  by_cases h1000 : n ≤ 1000
  · have hv0 : Hid (stoB G n = stoTo G n) := by unfold Hid stoB; rw [decide_eq_true h1000]; rfl
    obtain ⟨wb, hwb⟩ : ∃ wb, wb = w.alloc (.cells #[.slice a n cap] 25) := ⟨_, rfl⟩
    have hwwb : Below w.heap.size w wb := by rw [hwb]; exact hb0 _
    have hsb : wb.heap.size = w.heap.size + 1 := by rw [hwb]; simp
    have hbx : Hid (∀ wx, Below (w.heap.size + 1) wb wx → wx.cell? ⟨w.heap.size, 0, none⟩ = some (.slice a n cap)) := fun wx hx => by subst hwb; exact box_cells hx 0
    have hbx0 := hbx.out wb (Below.refl _ _)
    go_enter Try.func17, Try.ntmps17
    go_wp2_with fail
    rw [← hwb]
    clear hwb hbx0
    go_loopw [3] (fun iv wr => ∃ k : Nat, k ≤ n ∧ iv = .int .i64 k ∧ Hid (stoTo G k = true) ∧ Below (w.heap.size + 1) wb wr) (fun iv _ => n - (intOf iv).toNat)
    case atStart => exact ⟨0, Nat.zero_le _, rfl, rfl, Below.refl _ _⟩
    case round =>
      obtain ⟨k, hk, rfl, hto, hB⟩ := hrel
      have hbw := hwwb.trans (hB.mono (by omega))
      have hbx0 := hbx.out _ hB
      have hsr : w.heap.size + 1 ≤ wr.heap.size := by have := hB.size; omega
      by_cases hlt : k < n
      · have hsw := h.below hbw
        rcases h.cells with h0 | ⟨b, off, rfl, hb, hc⟩
        · omega
        obtain ⟨sa, sc, c1, c2, hsl⟩ := (hc k hlt).below hbw hb
        have hfalse : Hid (grpOk G k = false → Ending.returned (.bool false) = .returned (.bool (stoB G n))) := fun hg => by
          rw [hv0.out, stoTo_le G n k hlt (by rw [stoTo, hg, Bool.and_false])]
        clear hc
        obtain ⟨wg, hwg⟩ : ∃ wg, wg = wr.alloc (.cells #[.int .i64 (G k).par, .slice sa (G k).sets.length sc] 46) := ⟨_, rfl⟩
        have hrg : Below wr.heap.size wr wg := by rw [hwg]; exact (Below.refl _ _).alloc (Nat.le_refl _) _
        have hsg : wg.heap.size = wr.heap.size + 1 := by rw [hwg]; simp
        have hgx : Hid (∀ wx, Below (wr.heap.size + 1) wg wx → ∀ o, wx.cell? ⟨wr.heap.size, o, none⟩ = (#[.int .i64 (G k).par, .slice sa (G k).sets.length sc] : Array Value)[o]?) := fun wx hx => by subst hwg; exact box_cells hx
        have hBg := hB.trans (hrg.mono hsr)
        have hbg := hbw.trans (hrg.mono hbw.size)
        by_cases p1 : (G k).par < -1
        · have hg : Hid (grpOk G k = false) := by unfold Hid grpOk; rw [decide_eq_false (by omega)]; rfl
          go_wp2
          go_ret
          exact ⟨hfalse.out hg.out, by rw [← hwg]; exact hbg⟩
        by_cases p2 : (k : Int) ≤ (G k).par
        · have hg : Hid (grpOk G k = false) := by unfold Hid grpOk; rw [decide_eq_false (p := (G k).par < k) (by omega), Bool.and_false]; rfl
          go_wp2
          go_ret
          exact ⟨hfalse.out hg.out, by rw [← hwg]; exact hbg⟩
        go_wp2_with fail
        rw [← hwg]
        have hslg := hsl.below hrg
        refine (changes_sl _ hslg).mono ?_
        rintro e w3 ⟨rfl, hb3⟩
        have hX3 : Below (wr.heap.size + 1) wg w3 := hb3.mono (by omega)
        have hB3 := hBg.trans (hb3.mono (by omega))
        have hb3w := hbg.trans (hb3.mono hbg.size)
        have hcx3 := hgx.out _ hX3
        cases hch : chB (G k).sets
        case false =>
          have hg : Hid (grpOk G k = false) := by unfold Hid grpOk; rw [hch, Bool.false_and, Bool.and_false]
          go_wp2
          go_ret
          exact ⟨hfalse.out hg.out, hb3w⟩
        case true =>
          have Hfront : Hid (Front G (k + 1)) := fun j hj => by
            by_cases e : j = k
            · subst e; exact ⟨by omega, by omega⟩
            · exact stoTo_front hto.out j (by omega)
          have Hsets : Hid (∀ j, j < k + 1 → (G j).sets.length ≤ 600) := fun j hj => by
            by_cases e : j = k
            · subst e; exact ch_len hch
            · exact (grpOk_parts (stoTo_at hto.out j (by omega))).2.2.1
          have Hexp : Hid (∀ j, j + 1 < k + 1 → (expF G (j + 1) j).length ≤ 300) := fun j hj => (grpOk_parts (stoTo_at hto.out j (by omega))).2.2.2.2
          have Hok : Hid (AllOk (expF G (k + 1) k)) := expF_ok Hfront.out (fun j hj => by
            rcases h.cells with h0 | ⟨_, _, _, _, hc⟩
            · omega
            · obtain ⟨_, _, _, _, hs⟩ := hc j (by omega)
              exact hs.ok) (k + 1) k (by omega)
          by_cases pm : (G k).par = -1
          · have hpb : ((G k).par == -1) = true := by simpa using pm
            have Hpm : Hid ((G k).par = -1) := pm
            clear pm
            go_wp2_with fail
            refine (stateS_sl _ (hslg.below hb3)).mono ?_
            rintro e w4 ⟨rfl, hb4⟩
            have hXW := hX3.trans (hb4.mono (by have := hX3.size; omega))
            have hBW := hB3.trans (hb4.mono (by have := hB3.size; omega))
            have hbW := hb3w.trans (hb4.mono hb3w.size)
            clear hcx3
            cases hst : stB (G k).sets
            case false =>
              have hg : Hid (grpOk G k = false) := by unfold Hid grpOk; rw [hst, decide_eq_true Hpm.out]; simp
              go_wp2
              go_ret
              exact ⟨hfalse.out hg.out, hbW⟩
            case true =>
              have Hgrp : Hid (lnk G (k + 1) k ≤ 4 → (expF G (k + 1) k).length ≤ 300 → grpOk G k = true) := fun q1 q2 => by unfold grpOk; rw [hch, hst, decide_eq_true q1, decide_eq_true q2, decide_eq_true (p := -1 ≤ (G k).par) (by omega), decide_eq_true (p := (G k).par < k) (by omega)]; simp
              have hcxW := hgx.out _ hXW
              have hbxW := hbx.out _ hBW
              go_wp2_with fail
              refine (links_any (by omega) (by omega) (Hfront.out) k (by omega) _ (h.below hbW)).mono ?_
              rintro e w5 ⟨rfl, hb5⟩
              have hX5 := hXW.trans (hb5.mono (by have := hXW.size; omega))
              have hB5 := hBW.trans (hb5.mono (by have := hBW.size; omega))
              have hb5w := hbW.trans (hb5.mono hbW.size)
              clear hcxW hbxW
              have hcx5 := hgx.out _ hX5
              have hbx5 := hbx.out _ hB5
              have hlk : Hid (lnk G (k + 1) k ≤ k + 1) := lnk_le G (k + 1) k
              by_cases hl4 : lnk G (k + 1) k ≤ 4
              · have hg4 : ¬ (4 < lnk G (k + 1) k) := by omega
                go_wp2_with fail
                refine (expand_any (by omega) (by omega) Hfront.out (Hsets.out) Hexp.out k (by omega) _ (h.below hb5w)).mono ?_
                rintro e w6 ⟨v, rfl, ho6, hb6⟩
                obtain ⟨ga, gc, rfl, _⟩ := ho6.sl Hok.out.at
                have hX6 := hX5.trans (hb6.mono (by have := hX5.size; omega))
                have hB6 := hB5.trans (hb6.mono (by have := hB5.size; omega))
                have hb6w := hb5w.trans (hb6.mono hb5w.size)
                by_cases hl3 : (expF G (k + 1) k).length ≤ 300
                · have hg3 : ¬ (300 < (expF G (k + 1) k).length) := by omega
                  have hok : Hid (stoTo G (k + 1) = true) := by unfold Hid; rw [stoTo, hto.out, Hgrp.out hl4 hl3]; rfl
                  go_wp2
                  go_roundw
                  case rel => exact ⟨k + 1, by omega, by go_num, hok, hB6⟩
                  case measure => simp [intOf]; omega
                · have hg3 : 300 < (expF G (k + 1) k).length := by omega
                  have hg : Hid (grpOk G k = false) := by
                    unfold Hid
                    cases hgg : grpOk G k
                    · rfl
                    · exact absurd (grpOk_parts hgg).2.2.2.2 hl3
                  go_wp2
                  go_ret
                  exact ⟨hfalse.out hg.out, hb6w⟩
              · have hg4 : 4 < lnk G (k + 1) k := by omega
                have hg : Hid (grpOk G k = false) := by
                  unfold Hid
                  cases hgg : grpOk G k
                  · rfl
                  · exact absurd (grpOk_parts hgg).2.2.2.1 hl4
                go_wp2
                go_ret
                exact ⟨hfalse.out hg.out, hb5w⟩
          · have hpb : ((G k).par == -1) = false := by simpa using pm
            have Hgrp : Hid (lnk G (k + 1) k ≤ 4 → (expF G (k + 1) k).length ≤ 300 → grpOk G k = true) := fun q1 q2 => by unfold grpOk; rw [hch, decide_eq_true q1, decide_eq_true q2, decide_eq_true (p := -1 ≤ (G k).par) (by omega), decide_eq_true (p := (G k).par < k) (by omega), decide_eq_false pm]; simp
            have hXW := hX3
            have hBW := hB3
            have hbW := hb3w
            clear hcx3
            have hcxW := hgx.out _ hXW
            have hbxW := hbx.out _ hBW
            go_wp2_with fail
            refine (links_any (by omega) (by omega) (Hfront.out) k (by omega) _ (h.below hbW)).mono ?_
            rintro e w5 ⟨rfl, hb5⟩
            have hX5 := hXW.trans (hb5.mono (by have := hXW.size; omega))
            have hB5 := hBW.trans (hb5.mono (by have := hBW.size; omega))
            have hb5w := hbW.trans (hb5.mono hbW.size)
            clear hcxW hbxW
            have hcx5 := hgx.out _ hX5
            have hbx5 := hbx.out _ hB5
            have hlk : Hid (lnk G (k + 1) k ≤ k + 1) := lnk_le G (k + 1) k
            by_cases hl4 : lnk G (k + 1) k ≤ 4
            · have hg4 : ¬ (4 < lnk G (k + 1) k) := by omega
              go_wp2_with fail
              refine (expand_any (by omega) (by omega) Hfront.out (Hsets.out) Hexp.out k (by omega) _ (h.below hb5w)).mono ?_
              rintro e w6 ⟨v, rfl, ho6, hb6⟩
              obtain ⟨ga, gc, rfl, _⟩ := ho6.sl Hok.out.at
              have hX6 := hX5.trans (hb6.mono (by have := hX5.size; omega))
              have hB6 := hB5.trans (hb6.mono (by have := hB5.size; omega))
              have hb6w := hb5w.trans (hb6.mono hb5w.size)
              by_cases hl3 : (expF G (k + 1) k).length ≤ 300
              · have hg3 : ¬ (300 < (expF G (k + 1) k).length) := by omega
                have hok : Hid (stoTo G (k + 1) = true) := by unfold Hid; rw [stoTo, hto.out, Hgrp.out hl4 hl3]; rfl
                go_wp2
                go_roundw
                case rel => exact ⟨k + 1, by omega, by go_num, hok, hB6⟩
                case measure => simp [intOf]; omega
              · have hg3 : 300 < (expF G (k + 1) k).length := by omega
                have hg : Hid (grpOk G k = false) := by
                  unfold Hid
                  cases hgg : grpOk G k
                  · rfl
                  · exact absurd (grpOk_parts hgg).2.2.2.2 hl3
                go_wp2
                go_ret
                exact ⟨hfalse.out hg.out, hb6w⟩
            · have hg4 : 4 < lnk G (k + 1) k := by omega
              have hg : Hid (grpOk G k = false) := by
                unfold Hid
                cases hgg : grpOk G k
                · rfl
                · exact absurd (grpOk_parts hgg).2.2.2.1 hl4
              go_wp2
              go_ret
              exact ⟨hfalse.out hg.out, hb5w⟩
      · have hkn : n = k := by omega
        subst hkn
        go_wp2
        go_ret
        exact ⟨ret_bool (by rw [hv0.out, hto.out]), hbw⟩
  · have hv0 : Hid (stoB G n = false) := by unfold Hid stoB; rw [decide_eq_false h1000]; rfl
    go_enter Try.func17, Try.ntmps17
    go_wp2
    go_ret
    exact ⟨ret_bool hv0.out.symm, hb0 _⟩
end Go.Proofs.Ytgocjlpbokhoeaa
