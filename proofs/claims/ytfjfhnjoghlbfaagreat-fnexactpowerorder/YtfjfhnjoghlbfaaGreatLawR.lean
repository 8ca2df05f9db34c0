import Derived.Test.YtfjfhnjoghlbfaaGreatRm
import Derived.Test.YtfjfhnjoghlbfaaGreatRA
namespace Go.Proofs.YtfjfhnjoghlbfaaGreat
open Go.RowKit

/-! ### sizes -/

theorem szV_zero (a : Option Addr) (cap : Nat) (l : Int) (w : World) (h0 : 0 ≤ l) (h1 : l ≤ 1048576) :
    Calls Tryz.prog 15 #[.slice a 0 cap, .int .i64 l] w fun e w' => e = .returned (.int .i64 l) ∧ w' = w := by
  go_enter Tryz.func15, Tryz.ntmps15
  go_wp2
  refine wp_loop_rounds 1 ?_
  rw [rounds_succ]
  go_wp2
  go_ret
  exact ⟨rfl, rfl⟩

set_option maxHeartbeats 2000000 in
theorem szV_any (b off n cap : Nat) (E : Nat → Ev) (r0 : Int) (w : World) (h0 : 0 ≤ r0) (h1 : r0 ≤ 1048576) (hn : n ≤ maxLen) (hb : b < w.heap.size) (hc : ∀ i, i < n → EvAt w b (off + i * 10) (E i)) :
    Calls Tryz.prog 15 #[.slice (some ⟨b, off, none⟩) n cap, .int .i64 r0] w fun e w' => ∃ r : Int, e = .returned (.int .i64 r) ∧ -1 ≤ r ∧ r ≤ r0 ∧ Below w.heap.size w w' := by
  unfold maxLen at hn
  by_cases hneg : r0 - n < 0
  · go_enter Tryz.func15, Tryz.ntmps15
    go_wp2
    go_ret
    exact ⟨-1, rfl, by omega, by omega, Below.refl _ _⟩
  · go_enter Tryz.func15, Tryz.ntmps15
    go_wp2
    go_loopw [1, 5] (fun s1 i wr => ∃ (k : Nat) (r : Int), k ≤ n ∧ i = .int .i64 k ∧ s1 = .int .i64 r ∧ 0 ≤ r ∧ r ≤ r0 ∧ Below w.heap.size w wr) (fun _ i _ => n - (intOf i).toNat)
    case atStart => exact ⟨0, _, Nat.zero_le _, rfl, rfl, by omega, by omega, Below.refl _ _⟩
    case round =>
      obtain ⟨k, r, hk, rfl, rfl, hr0, hr1, hbel⟩ := hrel
      by_cases hlt : k < n
      · obtain ⟨pa, cp, aa, ca, ga, cg, hcs, hok⟩ := hc k hlt
        obtain ⟨c0, c1, c2, c3, c4, c5, c6, c7, c8, c9⟩ := hcs.below hbel hb
        have ho := hok.below hbel
        clear hcs hok hc
        go_wp2_with (go_at_call 28; refine (szEv_any _ _ _ _ _ _ _ pa _ cp aa _ ca ga _ cg (E k).Pv (E k).Av (E k).M (E k).L _ ho.hid ho.hsd ho.hty ho.hkey ho.hval ho.hp ho.ha ho.hg _ (by assumption) (by omega)).mono ?_; rintro e w' ⟨r', rfl, hr2, hr3, hb1⟩)
        · go_ret
          exact ⟨-1, rfl, by omega, by omega, hbel.trans (hb1.mono hbel.size)⟩
        · go_roundw
          case rel => exact ⟨k + 1, r', by omega, by go_num, rfl, by assumption, by omega, hbel.trans (hb1.mono hbel.size)⟩
          case measure => simp [intOf]; omega
      · go_wp2
        go_ret
        exact ⟨r, rfl, by omega, by omega, hbel⟩

theorem szV_sl {a : Option Addr} {n cap : Nat} {E : Nat → Ev} (r0 : Int) (w : World) (h0 : 0 ≤ r0) (h1 : r0 ≤ 1048576) (h : SlV w a n cap E) :
    Calls Tryz.prog 15 #[.slice a n cap, .int .i64 r0] w fun e w' => ∃ r : Int, e = .returned (.int .i64 r) ∧ -1 ≤ r ∧ r ≤ r0 ∧ Below w.heap.size w w' := by
  rcases h.cells with rfl | ⟨b, off, rfl, hb, hc⟩
  · refine (szV_zero a cap r0 w h0 h1).mono ?_
    rintro e w' ⟨rfl, rfl⟩
    exact ⟨r0, rfl, by omega, by omega, Below.refl _ _⟩
  · exact szV_any b off n cap E r0 w h0 h1 (Nat.le_trans h.le h.max) hb hc

set_option maxHeartbeats 1000000 in
theorem szR_sl {a : Option Addr} {n cap : Nat} {E : Nat → Ev} (r0 : Int) (w : World) (h0 : 0 ≤ r0) (h1 : r0 ≤ 1048576) (h : SlV w a n cap E) :
    Calls Tryz.prog 4 #[.agg #[.slice a n cap], .int .i64 r0] w fun e w' => ∃ r : Int, e = .returned (.int .i64 r) ∧ -1 ≤ r ∧ r ≤ r0 ∧ Below w.heap.size w w' := by
  have hb0 : ∀ o, Below w.heap.size w (w.alloc o) := fun o => (Below.refl _ _).alloc (Nat.le_refl _) _
  go_enter Tryz.func4, Tryz.ntmps4
  go_wp2_with (go_at_call 15; refine (szV_sl r0 _ h0 h1 (h.below (hb0 _))).mono ?_; rintro e w' ⟨r', rfl, hr2, hr3, hb1⟩)
  · go_ret
    exact ⟨-1, rfl, by omega, by omega, (hb0 _).trans (hb1.mono (by simp))⟩
  · go_ret
    exact ⟨r', rfl, by omega, by omega, (hb0 _).trans (hb1.mono (by simp))⟩

/-! ### the same twice -/

theorem eqV_zero (a a' : Option Addr) (cap cap' : Nat) (w : World) :
    Calls Tryz.prog 25 #[.slice a 0 cap, .slice a' 0 cap'] w fun e w' => e = .returned (.bool true) ∧ w' = w := by
  go_enter Tryz.func25, Tryz.ntmps25
  go_wp2
  refine wp_loop_rounds 1 ?_
  rw [rounds_succ]
  go_wp2
  go_ret
  exact ⟨rfl, rfl⟩

set_option maxHeartbeats 2000000 in
theorem eqV_any (b off cap b' off' cap' n : Nat) (E : Nat → Ev) (w : World) (hn : n ≤ maxLen) (hb : b < w.heap.size) (hb' : b' < w.heap.size) (hc : ∀ i, i < n → EvAt w b (off + i * 10) (E i)) (hc' : ∀ i, i < n → EvAt w b' (off' + i * 10) (E i)) :
    Calls Tryz.prog 25 #[.slice (some ⟨b, off, none⟩) n cap, .slice (some ⟨b', off', none⟩) n cap'] w fun e w' => e = .returned (.bool true) ∧ Below w.heap.size w w' := by
  unfold maxLen at hn
  go_enter Tryz.func25, Tryz.ntmps25
  go_wp2
  go_loopw [5] (fun i wr => ∃ k : Nat, k ≤ n ∧ i = .int .i64 k ∧ Below w.heap.size w wr) (fun i _ => n - (intOf i).toNat)
  case atStart => exact ⟨0, Nat.zero_le _, rfl, Below.refl _ _⟩
  case round =>
    obtain ⟨k, hk, rfl, hbel⟩ := hrel
    by_cases hlt : k < n
    · obtain ⟨pa, cp, aa, ca, ga, cg, hcs, hok⟩ := hc k hlt
      obtain ⟨c0, c1, c2, c3, c4, c5, c6, c7, c8, c9⟩ := hcs.below hbel hb
      have ho := hok.below hbel
      obtain ⟨pa', cp', aa', ca', ga', cg', hcs', hok'⟩ := hc' k hlt
      obtain ⟨d0, d1, d2, d3, d4, d5, d6, d7, d8, d9⟩ := hcs'.below hbel hb'
      have ho' := hok'.below hbel
      clear hcs hok hc hcs' hok' hc'
      have DB : ∀ w2, (w2 = wr ∨ w2 = wr.drew ∨ w2 = wr.drew.drew) → Below wr.heap.size wr w2 := by
        rintro w2 (rfl | rfl | rfl)
        · exact Below.refl _ _
        · exact (Below.refl _ _).drew
        · exact (Below.refl _ _).drew.drew
      go_wp2_with fail
      go_region_with (go_at_call 47; refine (eqEv_any _ _ _ _ _ _ _ pa _ cp aa _ ca ga _ cg pa' cp' aa' ca' ga' cg' (E k).Pv (E k).Av (E k).M (E k).L _ (ho.hp.below (DB _ (by simp))) (ho.ha.below (DB _ (by simp))) (ho.hg.below (DB _ (by simp))) (ho'.hp.below (DB _ (by simp))) (ho'.ha.below (DB _ (by simp))) (ho'.hg.below (DB _ (by simp)))).mono ?_; rintro e w1 ⟨rfl, hb1⟩)
      all_goals
        go_wp2
        go_roundw
        case rel => exact ⟨k + 1, by omega, by go_num, Below.trans (by first | exact hbel | exact hbel.drew | exact hbel.drew.drew) (hb1.mono (by exact hbel.size))⟩
        case measure => simp [intOf]; omega
    · go_wp2
      go_ret
      exact ⟨rfl, hbel⟩

theorem eqV_sl {a a' : Option Addr} {n cap cap' : Nat} {E : Nat → Ev} (w : World) (h : SlV w a n cap E) (h' : SlV w a' n cap' E) :
    Calls Tryz.prog 25 #[.slice a n cap, .slice a' n cap'] w fun e w' => e = .returned (.bool true) ∧ Below w.heap.size w w' := by
  rcases h.cells with rfl | ⟨b, off, rfl, hb, hc⟩
  · refine (eqV_zero a a' cap cap' w).mono ?_
    rintro e w' ⟨rfl, rfl⟩
    exact ⟨rfl, Below.refl _ _⟩
  · rcases h'.cells with rfl | ⟨b', off', rfl, hb', hc'⟩
    · refine (eqV_zero _ a' cap cap' w).mono ?_
      rintro e w' ⟨rfl, rfl⟩
      exact ⟨rfl, Below.refl _ _⟩
    · exact eqV_any b off cap b' off' cap' n E w (Nat.le_trans h.le h.max) hb hb' hc hc'

set_option maxHeartbeats 1000000 in
theorem eqR_sl {a a' : Option Addr} {n cap cap' : Nat} {E : Nat → Ev} (w : World) (h : SlV w a n cap E) (h' : SlV w a' n cap' E) :
    Calls Tryz.prog 11 #[.agg #[.slice a n cap], .agg #[.slice a' n cap']] w fun e w' => e = .returned (.bool true) ∧ Below w.heap.size w w' := by
  have hb0 : ∀ o o2, Below w.heap.size w ((w.alloc o).alloc o2) := fun o o2 => ((Below.refl _ _).alloc (Nat.le_refl _) _).alloc (by simp) _
  go_enter Tryz.func11, Tryz.ntmps11
  go_wp2_with fail
  refine (eqV_sl _ (h.below (hb0 _ _)) (h'.below (hb0 _ _))).mono ?_
  rintro e w3 ⟨rfl, hb3⟩
  go_wp2
  go_ret
  exact ⟨rfl, (hb0 _ _).trans (hb3.mono (by simp; omega))⟩
end Go.Proofs.YtfjfhnjoghlbfaaGreat
