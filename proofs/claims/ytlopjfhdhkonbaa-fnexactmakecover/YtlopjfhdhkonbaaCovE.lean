import Derived.Test.YtlopjfhdhkonbaaCovA
import Derived.Test.YtlopjfhdhkonbaaProg
import Derived.Deep.RegionWith
namespace Go.Proofs.Ytlopjfhdhkonbaa
open Go.RowKit

theorem eqI_zero (a a' : Option Addr) (cap cap' : Nat) (w : World) :
    Calls Try.prog 40 #[.slice a 0 cap, .slice a' 0 cap'] w fun e w' => e = .returned (.bool true) ∧ w' = w := by
  go_enter Try.func40, Try.ntmps40
  go_wp2
  refine wp_loop_rounds 1 ?_
  rw [rounds_succ]
  go_wp2
  go_ret
  exact ⟨rfl, rfl⟩

set_option maxHeartbeats 400000 in
theorem eqI_any (b off cap b' off' cap' n : Nat) (X : Nat → Int) (w : World) (hn : n ≤ maxLen)
    (hc : ∀ i, i < n → w.cell? ⟨b, off + i, none⟩ = some (.int .i64 (X i))) (hc' : ∀ i, i < n → w.cell? ⟨b', off' + i, none⟩ = some (.int .i64 (X i))) :
    Calls Try.prog 40 #[.slice (some ⟨b, off, none⟩) n cap, .slice (some ⟨b', off', none⟩) n cap'] w fun e w' => e = .returned (.bool true) ∧ Dr w w' := by
  unfold maxLen at hn
  go_enter Try.func40, Try.ntmps40
  go_wp2
  go_loopw [5] (fun i wr => ∃ k : Nat, k ≤ n ∧ i = .int .i64 k ∧ Dr w wr) (fun i _ => n - (intOf i).toNat)
  case atStart => exact ⟨0, Nat.zero_le _, rfl, Dr.refl _⟩
  case round =>
    obtain ⟨k, hk, rfl, hdr⟩ := hrel
    by_cases hlt : k < n
    · have hck : wr.cell? ⟨b, off + k, none⟩ = some (.int .i64 (X k)) := (hdr.cell _).trans (hc k hlt)
      have hck' : wr.cell? ⟨b', off' + k, none⟩ = some (.int .i64 (X k)) := (hdr.cell _).trans (hc' k hlt)
      go_wp2_with fail
      go_quiet (fail)
      go_wp2
      go_roundw
      case rel => exact ⟨k + 1, by omega, by go_num, hdr.drewN _⟩
      case measure => simp [intOf]; omega
    · go_wp2
      go_ret
      exact ⟨rfl, hdr⟩

theorem eqI_sl {a a' : Option Addr} {n cap cap' : Nat} {X : Nat → Int} (w : World) (h : SlI w a n cap X) (h' : SlI w a' n cap' X) :
    Calls Try.prog 40 #[.slice a n cap, .slice a' n cap'] w fun e w' => e = .returned (.bool true) ∧ Dr w w' := by
  rcases h.cells with rfl | ⟨b, off, rfl, hb, hc⟩
  · refine (eqI_zero a a' cap cap' w).mono ?_
    rintro e w' ⟨rfl, rfl⟩
    exact ⟨rfl, Dr.refl _⟩
  · rcases h'.cells with rfl | ⟨b', off', rfl, hb', hc'⟩
    · refine (eqI_zero _ a' cap cap' w).mono ?_
      rintro e w' ⟨rfl, rfl⟩
      exact ⟨rfl, Dr.refl _⟩
    · exact eqI_any b off cap b' off' cap' n X w (Nat.le_trans h.le h.max) hc hc'

theorem eqP1_any (c q : Int) (w : World) :
    Calls Try.prog 39 #[.agg #[.int .i64 c, .int .i64 q], .agg #[.int .i64 c, .int .i64 q]] w fun e w' =>
      e = .returned (.bool true) ∧ Below w.heap.size w w' := by
  go_enter Try.func39, Try.ntmps39
  go_wp2
  go_ret
  exact ⟨rfl, ((Below.refl _ _).alloc (Nat.le_refl _) _).alloc (by simp) _⟩

theorem eqP_zero (a a' : Option Addr) (cap cap' : Nat) (w : World) :
    Calls Try.prog 23 #[.slice a 0 cap, .slice a' 0 cap'] w fun e w' => e = .returned (.bool true) ∧ w' = w := by
  go_enter Try.func23, Try.ntmps23
  go_wp2
  refine wp_loop_rounds 1 ?_
  rw [rounds_succ]
  go_wp2
  go_ret
  exact ⟨rfl, rfl⟩

set_option maxHeartbeats 1000000 in
theorem eqP_any (b off cap b' off' cap' n : Nat) (C Q : Nat → Int) (w : World) (hn : n ≤ maxLen) (hb : b < w.heap.size) (hb' : b' < w.heap.size)
    (hc : ∀ i, i < n → w.cell? ⟨b, off + i * 2, none⟩ = some (.int .i64 (C i))) (hl : ∀ i, i < n → w.cell? ⟨b, off + i * 2 + 1, none⟩ = some (.int .i64 (Q i)))
    (hc' : ∀ i, i < n → w.cell? ⟨b', off' + i * 2, none⟩ = some (.int .i64 (C i))) (hl' : ∀ i, i < n → w.cell? ⟨b', off' + i * 2 + 1, none⟩ = some (.int .i64 (Q i))) :
    Calls Try.prog 23 #[.slice (some ⟨b, off, none⟩) n cap, .slice (some ⟨b', off', none⟩) n cap'] w fun e w' => e = .returned (.bool true) ∧ Below w.heap.size w w' := by
  unfold maxLen at hn
  go_enter Try.func23, Try.ntmps23
  go_wp2
  go_loopw [5] (fun i wr => ∃ k : Nat, k ≤ n ∧ i = .int .i64 k ∧ Below w.heap.size w wr) (fun i _ => n - (intOf i).toNat)
  case atStart => exact ⟨0, Nat.zero_le _, rfl, Below.refl _ _⟩
  case round =>
    obtain ⟨k, hk, rfl, hbel⟩ := hrel
    by_cases hlt : k < n
    · have hck : wr.cell? ⟨b, off + k * 2, none⟩ = some (.int .i64 (C k)) := (hbel.cell (by exact hb)).trans (hc k hlt)
      have hlk : wr.cell? ⟨b, off + k * 2 + 1, none⟩ = some (.int .i64 (Q k)) := (hbel.cell (by exact hb)).trans (hl k hlt)
      have hck' : wr.cell? ⟨b', off' + k * 2, none⟩ = some (.int .i64 (C k)) := (hbel.cell (by exact hb')).trans (hc' k hlt)
      have hlk' : wr.cell? ⟨b', off' + k * 2 + 1, none⟩ = some (.int .i64 (Q k)) := (hbel.cell (by exact hb')).trans (hl' k hlt)
      go_wp2_with fail
      go_region_with (go_at_call 39; refine (eqP1_any _ _ _).mono ?_; rintro e w1 ⟨rfl, hb1⟩)
      all_goals
        go_wp2
        go_roundw
        case rel => exact ⟨k + 1, by omega, by go_num, Below.trans (by first | exact hbel | exact hbel.drew | exact hbel.drew.drew) (hb1.mono (by exact hbel.size))⟩
        case measure => simp [intOf]; omega
    · go_wp2
      go_ret
      exact ⟨rfl, hbel⟩

theorem eqP_sl {a a' : Option Addr} {n cap cap' : Nat} {C Q : Nat → Int} (w : World) (h : SlP w a n cap C Q) (h' : SlP w a' n cap' C Q) :
    Calls Try.prog 23 #[.slice a n cap, .slice a' n cap'] w fun e w' => e = .returned (.bool true) ∧ Below w.heap.size w w' := by
  rcases h.cells with rfl | ⟨b, off, rfl, hb, hc, hl⟩
  · refine (eqP_zero a a' cap cap' w).mono ?_
    rintro e w' ⟨rfl, rfl⟩
    exact ⟨rfl, Below.refl _ _⟩
  · rcases h'.cells with rfl | ⟨b', off', rfl, hb', hc', hl'⟩
    · refine (eqP_zero _ a' cap cap' w).mono ?_
      rintro e w' ⟨rfl, rfl⟩
      exact ⟨rfl, Below.refl _ _⟩
    · exact eqP_any b off cap b' off' cap' n C Q w (Nat.le_trans h.le h.max) hb hb' hc hl hc' hl'

theorem eqL_zero (a a' : Option Addr) (cap cap' : Nat) (w : World) :
    Calls Try.prog 24 #[.slice a 0 cap, .slice a' 0 cap'] w fun e w' => e = .returned (.bool true) ∧ w' = w := by
  go_enter Try.func24, Try.ntmps24
  go_wp2
  refine wp_loop_rounds 1 ?_
  rw [rounds_succ]
  go_wp2
  go_ret
  exact ⟨rfl, rfl⟩

set_option maxHeartbeats 1000000 in
theorem eqL_any (b off cap b' off' cap' n : Nat) (rn : Nat → Nat) (X : Nat → Nat → Int) (w : World) (hn : n ≤ maxLen) (hb : b < w.heap.size) (hb' : b' < w.heap.size)
    (hc : ∀ i, i < n → RowAt w b (off + i) (rn i) (X i)) (hc' : ∀ i, i < n → RowAt w b' (off' + i) (rn i) (X i)) :
    Calls Try.prog 24 #[.slice (some ⟨b, off, none⟩) n cap, .slice (some ⟨b', off', none⟩) n cap'] w fun e w' => e = .returned (.bool true) ∧ Below w.heap.size w w' := by
  unfold maxLen at hn
  go_enter Try.func24, Try.ntmps24
  go_wp2
  go_loopw [5] (fun i wr => ∃ k : Nat, k ≤ n ∧ i = .int .i64 k ∧ Below w.heap.size w wr) (fun i _ => n - (intOf i).toNat)
  case atStart => exact ⟨0, Nat.zero_le _, rfl, Below.refl _ _⟩
  case round =>
    obtain ⟨k, hk, rfl, hbel⟩ := hrel
    by_cases hlt : k < n
    · obtain ⟨ra, rc, hck, hs⟩ := (hc k hlt).below hbel hb
      obtain ⟨ra', rc', hck', hs'⟩ := (hc' k hlt).below hbel hb'
      go_wp2_with fail
      go_region_with (go_at_call 40; refine (eqI_sl (X := X k) _ (hs.below (by first | exact Below.refl _ _ | exact (Below.refl _ _).drew | exact (Below.refl _ _).drew.drew)) (hs'.below (by first | exact Below.refl _ _ | exact (Below.refl _ _).drew | exact (Below.refl _ _).drew.drew))).mono ?_; rintro e w1 ⟨rfl, hb1⟩)
      all_goals
        go_wp2
        go_roundw
        case rel => exact ⟨k + 1, by omega, by go_num, Below.trans (by first | exact hbel | exact hbel.drew | exact hbel.drew.drew) (hb1.below _)⟩
        case measure => simp [intOf]; omega
    · go_wp2
      go_ret
      exact ⟨rfl, hbel⟩

theorem eqL_sl {a a' : Option Addr} {n cap cap' : Nat} {rn : Nat → Nat} {X : Nat → Nat → Int} (w : World) (h : SlL w a n cap rn X) (h' : SlL w a' n cap' rn X) :
    Calls Try.prog 24 #[.slice a n cap, .slice a' n cap'] w fun e w' => e = .returned (.bool true) ∧ Below w.heap.size w w' := by
  rcases h.cells with rfl | ⟨b, off, rfl, hb, hc⟩
  · refine (eqL_zero a a' cap cap' w).mono ?_
    rintro e w' ⟨rfl, rfl⟩
    exact ⟨rfl, Below.refl _ _⟩
  · rcases h'.cells with rfl | ⟨b', off', rfl, hb', hc'⟩
    · refine (eqL_zero _ a' cap cap' w).mono ?_
      rintro e w' ⟨rfl, rfl⟩
      exact ⟨rfl, Below.refl _ _⟩
    · exact eqL_any b off cap b' off' cap' n rn X w (Nat.le_trans h.le h.max) hb hb' hc hc'

set_option maxHeartbeats 1000000 in
theorem eqC_any {sa : Option Addr} {ns cs : Nat} {ra : Option Addr} {nr cr : Nat} {sa' : Option Addr} {cs' : Nat} {ra' : Option Addr} {cr' : Nat} {C Q : Nat → Int} {rn : Nat → Nat} {X : Nat → Nat → Int} (w : World)
    (hp : SlP w sa ns cs C Q) (hl : SlL w ra nr cr rn X) (hp' : SlP w sa' ns cs' C Q) (hl' : SlL w ra' nr cr' rn X) :
    Calls Try.prog 8 #[.agg #[.slice sa ns cs, .slice ra nr cr], .agg #[.slice sa' ns cs', .slice ra' nr cr']] w fun e w' => e = .returned (.bool true) ∧ Below w.heap.size w w' := by
  have hb0 : ∀ o o2, Below w.heap.size w ((w.alloc o).alloc o2) := fun o o2 => ((Below.refl _ _).alloc (Nat.le_refl _) _).alloc (by simp) _
  go_enter Try.func8, Try.ntmps8
  go_wp2_with fail
  refine (eqP_sl _ (hp.below (hb0 _ _)) (hp'.below (hb0 _ _))).mono ?_
  rintro e w1 ⟨rfl, hb1⟩
  have hcl := box_cells (below_box hb1)
  have hcl2 : ∀ o, w1.cell? ⟨w.heap.size + 1, o, none⟩ = (#[Value.slice sa' ns cs', .slice ra' nr cr'] : Array Value)[o]? := fun o => (hb1.cell (by simp)).trans (World.cell?_alloc_at _ _ _ _ (by simp))
  have hw1 := (hb0 _ _).trans (hb1.mono (by simp; omega))
  go_wp2_with fail
  refine (eqL_sl _ (hl.below hw1) (hl'.below hw1)).mono ?_
  rintro e w2 ⟨rfl, hb2⟩
  go_wp2
  go_ret
  exact ⟨rfl, hw1.trans (hb2.mono hw1.size)⟩
end Go.Proofs.Ytlopjfhdhkonbaa
