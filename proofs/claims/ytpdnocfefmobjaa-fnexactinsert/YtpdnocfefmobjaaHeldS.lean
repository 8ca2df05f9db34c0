import Derived.Test.YtpdnocfefmobjaaMkS
namespace Go.Proofs.Ytpdnocfefmobjaa
open Go.RowKit

theorem markS_sl {a : Option Addr} {n cap k0 : Nat} {S : Nat → ByteArray} {base : Nat} (w : World) (hn : n ≤ 1000000000) (hk0 : k0 ≤ 1000000000) (h : SlS w a n cap S) (hw : SlW w base a n 1) :
    Calls Try.prog 30 #[.slice a n cap, .int .i64 (k0 : Int)] w fun e w' =>
      e = .returned (.int .i64 ((k0 + n : Nat) : Int)) ∧ SlS w' a n cap (fun i => mkT (k0 + i)) ∧ w.grownBy w' (rowOf a n) := by
  have hsz : ∀ i, i < n → (mkT (k0 + i)).size ≤ maxLen := fun i hi => Nat.le_trans (mkT_size (by omega)) (by decide)
  by_cases h0 : n = 0
  · subst h0
    refine (markS_zero a cap k0 w).mono ?_
    rintro e w' ⟨rfl, rfl⟩
    exact ⟨rfl, ⟨h.le, h.max, hsz, Or.inl rfl⟩, grown_refl _ _⟩
  · rcases hw with h' | ⟨b, off, rfl, _, hb, hf⟩
    · exact absurd h' h0
    · refine (markS_any b off n cap k0 w hn hk0 hb (fun i hi => hf i (by omega))).mono ?_
      rintro e w' ⟨rfl, hc, hg⟩
      exact ⟨rfl, ⟨h.le, h.max, hsz, Or.inr ⟨b, off, rfl, Nat.lt_of_lt_of_le hb hg.size, hc⟩⟩, by unfold rowOf; rw [if_neg h0]; exact hg⟩

theorem heldS_zero (a : Option Addr) (cap k : Nat) (w : World) :
    Calls Try.prog 45 #[.slice a 0 cap, .int .i64 (k : Int)] w fun e w' => e = .returned (.int .i64 (k : Int)) ∧ w' = w := by
  go_enter Try.func45, Try.ntmps45
  go_wp2
  refine wp_loop_rounds 1 ?_
  rw [rounds_succ]
  go_wp2
  go_ret
  exact ⟨rfl, rfl⟩

set_option maxRecDepth 100000 in
set_option maxHeartbeats 800000 in
theorem heldS_any (b off n cap k0 : Nat) (w : World) (hn : n ≤ 1000000000) (hk0 : k0 ≤ 1000000000) (hb : b < w.heap.size)
    (hc : ∀ i, i < n → w.cell? ⟨b, off + i, none⟩ = some (.string (mkT (k0 + i)))) :
    Calls Try.prog 45 #[.slice (some ⟨b, off, none⟩) n cap, .int .i64 (k0 : Int)] w fun e w' =>
      e = .returned (.int .i64 ((k0 + n : Nat) : Int)) ∧ Below w.heap.size w w' := by
  go_enter Try.func45, Try.ntmps45
  go_wp2_with fail
  go_loopw [1, 5] (fun kv iv wr => ∃ j : Nat, j ≤ n ∧ kv = .int .i64 ((k0 + j : Nat) : Int) ∧ iv = .int .i64 (j : Int) ∧ Below w.heap.size w wr) (fun _ iv _ => n - (intOf iv).toNat)
  case atStart => exact ⟨0, Nat.zero_le _, rfl, rfl, Below.refl _ _⟩
  case round =>
    obtain ⟨j, hj, rfl, rfl, hbel⟩ := hrel
    by_cases hlt : j < n
    · have hmk : Hid (∀ W, Calls Try.prog 44 #[.int .i64 ((k0 + j : Nat) : Int)] W fun e w' => e = .returned (.string (mkT (k0 + j))) ∧ Below W.heap.size W w') := fun W => mkT_any (k0 + j) W (by omega)
      have hbr : b < wr.heap.size := Nat.lt_of_lt_of_le hb hbel.size
      have hck : wr.cell? ⟨b, off + j, none⟩ = some (.string (mkT (k0 + j))) := (hbel.cell (by exact hb)).trans (hc j hlt)
      clear hc
      go_wp2_with fail
      go_region_with (go_at_call 44; go_fit (hmk.out _); rintro e w1 ⟨rfl, hb1⟩; have hB1 : Below wr.heap.size wr w1 := Below.trans (by first | exact Below.refl _ _ | exact (Below.refl _ _).drew | exact (Below.refl _ _).drew.drew) hb1; have hck := (hB1.cell (by exact hbr)).trans hck)
      all_goals
        go_wp2
        go_roundw
        case rel => exact ⟨j + 1, by omega, by go_num, by go_num, hbel.trans (hB1.mono hbel.size)⟩
        case measure => simp [intOf]; omega
    · have hje : j = n := by omega
      subst hje
      go_wp2
      go_ret
      exact ⟨rfl, hbel⟩

theorem heldS_sl {a : Option Addr} {n cap k0 : Nat} (w : World) (hn : n ≤ 1000000000) (hk0 : k0 ≤ 1000000000) (h : SlS w a n cap (fun i => mkT (k0 + i))) :
    Calls Try.prog 45 #[.slice a n cap, .int .i64 (k0 : Int)] w fun e w' => e = .returned (.int .i64 ((k0 + n : Nat) : Int)) ∧ Below w.heap.size w w' := by
  rcases h.cells with rfl | ⟨b, off, rfl, hb, hc⟩
  · refine (heldS_zero a cap k0 w).mono ?_
    rintro e w' ⟨rfl, rfl⟩
    exact ⟨rfl, Below.refl _ _⟩
  · exact heldS_any b off n cap k0 w hn hk0 hb hc
end Go.Proofs.Ytpdnocfefmobjaa
