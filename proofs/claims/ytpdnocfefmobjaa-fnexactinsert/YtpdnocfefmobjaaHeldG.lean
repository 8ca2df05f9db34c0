import Derived.Test.YtpdnocfefmobjaaMkG
namespace Go.Proofs.Ytpdnocfefmobjaa
open Go.RowKit

theorem heldG_zero (a : Option Addr) (cap k : Nat) (w : World) :
    Calls Try.prog 46 #[.slice a 0 cap, .int .i64 (k : Int)] w fun e w' => e = .returned (.int .i64 (k : Int)) ∧ w' = w := by
  go_enter Try.func46, Try.ntmps46
  go_wp2
  refine wp_loop_rounds 1 ?_
  rw [rounds_succ]
  go_wp2
  go_ret
  exact ⟨rfl, rfl⟩

set_option maxRecDepth 100000 in
set_option maxHeartbeats 1600000 in
theorem heldG_any (b off n cap k0 : Nat) (w : World) (hn : n ≤ 1000000000) (hk0 : k0 ≤ 1000000000) (hb : b < w.heap.size)
    (hc : ∀ i, i < n → w.cell? ⟨b, off + i * 2, none⟩ = some (.string (mgM k0 i))) (hl : ∀ i, i < n → w.cell? ⟨b, off + i * 2 + 1, none⟩ = some (.int .i64 (mgL k0 i))) :
    Calls Try.prog 46 #[.slice (some ⟨b, off, none⟩) n cap, .int .i64 (k0 : Int)] w fun e w' =>
      e = .returned (.int .i64 ((k0 + n * 2 : Nat) : Int)) ∧ Below w.heap.size w w' := by
  go_enter Try.func46, Try.ntmps46
  go_wp2_with fail
  go_loopw [1, 5] (fun kv iv wr => ∃ j : Nat, j ≤ n ∧ kv = .int .i64 ((k0 + j * 2 : Nat) : Int) ∧ iv = .int .i64 (j : Int) ∧ Below w.heap.size w wr) (fun _ iv _ => n - (intOf iv).toNat)
  case atStart => exact ⟨0, Nat.zero_le _, by simp, rfl, Below.refl _ _⟩
  case round =>
    obtain ⟨j, hj, rfl, rfl, hbel⟩ := hrel
    by_cases hlt : j < n
    · have hmk : Hid (∀ W, Calls Try.prog 44 #[.int .i64 ((k0 + j * 2 : Nat) : Int)] W fun e w' => e = .returned (.string (mkT (k0 + j * 2))) ∧ Below W.heap.size W w') := fun W => mkT_any (k0 + j * 2) W (by omega)
      have hbr : b < wr.heap.size := Nat.lt_of_lt_of_le hb hbel.size
      have hck : wr.cell? ⟨b, off + j * 2, none⟩ = some (.string (mkT (k0 + j * 2))) := (hbel.cell (by exact hb)).trans (hc j hlt)
      have hlk : wr.cell? ⟨b, off + j * 2 + 1, none⟩ = some (.int .i64 ((k0 : Int) + (j : Int) * 2 + 1)) := (hbel.cell (by exact hb)).trans ((hl j hlt).trans (by congr 2))
      clear hc hl
      go_wp2_with fail
      go_region_with (go_at_call 44; go_fit (hmk.out _); rintro e w1 ⟨rfl, hb1⟩; have hB1 : Below wr.heap.size wr w1 := Below.trans (by first | exact Below.refl _ _ | exact (Below.refl _ _).drew | exact (Below.refl _ _).drew.drew) hb1; have hck := (hB1.cell (by exact hbr)).trans hck; have hlk := (hB1.cell (by exact hbr)).trans hlk)
      all_goals
        go_wp2
        go_roundw
        case rel => exact ⟨j + 1, by omega, by go_num, by go_num, hbel.trans (hB1.mono hbel.size)⟩
        case measure => simp [intOf]; omega
    · have hje : j = n := by omega
      subst hje
      go_wp2
      go_ret
      exact ⟨rfl, hbel⟩

theorem heldG_sl {a : Option Addr} {n cap k0 : Nat} (w : World) (hn : n ≤ 1000000000) (hk0 : k0 ≤ 1000000000) (h : SlG w a n cap (mgM k0) (mgL k0)) :
    Calls Try.prog 46 #[.slice a n cap, .int .i64 (k0 : Int)] w fun e w' => e = .returned (.int .i64 ((k0 + n * 2 : Nat) : Int)) ∧ Below w.heap.size w w' := by
  rcases h.cells with rfl | ⟨b, off, rfl, hb, hc, hl⟩
  · refine (heldG_zero a cap k0 w).mono ?_
    rintro e w' ⟨rfl, rfl⟩
    exact ⟨rfl, Below.refl _ _⟩
  · exact heldG_any b off n cap k0 w hn hk0 hb hc hl
end Go.Proofs.Ytpdnocfefmobjaa
