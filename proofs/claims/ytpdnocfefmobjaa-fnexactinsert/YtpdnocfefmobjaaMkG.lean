import Derived.Test.YtpdnocfefmobjaaMkS
namespace Go.Proofs.Ytpdnocfefmobjaa
open Go.RowKit

/-- the marks of grants. -/
def mgM (k0 i : Nat) : ByteArray := mkT (k0 + i * 2)
def mgL (k0 i : Nat) : Int := ((k0 + i * 2 + 1 : Nat) : Int)

theorem markG_zero (a : Option Addr) (cap k : Nat) (w : World) :
    Calls Try.prog 31 #[.slice a 0 cap, .int .i64 (k : Int)] w fun e w' => e = .returned (.int .i64 (k : Int)) ∧ w' = w := by
  go_enter Try.func31, Try.ntmps31
  go_wp2
  refine wp_loop_rounds 1 ?_
  rw [rounds_succ]
  go_wp2
  go_ret
  exact ⟨rfl, rfl⟩

set_option maxRecDepth 100000 in
set_option maxHeartbeats 1600000 in
theorem markG_any (b off n cap k0 : Nat) (w : World) (hn : n ≤ 1000000000) (hk0 : k0 ≤ 1000000000) (hb : b < w.heap.size)
    (hf : ∀ i, i < n * 2 → (∃ v, w.cell? ⟨b, off + i, none⟩ = some v) ∧ w.frozen? ⟨b, off + i, none⟩ = false) :
    Calls Try.prog 31 #[.slice (some ⟨b, off, none⟩) n cap, .int .i64 (k0 : Int)] w fun e w' =>
      e = .returned (.int .i64 ((k0 + n * 2 : Nat) : Int)) ∧ (∀ i, i < n → w'.cell? ⟨b, off + i * 2, none⟩ = some (.string (mgM k0 i)) ∧ w'.cell? ⟨b, off + i * 2 + 1, none⟩ = some (.int .i64 (mgL k0 i))) ∧ w.grownBy w' (some b) := by
  go_enter Try.func31, Try.ntmps31
  go_wp2_with fail
  go_loopw [1, 5] (fun kv iv wr => ∃ j : Nat, j ≤ n ∧ kv = .int .i64 ((k0 + j * 2 : Nat) : Int) ∧ iv = .int .i64 (j : Int) ∧ (∀ i, i < j → wr.cell? ⟨b, off + i * 2, none⟩ = some (.string (mgM k0 i)) ∧ wr.cell? ⟨b, off + i * 2 + 1, none⟩ = some (.int .i64 (mgL k0 i))) ∧ (∀ i, i < n * 2 → (∃ v, wr.cell? ⟨b, off + i, none⟩ = some v) ∧ wr.frozen? ⟨b, off + i, none⟩ = false) ∧ w.grownBy wr (some b)) (fun _ iv _ => n - (intOf iv).toNat)
  case atStart => exact ⟨0, Nat.zero_le _, by simp, rfl, fun i hi => absurd hi (Nat.not_lt_zero _), hf, grown_refl _ _⟩
  case round =>
    obtain ⟨j, hj, rfl, rfl, hdone, hfree, hgr⟩ := hrel
    have hbr : b < wr.heap.size := Nat.lt_of_lt_of_le hb hgr.size
    by_cases hlt : j < n
    · have hmk : Hid (∀ W, Calls Try.prog 44 #[.int .i64 ((k0 + j * 2 : Nat) : Int)] W fun e w' => e = .returned (.string (mkT (k0 + j * 2))) ∧ Below W.heap.size W w') := fun W => mkT_any (k0 + j * 2) W (by omega)
      have Hdone : Hid (∀ i, i < j → wr.cell? ⟨b, off + i * 2, none⟩ = some (.string (mgM k0 i)) ∧ wr.cell? ⟨b, off + i * 2 + 1, none⟩ = some (.int .i64 (mgL k0 i))) := hdone
      have Hfree : Hid (∀ i, i < n * 2 → (∃ v, wr.cell? ⟨b, off + i, none⟩ = some v) ∧ wr.frozen? ⟨b, off + i, none⟩ = false) := hfree
      clear hdone hfree hf
      go_wp2_with fail
      go_fit (hmk.out _)
      rintro e w1 ⟨rfl, hb1⟩
      have hfree1 : ∀ i, i < n * 2 → (∃ v, w1.cell? ⟨b, off + i, none⟩ = some v) ∧ w1.frozen? ⟨b, off + i, none⟩ = false := fun i hi => by
        obtain ⟨⟨v, hv⟩, hf⟩ := Hfree.out i hi
        exact ⟨⟨v, (hb1.cell (by exact hbr)).trans hv⟩, (hb1.frozen (by exact hbr)).trans hf⟩
      have Hfree1 : Hid (∀ i, i < n * 2 → (∃ v, w1.cell? ⟨b, off + i, none⟩ = some v) ∧ w1.frozen? ⟨b, off + i, none⟩ = false) := hfree1
      obtain ⟨⟨v, hv⟩, hfz⟩ := hfree1 (j * 2) (by omega)
      obtain ⟨⟨v2, hv2⟩, hfz2⟩ := hfree1 (j * 2 + 1) (by omega)
      rw [← Nat.add_assoc] at hv2 hfz2
      clear hfree1
      go_wp2
      go_roundw
      case rel =>
        refine ⟨j + 1, by omega, by go_num, by go_num, fun i hi => ?_, fun i hi => ?_, grown_set (grown_set (grown_blw hgr hb1))⟩
        · by_cases e : i = j
          · subst e
            refine ⟨?_, ?_⟩
            · rw [set_far (by omega)]; exact set_same ⟨_, hv⟩
            · rw [set_same ⟨v2, by rw [set_far (by omega)]; exact hv2⟩]
              congr 2
          · rw [set_far (by omega), set_far (by omega), set_far (by omega), set_far (by omega)]
            exact ⟨(hb1.cell (by exact hbr)).trans (Hdone.out i (by omega)).1, (hb1.cell (by exact hbr)).trans (Hdone.out i (by omega)).2⟩
        · rw [World.frozen?_setCell, World.frozen?_setCell]
          refine ⟨?_, (Hfree1.out i hi).2⟩
          by_cases e : off + i = off + j * 2 + 1
          · rw [e]; exact ⟨_, set_same ⟨v2, by rw [set_far (by omega)]; exact hv2⟩⟩
          · rw [set_far e]
            by_cases e2 : off + i = off + j * 2
            · rw [e2]; exact ⟨_, set_same ⟨_, hv⟩⟩
            · rw [set_far e2]; exact (Hfree1.out i hi).1
      case measure => simp [intOf]; omega
    · have hje : j = n := by omega
      subst hje
      clear hfree hf
      go_wp2
      go_ret
      exact ⟨rfl, hdone, hgr⟩

theorem markG_sl {a : Option Addr} {n cap k0 : Nat} {M : Nat → ByteArray} {L : Nat → Int} {base : Nat} (w : World) (hn : n ≤ 1000000000) (hk0 : k0 ≤ 1000000000) (h : SlG w a n cap M L) (hw : SlW w base a n 2) :
    Calls Try.prog 31 #[.slice a n cap, .int .i64 (k0 : Int)] w fun e w' =>
      e = .returned (.int .i64 ((k0 + n * 2 : Nat) : Int)) ∧ SlG w' a n cap (mgM k0) (mgL k0) ∧ w.grownBy w' (rowOf a n) := by
  have hsz : ∀ i, i < n → (mgM k0 i).size ≤ maxLen := fun i hi => Nat.le_trans (mkT_size (by omega)) (by decide)
  by_cases h0 : n = 0
  · subst h0
    refine (markG_zero a cap k0 w).mono ?_
    rintro e w' ⟨rfl, rfl⟩
    exact ⟨rfl, ⟨h.le, h.max, hsz, Or.inl rfl⟩, grown_refl _ _⟩
  · rcases hw with h' | ⟨b, off, rfl, _, hb, hf⟩
    · exact absurd h' h0
    · refine (markG_any b off n cap k0 w hn hk0 hb hf).mono ?_
      rintro e w' ⟨rfl, hc, hg⟩
      exact ⟨rfl, ⟨h.le, h.max, hsz, Or.inr ⟨b, off, rfl, Nat.lt_of_lt_of_le hb hg.size, fun i hi => (hc i hi).1, fun i hi => (hc i hi).2⟩⟩, by unfold rowOf; rw [if_neg h0]; exact hg⟩
end Go.Proofs.Ytpdnocfefmobjaa
