import Derived.Test.YtpdnocfefmobjaaMkT
import Derived.Test.YtpdnocfefmobjaaOwnG
import Derived.Test.YtpdnocfefmobjaaPureA
import Derived.Deep.DeepFit
namespace Go.Proofs.Ytpdnocfefmobjaa
open Go.RowKit

/-- a slice's block. -/
def blk (a : Option Addr) : Option Nat := a.map (·.block)

/-- the block that is written where n elements at a are. -/
def rowOf (a : Option Addr) (n : Nat) : Option Nat := if n = 0 then none else blk a

/-- where only row has been written. -/
theorem grown_cell {w w' : World} {row : Option Nat} (hg : w.grownBy w' row) {b : Nat} (hb : b < w.heap.size) (hne : some b ≠ row) (o : Nat) : w'.cell? ⟨b, o, none⟩ = w.cell? ⟨b, o, none⟩ := hg.cell_far _ hb hne

theorem grown_refl (w : World) (row : Option Nat) : w.grownBy w row := ⟨rfl, rfl, rfl, Nat.le_refl _, fun _ _ _ => rfl⟩
theorem grown_blw {w wr w1 : World} {row : Option Nat} (h : w.grownBy wr row) (hb : Below wr.heap.size wr w1) : w.grownBy w1 row :=
  ⟨hb.os.trans h.os, hb.tape.trans h.tape, hb.output.trans h.output, Nat.le_trans h.size hb.size, fun k hk hne => (hb.block k (Nat.lt_of_lt_of_le hk h.size)).trans (h.block k hk hne)⟩
theorem grown_set {w wr : World} {b j : Nat} {x : Value} (h : w.grownBy wr (some b)) : w.grownBy (wr.setCell ⟨b, j, none⟩ x) (some b) := by
  refine ⟨by rw [← h.os]; rfl, by rw [← h.tape]; rfl, by rw [← h.output]; rfl, by simpa [World.setCell] using h.size, fun k hk hne => ?_⟩
  rw [← h.block k hk hne]
  exact Below.heap_setCell _ _ _ _ (fun e => hne (by rw [e]))

theorem markS_zero (a : Option Addr) (cap k : Nat) (w : World) :
    Calls Try.prog 30 #[.slice a 0 cap, .int .i64 (k : Int)] w fun e w' => e = .returned (.int .i64 (k : Int)) ∧ w' = w := by
  go_enter Try.func30, Try.ntmps30
  go_wp2
  refine wp_loop_rounds 1 ?_
  rw [rounds_succ]
  go_wp2
  go_ret
  exact ⟨rfl, rfl⟩

set_option maxRecDepth 100000 in
set_option maxHeartbeats 800000 in
theorem markS_any (b off n cap k0 : Nat) (w : World) (hn : n ≤ 1000000000) (hk0 : k0 ≤ 1000000000) (hb : b < w.heap.size)
    (hf : ∀ i, i < n → (∃ v, w.cell? ⟨b, off + i, none⟩ = some v) ∧ w.frozen? ⟨b, off + i, none⟩ = false) :
    Calls Try.prog 30 #[.slice (some ⟨b, off, none⟩) n cap, .int .i64 (k0 : Int)] w fun e w' =>
      e = .returned (.int .i64 ((k0 + n : Nat) : Int)) ∧ (∀ i, i < n → w'.cell? ⟨b, off + i, none⟩ = some (.string (mkT (k0 + i)))) ∧ w.grownBy w' (some b) := by
  go_enter Try.func30, Try.ntmps30
  go_wp2_with fail
  go_loopw [1, 5] (fun kv iv wr => ∃ j : Nat, j ≤ n ∧ kv = .int .i64 ((k0 + j : Nat) : Int) ∧ iv = .int .i64 (j : Int) ∧ (∀ i, i < j → wr.cell? ⟨b, off + i, none⟩ = some (.string (mkT (k0 + i)))) ∧ (∀ i, i < n → (∃ v, wr.cell? ⟨b, off + i, none⟩ = some v) ∧ wr.frozen? ⟨b, off + i, none⟩ = false) ∧ w.grownBy wr (some b)) (fun _ iv _ => n - (intOf iv).toNat)
  case atStart => exact ⟨0, Nat.zero_le _, rfl, rfl, fun i hi => absurd hi (Nat.not_lt_zero _), hf, grown_refl _ _⟩
  case round =>
    obtain ⟨j, hj, rfl, rfl, hdone, hfree, hgr⟩ := hrel
    have hbr : b < wr.heap.size := Nat.lt_of_lt_of_le hb hgr.size
    by_cases hlt : j < n
    · have hmk : Hid (∀ W, Calls Try.prog 44 #[.int .i64 ((k0 + j : Nat) : Int)] W fun e w' => e = .returned (.string (mkT (k0 + j))) ∧ Below W.heap.size W w') := fun W => mkT_any (k0 + j) W (by omega)
      have Hdone : Hid (∀ i, i < j → wr.cell? ⟨b, off + i, none⟩ = some (.string (mkT (k0 + i)))) := hdone
      have Hfree : Hid (∀ i, i < n → (∃ v, wr.cell? ⟨b, off + i, none⟩ = some v) ∧ wr.frozen? ⟨b, off + i, none⟩ = false) := hfree
      clear hdone hfree hf
      go_wp2_with fail
      go_fit (hmk.out _)
      rintro e w1 ⟨rfl, hb1⟩
      have hfree1 : ∀ i, i < n → (∃ v, w1.cell? ⟨b, off + i, none⟩ = some v) ∧ w1.frozen? ⟨b, off + i, none⟩ = false := fun i hi => by
        obtain ⟨⟨v, hv⟩, hf⟩ := Hfree.out i hi
        exact ⟨⟨v, (hb1.cell (by exact hbr)).trans hv⟩, (hb1.frozen (by exact hbr)).trans hf⟩
      have Hfree1 : Hid (∀ i, i < n → (∃ v, w1.cell? ⟨b, off + i, none⟩ = some v) ∧ w1.frozen? ⟨b, off + i, none⟩ = false) := hfree1
      obtain ⟨⟨v, hv⟩, hfz⟩ := hfree1 j hlt
      clear hfree1
      go_wp2
      go_roundw
      case rel =>
        refine ⟨j + 1, by omega, by go_num, by go_num, fun i hi => ?_, fun i hi => ?_, grown_set (grown_blw hgr hb1)⟩
        · by_cases e : i = j
          · subst e; exact set_same ⟨_, hv⟩
          · rw [set_far (by omega)]
            exact (hb1.cell (by exact hbr)).trans (Hdone.out i (by omega))
        · refine ⟨?_, by rw [World.frozen?_setCell]; exact (Hfree1.out i hi).2⟩
          by_cases e : i = j
          · subst e; exact ⟨_, set_same ⟨_, hv⟩⟩
          · rw [set_far (by omega)]; exact (Hfree1.out i hi).1
      case measure => simp [intOf]; omega
    · have hje : j = n := by omega
      subst hje
      clear hfree hf
      go_wp2
      go_ret
      exact ⟨by first | rfl | (congr 2), hdone, hgr⟩
end Go.Proofs.Ytpdnocfefmobjaa
