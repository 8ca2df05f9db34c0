/-
  The marks that the laws write into a store.
-/
import Derived.Test.YtbpcdpeidhhjdaaLawT
namespace Go.Proofs.Ytbpcdpeidhhjdaa
open Go.RowKit

/-- how many marks the first n groups take, by the lengths of their rows. -/
def gsum (N : Nat → Nat) : Nat → Nat
  | 0 => 0
  | n + 1 => gsum N n + (1 + N n * 3)
theorem gsum_mono (N : Nat → Nat) : ∀ {j n : Nat}, j ≤ n → gsum N j ≤ gsum N n := fun {j n} h => by
  induction n with
  | zero => rw [Nat.le_zero.1 h]; exact Nat.le_refl _
  | succ n ih =>
    by_cases e : j = n + 1
    · rw [e]; exact Nat.le_refl _
    · have := ih (by omega); show _ ≤ gsum N n + _; omega
theorem gsum_sets (G : Nat → Grp) : ∀ n, gsum (fun i => (G i).sets.length) n = n + tsum G n * 3
  | 0 => rfl
  | n + 1 => by unfold gsum tsum; rw [gsum_sets G n]; omega

set_option maxRecDepth 100000 in
set_option maxHeartbeats 1600000 in
theorem markGs_any (B off n cap k0 hi : Nat) (A : Nat → Option Addr) (N C : Nat → Nat) (w : World) (hn : n ≤ 100000000) (hs : k0 + gsum N n ≤ 100000000) (hh : B < hi) (hb : B < w.heap.size)
    (hf : ∀ i, i < n * 2 → (∃ v, w.cell? ⟨B, off + i, none⟩ = some v) ∧ w.frozen? ⟨B, off + i, none⟩ = false)
    (hT : ∀ i, i < n → w.cell? ⟨B, off + i * 2 + 1, none⟩ = some (.slice (A i) (N i) (C i))) (hC : ∀ i, i < n → N i ≤ C i ∧ C i ≤ maxLen)
    (hW : ∀ i, i < n → Wr w (B + 1) hi (A i) (N i * 3)) :
    Calls Try.prog 35 #[.slice (some ⟨B, off, none⟩) n cap, .int .i64 (k0 : Int)] w fun e w' =>
      e = .returned (.int .i64 ((k0 + gsum N n : Nat) : Int)) ∧ Mkd B hi w w' := by
  have hmk : Hid (∀ W (z : Int) (q i : Nat), z = (q : Int) → q + N i * 3 ≤ 100000000 → i < n → Wr W (B + 1) hi (A i) (N i * 3) → Calls Try.prog 13 #[.slice (A i) (N i) (C i), .int .i64 z] W fun e w' => e = .returned (.int .i64 ((q + N i * 3 : Nat) : Int)) ∧ Mkd (B + 1) hi W w') := fun W z q i hz hq hi hw => by
    subst hz
    exact (markE_sl W (by omega) (by omega) (hC i hi).1 (hC i hi).2 hw).mono fun _ _ ⟨h1, _, h3⟩ => ⟨h1, h3⟩
  have Hf : Hid (_) := hf
  have HT : Hid (∀ i, i < n → w.cell? ⟨B, off + i * 2 + 1, none⟩ = some (.slice (A i) (N i) (C i))) := hT
  have HW : Hid (_) := hW
  clear hf hT hW hC
  go_enter Try.func35, Try.ntmps35
  go_wp2_with fail
  go_loopw [1, 5] (fun kv iv wr => ∃ j : Nat, j ≤ n ∧ kv = .int .i64 ((k0 + gsum N j : Nat) : Int) ∧ iv = .int .i64 (j : Int) ∧ Hid (∀ i, i < n → wr.cell? ⟨B, off + i * 2 + 1, none⟩ = some (.slice (A i) (N i) (C i))) ∧ Mkd B hi w wr) (fun _ iv _ => n - (intOf iv).toNat)
  case atStart => exact ⟨0, Nat.zero_le _, rfl, rfl, HT, Mkd.refl _ _ _⟩
  case round =>
    obtain ⟨j, hj, rfl, rfl, hrow, hm⟩ := hrel
    have hbr : B < wr.heap.size := Nat.lt_of_lt_of_le hb hm.size
    by_cases hlt : j < n
    · have hk1 : k0 + gsum N j + (1 + N j * 3) ≤ 100000000 := by
        have : gsum N j + (1 + N j * 3) ≤ gsum N n := gsum_mono N (j := j + 1) (by omega)
        omega
      have Hnx : Hid (k0 + gsum N j + 1 + N j * 3 = k0 + gsum N (j + 1)) := by unfold Hid; rw [show gsum N (j + 1) = gsum N j + (1 + N j * 3) from rfl]; omega
      have hfj := Hf.out (j * 2) (by omega)
      obtain ⟨v0, hv0⟩ := hm.there ⟨B, off + j * 2, none⟩ hb hfj.1
      have hz0 : wr.frozen? ⟨B, off + j * 2, none⟩ = false := (hm.frz ⟨B, off + j * 2, none⟩ hb).trans hfj.2
      obtain ⟨W, hWd⟩ : ∃ W, W = wr.setCell ⟨B, off + j * 2, none⟩ (.int .i64 ((k0 : Int) + (gsum N j : Int))) := ⟨_, rfl⟩
      have hmW : Mkd B hi w W := by rw [hWd]; exact hm.set (Nat.le_refl _) hh ⟨v0, hv0⟩
      have hrowW : Hid (∀ i, i < n → W.cell? ⟨B, off + i * 2 + 1, none⟩ = some (.slice (A i) (N i) (C i))) := fun i hi => by rw [hWd, set_far (by omega)]; exact hrow.out i hi
      have hrj := hrow.out j hlt
      have hbW : B < W.heap.size := Nat.lt_of_lt_of_le hb hmW.size
      have HWj : Hid (Wr W (B + 1) hi (A j) (N j * 3)) := (HW.out j hlt).mkd hmW
      clear hfj hrow
      generalize gsum N j = gs at *
      go_wp2_with fail
      rw [← hWd]
      clear hWd hv0 hz0
      refine (hmk.out _ _ (k0 + gs + 1) j (by omega) (by omega) hlt HWj.out).mono ?_
      rintro e w1 ⟨rfl, hm1⟩
      rw [Hnx.out]
      have hm2 : Mkd B hi w w1 := hmW.trans (hm1.wide (by omega) (Nat.le_refl _))
      have hrow1 : Hid (∀ i, i < n → w1.cell? ⟨B, off + i * 2 + 1, none⟩ = some (.slice (A i) (N i) (C i))) := fun i hi => (hm1.cell hbW (Or.inl (by omega))).trans (hrowW.out i hi)
      clear hrj hrowW
      go_wp2
      exact ⟨⟨j + 1, by omega, by go_num, by go_num, hrow1, hm2⟩, by simp [intOf]; omega⟩
    · have hje : j = n := by omega
      subst hje
      go_wp2
      go_ret
      exact ⟨by first | rfl | (congr 2), hm⟩

set_option maxHeartbeats 800000 in
theorem markT_any {B n cap k0 : Nat} {G : Nat → Grp} {w0 : World} (w : World) (hn : n ≤ 100000000) (hs : k0 + (n + tsum G n * 3) ≤ 100000000) (hB : B < w0.heap.size) (hb : Below w0.heap.size w0 w) (hf : Free w0 B (n * 2)) (hG : ∀ i, i < n → GrpNew w0 B (i * 2) (G i)) :
    Calls Try.prog 12 #[.agg #[.slice (some ⟨B, 0, none⟩) n cap], .int .i64 (k0 : Int)] w fun e w' => e = .returned (.int .i64 ((k0 + (n + tsum G n * 3) : Nat) : Int)) ∧ Mkd B w0.heap.size w w' := by
  have each : ∀ i, i < n → ∃ bp, w0.cell? ⟨B, 0 + i * 2 + 1, none⟩ = some (.slice (some ⟨bp, 0, none⟩) (G i).sets.length (G i).sets.length) ∧ (G i).sets.length ≤ maxLen ∧ Wr w0 (B + 1) w0.heap.size (some ⟨bp, 0, none⟩) ((G i).sets.length * 3) := fun i hi => by
    obtain ⟨bp, _, _, h3, h4, h5⟩ := hG i hi
    exact ⟨bp, by rw [Nat.zero_add]; exact h3, h4.max, h5.wr⟩
  obtain ⟨P, hP⟩ : ∃ P : Nat → Nat, ∀ i, i < n → w0.cell? ⟨B, 0 + i * 2 + 1, none⟩ = some (.slice (some ⟨P i, 0, none⟩) (G i).sets.length (G i).sets.length) ∧ (G i).sets.length ≤ maxLen ∧ Wr w0 (B + 1) w0.heap.size (some ⟨P i, 0, none⟩) ((G i).sets.length * 3) :=
    ⟨fun i => if h : i < n then (each i h).choose else 0, fun i hi => by simp only [dif_pos hi]; exact (each i hi).choose_spec⟩
  have hbA : ∀ o, Below w0.heap.size w0 (w.alloc o) := fun o => hb.alloc hb.size _
  have hsum := gsum_sets G n
  have hmv : Hid (∀ W, Below w0.heap.size w0 W → Calls Try.prog 35 #[.slice (some ⟨B, 0, none⟩) n cap, .int .i64 (k0 : Int)] W fun e w' => e = .returned (.int .i64 ((k0 + (n + tsum G n * 3) : Nat) : Int)) ∧ Mkd B w0.heap.size W w') := fun W hbW => by
    rw [← hsum]
    exact markGs_any B 0 n cap k0 w0.heap.size (fun i => some ⟨P i, 0, none⟩) (fun i => (G i).sets.length) (fun i => (G i).sets.length) W hn (by rw [hsum]; exact hs) hB (Nat.lt_of_lt_of_le hB hbW.size)
      (fun i hi => by rw [Nat.zero_add]; exact ⟨(hf i hi).1.imp fun _ hv => (hbW.cell (by exact hB)).trans hv, (hbW.frozen (by exact hB)).trans (hf i hi).2⟩)
      (fun i hi => (hbW.cell (by exact hB)).trans (hP i hi).1) (fun i hi => ⟨Nat.le_refl _, (hP i hi).2.1⟩) (fun i hi => (hP i hi).2.2.below hbW)
  clear hG hf hsum each hP
  go_enter Try.func12, Try.ntmps12
  go_wp2_with fail
  refine (hmv.out _ (hbA _)).mono ?_
  rintro e w1 ⟨rfl, hm1⟩
  have hm : Mkd B w0.heap.size w w1 := ((Mkd.refl _ _ w).alloc _).trans hm1
  go_wp2
  go_ret
  exact ⟨by first | rfl | (congr 2), hm⟩
end Go.Proofs.Ytbpcdpeidhhjdaa
