/-
  The marks that the laws write into entries.
-/
import Derived.Test.YtbpcdpeidhhjdaaLawEA
import Derived.Test.YtbpcdpeidhhjdaaMkA
import Derived.Deep.DeepFit
namespace Go.Proofs.Ytbpcdpeidhhjdaa
open Go.RowKit

/-- n entries that bear marks from k0 on. -/
def mkL (k0 n : Nat) : List Ent := (List.range n).map fun i => ⟨mkT (k0 + i * 3), mkT (k0 + i * 3 + 1), mkT (k0 + i * 3 + 2)⟩
theorem mkL_len (k0 n : Nat) : (mkL k0 n).length = n := by simp [mkL]
theorem mkL_at {k0 n i : Nat} (h : i < n) : eAt (mkL k0 n) i = ⟨mkT (k0 + i * 3), mkT (k0 + i * 3 + 1), mkT (k0 + i * 3 + 2)⟩ := by
  rw [eAt_get _ _ (by rw [mkL_len]; exact h)]
  simp [mkL]

theorem markE_zero (a : Option Addr) (cap k : Nat) (w : World) :
    Calls Try.prog 13 #[.slice a 0 cap, .int .i64 (k : Int)] w fun e w' => e = .returned (.int .i64 (k : Int)) ∧ w' = w := by
  go_enter Try.func13, Try.ntmps13
  go_wp2
  refine wp_loop_rounds 1 ?_
  rw [rounds_succ]
  go_wp2
  go_ret
  exact ⟨rfl, rfl⟩

/-- behind a call and a store, what was done stands. -/
theorem done_set {w w1 : World} {b off d : Nat} {F : Nat → Value} (hb : b < w.heap.size) (hB : Below w.heap.size w w1) (h : ∀ i, i < d → w.cell? ⟨b, off + i, none⟩ = some (F i)) (hv : ∃ v, w1.cell? ⟨b, off + d, none⟩ = some v) :
    ∀ i, i < d + 1 → (w1.setCell ⟨b, off + d, none⟩ (F d)).cell? ⟨b, off + i, none⟩ = some (F i) := fun i hi => by
  by_cases e : i = d
  · subst e; exact set_same hv
  · rw [set_far (by omega)]; exact (hB.cell (by exact hb)).trans (h i (by omega))

set_option maxRecDepth 100000 in
set_option maxHeartbeats 1600000 in
theorem markE_any (lo hi b off n cap k0 : Nat) (w : World) (hn : n ≤ 100000000) (hk0 : k0 ≤ 1000000000) (hl : lo ≤ b) (hh : b < hi) (hb : b < w.heap.size)
    (hf : ∀ i, i < n * 3 → (∃ v, w.cell? ⟨b, off + i, none⟩ = some v) ∧ w.frozen? ⟨b, off + i, none⟩ = false) :
    Calls Try.prog 13 #[.slice (some ⟨b, off, none⟩) n cap, .int .i64 (k0 : Int)] w fun e w' =>
      e = .returned (.int .i64 ((k0 + n * 3 : Nat) : Int)) ∧ (∀ i, i < n * 3 → w'.cell? ⟨b, off + i, none⟩ = some (.string (mkT (k0 + i)))) ∧ Mkd lo hi w w' := by
  have hmk : Hid (∀ W (z : Int) (q : Nat), z = (q : Int) → q ≤ 1000000000000 → Calls Try.prog 36 #[.int .i64 z] W fun e w' => e = .returned (.string (mkT q)) ∧ Below W.heap.size W w') := fun W z q hz hq => by subst hz; exact mkT_any q W hq
  have Hf : Hid (_) := hf
  clear hf
  go_enter Try.func13, Try.ntmps13
  go_wp2_with fail
  go_loopw [1, 5] (fun kv iv wr => ∃ j : Nat, j ≤ n ∧ kv = .int .i64 ((k0 + j * 3 : Nat) : Int) ∧ iv = .int .i64 (j : Int) ∧ Hid (∀ i, i < j * 3 → wr.cell? ⟨b, off + i, none⟩ = some (.string (mkT (k0 + i)))) ∧ Mkd lo hi w wr) (fun _ iv _ => n - (intOf iv).toNat)
  case atStart => exact ⟨0, Nat.zero_le _, by simp, rfl, fun i hi => absurd hi (by omega), Mkd.refl _ _ _⟩
  case round =>
    obtain ⟨j, hj, rfl, rfl, hdone, hm⟩ := hrel
    have hbr : b < wr.heap.size := Nat.lt_of_lt_of_le hb hm.size
    by_cases hlt : j < n
    · have hfree : Hid (∀ W, Mkd lo hi w W → ∀ i, i < n * 3 → (∃ v, W.cell? ⟨b, off + i, none⟩ = some v) ∧ W.frozen? ⟨b, off + i, none⟩ = false) := fun W hW i hi => ⟨hW.there ⟨b, off + i, none⟩ hb (Hf.out i hi).1, (hW.frz ⟨b, off + i, none⟩ hb).trans (Hf.out i hi).2⟩
      go_wp2_with fail
      refine (hmk.out _ _ (k0 + j * 3) (by omega) (by omega)).mono ?_
      rintro e w1 ⟨rfl, hb1⟩
      have hm1 := hm.blw hb1
      obtain ⟨⟨v1, hv1⟩, hz1⟩ := hfree.out _ hm1 (j * 3) (by omega)
      have hd1 : Hid (∀ i, i < j * 3 + 1 → (w1.setCell ⟨b, off + j * 3, none⟩ (.string (mkT (k0 + j * 3)))).cell? ⟨b, off + i, none⟩ = some (.string (mkT (k0 + i)))) := done_set (F := fun i => .string (mkT (k0 + i))) hbr hb1 hdone.out ⟨v1, hv1⟩
      have hm1' : Mkd lo hi w (w1.setCell ⟨b, off + j * 3, none⟩ (.string (mkT (k0 + j * 3)))) := hm1.set hl hh ⟨v1, hv1⟩
      clear hdone hb1
      go_wp2_with fail
      clear hv1 hz1
      generalize w1.setCell ⟨b, off + j * 3, none⟩ (.string (mkT (k0 + j * 3))) = W1 at *
      have hbW1 : b < W1.heap.size := Nat.lt_of_lt_of_le hb hm1'.size
      refine (hmk.out _ _ (k0 + (j * 3 + 1)) (by omega) (by omega)).mono ?_
      rintro e w2 ⟨rfl, hb2⟩
      have hm2 := hm1'.blw hb2
      obtain ⟨⟨v2, hv2⟩, hz2⟩ := hfree.out _ hm2 (j * 3 + 1) (by omega)
      have hd2 := done_set (F := fun i => .string (mkT (k0 + i))) hbW1 hb2 hd1.out ⟨v2, hv2⟩
      have hm2' := hm2.set (x := .string (mkT (k0 + (j * 3 + 1)))) hl hh ⟨v2, hv2⟩
      rw [← Nat.add_assoc off] at hv2 hz2 hm2'
      simp only [← Nat.add_assoc off (j * 3) 1] at hd2
      have Hd2 : Hid (_) := hd2
      clear hd1 hb2 hd2
      go_wp2_with fail
      clear hv2 hz2
      generalize w2.setCell ⟨b, off + j * 3 + 1, none⟩ (.string (mkT (k0 + (j * 3 + 1)))) = W2 at *
      have hbW2 : b < W2.heap.size := Nat.lt_of_lt_of_le hb hm2'.size
      refine (hmk.out _ _ (k0 + (j * 3 + 2)) (by omega) (by omega)).mono ?_
      rintro e w3 ⟨rfl, hb3⟩
      have hm3 := hm2'.blw hb3
      obtain ⟨⟨v3, hv3⟩, hz3⟩ := hfree.out _ hm3 (j * 3 + 2) (by omega)
      have hd3 := done_set (F := fun i => .string (mkT (k0 + i))) hbW2 hb3 (d := j * 3 + 2) Hd2.out ⟨v3, hv3⟩
      have hm3' := hm3.set (x := .string (mkT (k0 + (j * 3 + 2)))) hl hh ⟨v3, hv3⟩
      rw [← Nat.add_assoc off] at hv3 hz3 hm3'
      simp only [← Nat.add_assoc off (j * 3) 2] at hd3
      have Hd3 : Hid (_) := hd3
      clear Hd2 hb3 hd3
      go_wp2
      go_roundw
      case rel => exact ⟨j + 1, by omega, by go_num, by go_num, fun i hi => Hd3.out i (by omega), hm3'⟩
      case measure => simp [intOf]; omega
    · have hje : j = n := by omega
      subst hje
      go_wp2
      go_ret
      exact ⟨by first | rfl | (congr 2), hdone.out, hm⟩

theorem flat_slE {w : World} {b off n cap k0 : Nat} (hb : b < w.heap.size) (hle : n ≤ cap) (hmax : cap ≤ maxLen) (hk : k0 + n * 3 ≤ 1000000000000) (h : ∀ i, i < n * 3 → w.cell? ⟨b, off + i, none⟩ = some (.string (mkT (k0 + i)))) : SlE w (some ⟨b, off, none⟩) cap (mkL k0 n) := by
  refine ⟨by rw [mkL_len]; exact hle, hmax, fun i hi => ?_, Or.inr ⟨b, off, rfl, hb, fun i hi => ?_, fun i hi => ?_, fun i hi => ?_⟩⟩
  all_goals rw [mkL_len] at hi
  · rw [mkL_at hi]
    exact ⟨Nat.le_trans (mkT_size (by omega)) (by decide), Nat.le_trans (mkT_size (by omega)) (by decide), Nat.le_trans (mkT_size (by omega)) (by decide)⟩
  · rw [mkL_at hi, h _ (by omega)]
  · rw [mkL_at hi, Nat.add_assoc off, h _ (by omega)]; rfl
  · rw [mkL_at hi, Nat.add_assoc off, h _ (by omega)]; rfl

theorem markE_sl {lo hi : Nat} {a : Option Addr} {n cap k0 : Nat} (w : World) (hn : n ≤ 100000000) (hk0 : k0 ≤ 1000000000) (hle : n ≤ cap) (hmax : cap ≤ maxLen) (hw : Wr w lo hi a (n * 3)) :
    Calls Try.prog 13 #[.slice a n cap, .int .i64 (k0 : Int)] w fun e w' =>
      e = .returned (.int .i64 ((k0 + n * 3 : Nat) : Int)) ∧ SlE w' a cap (mkL k0 n) ∧ Mkd lo hi w w' := by
  by_cases h0 : n = 0
  · subst h0
    refine (markE_zero a cap k0 w).mono ?_
    rintro e w' ⟨rfl, rfl⟩
    exact ⟨rfl, ⟨Nat.zero_le _, hmax, fun i hi => absurd hi (by simp [mkL]), Or.inl (by simp [mkL])⟩, Mkd.refl _ _ _⟩
  · rcases hw with h' | ⟨b, off, rfl, hl, hh, hb, hf⟩
    · omega
    · refine (markE_any lo hi b off n cap k0 w hn hk0 hl hh hb hf).mono ?_
      rintro e w' ⟨rfl, hc, hm⟩
      exact ⟨rfl, flat_slE (Nat.lt_of_lt_of_le hb hm.size) hle hmax (by omega) hc, hm⟩

/-! ### heldEntryS -/

theorem heldE_zero (a : Option Addr) (cap k : Nat) (w : World) :
    Calls Try.prog 57 #[.slice a 0 cap, .int .i64 (k : Int)] w fun e w' => e = .returned (.int .i64 (k : Int)) ∧ w' = w := by
  go_enter Try.func57, Try.ntmps57
  go_wp2
  refine wp_loop_rounds 1 ?_
  rw [rounds_succ]
  go_wp2
  go_ret
  exact ⟨rfl, rfl⟩

set_option maxRecDepth 100000 in
set_option maxHeartbeats 1600000 in
theorem heldE_any (b off n cap k0 : Nat) (w : World) (hn : n ≤ 100000000) (hk0 : k0 ≤ 1000000000) (hb : b < w.heap.size)
    (hc : ∀ i, i < n * 3 → w.cell? ⟨b, off + i, none⟩ = some (.string (mkT (k0 + i)))) :
    Calls Try.prog 57 #[.slice (some ⟨b, off, none⟩) n cap, .int .i64 (k0 : Int)] w fun e w' =>
      e = .returned (.int .i64 ((k0 + n * 3 : Nat) : Int)) ∧ Below w.heap.size w w' := by
  have hmk : Hid (∀ W (z : Int) (q : Nat), z = (q : Int) → q ≤ 1000000000000 → Calls Try.prog 36 #[.int .i64 z] W fun e w' => e = .returned (.string (mkT q)) ∧ Below W.heap.size W w') := fun W z q hz hq => by subst hz; exact mkT_any q W hq
  go_enter Try.func57, Try.ntmps57
  go_wp2_with fail
  go_loopw [1, 5] (fun kv iv wr => ∃ j : Nat, j ≤ n ∧ kv = .int .i64 ((k0 + j * 3 : Nat) : Int) ∧ iv = .int .i64 (j : Int) ∧ Below w.heap.size w wr) (fun _ iv _ => n - (intOf iv).toNat)
  case atStart => exact ⟨0, Nat.zero_le _, by simp, rfl, Below.refl _ _⟩
  case round =>
    obtain ⟨j, hj, rfl, rfl, hbel⟩ := hrel
    by_cases hlt : j < n
    · have hbr : b < wr.heap.size := Nat.lt_of_lt_of_le hb hbel.size
      have hk1 : wr.cell? ⟨b, off + j * 3, none⟩ = some (.string (mkT (k0 + j * 3))) := (hbel.cell (by exact hb)).trans (hc (j * 3) (by omega))
      have hk2 : wr.cell? ⟨b, off + j * 3 + 1, none⟩ = some (.string (mkT (k0 + j * 3 + 1))) := (hbel.cell (by exact hb)).trans (hc (j * 3 + 1) (by omega))
      have hk3 : wr.cell? ⟨b, off + j * 3 + 2, none⟩ = some (.string (mkT (k0 + j * 3 + 2))) := (hbel.cell (by exact hb)).trans (hc (j * 3 + 2) (by omega))
      clear hc
      go_wp2_with fail
      go_region_with (go_at_call 36; refine (hmk.out _ _ (k0 + j * 3) (by omega) (by omega)).mono ?_; rintro e w1 ⟨rfl, hb1⟩; have hB1 : Below wr.heap.size wr w1 := Below.trans (by first | exact Below.refl _ _ | exact (Below.refl _ _).drew | exact (Below.refl _ _).drew.drew) hb1; have hk1 := (hB1.cell (by exact hbr)).trans hk1)
      all_goals
        have hbr1 : b < w1.heap.size := Nat.lt_of_lt_of_le hbr hB1.size
        have hk21 := (hB1.cell (by exact hbr)).trans hk2
        have hk31 := (hB1.cell (by exact hbr)).trans hk3
        go_wp2_with fail
        go_region_with (go_at_call 36; refine (hmk.out _ _ (k0 + j * 3 + 1) (by omega) (by omega)).mono ?_; rintro e w2 ⟨rfl, hb2⟩; have hB2 : Below w1.heap.size w1 w2 := Below.trans (by first | exact Below.refl _ _ | exact (Below.refl _ _).drew | exact (Below.refl _ _).drew.drew) hb2; have hk21 := (hB2.cell (by exact hbr1)).trans hk21)
        all_goals
          have hbr2 : b < w2.heap.size := Nat.lt_of_lt_of_le hbr1 hB2.size
          have hk32 := (hB2.cell (by exact hbr1)).trans hk31
          go_wp2_with fail
          go_region_with (go_at_call 36; refine (hmk.out _ _ (k0 + j * 3 + 2) (by omega) (by omega)).mono ?_; rintro e w3 ⟨rfl, hb3⟩; have hB3 : Below w2.heap.size w2 w3 := Below.trans (by first | exact Below.refl _ _ | exact (Below.refl _ _).drew | exact (Below.refl _ _).drew.drew) hb3; have hk32 := (hB3.cell (by exact hbr2)).trans hk32)
          all_goals
            have hB12 := hB1.trans (hB2.mono hB1.size)
            have hB13 := hB12.trans (hB3.mono hB12.size)
            go_wp2
            go_roundw
            case rel => exact ⟨j + 1, by omega, by go_num, by go_num, hbel.trans (hB13.mono hbel.size)⟩
            case measure => simp [intOf]; omega
    · have hje : j = n := by omega
      subst hje
      go_wp2
      go_ret
      exact ⟨rfl, hbel⟩

theorem flat_of {w : World} {b off n cap k0 : Nat} (h : SlE w (some ⟨b, off, none⟩) cap (mkL k0 n)) (hn : n ≠ 0) : b < w.heap.size ∧ ∀ i, i < n * 3 → w.cell? ⟨b, off + i, none⟩ = some (.string (mkT (k0 + i))) := by
  rcases h.cells with h0 | ⟨b', off', e, hb, h1, h2, h3⟩
  · have := mkL_len k0 n
    rw [h0] at this
    exact absurd this.symm hn
  · injection e with e; injection e with e1 e2 _
    subst e1 e2
    refine ⟨hb, fun i hi => ?_⟩
    obtain ⟨q, c, hc, rfl⟩ : ∃ q c, c < 3 ∧ i = q * 3 + c := ⟨i / 3, i % 3, by omega, by omega⟩
    have hq : q < n := by omega
    have hq' : q < (mkL k0 n).length := by rw [mkL_len]; exact hq
    match c, hc with
    | 0, _ => have := h1 q hq'; rw [mkL_at hq] at this; exact this
    | 1, _ => have := h2 q hq'; rw [mkL_at hq] at this; exact this
    | 2, _ => have := h3 q hq'; rw [mkL_at hq] at this; exact this

theorem heldE_sl {a : Option Addr} {n cap k0 : Nat} (w : World) (hn : n ≤ 100000000) (hk0 : k0 ≤ 1000000000) (h : SlE w a cap (mkL k0 n)) :
    Calls Try.prog 57 #[.slice a n cap, .int .i64 (k0 : Int)] w fun e w' => e = .returned (.int .i64 ((k0 + n * 3 : Nat) : Int)) ∧ Below w.heap.size w w' := by
  by_cases h0 : n = 0
  · subst h0
    refine (heldE_zero a cap k0 w).mono ?_
    rintro e w' ⟨rfl, rfl⟩
    exact ⟨rfl, Below.refl _ _⟩
  · rcases h.cells with h' | ⟨b, off, rfl, _⟩
    · have := mkL_len k0 n
      rw [h'] at this
      exact absurd this.symm h0
    · obtain ⟨hb, hc⟩ := flat_of h h0
      exact heldE_any b off n cap k0 w hn hk0 hb hc

/-! ### copies that may be written -/

theorem toEw_sl {a : Option Addr} {cap : Nat} {l : List Ent} (w : World) (hr : l.length * 48 ≤ 140737488351232) (h : SlE w a cap l) :
    Calls Try.prog 8 #[.slice a l.length cap] w fun e w' =>
      e = .returned (.slice (some ⟨w.heap.size, 0, none⟩) l.length l.length) ∧ SlE w' (some ⟨w.heap.size, 0, none⟩) l.length l ∧ Wr0 w' w.heap.size (some ⟨w.heap.size, 0, none⟩) (l.length * 3) ∧ Below w.heap.size w w' := by
  rcases h.cells with rfl | ⟨b, off, rfl, hb, c1, c2, c3⟩
  · refine (toE_zero a cap w).mono ?_
    rintro e w' ⟨rfl, hsz, hbel⟩
    exact ⟨rfl, ⟨Nat.le_refl _, by decide, h.size, Or.inl rfl⟩, Or.inl rfl, hbel⟩
  · refine (toE_any b off cap l w hr hb c1 c2 c3).mono ?_
    rintro e w' ⟨rfl, hcl, hfr, hsz, hbel⟩
    exact ⟨rfl, ⟨Nat.le_refl _, by unfold maxLen; omega, h.size, Or.inr ⟨_, 0, rfl, hsz, fun i hi => by rw [Nat.zero_add]; exact (hcl i hi).1, fun i hi => by rw [Nat.zero_add]; exact (hcl i hi).2.1, fun i hi => by rw [Nat.zero_add]; exact (hcl i hi).2.2⟩⟩, Or.inr ⟨_, 0, rfl, Nat.le_refl _, hsz, fun i hi => by rw [Nat.zero_add]; exact hfr i hi⟩, hbel⟩
end Go.Proofs.Ytbpcdpeidhhjdaa
