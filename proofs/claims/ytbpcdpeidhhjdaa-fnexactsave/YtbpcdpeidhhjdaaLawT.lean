/-
  Stores in the laws: copies, sizes, the same twice; FnExactStoreOk, where impl.StoreOk answers as it should.
-/
import Derived.Test.YtbpcdpeidhhjdaaToT
namespace Go.Proofs.Ytbpcdpeidhhjdaa
open Go.RowKit

theorem toTs_zero (a : Option Addr) (cap : Nat) (w : World) :
    Calls Try.prog 24 #[.slice a 0 cap] w fun e w' =>
      e = .returned (.slice (some ⟨w.heap.size, 0, none⟩) 0 0) ∧ w.heap.size < w'.heap.size ∧ Below w.heap.size w w' := by
  have hmk := make_grp 0 (by decide) w
  simp only [Int.ofNat_zero] at hmk
  go_enter Try.func24, Try.ntmps24
  go_wp2
  clear hmk
  refine wp_loop_rounds 1 ?_
  rw [rounds_succ]
  go_wp2
  go_ret
  exact ⟨rfl, by simp, (Below.refl _ _).alloc (Nat.le_refl _) _⟩
theorem toTs_new {a : Option Addr} {n cap : Nat} {G : Nat → Grp} (w : World) (hr : n * 32 ≤ 140737488351232) (hR : ∀ i, i < n → (G i).sets.length * 48 ≤ 140737488351232) (h : SlT w a n cap G) :
    Calls Try.prog 24 #[.slice a n cap] w fun e w' =>
      e = .returned (.slice (some ⟨w.heap.size, 0, none⟩) n n) ∧ (∀ i, i < n → GrpNew w' w.heap.size (i * 2) (G i)) ∧ Free w' w.heap.size (n * 2) ∧ w.heap.size < w'.heap.size ∧ Below w.heap.size w w' := by
  rcases h.cells with rfl | ⟨b, off, rfl, hb, hc⟩
  · refine (toTs_zero a cap w).mono ?_
    rintro e w' ⟨rfl, hsz, hbel⟩
    exact ⟨rfl, fun i hi => absurd hi (Nat.not_lt_zero _), fun i hi => absurd hi (by omega), hsz, hbel⟩
  · exact toTs_any b off n cap G w hr hR hb hc
theorem GrpNew.set {w : World} {B o C j : Nat} {g : Grp} (h : GrpNew w B o g) (hC : C < B) (x : Value) : GrpNew (w.setCell ⟨C, j, none⟩ x) B o g := by
  obtain ⟨bp, h1, h2, h3, h4, h5⟩ := h
  exact ⟨bp, h1, by rw [far_block (by omega)]; exact h2, by rw [far_block (by omega)]; exact h3, h4.set (by omega) _, h5.set _⟩

set_option maxHeartbeats 1000000 in
theorem toT_sl {a : Option Addr} {n cap : Nat} {G : Nat → Grp} (w : World) (hr : n * 32 ≤ 140737488351232) (hR : ∀ i, i < n → (G i).sets.length * 48 ≤ 140737488351232) (h : SlT w a n cap G) :
    Calls Try.prog 7 #[.agg #[.slice a n cap]] w fun e w' =>
      ∃ b, e = .returned (.agg #[.slice (some ⟨b, 0, none⟩) n n]) ∧ (∀ i, i < n → GrpNew w' b (i * 2) (G i)) ∧ Free w' b (n * 2) ∧ Below w.heap.size w w' ∧ w.heap.size ≤ b ∧ b < w'.heap.size := by
  have hb0 : ∀ o o2 o3, Below w.heap.size w (((w.alloc o).alloc o2).alloc o3) := fun o o2 o3 => (((Below.refl _ _).alloc (Nat.le_refl _) _).alloc (by simp) _).alloc (by simp; omega) _
  go_enter Try.func7, Try.ntmps7
  go_wp2_with fail
  refine (toTs_new _ hr hR (h.below (hb0 _ _ _))).mono ?_
  rintro e w1 ⟨rfl, hev, hfr, hsz1, hb1⟩
  have q1 : w1.cell? ⟨w.heap.size + 1, 0, none⟩ = some (.slice none 0 0) := (hb1.cell (by simp)).trans (by rw [World.cell?_alloc_past _ _ _ (by simp)]; exact World.cell?_alloc_at _ _ _ _ (by simp))
  have q2 : w1.cell? ⟨w.heap.size + 1 + 1, 0, none⟩ = some (.slice none 0 0) := (hb1.cell (by simp)).trans (World.cell?_alloc_at _ _ _ _ (by simp))
  have f1 : w1.frozen? ⟨w.heap.size + 1, 0, none⟩ = false := (hb1.frozen (by simp)).trans (by rw [World.frozen?_alloc_past _ _ _ (by simp)]; exact World.frozen?_alloc_at _ _ _ _ (by simp))
  have f2 : w1.frozen? ⟨w.heap.size + 1 + 1, 0, none⟩ = false := (hb1.frozen (by simp)).trans (World.frozen?_alloc_at _ _ _ _ (by simp))
  have hbel := (hb0 _ _ _).trans (hb1.mono (by simp; omega))
  simp only [World.size_alloc] at hev hsz1 hfr
  have HE : Hid (_) := hev
  have HFr : Hid (_) := hfr
  clear hfr hev hb1 hb0 h hR
  go_wp2
  refine bodyPost_ret (v := .agg #[.slice (some ⟨w.heap.size + 1 + 1 + 1, 0, none⟩) n n]) (by simp [results, Try.results7, go_sem, q1]) rfl ⟨_, rfl, fun i hi => ((HE.out i hi).set (by omega) _).set (by omega) _, fun i hi => ?_, (hbel.setCell (Nat.le_add_right _ 2) _).setCell (Nat.le_add_right _ _) _, by omega, by simpa [World.setCell] using hsz1⟩
  obtain ⟨⟨v, hv⟩, hf⟩ := HFr.out i hi
  exact ⟨⟨v, by rw [far_block (by omega), far_block (by omega)]; exact hv⟩, by rw [World.frozen?_setCell, World.frozen?_setCell]; exact hf⟩
theorem slT_new {w : World} {B n : Nat} {G : Nat → Grp} (hn : n ≤ maxLen) (hB : B < w.heap.size) (h : ∀ i, i < n → GrpNew w B (i * 2) (G i)) : SlT w (some ⟨B, 0, none⟩) n n G :=
  ⟨Nat.le_refl _, hn, Or.inr ⟨B, 0, rfl, hB, fun i hi => by rw [Nat.zero_add]; exact (h i hi).at⟩⟩

/-! ### sizes -/

set_option maxHeartbeats 400000 in
theorem szG1T_any (par : Int) {sa : Option Addr} {sc : Nat} {l : List Ent} (r0 : Int) (w : World) (h0 : 0 ≤ r0) (h1 : r0 ≤ 1048576) (h : SlE w sa sc l) :
    Calls Try.prog 38 #[.agg #[.int .i64 par, .slice sa l.length sc], .int .i64 r0] w fun e w' => ∃ r : Int, e = .returned (.int .i64 r) ∧ -1 ≤ r ∧ r ≤ r0 ∧ (r < 0 ∨ r + l.length ≤ r0) ∧ Below w.heap.size w w' := by
  have hb0 : ∀ o, Below w.heap.size w (w.alloc o) := fun o => (Below.refl _ _).alloc (Nat.le_refl _) _
  go_enter Try.func38, Try.ntmps38
  go_wp2_with (go_at_call 5; refine (szE_sl r0 _ h0 h1 (h.below (hb0 _))).mono ?_; rintro e w' ⟨r', rfl, hr2, hr3, hq, hb1⟩; have Hq : Hid (_) := hq; clear hq)
  · go_ret
    exact ⟨-1, rfl, by omega, by omega, by omega, (hb0 _).trans (hb1.mono (by simp))⟩
  · go_ret
    exact ⟨r', rfl, by omega, by omega, Hq.out, (hb0 _).trans (hb1.mono (by simp))⟩

/-- how many entries the first n groups have. -/
def tsum (G : Nat → Grp) : Nat → Nat
  | 0 => 0
  | n + 1 => tsum G n + (G n).sets.length

theorem szTs_zero (a : Option Addr) (cap : Nat) (l : Int) (w : World) (h0 : 0 ≤ l) (h1 : l ≤ 1048576) :
    Calls Try.prog 15 #[.slice a 0 cap, .int .i64 l] w fun e w' => e = .returned (.int .i64 l) ∧ w' = w := by
  go_enter Try.func15, Try.ntmps15
  go_wp2
  refine wp_loop_rounds 1 ?_
  rw [rounds_succ]
  go_wp2
  go_ret
  exact ⟨rfl, rfl⟩

set_option maxHeartbeats 2000000 in
theorem szTs_any (b off n cap : Nat) (G : Nat → Grp) (r0 : Int) (w : World) (h0 : 0 ≤ r0) (h1 : r0 ≤ 1048576) (hn : n ≤ maxLen) (hb : b < w.heap.size) (hc : ∀ i, i < n → GrpAt w b (off + i * 2) (G i)) :
    Calls Try.prog 15 #[.slice (some ⟨b, off, none⟩) n cap, .int .i64 r0] w fun e w' => ∃ r : Int, e = .returned (.int .i64 r) ∧ -1 ≤ r ∧ r ≤ r0 ∧ (r < 0 ∨ r + n + tsum G n ≤ r0) ∧ Below w.heap.size w w' := by
  unfold maxLen at hn
  by_cases hneg : r0 - n < 0
  · go_enter Try.func15, Try.ntmps15
    go_wp2
    go_ret
    exact ⟨-1, rfl, by omega, by omega, by omega, Below.refl _ _⟩
  · go_enter Try.func15, Try.ntmps15
    go_wp2
    go_loopw [1, 5] (fun s1 i wr => ∃ (k : Nat) (r : Int), k ≤ n ∧ i = .int .i64 k ∧ s1 = .int .i64 r ∧ 0 ≤ r ∧ Hid (r + n + tsum G k ≤ r0) ∧ Below w.heap.size w wr) (fun _ i _ => n - (intOf i).toNat)
    case atStart => exact ⟨0, _, Nat.zero_le _, rfl, rfl, by omega, by unfold Hid tsum; omega, Below.refl _ _⟩
    case round =>
      obtain ⟨k, r, hk, rfl, rfl, hr0, hr1, hbel⟩ := hrel
      have hr9 : r ≤ 1048576 := by have := hr1.out; omega
      by_cases hlt : k < n
      · obtain ⟨sa, sc, c1, c2, hsl⟩ := (hc k hlt).below hbel hb
        clear hc
        go_wp2_with (go_at_call 38; refine (szG1T_any (G k).par _ _ (by assumption) (by omega) hsl).mono ?_; rintro e w' ⟨r', rfl, hr2, hr3, hq, hb1⟩; have Hq : Hid (_) := hq; clear hq)
        · go_ret
          exact ⟨-1, rfl, by omega, by omega, by omega, hbel.trans (hb1.mono hbel.size)⟩
        · go_roundw
          case rel => exact ⟨k + 1, r', by omega, by go_num, rfl, by assumption, by have e1 := hr1.out; have e2 := Hq.out; unfold Hid tsum; omega, hbel.trans (hb1.mono hbel.size)⟩
          case measure => simp [intOf]; omega
      · have hkn : k = n := by omega
        subst hkn
        go_wp2
        go_ret
        have e1 := hr1.out
        exact ⟨r, rfl, by omega, by omega, by omega, hbel⟩

set_option maxHeartbeats 1000000 in
theorem szT_sl {a : Option Addr} {n cap : Nat} {G : Nat → Grp} (r0 : Int) (w : World) (h0 : 0 ≤ r0) (h1 : r0 ≤ 1048576) (h : SlT w a n cap G) :
    Calls Try.prog 4 #[.agg #[.slice a n cap], .int .i64 r0] w fun e w' => ∃ r : Int, e = .returned (.int .i64 r) ∧ -1 ≤ r ∧ r ≤ r0 ∧ (r < 0 ∨ r + n + tsum G n ≤ r0) ∧ Below w.heap.size w w' := by
  have hb0 : ∀ o, Below w.heap.size w (w.alloc o) := fun o => (Below.refl _ _).alloc (Nat.le_refl _) _
  have hz : Hid (∀ W, SlT W a n cap G → Calls Try.prog 15 #[.slice a n cap, .int .i64 r0] W fun e w' => ∃ r : Int, e = .returned (.int .i64 r) ∧ -1 ≤ r ∧ r ≤ r0 ∧ (r < 0 ∨ r + n + tsum G n ≤ r0) ∧ Below W.heap.size W w') := fun W hW => by
    rcases hW.cells with rfl | ⟨b, off, rfl, hb, hc⟩
    · refine (szTs_zero a cap r0 W h0 h1).mono ?_
      rintro e w' ⟨rfl, rfl⟩
      exact ⟨r0, rfl, by omega, by omega, by unfold tsum; omega, Below.refl _ _⟩
    · exact szTs_any b off n cap G r0 W h0 h1 (Nat.le_trans hW.le hW.max) hb hc
  go_enter Try.func4, Try.ntmps4
  go_wp2_with (go_at_call 15; refine (hz.out _ (h.below (hb0 _))).mono ?_; rintro e w' ⟨r', rfl, hr2, hr3, hq, hb1⟩; have Hq : Hid (_) := hq; clear hq)
  · go_ret
    exact ⟨-1, rfl, by omega, by omega, by omega, (hb0 _).trans (hb1.mono (by simp))⟩
  · go_ret
    exact ⟨r', rfl, by omega, by omega, Hq.out, (hb0 _).trans (hb1.mono (by simp))⟩
end Go.Proofs.Ytbpcdpeidhhjdaa
