/-
  heldRoom over marked events.
-/
import Derived.Test.YtpdnocfefmobjaaCeI
import Derived.Test.YtpdnocfefmobjaaHeldS
import Derived.Test.YtpdnocfefmobjaaHeldG
import Derived.Test.YtpdnocfefmobjaaMkV
import Derived.Deep.RegionHeld3
import Derived.Deep.DeepCutAuto
namespace Go.Proofs.Ytpdnocfefmobjaa
open Go.RowKit

/-- an event as the marks from K on leave it. -/
def mkE (e : Ev) (K : Nat) : Ev := ⟨mkT K, mkT (K + 1), mkT (K + 2), mkT (K + 4), mkT (K + 6 + e.np + e.na), ((K : Int) + 1 + 1 + 1) % 3 == 0, (K : Int) + 1 + 1 + 1 + 1 + 1, e.np, e.na, e.ng, fun i => mkT (K + 6 + i), fun i => mkT (K + 6 + e.np + i), mgM (K + 6 + e.np + e.na + 1), mgL (K + 6 + e.np + e.na + 1)⟩
def Ev.num (e : Ev) : Nat := 7 + e.np + e.na + e.ng * 2
def ksum (E : Nat → Ev) : Nat → Nat
  | 0 => 0
  | n + 1 => ksum E n + (E n).num
theorem ksum_le (E : Nat → Ev) : ∀ n k, k ≤ n → ksum E k ≤ ksum E n
  | 0, k, h => by
    have : k = 0 := by omega
    subst this; exact Nat.le_refl _
  | n + 1, k, h => by
    by_cases e : k = n + 1
    · subst e; exact Nat.le_refl _
    · have := ksum_le E n k (by omega)
      rw [ksum]; omega
theorem ksum_at (E : Nat → Ev) (n k : Nat) (h : k < n) : ksum E k + (E k).num ≤ ksum E n := by
  have := ksum_le E n (k + 1) (by omega)
  rw [ksum] at this; exact this

theorem heldV_zero (a : Option Addr) (cap k : Nat) (w : World) :
    Calls Try.prog 32 #[.slice a 0 cap, .int .i64 (k : Int)] w fun e w' => e = .returned (.int .i64 (k : Int)) ∧ w' = w := by
  go_enter Try.func32, Try.ntmps32
  go_wp2
  refine wp_loop_rounds 1 ?_
  rw [rounds_succ]
  go_wp2
  go_ret
  exact ⟨rfl, rfl⟩

set_option maxRecDepth 100000 in
set_option maxHeartbeats 8000000 in
theorem heldV_any (b off n cap k0 : Nat) (E : Nat → Ev) (w : World) (hn : n ≤ maxLen) (hs : k0 + ksum E n ≤ 100000000) (hb : b < w.heap.size)
    (hc : ∀ i, i < n → EvAt w b (off + i * 10) (mkE (E i) (k0 + ksum E i))) :
    Calls Try.prog 32 #[.slice (some ⟨b, off, none⟩) n cap, .int .i64 (k0 : Int)] w fun e w' => e = .returned (.int .i64 ((k0 + ksum E n : Nat) : Int)) ∧ Below w.heap.size w w' := by
  unfold maxLen at hn
  have HC : Hid (_) := hc
  clear hc
  go_enter Try.func32, Try.ntmps32
  go_wp2_with fail
  go_loopw [1, 5] (fun kv iv wr => ∃ j : Nat, j ≤ n ∧ kv = .int .i64 ((k0 + ksum E j : Nat) : Int) ∧ iv = .int .i64 (j : Int) ∧ Below w.heap.size w wr) (fun _ iv _ => n - (intOf iv).toNat)
  case atStart => exact ⟨0, Nat.zero_le _, rfl, rfl, Below.refl _ _⟩
  case round =>
    obtain ⟨j, hj, rfl, rfl, hbel⟩ := hrel
    by_cases hlt : j < n
    · have hsj := ksum_at E n j hlt
      have hss : ksum E (j + 1) = ksum E j + (E j).num := rfl
      have hnum : (E j).num = 7 + (E j).np + (E j).na + (E j).ng * 2 := rfl
      obtain ⟨K, hK⟩ : ∃ K, Hid (K = k0 + ksum E j) := ⟨_, rfl⟩
      have hKb : K + 7 + (E j).np + (E j).na + (E j).ng * 2 ≤ 100000000 := by have := hK.out; omega
      obtain ⟨pa, cp, aa, ca, ga, cg, hcs, hok⟩ := HC.out j hlt
      rw [← hK.out] at hcs hok
      rw [← hK.out]
      have hbr : b < wr.heap.size := Nat.lt_of_lt_of_le hb hbel.size
      obtain ⟨c0, c1, c2, c3, c4, c5, c6, c7, c8, c9⟩ := hcs.below hbel hb
      have ho := hok.below hbel
      have s1 : Hid (SlS wr pa (E j).np cp (fun i => mkT (K + 6 + i))) := ho.hp
      have s2 : Hid (SlS wr aa (E j).na ca (fun i => mkT (K + 6 + (E j).np + i))) := ho.ha
      have s3 : Hid (SlG wr ga (E j).ng cg (mgM (K + 6 + (E j).np + (E j).na + 1)) (mgL (K + 6 + (E j).np + (E j).na + 1))) := ho.hg
      simp only [mkE] at c0 c1 c2 c3 c4 c5 c6 c7 c8 c9
      clear hcs hok ho hsj
      have hmt : ∀ i, i < 20 + (E j).np + (E j).na → Hid (∀ W, Calls Try.prog 44 #[.int .i64 ((K + i : Nat) : Int)] W fun e w' => e = .returned (.string (mkT (K + i))) ∧ Below W.heap.size W w') := fun i _ W => mkT_any (K + i) W (by omega)
      have m0 := hmt 0 (by omega)
      simp only [Nat.add_zero] at m0
      have m1 := hmt 1 (by omega)
      have m2 := hmt 2 (by omega)
      have m4 := hmt 4 (by omega)
      have m6 : Hid (∀ W, Calls Try.prog 44 #[.int .i64 ((K + 6 + (E j).np + (E j).na : Nat) : Int)] W fun e w' => e = .returned (.string (mkT (K + 6 + (E j).np + (E j).na))) ∧ Below W.heap.size W w') := fun W => mkT_any _ W (by omega)
      clear hmt
      have hS1 : Hid (∀ W, Below wr.heap.size wr W → Calls Try.prog 45 #[.slice pa (E j).np cp, .int .i64 ((K + 6 : Nat) : Int)] W fun e w' => e = .returned (.int .i64 ((K + 6 + (E j).np : Nat) : Int)) ∧ Below wr.heap.size wr w') := fun W hW => (heldS_sl (k0 := K + 6) W (by omega) (by omega) (s1.out.below hW)).mono fun _ _ ⟨h1, h2⟩ => ⟨h1, hW.trans (h2.mono hW.size)⟩
      have hS2 : Hid (∀ W, Below wr.heap.size wr W → Calls Try.prog 45 #[.slice aa (E j).na ca, .int .i64 ((K + 6 + (E j).np : Nat) : Int)] W fun e w' => e = .returned (.int .i64 ((K + 6 + (E j).np + (E j).na : Nat) : Int)) ∧ Below wr.heap.size wr w') := fun W hW => (heldS_sl (k0 := K + 6 + (E j).np) W (by omega) (by omega) (s2.out.below hW)).mono fun _ _ ⟨h1, h2⟩ => ⟨h1, hW.trans (h2.mono hW.size)⟩
      have hS3 : Hid (∀ W, Below wr.heap.size wr W → Calls Try.prog 46 #[.slice ga (E j).ng cg, .int .i64 ((K + 6 + (E j).np + (E j).na + 1 : Nat) : Int)] W fun e w' => e = .returned (.int .i64 ((K + 6 + (E j).np + (E j).na + 1 + (E j).ng * 2 : Nat) : Int)) ∧ Below wr.heap.size wr w') := fun W hW => (heldG_sl (k0 := K + 6 + (E j).np + (E j).na + 1) W (by omega) (by omega) (s3.out.below hW)).mono fun _ _ ⟨h1, h2⟩ => ⟨h1, hW.trans (h2.mono hW.size)⟩
      clear s1 s2 s3
      have hB0 : Below wr.heap.size wr wr := Below.refl _ _
      generalize (E j).np = np at *
      generalize (E j).na = na at *
      generalize (E j).ng = ng at *
      go_wp2_with fail
      go_cut [19] (fun v wx => v = .bool false ∧ Below wr.heap.size wr wx)
      case first =>
        have d1 := (hB0.cell (by exact hbr)).trans c0
        have hbv := hB0
        go_region_with (go_at_call 44; go_fit (m0.out _); rintro e u1 ⟨rfl, hu1⟩; have hU1 : Below wr.heap.size wr u1 := Below.trans (by first | with_reducible exact hbv | with_reducible exact hbv.drew | with_reducible exact hbv.drew.drew | with_reducible exact hbv.drew.drew.drew) (hu1.mono hB0.size); have d1x := (hU1.cell (by exact hbr)).trans c0)
        all_goals (try go_wp2_with fail)
        all_goals go_meet
        all_goals exact ⟨rfl, (by first | with_reducible exact hU1 | with_reducible exact hU1.drew | with_reducible exact hU1.drew.drew | with_reducible exact hU1.drew.drew.drew)⟩
      case rest =>
        obtain ⟨rfl, hB1⟩ := hcut
        obtain ⟨w1, hw1⟩ : ∃ w1 : World, w1 = wc := ⟨_, rfl⟩
        subst hw1
        go_wp2_with fail
        go_cut [29] (fun v wx => v = .bool false ∧ Below wr.heap.size wr wx)
        case first =>
          have d2 := (hB1.cell (by exact hbr)).trans c1
          have hbv := hB1
          go_region_with (go_at_call 44; go_fit (m1.out _); rintro e u2 ⟨rfl, hu2⟩; have hU2 : Below wr.heap.size wr u2 := Below.trans (by first | with_reducible exact hbv | with_reducible exact hbv.drew | with_reducible exact hbv.drew.drew | with_reducible exact hbv.drew.drew.drew) (hu2.mono hB1.size); have d2x := (hU2.cell (by exact hbr)).trans c1)
          all_goals (try go_wp2_with fail)
          all_goals go_meet
          all_goals exact ⟨rfl, (by first | with_reducible exact hU2 | with_reducible exact hU2.drew | with_reducible exact hU2.drew.drew | with_reducible exact hU2.drew.drew.drew)⟩
        case rest =>
          obtain ⟨rfl, hB2⟩ := hcut
          obtain ⟨w2, hw2⟩ : ∃ w2 : World, w2 = wc := ⟨_, rfl⟩
          subst hw2
          go_wp2_with fail
          go_cut [39] (fun v wx => v = .bool false ∧ Below wr.heap.size wr wx)
          case first =>
            have d3 := (hB2.cell (by exact hbr)).trans c2
            have hbv := hB2
            go_region_with (go_at_call 44; go_fit (m2.out _); rintro e u3 ⟨rfl, hu3⟩; have hU3 : Below wr.heap.size wr u3 := Below.trans (by first | with_reducible exact hbv | with_reducible exact hbv.drew | with_reducible exact hbv.drew.drew | with_reducible exact hbv.drew.drew.drew) (hu3.mono hB2.size); have d3x := (hU3.cell (by exact hbr)).trans c2)
            all_goals (try go_wp2_with fail)
            all_goals go_meet
            all_goals exact ⟨rfl, (by first | with_reducible exact hU3 | with_reducible exact hU3.drew | with_reducible exact hU3.drew.drew | with_reducible exact hU3.drew.drew.drew)⟩
          case rest =>
            obtain ⟨rfl, hB3⟩ := hcut
            obtain ⟨w3, hw3⟩ : ∃ w3 : World, w3 = wc := ⟨_, rfl⟩
            subst hw3
            have e3 := (hB3.cell (by exact hbr)).trans c3
            go_wp2_with fail
            go_cut [60] (fun v wx => v = .bool false ∧ Below wr.heap.size wr wx)
            case first =>
              have d4 := (hB3.cell (by exact hbr)).trans c4
              have hbv := hB3
              go_region_with (go_at_call 44; go_fit (m4.out _); rintro e u4 ⟨rfl, hu4⟩; have hU4 : Below wr.heap.size wr u4 := Below.trans (by first | with_reducible exact hbv | with_reducible exact hbv.drew | with_reducible exact hbv.drew.drew | with_reducible exact hbv.drew.drew.drew) (hu4.mono hB3.size); have d4x := (hU4.cell (by exact hbr)).trans c4)
              all_goals (try go_wp2_with fail)
              all_goals go_meet
              all_goals exact ⟨rfl, (by first | with_reducible exact hU4 | with_reducible exact hU4.drew | with_reducible exact hU4.drew.drew | with_reducible exact hU4.drew.drew.drew)⟩
            case rest =>
              obtain ⟨rfl, hB4⟩ := hcut
              obtain ⟨w4, hw4⟩ : ∃ w4 : World, w4 = wc := ⟨_, rfl⟩
              subst hw4
              have e5 := (hB4.cell (by exact hbr)).trans c5
              have e6 := (hB4.cell (by exact hbr)).trans c6
              go_wp2_with fail
              go_fit (hS1.out _ hB4)
              rintro e w5 ⟨rfl, hB5⟩
              have e7 := (hB5.cell (by exact hbr)).trans c7
              have n1 : ¬ (((K + 6 + np : Nat) : Int) < 0) := by omega
              go_wp2_with fail
              go_fit (hS2.out _ hB5)
              rintro e w6 ⟨rfl, hB6⟩
              have n2 : ¬ (((K + 6 + np + na : Nat) : Int) < 0) := by omega
              go_wp2_with fail
              go_cut [97] (fun v wx => v = .bool false ∧ Below wr.heap.size wr wx)
              case first =>
                have d7 := (hB6.cell (by exact hbr)).trans c8
                have hbv := hB6
                go_region_with (go_at_call 44; go_fit (m6.out _); rintro e u7 ⟨rfl, hu7⟩; have hU7 : Below wr.heap.size wr u7 := Below.trans (by first | with_reducible exact hbv | with_reducible exact hbv.drew | with_reducible exact hbv.drew.drew | with_reducible exact hbv.drew.drew.drew) (hu7.mono hB6.size); have d7x := (hU7.cell (by exact hbr)).trans c8)
                all_goals (try go_wp2_with fail)
                all_goals go_meet
                all_goals exact ⟨rfl, (by first | with_reducible exact hU7 | with_reducible exact hU7.drew | with_reducible exact hU7.drew.drew | with_reducible exact hU7.drew.drew.drew)⟩
              case rest =>
                obtain ⟨rfl, hB7⟩ := hcut
                obtain ⟨w7, hw7⟩ : ∃ w7 : World, w7 = wc := ⟨_, rfl⟩
                subst hw7
                have e9 := (hB7.cell (by exact hbr)).trans c9
                go_wp2_with fail
                go_fit (hS3.out _ hB7)
                rintro e w8 ⟨rfl, hB8⟩
                have n3 : ¬ (((K + 6 + np + na + 1 + ng * 2 : Nat) : Int) < 0) := by omega
                go_wp2
                go_roundw
                case rel => exact ⟨j + 1, by omega, by rw [hss, hnum]; have := hK.out; congr 1; omega, by go_num, hbel.trans (hB8.mono hbel.size)⟩
                case measure => simp [intOf]; omega
    · have hje : j = n := by omega
      subst hje
      go_wp2
      go_ret
      exact ⟨by first | rfl | (congr 2), hbel⟩

theorem heldV_sl {a : Option Addr} {n cap : Nat} (k0 : Nat) (E : Nat → Ev) (w : World) (hs : k0 + ksum E n ≤ 100000000) (h : SlV w a n cap (fun i => mkE (E i) (k0 + ksum E i))) :
    Calls Try.prog 32 #[.slice a n cap, .int .i64 (k0 : Int)] w fun e w' => e = .returned (.int .i64 ((k0 + ksum E n : Nat) : Int)) ∧ Below w.heap.size w w' := by
  rcases h.cells with rfl | ⟨b, off, rfl, hb, hc⟩
  · refine (heldV_zero a cap k0 w).mono ?_
    rintro e w' ⟨rfl, rfl⟩
    exact ⟨rfl, Below.refl _ _⟩
  · exact heldV_any b off n cap k0 E w (Nat.le_trans h.le h.max) hs hb hc

set_option maxRecDepth 100000 in
theorem heldR_sl {a : Option Addr} {n cap : Nat} (k0 : Nat) (E : Nat → Ev) (w : World) (hs : k0 + ksum E n ≤ 100000000) (h : SlV w a n cap (fun i => mkE (E i) (k0 + ksum E i))) :
    Calls Try.prog 14 #[.agg #[.slice a n cap], .int .i64 (k0 : Int)] w fun e w' => e = .returned (.int .i64 ((k0 + ksum E n : Nat) : Int)) ∧ Below w.heap.size w w' := by
  have hb0 : ∀ o, Below w.heap.size w (w.alloc o) := fun o => (Below.refl _ _).alloc (Nat.le_refl _) _
  have HV : Hid (∀ W, Below w.heap.size w W → Calls Try.prog 32 #[.slice a n cap, .int .i64 (k0 : Int)] W fun e w' => e = .returned (.int .i64 ((k0 + ksum E n : Nat) : Int)) ∧ Below W.heap.size W w') := fun W hW => heldV_sl k0 E W hs (h.below hW)
  clear h
  generalize ksum E n = z at *
  have n1 : ¬ (((k0 + z : Nat) : Int) < 0) := by omega
  go_enter Try.func14, Try.ntmps14
  go_wp2_with fail
  refine (HV.out _ (hb0 _)).mono ?_
  rintro e w1 ⟨rfl, hb1⟩
  go_wp2
  go_ret
  exact ⟨by first | rfl | (congr 2), (hb0 _).trans (hb1.mono (by simp))⟩
end Go.Proofs.Ytpdnocfefmobjaa
