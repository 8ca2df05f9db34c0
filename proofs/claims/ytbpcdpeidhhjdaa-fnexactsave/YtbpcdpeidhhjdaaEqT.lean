/-
  Stores: the same twice.
-/
import Derived.Test.YtbpcdpeidhhjdaaLawT
namespace Go.Proofs.Ytbpcdpeidhhjdaa
open Go.RowKit

set_option maxHeartbeats 1000000 in
theorem eqG1T_any (par : Int) {sa sa' : Option Addr} {sc sc' : Nat} {l : List Ent} (w : World) (h : SlE w sa sc l) (h' : SlE w sa' sc' l) :
    Calls Try.prog 56 #[.agg #[.int .i64 par, .slice sa l.length sc], .agg #[.int .i64 par, .slice sa' l.length sc']] w fun e w' => e = .returned (.bool true) ∧ Below w.heap.size w w' := by
  obtain ⟨W, hW⟩ : ∃ W, W = (w.alloc (.cells #[.int .i64 par, .slice sa l.length sc] 48)).alloc (.cells #[.int .i64 par, .slice sa' l.length sc'] 48) := ⟨_, rfl⟩
  have hwW : Below w.heap.size w W := by rw [hW]; exact ((Below.refl _ _).alloc (Nat.le_refl _) _).alloc (by simp) _
  have p1 : ∀ o, W.cell? ⟨w.heap.size, o, none⟩ = (#[.int .i64 par, .slice sa l.length sc] : Array Value)[o]? := fun o => by rw [hW, World.cell?_alloc_past _ _ _ (by simp)]; exact World.cell?_alloc_at _ _ _ _ (by simp)
  have p2 : ∀ o, W.cell? ⟨w.heap.size + 1, o, none⟩ = (#[.int .i64 par, .slice sa' l.length sc'] : Array Value)[o]? := fun o => by rw [hW]; exact World.cell?_alloc_at _ _ _ _ (by simp)
  go_enter Try.func56, Try.ntmps56
  go_wp2_with fail
  rw [← hW]
  clear hW
  refine (eqE_sl _ (h.below hwW) (h'.below hwW)).mono ?_
  rintro e w1 ⟨rfl, hb1⟩
  go_wp2
  go_ret
  exact ⟨rfl, hwW.trans (hb1.mono hwW.size)⟩

theorem eqTs_zero (a a' : Option Addr) (cap cap' : Nat) (w : World) :
    Calls Try.prog 33 #[.slice a 0 cap, .slice a' 0 cap'] w fun e w' => e = .returned (.bool true) ∧ w' = w := by
  go_enter Try.func33, Try.ntmps33
  go_wp2
  refine wp_loop_rounds 1 ?_
  rw [rounds_succ]
  go_wp2
  go_ret
  exact ⟨rfl, rfl⟩

set_option maxHeartbeats 2000000 in
theorem eqTs_any (b off cap b' off' cap' n : Nat) (G : Nat → Grp) (w : World) (hn : n ≤ maxLen) (hb : b < w.heap.size) (hb' : b' < w.heap.size) (hc : ∀ i, i < n → GrpAt w b (off + i * 2) (G i)) (hc' : ∀ i, i < n → GrpAt w b' (off' + i * 2) (G i)) :
    Calls Try.prog 33 #[.slice (some ⟨b, off, none⟩) n cap, .slice (some ⟨b', off', none⟩) n cap'] w fun e w' => e = .returned (.bool true) ∧ Below w.heap.size w w' := by
  unfold maxLen at hn
  go_enter Try.func33, Try.ntmps33
  go_wp2
  go_loopw [5] (fun i wr => ∃ k : Nat, k ≤ n ∧ i = .int .i64 k ∧ Below w.heap.size w wr) (fun i _ => n - (intOf i).toNat)
  case atStart => exact ⟨0, Nat.zero_le _, rfl, Below.refl _ _⟩
  case round =>
    obtain ⟨k, hk, rfl, hbel⟩ := hrel
    by_cases hlt : k < n
    · obtain ⟨sa, sc, c1, c2, hsl⟩ := (hc k hlt).below hbel hb
      obtain ⟨sa', sc', d1, d2, hsl'⟩ := (hc' k hlt).below hbel hb'
      clear hc hc'
      go_wp2_with fail
      go_region_with (go_at_call 56; refine (eqG1T_any (G k).par _ (hsl.below (by first | exact Below.refl wr.heap.size wr | exact (Below.refl wr.heap.size wr).drew | exact (Below.refl wr.heap.size wr).drew.drew | exact (Below.refl wr.heap.size wr).drew.drew.drew | exact (Below.refl wr.heap.size wr).drew.drew.drew.drew)) (hsl'.below (by first | exact Below.refl wr.heap.size wr | exact (Below.refl wr.heap.size wr).drew | exact (Below.refl wr.heap.size wr).drew.drew | exact (Below.refl wr.heap.size wr).drew.drew.drew | exact (Below.refl wr.heap.size wr).drew.drew.drew.drew))).mono ?_; rintro e w1 ⟨rfl, hb1'⟩; have hb1 : Below wr.heap.size wr w1 := Below.trans (by first | exact Below.refl wr.heap.size wr | exact (Below.refl wr.heap.size wr).drew | exact (Below.refl wr.heap.size wr).drew.drew | exact (Below.refl wr.heap.size wr).drew.drew.drew | exact (Below.refl wr.heap.size wr).drew.drew.drew.drew) hb1')
      all_goals
        go_wp2
        go_roundw
        case rel => exact ⟨k + 1, by omega, by go_num, hbel.trans (hb1.mono hbel.size)⟩
        case measure => simp [intOf]; omega
    · go_wp2
      go_ret
      exact ⟨rfl, hbel⟩

set_option maxHeartbeats 1000000 in
theorem eqT_sl {a a' : Option Addr} {n cap cap' : Nat} {G : Nat → Grp} (w : World) (h : SlT w a n cap G) (h' : SlT w a' n cap' G) :
    Calls Try.prog 10 #[.agg #[.slice a n cap], .agg #[.slice a' n cap']] w fun e w' => e = .returned (.bool true) ∧ Below w.heap.size w w' := by
  have hb0 : ∀ o o2, Below w.heap.size w ((w.alloc o).alloc o2) := fun o o2 => ((Below.refl _ _).alloc (Nat.le_refl _) _).alloc (by simp) _
  have hz : Hid (∀ W, SlT W a n cap G → SlT W a' n cap' G → Calls Try.prog 33 #[.slice a n cap, .slice a' n cap'] W fun e w' => e = .returned (.bool true) ∧ Below W.heap.size W w') := fun W hW hW' => by
    rcases hW.cells with rfl | ⟨b, off, rfl, hb, hc⟩
    · refine (eqTs_zero a a' cap cap' W).mono ?_
      rintro e w' ⟨rfl, rfl⟩
      exact ⟨rfl, Below.refl _ _⟩
    · rcases hW'.cells with rfl | ⟨b', off', rfl, hb', hc'⟩
      · refine (eqTs_zero _ a' cap cap' W).mono ?_
        rintro e w' ⟨rfl, rfl⟩
        exact ⟨rfl, Below.refl _ _⟩
      · exact eqTs_any b off cap b' off' cap' n G W (Nat.le_trans hW.le hW.max) hb hb' hc hc'
  go_enter Try.func10, Try.ntmps10
  go_wp2_with fail
  refine (hz.out _ (h.below (hb0 _ _)) (h'.below (hb0 _ _))).mono ?_
  rintro e w1 ⟨rfl, hb1⟩
  go_wp2
  go_ret
  exact ⟨rfl, (hb0 _ _).trans (hb1.mono (hb0 _ _).size)⟩
end Go.Proofs.Ytbpcdpeidhhjdaa
