/-
  spec.SameState.
-/
import Derived.Test.YtfobcmememaejaaDeI
namespace Go.Proofs.Ytfobcmememaejaa
open Go.RowKit

theorem equal_zero (a a' : Option Addr) (cap cap' : Nat) (w : World) :
    Calls Try.prog 25 #[.slice a 0 cap, .slice a' 0 cap'] w fun e w' => e = .returned (.bool true) ∧ w' = w := by
  go_enter Try.func25, Try.ntmps25
  go_wp2
  refine wp_loop_rounds 1 ?_
  rw [rounds_succ]
  go_wp2
  go_ret
  exact ⟨rfl, rfl⟩

set_option maxRecDepth 100000 in
set_option maxHeartbeats 1000000 in
theorem equal_any (b off cap b' off' cap' : Nat) (l : List Ent) (w : World) (hn : l.length ≤ 100000)
    (c1 : ∀ i, i < l.length → w.cell? ⟨b, off + i * 3, none⟩ = some (.string (eAt l i).ty)) (c2 : ∀ i, i < l.length → w.cell? ⟨b, off + i * 3 + 1, none⟩ = some (.string (eAt l i).key)) (c3 : ∀ i, i < l.length → w.cell? ⟨b, off + i * 3 + 2, none⟩ = some (.string (eAt l i).id))
    (d1 : ∀ i, i < l.length → w.cell? ⟨b', off' + i * 3, none⟩ = some (.string (eAt l i).ty)) (d2 : ∀ i, i < l.length → w.cell? ⟨b', off' + i * 3 + 1, none⟩ = some (.string (eAt l i).key)) (d3 : ∀ i, i < l.length → w.cell? ⟨b', off' + i * 3 + 2, none⟩ = some (.string (eAt l i).id)) :
    Calls Try.prog 25 #[.slice (some ⟨b, off, none⟩) l.length cap, .slice (some ⟨b', off', none⟩) l.length cap'] w fun e w' => e = .returned (.bool true) ∧ Dr w w' := by
  go_enter Try.func25, Try.ntmps25
  go_wp2_with fail
  go_loopw [5] (fun iv wr => ∃ k : Nat, k ≤ l.length ∧ iv = .int .i64 (k : Int) ∧ Dr w wr) (fun iv _ => l.length - (intOf iv).toNat)
  case atStart => exact ⟨0, Nat.zero_le _, rfl, Dr.refl _⟩
  case round =>
    obtain ⟨k, hk, rfl, hdr⟩ := hrel
    by_cases hlt : k < l.length
    · have a1 := (hdr.cell _).trans (c1 k hlt)
      have a2 := (hdr.cell _).trans (c2 k hlt)
      have a3 := (hdr.cell _).trans (c3 k hlt)
      have e1 := (hdr.cell _).trans (d1 k hlt)
      have e2 := (hdr.cell _).trans (d2 k hlt)
      have e3 := (hdr.cell _).trans (d3 k hlt)
      clear c1 c2 c3 d1 d2 d3
      generalize eAt l k = en at *
      go_wp2_with fail
      go_region
      all_goals
        go_wp2
        exact ⟨⟨k + 1, by omega, by go_num, (by first | exact hdr.drewN 1 | exact hdr.drewN 2)⟩, by simp [intOf]; omega⟩
    · go_wp2
      go_ret
      exact ⟨rfl, hdr⟩

theorem same_sl {a a' : Option Addr} {cap cap' : Nat} {l : List Ent} (w : World) (hn : l.length ≤ 100000) (h : SlE w a cap l) (h' : SlE w a' cap' l) :
    Calls Try.prog 9 #[.slice a l.length cap, .slice a' l.length cap'] w fun e w' => e = .returned (.bool true) ∧ Below w.heap.size w w' := by
  have heq : Hid (Calls Try.prog 25 #[.slice a l.length cap, .slice a' l.length cap'] w fun e w' => e = .returned (.bool true) ∧ Below w.heap.size w w') := by
    rcases h.cells with rfl | ⟨b, off, rfl, _, c1, c2, c3⟩
    · refine (equal_zero a a' cap cap' w).mono ?_
      rintro e w' ⟨rfl, rfl⟩
      exact ⟨rfl, Below.refl _ _⟩
    · rcases h'.cells with rfl | ⟨b', off', rfl, _, d1, d2, d3⟩
      · refine (equal_zero _ a' cap cap' w).mono ?_
        rintro e w' ⟨rfl, rfl⟩
        exact ⟨rfl, Below.refl _ _⟩
      · refine (equal_any b off cap b' off' cap' l w hn c1 c2 c3 d1 d2 d3).mono ?_
        rintro e w' ⟨rfl, hd⟩
        exact ⟨rfl, hd.below _⟩
  clear h h'
  go_enter Try.func9, Try.ntmps9
  go_wp2_with fail
  refine (heq.out).mono ?_
  rintro e w' ⟨rfl, hb⟩
  go_wp2
  go_ret
  exact ⟨rfl, hb⟩
end Go.Proofs.Ytfobcmememaejaa
