import Derived.Test.YtimcdkaganhhaabRefsS
import Derived.Test.YtimcdkaganhhaabGrantsI
namespace Go.Proofs.Ytimcdkaganhhaab
open Go.RowKit

/-! ### Lists with no element, nil ones too -/

theorem refsS_zero (a : Option Addr) (cap : Nat) (id : ByteArray) (w : World) :
    Calls Try.prog 12 #[.slice a 0 cap, .string id] w fun e w' => e = .returned (.bool true) ∧ w' = w := by
  go_enter Try.func12, Try.ntmps12
  go_wp2
  refine wp_loop_rounds 1 ?_
  rw [rounds_succ]
  go_wp2
  go_ret
  exact ⟨rfl, rfl⟩

theorem countWords_zero (a : Option Addr) (cap : Nat) (w : World) :
    Calls Try.prog 27 #[.slice a 0 cap] w fun e w' => e = .returned (.int .i64 0) ∧ w' = w := by
  go_enter Try.func27, Try.ntmps27
  go_wp2
  go_step3
  go_wp2
  go_step3
  go_wp2
  refine wp_loop_rounds 1 ?_
  rw [rounds_succ]
  go_wp2
  rw [Exit.noGoto_ret]
  go_ret
  exact ⟨rfl, rfl⟩

theorem allWords_zero (a : Option Addr) (cap : Nat) (w : World) :
    Calls Try.prog 16 #[.slice a 0 cap] w fun e w' => e = .returned (.bool true) ∧ w' = w := by
  go_enter Try.func16, Try.ntmps16
  go_wp2_with (go_at_call 27; refine (countWords_zero a cap _).mono ?_; rintro e w' ⟨rfl, rfl⟩)
  go_ret
  exact ⟨rfl, rfl⟩

theorem refsI_zero (a : Option Addr) (cap : Nat) (id : ByteArray) (w : World) :
    Calls Try.prog 18 #[.slice a 0 cap, .string id] w fun e w' => e = .returned (.bool true) ∧ w' = w := by
  go_enter Try.func18, Try.ntmps18
  go_wp2_with (go_at_call 16; refine (allWords_zero a cap _).mono ?_; rintro e w' ⟨rfl, rfl⟩)
  refine wp_loop_rounds 1 ?_
  rw [rounds_succ]
  go_wp2
  go_ret
  exact ⟨rfl, rfl⟩

theorem grS_zero (a : Option Addr) (cap : Nat) (w : World) :
    Calls Try.prog 25 #[.slice a 0 cap] w fun e w' => e = .returned (.bool true) ∧ w' = w := by
  go_enter Try.func25, Try.ntmps25
  go_wp2
  refine wp_loop_rounds 1 ?_
  rw [rounds_succ]
  go_wp2
  go_ret
  exact ⟨rfl, rfl⟩

theorem grI_zero (a : Option Addr) (cap : Nat) (w : World) :
    Calls Try.prog 55 #[.slice a 0 cap] w fun e w' => e = .returned (.bool true) ∧ w' = w := by
  go_enter Try.func55, Try.ntmps55
  go_wp2
  refine wp_loop_rounds 1 ?_
  rw [rounds_succ]
  go_wp2
  go_ret
  exact ⟨rfl, rfl⟩

/-! ### Lists by what they hold -/

/-- the slice (a, n, cap) holds the texts S 0 .. S (n-1). -/
structure SlS (w : World) (a : Option Addr) (n cap : Nat) (S : Nat → ByteArray) : Prop where
  le : n ≤ cap
  max : cap ≤ maxLen
  size : ∀ i, i < n → (S i).size ≤ maxLen
  cells : n = 0 ∨ ∃ b off, a = some ⟨b, off, none⟩ ∧ b < w.heap.size ∧ ∀ i, i < n → w.cell? ⟨b, off + i, none⟩ = some (.string (S i))

theorem SlS.below {w w' : World} {a : Option Addr} {n cap : Nat} {S : Nat → ByteArray} (h : SlS w a n cap S) (hb : Below w.heap.size w w') : SlS w' a n cap S :=
  ⟨h.le, h.max, h.size, h.cells.imp id fun ⟨b, off, e, hlt, hc⟩ => ⟨b, off, e, Nat.lt_of_lt_of_le hlt hb.size, fun i hi => (hb.cell (by exact hlt)).trans (hc i hi)⟩⟩

/-- the slice (a, n, cap) holds the grants (M i, L i). -/
structure SlG (w : World) (a : Option Addr) (n cap : Nat) (M : Nat → ByteArray) (L : Nat → Int) : Prop where
  le : n ≤ cap
  max : cap ≤ maxLen
  size : ∀ i, i < n → (M i).size ≤ maxLen
  cells : n = 0 ∨ ∃ b off, a = some ⟨b, off, none⟩ ∧ b < w.heap.size ∧ (∀ i, i < n → w.cell? ⟨b, off + i * 2, none⟩ = some (.string (M i))) ∧ ∀ i, i < n → w.cell? ⟨b, off + i * 2 + 1, none⟩ = some (.int .i64 (L i))

theorem SlG.below {w w' : World} {a : Option Addr} {n cap : Nat} {M : Nat → ByteArray} {L : Nat → Int} (h : SlG w a n cap M L) (hb : Below w.heap.size w w') : SlG w' a n cap M L :=
  ⟨h.le, h.max, h.size, h.cells.imp id fun ⟨b, off, e, hlt, hc, hl⟩ => ⟨b, off, e, Nat.lt_of_lt_of_le hlt hb.size, fun i hi => (hb.cell (by exact hlt)).trans (hc i hi), fun i hi => (hb.cell (by exact hlt)).trans (hl i hi)⟩⟩

theorem refsS_sl {a : Option Addr} {n cap : Nat} {S : Nat → ByteArray} (id : ByteArray) (w : World) (h : SlS w a n cap S) :
    Calls Try.prog 12 #[.slice a n cap, .string id] w fun e w' => e = .returned (.bool (refsB S n id)) ∧ Dr w w' := by
  rcases h.cells with rfl | ⟨b, off, rfl, hb, hc⟩
  · refine (refsS_zero a cap id w).mono ?_
    rintro e w' ⟨rfl, rfl⟩
    exact ⟨rfl, Dr.refl _⟩
  · exact refsS_any b off n cap S id w h.le h.max h.size hc

theorem refsI_sl {a : Option Addr} {n cap : Nat} {S : Nat → ByteArray} (id : ByteArray) (w : World) (h : SlS w a n cap S) :
    Calls Try.prog 18 #[.slice a n cap, .string id] w fun e w' => e = .returned (.bool (refsB S n id)) ∧ w' = w := by
  rcases h.cells with rfl | ⟨b, off, rfl, hb, hc⟩
  · exact refsI_zero a cap id w
  · exact refsI_any b off n cap S id w h.le h.max h.size hc

theorem grS_sl {a : Option Addr} {n cap : Nat} {M : Nat → ByteArray} {L : Nat → Int} (w : World) (h : SlG w a n cap M L) :
    Calls Try.prog 25 #[.slice a n cap] w fun e w' => e = .returned (.bool (grB M L n)) ∧ Dr w w' := by
  rcases h.cells with rfl | ⟨b, off, rfl, hb, hc, hl⟩
  · refine (grS_zero a cap w).mono ?_
    rintro e w' ⟨rfl, rfl⟩
    exact ⟨rfl, Dr.refl _⟩
  · exact grS_any b off n cap M L w (Nat.le_trans h.le h.max) h.size hc hl

theorem grI_sl {a : Option Addr} {n cap : Nat} {M : Nat → ByteArray} {L : Nat → Int} (w : World) (h : SlG w a n cap M L) :
    Calls Try.prog 55 #[.slice a n cap] w fun e w' => e = .returned (.bool (grB M L n)) ∧ Below w.heap.size w w' := by
  rcases h.cells with rfl | ⟨b, off, rfl, hb, hc, hl⟩
  · refine (grI_zero a cap w).mono ?_
    rintro e w' ⟨rfl, rfl⟩
    exact ⟨rfl, Below.refl _ _⟩
  · exact grI_any b off n cap M L w (Nat.le_trans h.le h.max) hb h.size hc hl
end Go.Proofs.Ytimcdkaganhhaab
