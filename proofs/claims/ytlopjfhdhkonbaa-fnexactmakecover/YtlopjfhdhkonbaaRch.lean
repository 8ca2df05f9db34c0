import Derived.Test.YtlopjfhdhkonbaaCovA
import Derived.Test.YtlopjfhdhkonbaaProg
import Derived.Deep.RegionWith
namespace Go.Proofs.Ytlopjfhdhkonbaa
open Go.RowKit

/-- a row of n numbers X has at chain c at least q, q being 1 or more. -/
def inB (n : Nat) (X : Nat → Int) (c q : Int) : Bool := decide (1 ≤ q) && (decide (0 ≤ c) && (decide (c < n) && decide (q ≤ X c.toNat)))
/-- Reaches, of what lies in a cover. -/
def reachB (ns : Nat) (C Q : Nat → Int) (nr : Nat) (rn : Nat → Nat) (X : Nat → Nat → Int) (a b : Int) : Bool :=
  decide (0 ≤ a ∧ a < nr ∧ 0 ≤ b ∧ b < ns) && inB (rn a.toNat) (X a.toNat) (C b.toNat) (Q b.toNat)

theorem reachB_no {ns : Nat} {C Q : Nat → Int} {nr : Nat} {rn : Nat → Nat} {X : Nat → Nat → Int} {a b : Int} (h : ¬ (0 ≤ a ∧ a < nr ∧ 0 ≤ b ∧ b < ns)) : reachB ns C Q nr rn X a b = false := by
  unfold reachB; rw [decide_eq_false h]; rfl
theorem reachB_yes {ns : Nat} {C Q : Nat → Int} {nr : Nat} {rn : Nat → Nat} {X : Nat → Nat → Int} {i j : Nat} (hi : i < nr) (hj : j < ns) : reachB ns C Q nr rn X i j = inB (rn i) (X i) (C j) (Q j) := by
  unfold reachB; rw [decide_eq_true (by omega)]; simp

theorem SlP.at {w : World} {a : Option Addr} {n cap : Nat} {C Q : Nat → Int} (h : SlP w a n cap C Q) {j : Nat} (hj : j < n) :
    ∃ b off, a = some ⟨b, off, none⟩ ∧ b < w.heap.size ∧ w.cell? ⟨b, off + j * 2, none⟩ = some (.int .i64 (C j)) ∧ w.cell? ⟨b, off + j * 2 + 1, none⟩ = some (.int .i64 (Q j)) := by
  rcases h.cells with h0 | ⟨b, off, e, hb, hc, hl⟩
  · omega
  · exact ⟨b, off, e, hb, hc j hj, hl j hj⟩
theorem SlL.at {w : World} {a : Option Addr} {n cap : Nat} {rn : Nat → Nat} {X : Nat → Nat → Int} (h : SlL w a n cap rn X) {j : Nat} (hj : j < n) :
    ∃ b off, a = some ⟨b, off, none⟩ ∧ b < w.heap.size ∧ RowAt w b (off + j) (rn j) (X j) := by
  rcases h.cells with h0 | ⟨b, off, e, hb, hc⟩
  · omega
  · exact ⟨b, off, e, hb, hc j hj⟩
theorem SlI.at {w : World} {a : Option Addr} {n cap : Nat} {X : Nat → Int} (h : SlI w a n cap X) {j : Nat} (hj : j < n) :
    ∃ b off, a = some ⟨b, off, none⟩ ∧ b < w.heap.size ∧ w.cell? ⟨b, off + j, none⟩ = some (.int .i64 (X j)) := by
  rcases h.cells with h0 | ⟨b, off, e, hb, hc⟩
  · omega
  · exact ⟨b, off, e, hb, hc j hj⟩

theorem past1 {w : World} {b o : Nat} {v : Value} (hb : b < w.heap.size) (h : w.cell? ⟨b, o, none⟩ = some v) (x : Obj) : (w.alloc x).cell? ⟨b, o, none⟩ = some v := by
  rw [World.cell?_alloc_past _ _ _ (by exact hb)]; exact h

end Go.Proofs.Ytlopjfhdhkonbaa
