/-
  The marks that the laws write into entries.
-/
import Derived.Test.YtfobcmememaejaaLawE
import Derived.Test.YtfobcmememaejaaMkD
import Derived.Test.YtfobcmememaejaaMkT
import Derived.Deep.DeepFit
namespace Go.Proofs.Ytfobcmememaejaa
open Go.RowKit

/-- n entries that bear marks from k0 on. -/
def mkL (k0 n : Nat) : List Ent := (List.range n).map fun i => ⟨mkT (k0 + i * 3), mkT (k0 + i * 3 + 1), mkT (k0 + i * 3 + 2)⟩
theorem mkL_len (k0 n : Nat) : (mkL k0 n).length = n := by simp [mkL]
theorem mkL_at {k0 n i : Nat} (h : i < n) : eAt (mkL k0 n) i = ⟨mkT (k0 + i * 3), mkT (k0 + i * 3 + 1), mkT (k0 + i * 3 + 2)⟩ := by
  rw [eAt_get _ _ (by rw [mkL_len]; exact h)]
  simp [mkL]

/-- behind a call and a store, what was done stands. -/
theorem done_set {w w1 : World} {b off d : Nat} {F : Nat → Value} (hb : b < w.heap.size) (hB : Below w.heap.size w w1) (h : ∀ i, i < d → w.cell? ⟨b, off + i, none⟩ = some (F i)) (hv : ∃ v, w1.cell? ⟨b, off + d, none⟩ = some v) :
    ∀ i, i < d + 1 → (w1.setCell ⟨b, off + d, none⟩ (F d)).cell? ⟨b, off + i, none⟩ = some (F i) := fun i hi => by
  by_cases e : i = d
  · subst e; exact set_same hv
  · rw [set_far (by omega)]; exact (hB.cell (by exact hb)).trans (h i (by omega))

theorem flat_slE {w : World} {b off n cap k0 : Nat} (hb : b < w.heap.size) (hle : n ≤ cap) (hmax : cap ≤ maxLen) (hk : k0 + n * 3 ≤ 1000000000000) (h : ∀ i, i < n * 3 → w.cell? ⟨b, off + i, none⟩ = some (.string (mkT (k0 + i)))) : SlE w (some ⟨b, off, none⟩) cap (mkL k0 n) := by
  refine ⟨by rw [mkL_len]; exact hle, hmax, fun i hi => ?_, Or.inr ⟨b, off, rfl, hb, fun i hi => ?_, fun i hi => ?_, fun i hi => ?_⟩⟩
  all_goals rw [mkL_len] at hi
  · rw [mkL_at hi]
    exact ⟨Nat.le_trans (mkT_size (by omega)) (by decide), Nat.le_trans (mkT_size (by omega)) (by decide), Nat.le_trans (mkT_size (by omega)) (by decide)⟩
  · rw [mkL_at hi, h _ (by omega)]
  · rw [mkL_at hi, Nat.add_assoc off, h _ (by omega)]; rfl
  · rw [mkL_at hi, Nat.add_assoc off, h _ (by omega)]; rfl

/-! ### heldEntryS -/
theorem flat_of {w : World} {b off n cap k0 : Nat} (h : SlE w (some ⟨b, off, none⟩) cap (mkL k0 n)) (hn : n ≠ 0) : b < w.heap.size ∧ ∀ i, i < n * 3 → w.cell? ⟨b, off + i, none⟩ = some (.string (mkT (k0 + i))) := by
  rcases h.cells with h0 | ⟨b', off', e, hb, h1, h2, h3⟩
  · have := mkL_len k0 n
    rw [h0] at this
    exact absurd this.symm hn
  · injection e with e; injection e with e1 e2 _
    subst e1 e2
    refine ⟨hb, fun i hi => ?_⟩
    obtain ⟨q, c, hc, rfl⟩ : ∃ q c, c < 3 ∧ i = q * 3 + c := ⟨i / 3, i % 3, by omega, by omega⟩
    have hq : q < n := by omega
    have hq' : q < (mkL k0 n).length := by rw [mkL_len]; exact hq
    match c, hc with
    | 0, _ => have := h1 q hq'; rw [mkL_at hq] at this; exact this
    | 1, _ => have := h2 q hq'; rw [mkL_at hq] at this; exact this
    | 2, _ => have := h3 q hq'; rw [mkL_at hq] at this; exact this

/-! ### copies that may be written -/
end Go.Proofs.Ytfobcmememaejaa
