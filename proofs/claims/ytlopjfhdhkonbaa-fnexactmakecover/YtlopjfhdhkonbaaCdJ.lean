import Derived.Test.YtlopjfhdhkonbaaCdP
import Derived.Test.YtlopjfhdhkonbaaCovA
import Derived.Laws.OwnMore
import Derived.Deep.RegionWith
namespace Go.Proofs.Ytlopjfhdhkonbaa
open Go.RowKit

/-- the joined numbers while one more row X is laid in, behind its first c numbers. -/
def jw (J X : Nat → Int) (c k : Nat) : Int := if k < c then max (J k) (X k) else J k
theorem jw_at (J X : Nat → Int) (c : Nat) : jw J X (c + 1) c = if J c < X c then X c else J c := by
  unfold jw
  rw [if_pos (Nat.lt_succ_self _)]
  split <;> omega
theorem jw_off (J X : Nat → Int) {c k : Nat} (hk : k ≠ c) : jw J X c k = jw J X (c + 1) k := by
  unfold jw
  by_cases h : k < c
  · rw [if_pos h, if_pos (by omega)]
  · rw [if_neg h, if_neg (by omega)]
theorem ints_set (X X' : Nat → Int) (n c : Nat) (x : Int) (hx : x = X' c) (h : ∀ k, k < n → k ≠ c → X k = X' k) : (ints X n).set c (.int .i64 x) = ints X' n := by
  refine List.ext_getElem? fun k => ?_
  rw [List.getElem?_set]
  by_cases hk : c = k
  · subst hk
    by_cases hn : c < n
    · simp [ints, hn, hx]
    · simp [ints, hn]
  · rw [if_neg hk]
    by_cases hn : k < n
    · rw [ints_get X n k hn, ints_get X' n k hn, h k hn (by omega)]
    · rw [List.getElem?_eq_none (by rw [ints_len]; omega), List.getElem?_eq_none (by rw [ints_len]; omega)]
theorem ints_congr (X X' : Nat → Int) (n : Nat) (h : ∀ k, k < n → X k = X' k) : ints X n = ints X' n := by
  refine List.ext_getElem? fun k => ?_
  by_cases hn : k < n
  · rw [ints_get X n k hn, ints_get X' n k hn, h k hn]
  · rw [List.getElem?_eq_none (by rw [ints_len]; omega), List.getElem?_eq_none (by rw [ints_len]; omega)]

theorem OwnI.cast {w : World} {base n n' : Nat} {v : Value} {X X' : Nat → Int} (h : OwnI w base v n X) (hn : n = n') (hX : ∀ k, k < n → X k = X' k) : OwnI w base v n' X' := by
  subst hn
  unfold OwnI at h ⊢
  rw [← ints_congr X X' n hX]; exact h
theorem jn_le {nr : Nat} {rn : Nat → Nat} {Y : Nat → Int} {B : Nat} (hR : ∀ i, i < nr → rn i ≤ B) : ∀ m, jn nr rn Y m ≤ B
  | 0 => Nat.zero_le _
  | m + 1 => by
    have := jn_le (Y := Y) hR m
    rw [jn_step]
    split
    · rename_i h
      have := hR (Y m).toNat (by omega)
      omega
    · exact this
theorem OwnI.cellAt {w : World} {base g n cap : Nat} {X : Nat → Int} (h : OwnI w base (.slice (some ⟨g, 0, none⟩) n cap) n X) (c : Nat) (hc : c < n) : w.cell? ⟨g, c, none⟩ = some (.int .i64 (X c)) := by
  rw [World.ownsRow.cellAt h c (by omega), ints_get X n c hc]
/-- behind the store of one number. -/
theorem OwnI.put {w : World} {base g n cap c : Nat} {X X' : Nat → Int} {x : Int} (h : OwnI w base (.slice (some ⟨g, 0, none⟩) n cap) n X) (hx : x = X' c) (hX : ∀ k, k < n → k ≠ c → X k = X' k) :
    OwnI (w.setCell ⟨g, c, none⟩ (.int .i64 x)) base (.slice (some ⟨g, 0, none⟩) n cap) n X' := by
  have := (World.ownsRow.stored h c (.int .i64 x)).1
  rw [ints_set X X' n c x hx hX] at this
  exact this

end Go.Proofs.Ytlopjfhdhkonbaa
