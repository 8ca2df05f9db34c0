/-
  Plain functions of CoverDiff.
-/
import Derived.Test.YtlopjfhdhkonbaaRch
namespace Go.Proofs.Ytlopjfhdhkonbaa
open Go.RowKit

/-- some of the first n. -/
def anyTo (f : Nat → Bool) : Nat → Bool
  | 0 => false
  | n + 1 => anyTo f n || f n
theorem anyTo_hit (f : Nat → Bool) : ∀ n k, k < n → f k = true → anyTo f n = true
  | 0, _, h, _ => absurd h (Nat.not_lt_zero _)
  | n + 1, k, h, e => by
    unfold anyTo
    by_cases hk : k = n
    · subst hk; rw [e]; simp
    · rw [anyTo_hit f n k (by omega) e]; rfl
theorem anyTo_congr {f g : Nat → Bool} : ∀ n, (∀ i, i < n → f i = g i) → anyTo f n = anyTo g n
  | 0, _ => rfl
  | n + 1, h => by unfold anyTo; rw [anyTo_congr n (fun i hi => h i (by omega)), h n (by omega)]

/-- how many of the first n. -/
def cntTo (f : Nat → Bool) : Nat → Nat
  | 0 => 0
  | n + 1 => if f n then cntTo f n + 1 else cntTo f n
theorem cntTo_le (f : Nat → Bool) : ∀ n, cntTo f n ≤ n
  | 0 => Nat.le_refl _
  | n + 1 => by
    have := cntTo_le f n
    unfold cntTo; split <;> omega
theorem cntTo_congr {f g : Nat → Bool} : ∀ n, (∀ i, i < n → f i = g i) → cntTo f n = cntTo g n
  | 0, _ => rfl
  | n + 1, h => by unfold cntTo; rw [cntTo_congr n (fun i hi => h i (by omega)), h n (by omega)]
/-- some of the first n and not all. -/
def someB (f : Nat → Bool) (n : Nat) : Bool := decide (0 < cntTo f n) && decide (cntTo f n < n)

/-- the positions below n with D. -/
def posL (D : Nat → Bool) : Nat → List Int
  | 0 => []
  | n + 1 => if D n then posL D n ++ [(n : Int)] else posL D n
theorem posL_len (D : Nat → Bool) : ∀ n, (posL D n).length ≤ n
  | 0 => Nat.le_refl _
  | n + 1 => by
    have := posL_len D n
    unfold posL; split
    · simp; omega
    · omega
theorem posL_step (D : Nat → Bool) (n : Nat) : posL D (n + 1) = if D n then posL D n ++ [(n : Int)] else posL D n := by rw [posL]
theorem posL_pre (D : Nat → Bool) : ∀ n k, k ≤ n → ∃ r, posL D n = posL D k ++ r
  | 0, k, h => ⟨[], by have : k = 0 := by omega
                       subst this; simp⟩
  | n + 1, k, h => by
    by_cases e : k = n + 1
    · subst e; exact ⟨[], by simp⟩
    · obtain ⟨r, hr⟩ := posL_pre D n k (by omega)
      rw [posL_step]
      split
      · exact ⟨r ++ [(n : Int)], by rw [hr]; simp⟩
      · exact ⟨r, hr⟩
/-- the i-th of the positions. -/
def posX (D : Nat → Bool) (n i : Nat) : Int := (posL D n).getD i 0
theorem posX_at (D : Nat → Bool) (n k : Nat) (hk : k < n) (hD : D k = true) : (k : Int) = posX D n (posL D k).length := by
  obtain ⟨r, hr⟩ := posL_pre D n (k + 1) (by omega)
  unfold posX
  rw [hr, posL, if_pos hD]
  simp [List.getD]

/-- from a set of m positions Y the spot (c, q) is reached. -/
def fromB (nr : Nat) (rn : Nat → Nat) (X : Nat → Nat → Int) (m : Nat) (Y : Nat → Int) (c q : Int) : Bool := anyTo (fun i => decide (0 ≤ Y i ∧ Y i < nr) && inB (rn (Y i).toNat) (X (Y i).toNat) c q) m

/-- the joined reach behind the first m positions: its length and its numbers. -/
def jn (nr : Nat) (rn : Nat → Nat) (Y : Nat → Int) : Nat → Nat
  | 0 => 0
  | m + 1 => if 0 ≤ Y m ∧ Y m < nr then max (jn nr rn Y m) (rn (Y m).toNat) else jn nr rn Y m
def jv (nr : Nat) (rn : Nat → Nat) (X : Nat → Nat → Int) (Y : Nat → Int) : Nat → Nat → Int
  | 0, _ => 0
  | m + 1, c => if (0 ≤ Y m ∧ Y m < nr) ∧ c < rn (Y m).toNat then max (jv nr rn X Y m c) (X (Y m).toNat c) else jv nr rn X Y m c

theorem jn_step (nr : Nat) (rn : Nat → Nat) (Y : Nat → Int) (m : Nat) : jn nr rn Y (m + 1) = if 0 ≤ Y m ∧ Y m < nr then max (jn nr rn Y m) (rn (Y m).toNat) else jn nr rn Y m := by rw [jn]
theorem jv_step (nr : Nat) (rn : Nat → Nat) (X : Nat → Nat → Int) (Y : Nat → Int) (m c : Nat) : jv nr rn X Y (m + 1) c = if (0 ≤ Y m ∧ Y m < nr) ∧ c < rn (Y m).toNat then max (jv nr rn X Y m c) (X (Y m).toNat c) else jv nr rn X Y m c := by rw [jv]

theorem jv_out (nr : Nat) (rn : Nat → Nat) (X : Nat → Nat → Int) (Y : Nat → Int) (c : Nat) : ∀ m, jn nr rn Y m ≤ c → jv nr rn X Y m c = 0
  | 0, _ => rfl
  | m + 1, h => by
    rw [jn_step] at h
    rw [jv_step]
    split at h
    · rw [if_neg (by omega)]; exact jv_out nr rn X Y c m (by omega)
    · rename_i hn
      rw [if_neg (fun e => hn e.1)]; exact jv_out nr rn X Y c m h

theorem inB_join (nr : Nat) (rn : Nat → Nat) (X : Nat → Nat → Int) (Y : Nat → Int) (c q : Int) : ∀ m, inB (jn nr rn Y m) (jv nr rn X Y m) c q = fromB nr rn X m Y c q
  | 0 => by
    unfold inB fromB jn anyTo
    by_cases h : c < 0
    · simp [show ¬ 0 ≤ c by omega]
    · simp [show ¬ c < 0 by omega]
  | m + 1 => by
    have ih := inB_join nr rn X Y c q m
    unfold fromB at ih ⊢
    unfold anyTo
    rw [← ih]
    by_cases hq : 1 ≤ q
    · by_cases hc : 0 ≤ c
      · obtain ⟨k, rfl⟩ : ∃ k : Nat, c = k := ⟨c.toNat, by omega⟩
        have hout := jv_out nr rn X Y k m
        unfold inB
        simp only [Int.toNat_natCast, Int.ofNat_lt]
        rw [Bool.eq_iff_iff]
        simp only [Bool.and_eq_true, Bool.or_eq_true, decide_eq_true_eq]
        by_cases hy : 0 ≤ Y m ∧ Y m < nr
        · rw [jn_step, jv_step, if_pos hy]
          by_cases hk : k < rn (Y m).toNat
          · rw [if_pos ⟨hy, hk⟩]
            constructor
            · rintro ⟨_, _, _, h4⟩
              by_cases h5 : q ≤ jv nr rn X Y m k
              · left
                refine ⟨hq, hc, ?_, h5⟩
                rcases Nat.lt_or_ge k (jn nr rn Y m) with h6 | h6
                · exact h6
                · have := hout h6; omega
              · right
                exact ⟨hy, hq, hc, hk, by omega⟩
            · rintro (⟨_, _, h3, h4⟩ | ⟨_, _, _, h3, h4⟩)
              · exact ⟨hq, hc, by omega, by omega⟩
              · exact ⟨hq, hc, by omega, by omega⟩
          · rw [if_neg (fun e => hk e.2)]
            constructor
            · rintro ⟨_, _, h3, h4⟩
              left
              refine ⟨hq, hc, ?_, h4⟩
              rcases Nat.lt_or_ge k (jn nr rn Y m) with h6 | h6
              · exact h6
              · have := hout h6; omega
            · rintro (⟨_, _, h3, h4⟩ | ⟨_, _, _, h3, _⟩)
              · exact ⟨hq, hc, by omega, h4⟩
              · exact absurd h3 hk
        · rw [jn_step, jv_step, if_neg hy, if_neg (fun e => hy e.1)]
          constructor
          · intro h; exact Or.inl h
          · rintro (h | ⟨h, _⟩)
            · exact h
            · exact absurd h hy
      · unfold inB; simp [hc]
    · unfold inB; simp [hq]

/-- what CoverDiff asks at position p. -/
def dfB (ns : Nat) (C Q : Nat → Int) (nr : Nat) (rn : Nat → Nat) (X : Nat → Nat → Int) (m : Nat) (sn : Nat → Nat) (Y : Nat → Nat → Int) (p : Nat) : Bool :=
  someB (fun j => fromB nr rn X (sn j) (Y j) (C p) (Q p)) m && decide (p < ns)

theorem from_reach {ns : Nat} {C Q : Nat → Int} {nr : Nat} {rn : Nat → Nat} {X : Nat → Nat → Int} {Y : Nat → Int} {p : Nat} (hp : p < ns) (m : Nat) :
    anyTo (fun i => reachB ns C Q nr rn X (Y i) p) m = fromB nr rn X m Y (C p) (Q p) := by
  unfold fromB
  refine anyTo_congr m fun i _ => ?_
  unfold reachB
  have : decide (0 ≤ Y i ∧ Y i < (nr : Int) ∧ 0 ≤ (p : Int) ∧ (p : Int) < (ns : Int)) = decide (0 ≤ Y i ∧ Y i < (nr : Int)) := by
    rw [Bool.eq_iff_iff]; simp only [decide_eq_true_eq]; omega
  rw [this, Int.toNat_natCast]
end Go.Proofs.Ytlopjfhdhkonbaa
