/-
  Covers: chains and reaches, plain.
-/
import Derived.Test.YtlopjfhdhkonbaaBase
namespace Go.Proofs.Ytlopjfhdhkonbaa

/-- a spot. -/
structure Sp where
  c : Nat
  q : Nat
/-- among the first so many no spot is on p's chain and behind it. -/
def lastTo (f : Nat → Sp) (p : Nat) : Nat → Bool
  | 0 => true
  | i + 1 => lastTo f p i && !(decide ((f i).c = (f p).c) && decide ((f p).q < (f i).q))
theorem lastTo_iff (f : Nat → Sp) (p : Nat) : ∀ k, lastTo f p k = true ↔ ∀ i, i < k → (f i).c = (f p).c → ¬ (f p).q < (f i).q
  | 0 => ⟨fun _ _ h => absurd h (Nat.not_lt_zero _), fun _ => rfl⟩
  | k + 1 => by
    unfold lastTo
    rw [Bool.and_eq_true, lastTo_iff f p k, Bool.not_eq_true', Bool.and_eq_false_iff, decide_eq_false_iff_not, decide_eq_false_iff_not]
    constructor
    · rintro ⟨h1, h2⟩ i hi e
      by_cases hik : i = k
      · subst hik
        rcases h2 with h2 | h2
        · exact absurd e h2
        · exact h2
      · exact h1 i (by omega) e
    · intro h
      refine ⟨fun i hi => h i (by omega), ?_⟩
      by_cases e : (f k).c = (f p).c
      · exact Or.inr (h k (Nat.lt_succ_self _) e)
      · exact Or.inl e
/-- the spot behind the first of the first m that is the last of its chain. -/
def nxtTo (f : Nat → Sp) (k : Nat) (r : Nat → Nat) : Nat → Option Sp
  | 0 => none
  | j + 1 => match nxtTo f k r j with
    | some s => some s
    | none => if lastTo f (r j) k then some ⟨(f (r j)).c, (f (r j)).q + 1⟩ else none
theorem nxtTo_some {f : Nat → Sp} {k : Nat} {r : Nat → Nat} {j m : Nat} {s : Sp} (h : nxtTo f k r j = some s) (hm : j ≤ m) : nxtTo f k r m = some s := by
  induction m with
  | zero => rw [Nat.le_zero.1 hm] at h; exact h
  | succ m ih =>
    by_cases e : j = m + 1
    · subst e; exact h
    · unfold nxtTo; rw [ih (by omega)]
theorem nxtTo_at {f : Nat → Sp} {k : Nat} {r : Nat → Nat} {j : Nat} (h : nxtTo f k r j = none) (hl : lastTo f (r j) k = true) : nxtTo f k r (j + 1) = some ⟨(f (r j)).c, (f (r j)).q + 1⟩ := by unfold nxtTo; rw [h, if_pos hl]
theorem nxtTo_no {f : Nat → Sp} {k : Nat} {r : Nat → Nat} {j : Nat} (h : nxtTo f k r j = none) (hl : lastTo f (r j) k = false) : nxtTo f k r (j + 1) = none := by unfold nxtTo; rw [h, if_neg (by rw [hl]; decide)]
theorem nxtTo_of {f : Nat → Sp} {k : Nat} {r : Nat → Nat} {m : Nat} {s : Sp} (h : nxtTo f k r m = some s) : ∃ j, j < m ∧ lastTo f (r j) k = true ∧ s = ⟨(f (r j)).c, (f (r j)).q + 1⟩ := by
  induction m with
  | zero => cases h
  | succ m ih =>
    unfold nxtTo at h
    cases e : nxtTo f k r m with
    | some s' =>
      rw [e] at h
      have h2 : s' = s := by injection h
      obtain ⟨j, hj, h3⟩ := ih (by rw [e, h2])
      exact ⟨j, by omega, h3⟩
    | none =>
      rw [e] at h
      by_cases hl : lastTo f (r m) k = true
      · simp only [hl, if_true] at h
        injection h with h
        exact ⟨m, Nat.lt_succ_self _, hl, h.symm⟩
      · simp only [hl] at h
        cases h
theorem lastTo_congr {f g : Nat → Sp} {p k : Nat} (hp : f p = g p) (h : ∀ i, i < k → f i = g i) : lastTo f p k = lastTo g p k := by
  induction k with
  | zero => rfl
  | succ k ih => unfold lastTo; rw [ih (fun i hi => h i (by omega)), h k (Nat.lt_succ_self _), hp]
theorem nxtTo_congr {f g : Nat → Sp} {k m : Nat} {r : Nat → Nat} (hr : ∀ j, j < m → r j < k) (h : ∀ i, i < k → f i = g i) : nxtTo f k r m = nxtTo g k r m := by
  induction m with
  | zero => rfl
  | succ m ih =>
    unfold nxtTo
    rw [ih (fun j hj => hr j (by omega)), lastTo_congr (h _ (hr m (Nat.lt_succ_self _))) h, h _ (hr m (Nat.lt_succ_self _))]

section
variable (na : Nat → Nat) (rs : Nat → Nat → Nat)
/-- the spots of the first so many events, and how many chains they take. -/
def spS : Nat → (Nat → Sp) × Nat
  | 0 => (fun _ => ⟨0, 0⟩, 0)
  | k + 1 => (fun i => if i = k then (nxtTo (spS k).1 k (rs k) (na k)).getD ⟨(spS k).2, 1⟩ else (spS k).1 i, if ((nxtTo (spS k).1 k (rs k) (na k)).getD ⟨(spS k).2, 1⟩).c = (spS k).2 then (spS k).2 + 1 else (spS k).2)
def sp (i : Nat) : Sp := (spS na rs (i + 1)).1 i
def chN (k : Nat) : Nat := (spS na rs k).2
theorem spS_at : ∀ k i, i < k → (spS na rs k).1 i = sp na rs i
  | 0, _, h => absurd h (Nat.not_lt_zero _)
  | k + 1, i, h => by
    by_cases e : i = k
    · subst e; rfl
    · have : (spS na rs (k + 1)).1 i = (spS na rs k).1 i := by
        conv => lhs; unfold spS
        exact if_neg e
      rw [this]; exact spS_at k i (by omega)
theorem sp_eq {k : Nat} (h : ∀ j, j < na k → rs k j < k) : sp na rs k = (nxtTo (sp na rs) k (rs k) (na k)).getD ⟨chN na rs k, 1⟩ := by
  have : sp na rs k = (nxtTo (spS na rs k).1 k (rs k) (na k)).getD ⟨(spS na rs k).2, 1⟩ := by
    show (spS na rs (k + 1)).1 k = _
    conv => lhs; unfold spS
    exact if_pos rfl
  rw [this, nxtTo_congr (g := sp na rs) h (fun i hi => spS_at na rs k i hi)]
  rfl
theorem chN_succ (k : Nat) : chN na rs (k + 1) = if (sp na rs k).c = chN na rs k then chN na rs k + 1 else chN na rs k := by
  have h1 : sp na rs k = (nxtTo (spS na rs k).1 k (rs k) (na k)).getD ⟨(spS na rs k).2, 1⟩ := by
    show (spS na rs (k + 1)).1 k = _
    conv => lhs; unfold spS
    exact if_pos rfl
  unfold chN
  rw [h1]
  conv => lhs; unfold spS
/-- the last Seq of a chain. -/
def endF : Nat → Nat → Nat
  | 0, _ => 0
  | k + 1, c => if c = (sp na rs k).c then (sp na rs k).q else endF k c

variable {na rs} {n : Nat} (H : ∀ k, k < n → ∀ j, j < na k → rs k j < k)
include H
theorem sp_inv : ∀ k, k ≤ n → (∀ i, i < k → (sp na rs i).c < chN na rs k ∧ 1 ≤ (sp na rs i).q) ∧ (∀ i j, i < j → j < k → (sp na rs i).c = (sp na rs j).c → (sp na rs i).q < (sp na rs j).q)
  | 0, _ => ⟨fun _ h => absurd h (Nat.not_lt_zero _), fun _ _ _ h => absurd h (Nat.not_lt_zero _)⟩
  | k + 1, hk => by
    obtain ⟨h1, h2⟩ := sp_inv k (by omega)
    have hmono : chN na rs k ≤ chN na rs (k + 1) := by rw [chN_succ]; split <;> omega
    have key : ((sp na rs k).c < chN na rs (k + 1) ∧ 1 ≤ (sp na rs k).q) ∧ ∀ i, i < k → (sp na rs i).c = (sp na rs k).c → (sp na rs i).q < (sp na rs k).q := by
      have e := sp_eq na rs (H k (by omega))
      cases hn : nxtTo (sp na rs) k (rs k) (na k) with
      | none =>
        rw [hn] at e
        have e' : sp na rs k = ⟨chN na rs k, 1⟩ := e
        rw [chN_succ, e']
        refine ⟨⟨by simp, Nat.le_refl _⟩, fun i hi hc => ?_⟩
        have := (h1 i hi).1
        have hc' : (sp na rs i).c = chN na rs k := hc
        omega
      | some s =>
        rw [hn] at e
        have e' : sp na rs k = s := e
        obtain ⟨j, hj, hl, hs⟩ := nxtTo_of hn
        have hr := H k (by omega) j hj
        have hp := h1 _ hr
        rw [e', hs]
        refine ⟨⟨by show (sp na rs (rs k j)).c < _; omega, by show 1 ≤ (sp na rs (rs k j)).q + 1; omega⟩, fun i hi hc => ?_⟩
        have := (lastTo_iff _ _ _).1 hl i hi hc
        show (sp na rs i).q < (sp na rs (rs k j)).q + 1
        omega
    refine ⟨fun i hi => ?_, fun i j hij hj hc => ?_⟩
    · by_cases e : i = k
      · subst e; exact key.1
      · have := h1 i (by omega)
        exact ⟨by omega, this.2⟩
    · by_cases e : j = k
      · subst e; exact key.2 i hij hc
      · exact h2 i j hij (by omega) hc
theorem endF_spec : ∀ k, k ≤ n → ∀ c, (∀ i, i < k → (sp na rs i).c = c → (sp na rs i).q ≤ endF na rs k c) ∧ (endF na rs k c = 0 ∨ ∃ i, i < k ∧ (sp na rs i).c = c ∧ (sp na rs i).q = endF na rs k c)
  | 0, _, _ => ⟨fun _ h => absurd h (Nat.not_lt_zero _), Or.inl rfl⟩
  | k + 1, hk, c => by
    obtain ⟨h1, h2⟩ := endF_spec k (by omega) c
    unfold endF
    by_cases e : c = (sp na rs k).c
    · rw [if_pos e]
      refine ⟨fun i hi hc => ?_, Or.inr ⟨k, Nat.lt_succ_self _, e.symm, rfl⟩⟩
      by_cases eik : i = k
      · subst eik; exact Nat.le_refl _
      · exact Nat.le_of_lt ((sp_inv H (k + 1) hk).2 i k (by omega) (Nat.lt_succ_self _) (hc.trans e))
    · rw [if_neg e]
      refine ⟨fun i hi hc => ?_, h2.imp id fun ⟨i, hi, q⟩ => ⟨i, by omega, q⟩⟩
      by_cases eik : i = k
      · subst eik; exact absurd hc.symm e
      · exact h1 i (by omega) hc
theorem end_last {k p : Nat} (hk : k ≤ n) (hp : p < k) : (endF na rs k (sp na rs p).c = (sp na rs p).q) ↔ lastTo (sp na rs) p k = true := by
  rw [lastTo_iff]
  obtain ⟨h1, h2⟩ := endF_spec H k hk (sp na rs p).c
  constructor
  · intro e i hi hc
    have := h1 i hi hc
    omega
  · intro h
    have h3 := h1 p hp rfl
    rcases h2 with h2 | ⟨i, hi, hc, hq⟩
    · have := ((sp_inv H k hk).1 p hp).2
      omega
    · have := h i hi hc
      omega
end

/-! ### reaches -/

def mxTo (f : Nat → Nat) : Nat → Nat
  | 0 => 0
  | j + 1 => max (mxTo f j) (f j)
theorem mxTo_le (f : Nat → Nat) : ∀ {m j : Nat}, j < m → f j ≤ mxTo f m
  | 0, _, h => absurd h (Nat.not_lt_zero _)
  | m + 1, j, h => by
    unfold mxTo
    by_cases e : j = m
    · subst e; omega
    · have := mxTo_le f (m := m) (j := j) (by omega); omega
theorem mxTo_at (f : Nat → Nat) : ∀ m, mxTo f m = 0 ∨ ∃ j, j < m ∧ mxTo f m = f j
  | 0 => Or.inl rfl
  | m + 1 => by
    unfold mxTo
    rcases Nat.le_total (mxTo f m) (f m) with h | h
    · exact Or.inr ⟨m, Nat.lt_succ_self _, by omega⟩
    · rw [Nat.max_eq_left h]
      exact (mxTo_at f m).imp id fun ⟨j, hj, e⟩ => ⟨j, by omega, e⟩
theorem mxTo_congr {f g : Nat → Nat} : ∀ {m : Nat}, (∀ j, j < m → f j = g j) → mxTo f m = mxTo g m
  | 0, _ => rfl
  | m + 1, h => by unfold mxTo; rw [mxTo_congr (fun j hj => h j (by omega)), h m (Nat.lt_succ_self _)]
section
variable (na : Nat → Nat) (rs : Nat → Nat → Nat)
def rcT : Nat → Nat → Nat → Nat
  | 0 => fun _ _ => 0
  | k + 1 => fun i c => if i = k then (if c = (sp na rs k).c then (sp na rs k).q else mxTo (fun j => rcT k (rs k j) c) (na k)) else rcT k i c
/-- how far event i reaches on chain c. -/
def rc (i c : Nat) : Nat := rcT na rs (i + 1) i c
theorem rcT_at : ∀ k i c, i < k → rcT na rs k i c = rc na rs i c
  | 0, _, _, h => absurd h (Nat.not_lt_zero _)
  | k + 1, i, c, h => by
    by_cases e : i = k
    · subst e; rfl
    · have : rcT na rs (k + 1) i c = rcT na rs k i c := by
        conv => lhs; unfold rcT
        exact if_neg e
      rw [this]; exact rcT_at k i c (by omega)
theorem rc_eq {k : Nat} (h : ∀ j, j < na k → rs k j < k) (c : Nat) : rc na rs k c = if c = (sp na rs k).c then (sp na rs k).q else mxTo (fun j => rc na rs (rs k j) c) (na k) := by
  have : rc na rs k c = if c = (sp na rs k).c then (sp na rs k).q else mxTo (fun j => rcT na rs k (rs k j) c) (na k) := by
    show rcT na rs (k + 1) k c = _
    conv => lhs; unfold rcT
    exact if_pos rfl
  rw [this, mxTo_congr (fun j hj => rcT_at na rs k (rs k j) c (h j hj))]
/-- what k rests on, step by step, and k. -/
inductive RR (k : Nat) : Nat → Prop
  | refl : RR k k
  | ext {i j : Nat} (h : RR k i) (hj : j < na i) : RR k (rs i j)
variable {na rs} {n : Nat} (H : ∀ k, k < n → ∀ j, j < na k → rs k j < k)
include H
theorem RR.le {k i : Nat} (hk : k < n) (h : RR na rs k i) : i ≤ k := by
  induction h with
  | refl => exact Nat.le_refl _
  | ext h hj ih =>
    have := H _ (Nat.lt_of_le_of_lt ih hk) _ hj
    omega
omit H in
theorem RR.front {k i : Nat} (h : RR na rs k i) : i = k ∨ ∃ j, j < na k ∧ RR na rs (rs k j) i := by
  induction h with
  | refl => exact Or.inl rfl
  | @ext i j h hj ih =>
    rcases ih with e | ⟨j0, h0, h1⟩
    · subst e; exact Or.inr ⟨j, hj, RR.refl⟩
    · exact Or.inr ⟨j0, h0, RR.ext h1 hj⟩
omit H in
theorem RR.behind {k j i : Nat} (hj : j < na k) (h : RR na rs (rs k j) i) : RR na rs k i := by
  induction h with
  | refl => exact RR.ext RR.refl hj
  | ext _ h2 ih => exact RR.ext ih h2
theorem rc_up : ∀ k, k < n → ∀ i, RR na rs k i → (sp na rs i).q ≤ rc na rs k (sp na rs i).c := by
  intro k
  induction k using Nat.strongRecOn with
  | _ k ih =>
    intro hk i hi
    rw [rc_eq na rs (H k hk)]
    rcases RR.front hi with e | ⟨j, hj, h1⟩
    · subst e; rw [if_pos rfl]; exact Nat.le_refl _
    · have hr := H k hk j hj
      have hle := RR.le H (by omega) h1
      by_cases e : (sp na rs i).c = (sp na rs k).c
      · rw [if_pos e]
        exact Nat.le_of_lt ((sp_inv H (k + 1) (by omega)).2 i k (by omega) (Nat.lt_succ_self _) e)
      · rw [if_neg e]
        exact Nat.le_trans (ih (rs k j) hr (by omega) i h1) (mxTo_le (fun j => rc na rs (rs k j) (sp na rs i).c) hj)
theorem rc_hit : ∀ k, k < n → ∀ c, rc na rs k c = 0 ∨ ∃ i, RR na rs k i ∧ (sp na rs i).c = c ∧ (sp na rs i).q = rc na rs k c := by
  intro k
  induction k using Nat.strongRecOn with
  | _ k ih =>
    intro hk c
    rw [rc_eq na rs (H k hk)]
    by_cases e : c = (sp na rs k).c
    · rw [if_pos e]; exact Or.inr ⟨k, RR.refl, e.symm, rfl⟩
    · rw [if_neg e]
      rcases mxTo_at (fun j => rc na rs (rs k j) c) (na k) with h0 | ⟨j, hj, h1⟩
      · exact Or.inl h0
      · have hr := H k hk j hj
        rcases ih (rs k j) hr (by omega) c with h2 | ⟨i, h2, h3, h4⟩
        · exact Or.inl (h1.trans h2)
        · exact Or.inr ⟨i, RR.behind hj h2, h3, h4.trans h1.symm⟩
theorem rc_zero {k c : Nat} (hk : k < n) (hc : chN na rs (k + 1) ≤ c) : rc na rs k c = 0 := by
  rcases rc_hit H k hk c with h | ⟨i, h1, h2, _⟩
  · exact h
  · have h3 := RR.le H hk h1
    have := ((sp_inv H (k + 1) (by omega)).1 i (by omega)).1
    omega
theorem chN_mono {k m : Nat} (h : k ≤ m) : chN na rs k ≤ chN na rs m := by
  have _ := H
  induction m with
  | zero => rw [Nat.le_zero.1 h]; exact Nat.le_refl _
  | succ m ih =>
    by_cases e : k = m + 1
    · subst e; exact Nat.le_refl _
    · refine Nat.le_trans (ih (by omega)) ?_
      rw [chN_succ]
      split <;> omega
theorem chN_le (k : Nat) : chN na rs k ≤ k := by
  have _ := H
  induction k with
  | zero => exact Nat.le_refl _
  | succ k ih => rw [chN_succ]; split <;> omega
theorem sp_q_le : ∀ k, k < n → (sp na rs k).q ≤ k + 1 := by
  intro k
  induction k using Nat.strongRecOn with
  | _ k ih =>
    intro hk
    have e := sp_eq na rs (H k hk)
    cases hn : nxtTo (sp na rs) k (rs k) (na k) with
    | none => rw [hn] at e; rw [e]; show 1 ≤ k + 1; omega
    | some s =>
      rw [hn] at e
      obtain ⟨j, hj, _, hs⟩ := nxtTo_of hn
      have hr := H k hk j hj
      have := ih (rs k j) hr (by omega)
      rw [e, hs]
      show (sp na rs (rs k j)).q + 1 ≤ k + 1
      omega
end
end Go.Proofs.Ytlopjfhdhkonbaa
