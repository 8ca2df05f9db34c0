import Derived.Test.YtpmebojkkjlkgaaGreatTpPZR
import Derived.Deep.RegionHeld3
namespace Go.Proofs.YtpmebojkkjlkgaaGreat
structure Sp where
 c : Nat
 q : Nat
def lastTo (f : Nat -> Sp) (p : Nat) : Nat -> Bool
 | 0 => true
 | i + 1 => lastTo f p i && !(decide ((f i).c = (f p).c) && decide ((f p).q < (f i).q))
theorem lastTo_iff (f : Nat -> Sp) (p : Nat) : ∀ k, lastTo f p k = true ↔ ∀ i, i < k -> (f i).c = (f p).c -> ¬ (f p).q < (f i).q
 | 0 => ⟨fun _ _ h => absurd h (Nat.not_lt_zero _), fun _ => rfl⟩
 | k + 1 => by
  unfold lastTo
  rw [Bool.and_eq_true, lastTo_iff f p k, Bool.not_eq_true', Bool.and_eq_false_iff, decide_eq_false_iff_not, decide_eq_false_iff_not]
  constructor
  ·rintro ⟨h1, h2⟩ i hi e
   by_cases hik : i = k
   ·subst hik
    rcases h2 with h2 | h2
    ·exact absurd e h2
    ·exact h2
   ·exact h1 i (by omega) e
  ·intro h
   refine ⟨fun i hi => h i (by omega), ?_⟩
   by_cases e : (f k).c = (f p).c
   ·exact Or.inr (h k (Nat.lt_succ_self _) e)
   ·exact Or.inl e
def nxtTo (f : Nat -> Sp) (k : Nat) (r : Nat -> Nat) : Nat -> Option Sp
 | 0 => none
 | j + 1 => match nxtTo f k r j with
  | some s => some s
  | none => if lastTo f (r j) k then some ⟨(f (r j)).c, (f (r j)).q + 1⟩ else none
theorem nxtTo_some {f : Nat -> Sp} {k : Nat} {r : Nat -> Nat} {j m : Nat} {s : Sp} (h : nxtTo f k r j = some s) (hm : j <= m) : nxtTo f k r m = some s := by
 induction m with
 | zero => rw [Nat.le_zero.1 hm] at h; exact h
 | succ m ih =>
  by_cases e : j = m + 1
  ·subst e; exact h
  ·unfold nxtTo; rw [ih (by omega)]
theorem nxtTo_at {f : Nat -> Sp} {k : Nat} {r : Nat -> Nat} {j : Nat} (h : nxtTo f k r j = none) (hl : lastTo f (r j) k = true) : nxtTo f k r (j + 1) = some ⟨(f (r j)).c, (f (r j)).q + 1⟩ := by unfold nxtTo; rw [h, if_pos hl]
theorem nxtTo_no {f : Nat -> Sp} {k : Nat} {r : Nat -> Nat} {j : Nat} (h : nxtTo f k r j = none) (hl : lastTo f (r j) k = false) : nxtTo f k r (j + 1) = none := by unfold nxtTo; rw [h, if_neg (by rw [hl]; decide)]
theorem nxtTo_of {f : Nat -> Sp} {k : Nat} {r : Nat -> Nat} {m : Nat} {s : Sp} (h : nxtTo f k r m = some s) : ∃ j, j < m ∧ lastTo f (r j) k = true ∧ s = ⟨(f (r j)).c, (f (r j)).q + 1⟩ := by
 induction m with
 | zero => cases h
 | succ m ih =>
  unfold nxtTo at h
  cases e : nxtTo f k r m with
  | some s' =>
   rw [e] at h
   have h2 : s' = s := by injection h
   obtain ⟨j, hj, h3⟩ := ih (by rw [e, h2])
   exact ⟨j, by omega, h3⟩
  | none =>
   rw [e] at h
   by_cases hl : lastTo f (r m) k = true
   ·simp only [hl, if_true] at h
    injection h with h
    exact ⟨m, Nat.lt_succ_self _, hl, h.symm⟩
   ·simp only [hl] at h
    cases h
theorem lastTo_congr {f g : Nat -> Sp} {p k : Nat} (hp : f p = g p) (h : ∀ i, i < k -> f i = g i) : lastTo f p k = lastTo g p k := by
 induction k with
 | zero => rfl
 | succ k ih => unfold lastTo; rw [ih (fun i hi => h i (by omega)), h k (Nat.lt_succ_self _), hp]
theorem nxtTo_congr {f g : Nat -> Sp} {k m : Nat} {r : Nat -> Nat} (hr : ∀ j, j < m -> r j < k) (h : ∀ i, i < k -> f i = g i) : nxtTo f k r m = nxtTo g k r m := by
 induction m with
 | zero => rfl
 | succ m ih =>
  unfold nxtTo
  rw [ih (fun j hj => hr j (by omega)), lastTo_congr (h _ (hr m (Nat.lt_succ_self _))) h, h _ (hr m (Nat.lt_succ_self _))]
section
variable (na : Nat -> Nat) (rs : Nat -> Nat -> Nat)
def spS : Nat -> (Nat -> Sp) × Nat
 | 0 => (fun _ => ⟨0, 0⟩, 0)
 | k + 1 => (fun i => if i = k then (nxtTo (spS k).1 k (rs k) (na k)).getD ⟨(spS k).2, 1⟩ else (spS k).1 i, if ((nxtTo (spS k).1 k (rs k) (na k)).getD ⟨(spS k).2, 1⟩).c = (spS k).2 then (spS k).2 + 1 else (spS k).2)
def sp (i : Nat) : Sp := (spS na rs (i + 1)).1 i
def chN (k : Nat) : Nat := (spS na rs k).2
theorem spS_at : ∀ k i, i < k -> (spS na rs k).1 i = sp na rs i
 | 0, _, h => absurd h (Nat.not_lt_zero _)
 | k + 1, i, h => by
  by_cases e : i = k
  ·subst e; rfl
  ·have : (spS na rs (k + 1)).1 i = (spS na rs k).1 i := by
    conv => lhs; unfold spS
    exact if_neg e
   rw [this]; exact spS_at k i (by omega)
theorem sp_eq {k : Nat} (h : ∀ j, j < na k -> rs k j < k) : sp na rs k = (nxtTo (sp na rs) k (rs k) (na k)).getD ⟨chN na rs k, 1⟩ := by
 have : sp na rs k = (nxtTo (spS na rs k).1 k (rs k) (na k)).getD ⟨(spS na rs k).2, 1⟩ := by
  show (spS na rs (k + 1)).1 k = _
  conv => lhs; unfold spS
  exact if_pos rfl
 rw [this, nxtTo_congr (g := sp na rs) h (fun i hi => spS_at na rs k i hi)]
 rfl
theorem chN_succ (k : Nat) : chN na rs (k + 1) = if (sp na rs k).c = chN na rs k then chN na rs k + 1 else chN na rs k := by
 have h1 : sp na rs k = (nxtTo (spS na rs k).1 k (rs k) (na k)).getD ⟨(spS na rs k).2, 1⟩ := by
  show (spS na rs (k + 1)).1 k = _
  conv => lhs; unfold spS
  exact if_pos rfl
 unfold chN
 rw [h1]
 conv => lhs; unfold spS
def endF : Nat -> Nat -> Nat
 | 0, _ => 0
 | k + 1, c => if c = (sp na rs k).c then (sp na rs k).q else endF k c
variable {na rs} {n : Nat} (H : ∀ k, k < n -> ∀ j, j < na k -> rs k j < k)
include H
theorem sp_inv : ∀ k, k <= n -> (∀ i, i < k -> (sp na rs i).c < chN na rs k ∧ 1 <= (sp na rs i).q) ∧ (∀ i j, i < j -> j < k -> (sp na rs i).c = (sp na rs j).c -> (sp na rs i).q < (sp na rs j).q)
 | 0, _ => ⟨fun _ h => absurd h (Nat.not_lt_zero _), fun _ _ _ h => absurd h (Nat.not_lt_zero _)⟩
 | k + 1, hk => by
  obtain ⟨h1, h2⟩ := sp_inv k (by omega)
  have hmono : chN na rs k <= chN na rs (k + 1) := by rw [chN_succ]; split <;> omega
  have key : ((sp na rs k).c < chN na rs (k + 1) ∧ 1 <= (sp na rs k).q) ∧ ∀ i, i < k -> (sp na rs i).c = (sp na rs k).c -> (sp na rs i).q < (sp na rs k).q := by
   have e := sp_eq na rs (H k (by omega))
   cases hn : nxtTo (sp na rs) k (rs k) (na k) with
   | none =>
    rw [hn] at e
    have e' : sp na rs k = ⟨chN na rs k, 1⟩ := e
    rw [chN_succ, e']
    refine ⟨⟨by simp, Nat.le_refl _⟩, fun i hi hc => ?_⟩
    have := (h1 i hi).1
    have hc' : (sp na rs i).c = chN na rs k := hc
    omega
   | some s =>
    rw [hn] at e
    have e' : sp na rs k = s := e
    obtain ⟨j, hj, hl, hs⟩ := nxtTo_of hn
    have hr := H k (by omega) j hj
    have hp := h1 _ hr
    rw [e', hs]
    refine ⟨⟨by show (sp na rs (rs k j)).c < _; omega, by show 1 <= (sp na rs (rs k j)).q + 1; omega⟩, fun i hi hc => ?_⟩
    have := (lastTo_iff _ _ _).1 hl i hi hc
    show (sp na rs i).q < (sp na rs (rs k j)).q + 1
    omega
  refine ⟨fun i hi => ?_, fun i j hij hj hc => ?_⟩
  ·by_cases e : i = k
   ·subst e; exact key.1
   ·have := h1 i (by omega)
    exact ⟨by omega, this.2⟩
  ·by_cases e : j = k
   ·subst e; exact key.2 i hij hc
   ·exact h2 i j hij (by omega) hc
theorem endF_spec : ∀ k, k <= n -> ∀ c, (∀ i, i < k -> (sp na rs i).c = c -> (sp na rs i).q <= endF na rs k c) ∧ (endF na rs k c = 0 ∨ ∃ i, i < k ∧ (sp na rs i).c = c ∧ (sp na rs i).q = endF na rs k c)
 | 0, _, _ => ⟨fun _ h => absurd h (Nat.not_lt_zero _), Or.inl rfl⟩
 | k + 1, hk, c => by
  obtain ⟨h1, h2⟩ := endF_spec k (by omega) c
  unfold endF
  by_cases e : c = (sp na rs k).c
  ·rw [if_pos e]
   refine ⟨fun i hi hc => ?_, Or.inr ⟨k, Nat.lt_succ_self _, e.symm, rfl⟩⟩
   by_cases eik : i = k
   ·subst eik; exact Nat.le_refl _
   ·exact Nat.le_of_lt ((sp_inv H (k + 1) hk).2 i k (by omega) (Nat.lt_succ_self _) (hc.trans e))
  ·rw [if_neg e]
   refine ⟨fun i hi hc => ?_, h2.imp id fun ⟨i, hi, q⟩ => ⟨i, by omega, q⟩⟩
   by_cases eik : i = k
   ·subst eik; exact absurd hc.symm e
   ·exact h1 i (by omega) hc
theorem end_last {k p : Nat} (hk : k <= n) (hp : p < k) : (endF na rs k (sp na rs p).c = (sp na rs p).q) ↔ lastTo (sp na rs) p k = true := by
 rw [lastTo_iff]
 obtain ⟨h1, h2⟩ := endF_spec H k hk (sp na rs p).c
 constructor
 ·intro e i hi hc
  have := h1 i hi hc
  omega
 ·intro h
  have h3 := h1 p hp rfl
  rcases h2 with h2 | ⟨i, hi, hc, hq⟩
  ·have := ((sp_inv H k hk).1 p hp).2
   omega
  ·have := h i hi hc
   omega
end
def mxTo (f : Nat -> Nat) : Nat -> Nat
 | 0 => 0
 | j + 1 => max (mxTo f j) (f j)
theorem mxTo_le (f : Nat -> Nat) : ∀ {m j : Nat}, j < m -> f j <= mxTo f m
 | 0, _, h => absurd h (Nat.not_lt_zero _)
 | m + 1, j, h => by
  unfold mxTo
  by_cases e : j = m
  ·subst e; omega
  ·have := mxTo_le f (m := m) (j := j) (by omega); omega
theorem mxTo_at (f : Nat -> Nat) : ∀ m, mxTo f m = 0 ∨ ∃ j, j < m ∧ mxTo f m = f j
 | 0 => Or.inl rfl
 | m + 1 => by
  unfold mxTo
  rcases Nat.le_total (mxTo f m) (f m) with h | h
  ·exact Or.inr ⟨m, Nat.lt_succ_self _, by omega⟩
  ·rw [Nat.max_eq_left h]
   exact (mxTo_at f m).imp id fun ⟨j, hj, e⟩ => ⟨j, by omega, e⟩
theorem mxTo_congr {f g : Nat -> Nat} : ∀ {m : Nat}, (∀ j, j < m -> f j = g j) -> mxTo f m = mxTo g m
 | 0, _ => rfl
 | m + 1, h => by unfold mxTo; rw [mxTo_congr (fun j hj => h j (by omega)), h m (Nat.lt_succ_self _)]
section
variable (na : Nat -> Nat) (rs : Nat -> Nat -> Nat)
def rcT : Nat -> Nat -> Nat -> Nat
 | 0 => fun _ _ => 0
 | k + 1 => fun i c => if i = k then (if c = (sp na rs k).c then (sp na rs k).q else mxTo (fun j => rcT k (rs k j) c) (na k)) else rcT k i c
def rc (i c : Nat) : Nat := rcT na rs (i + 1) i c
theorem rcT_at : ∀ k i c, i < k -> rcT na rs k i c = rc na rs i c
 | 0, _, _, h => absurd h (Nat.not_lt_zero _)
 | k + 1, i, c, h => by
  by_cases e : i = k
  ·subst e; rfl
  ·have : rcT na rs (k + 1) i c = rcT na rs k i c := by
    conv => lhs; unfold rcT
    exact if_neg e
   rw [this]; exact rcT_at k i c (by omega)
theorem rc_eq {k : Nat} (h : ∀ j, j < na k -> rs k j < k) (c : Nat) : rc na rs k c = if c = (sp na rs k).c then (sp na rs k).q else mxTo (fun j => rc na rs (rs k j) c) (na k) := by
 have : rc na rs k c = if c = (sp na rs k).c then (sp na rs k).q else mxTo (fun j => rcT na rs k (rs k j) c) (na k) := by
  show rcT na rs (k + 1) k c = _
  conv => lhs; unfold rcT
  exact if_pos rfl
 rw [this, mxTo_congr (fun j hj => rcT_at na rs k (rs k j) c (h j hj))]
inductive RR (k : Nat) : Nat -> Prop
 | refl : RR k k
 | ext {i j : Nat} (h : RR k i) (hj : j < na i) : RR k (rs i j)
variable {na rs} {n : Nat} (H : ∀ k, k < n -> ∀ j, j < na k -> rs k j < k)
include H
theorem RR.le {k i : Nat} (hk : k < n) (h : RR na rs k i) : i <= k := by
 induction h with
 | refl => exact Nat.le_refl _
 | ext h hj ih =>
  have := H _ (Nat.lt_of_le_of_lt ih hk) _ hj
  omega
omit H in
theorem RR.front {k i : Nat} (h : RR na rs k i) : i = k ∨ ∃ j, j < na k ∧ RR na rs (rs k j) i := by
 induction h with
 | refl => exact Or.inl rfl
 | @ext i j h hj ih =>
  rcases ih with e | ⟨j0, h0, h1⟩
  ·subst e; exact Or.inr ⟨j, hj, RR.refl⟩
  ·exact Or.inr ⟨j0, h0, RR.ext h1 hj⟩
omit H in
theorem RR.behind {k j i : Nat} (hj : j < na k) (h : RR na rs (rs k j) i) : RR na rs k i := by
 induction h with
 | refl => exact RR.ext RR.refl hj
 | ext _ h2 ih => exact RR.ext ih h2
theorem rc_up : ∀ k, k < n -> ∀ i, RR na rs k i -> (sp na rs i).q <= rc na rs k (sp na rs i).c := by
 intro k
 induction k using Nat.strongRecOn with
 | _ k ih =>
  intro hk i hi
  rw [rc_eq na rs (H k hk)]
  rcases RR.front hi with e | ⟨j, hj, h1⟩
  ·subst e; rw [if_pos rfl]; exact Nat.le_refl _
  ·have hr := H k hk j hj
   have hle := RR.le H (by omega) h1
   by_cases e : (sp na rs i).c = (sp na rs k).c
   ·rw [if_pos e]
    exact Nat.le_of_lt ((sp_inv H (k + 1) (by omega)).2 i k (by omega) (Nat.lt_succ_self _) e)
   ·rw [if_neg e]
    exact Nat.le_trans (ih (rs k j) hr (by omega) i h1) (mxTo_le (fun j => rc na rs (rs k j) (sp na rs i).c) hj)
theorem rc_hit : ∀ k, k < n -> ∀ c, rc na rs k c = 0 ∨ ∃ i, RR na rs k i ∧ (sp na rs i).c = c ∧ (sp na rs i).q = rc na rs k c := by
 intro k
 induction k using Nat.strongRecOn with
 | _ k ih =>
  intro hk c
  rw [rc_eq na rs (H k hk)]
  by_cases e : c = (sp na rs k).c
  ·rw [if_pos e]; exact Or.inr ⟨k, RR.refl, e.symm, rfl⟩
  ·rw [if_neg e]
   rcases mxTo_at (fun j => rc na rs (rs k j) c) (na k) with h0 | ⟨j, hj, h1⟩
   ·exact Or.inl h0
   ·have hr := H k hk j hj
    rcases ih (rs k j) hr (by omega) c with h2 | ⟨i, h2, h3, h4⟩
    ·exact Or.inl (h1.trans h2)
    ·exact Or.inr ⟨i, RR.behind hj h2, h3, h4.trans h1.symm⟩
theorem rc_zero {k c : Nat} (hk : k < n) (hc : chN na rs (k + 1) <= c) : rc na rs k c = 0 := by
 rcases rc_hit H k hk c with h | ⟨i, h1, h2, _⟩
 ·exact h
 ·have h3 := RR.le H hk h1
  have := ((sp_inv H (k + 1) (by omega)).1 i (by omega)).1
  omega
theorem chN_mono {k m : Nat} (h : k <= m) : chN na rs k <= chN na rs m := by
 have _ := H
 induction m with
 | zero => rw [Nat.le_zero.1 h]; exact Nat.le_refl _
 | succ m ih =>
  by_cases e : k = m + 1
  ·subst e; exact Nat.le_refl _
  ·refine Nat.le_trans (ih (by omega)) ?_
   rw [chN_succ]
   split <;> omega
theorem chN_le (k : Nat) : chN na rs k <= k := by
 have _ := H
 induction k with
 | zero => exact Nat.le_refl _
 | succ k ih => rw [chN_succ]; split <;> omega
theorem sp_q_le : ∀ k, k < n -> (sp na rs k).q <= k + 1 := by
 intro k
 induction k using Nat.strongRecOn with
 | _ k ih =>
  intro hk
  have e := sp_eq na rs (H k hk)
  cases hn : nxtTo (sp na rs) k (rs k) (na k) with
  | none => rw [hn] at e; rw [e]; show 1 <= k + 1; omega
  | some s =>
   rw [hn] at e
   obtain ⟨j, hj, _, hs⟩ := nxtTo_of hn
   have hr := H k hk j hj
   have := ih (rs k j) hr (by omega)
   rw [e, hs]
   show (sp na rs (rs k j)).q + 1 <= k + 1
   omega
end
end Go.Proofs.YtpmebojkkjlkgaaGreat
namespace Go.Proofs.YtpmebojkkjlkgaaGreat
open Go.RowKit
theorem rowCells {w : World} {base e size n : Nat} {v : Value} {xs : List Value} (h : w.ownsRow base e size v n xs) :
  (v = .slice none 0 0 ∧ n = 0) ∨ ∃ g cap, v = .slice (some ⟨g, 0, none⟩) n cap ∧ base <= g ∧ g < w.heap.size ∧ n <= cap ∧ cap <= maxLen ∧ (∀ j, j < n * size -> w.cell? ⟨g, 0 + j, none⟩ = xs[j]?) ∧ ∀ j, w.frozen? ⟨g, j, none⟩ = false := by
 obtain ⟨h1, h2⟩ := h
 rcases h2 with ⟨rfl, h0⟩ | ⟨g, cap, cur, rfl, hg, hh, hn, hc, hcs, hx⟩
 ·exact Or.inl ⟨rfl, h0⟩
 ·have hlt : g < w.heap.size := (Array.getElem?_eq_some_iff.1 hh).1
  refine Or.inr ⟨g, cap, rfl, hg, hlt, hn, hc, fun j hj => ?_, fun j => ?_⟩
  ·rw [<- hx, List.getElem?_take, if_pos hj, Nat.zero_add]
   simp [World.cell?, hh]
  ·simp [World.frozen?, hh]
theorem rowKept {w w' : World} {base e size n : Nat} {v : Value} {xs : List Value} (h : w.ownsRow base e size v n xs) (hk : ∀ g, v.ownBlock = some g -> w'.heap[g]? = w.heap[g]?) : w'.ownsRow base e size v n xs := by
 obtain ⟨h1, h2⟩ := h
 refine ⟨h1, ?_⟩
 rcases h2 with h2 | ⟨g, cap, cur, rfl, hg, hh, r⟩
 ·exact Or.inl h2
 ·exact Or.inr ⟨g, cap, cur, rfl, hg, (hk g rfl).trans hh, r⟩
theorem rowGt {w : World} {base e size n : Nat} {v : Value} {xs : List Value} (h : w.ownsRow base e size v n xs) : ∀ g, v.ownBlock = some g -> base <= g ∧ g < w.heap.size := fun g hg => by
 rcases rowCells h with ⟨q, _⟩ | ⟨g', cap', q, q1, q2, _⟩
 ·rw [q] at hg; cases hg
 ·rw [q] at hg
  have : some g' = some g := hg
  injection this with this
  omega
theorem rowLow {w : World} {base base' e size n : Nat} {v : Value} {xs : List Value} (h : w.ownsRow base e size v n xs) (hb : base' <= base) : w.ownsRow base' e size v n xs := by
 obtain ⟨h1, h2⟩ := h
 refine ⟨h1, ?_⟩
 rcases h2 with h2 | ⟨g, cap, cur, hv, hg, r⟩
 ·exact Or.inl h2
 ·exact Or.inr ⟨g, cap, cur, hv, Nat.le_trans hb hg, r⟩
theorem ownInj {g q n c : Nat} (h : (Value.slice (some ⟨g, 0, none⟩) n c).ownBlock = some q) : g = q := by
 have : some g = some q := h
 injection this
def spV (s : Sp) : List Value := [.int .i64 (s.c : Int), .int .i64 (s.q : Int)]
def encS (f : Nat -> Sp) (n : Nat) : List Value := (List.range n).flatMap fun i => spV (f i)
theorem encS_snoc (f : Nat -> Sp) (n : Nat) : encS f n ++ spV (f n) = encS f (n + 1) := by simp [encS, List.range_succ]
theorem encS_len (f : Nat -> Sp) (n : Nat) : (encS f n).length = n * 2 := by
 induction n with
 | zero => rfl
 | succ n ih => rw [<- encS_snoc, List.length_append, ih]; simp [spV]; omega
theorem encS_get (f : Nat -> Sp) : ∀ n i r, i < n -> r < 2 -> (encS f n)[i * 2 + r]? = (spV (f i))[r]?
 | 0, _, _, h, _ => absurd h (Nat.not_lt_zero _)
 | n + 1, i, r, h, hr => by
  rw [<- encS_snoc]
  by_cases e : i = n
  ·subst e
   rw [List.getElem?_append_right (by rw [encS_len]; omega), encS_len]
   congr 1
   omega
  ·rw [List.getElem?_append_left (by rw [encS_len]; omega)]
   exact encS_get f n i r (by omega) hr
theorem spV_one (s : Sp) (u : Value) (h : u ∈ spV s) : u.oneCell' = true := by
 unfold spV at h
 simp only [List.mem_cons, List.not_mem_nil, or_false] at h
 rcases h with rfl | rfl <;> rfl
theorem spV_cells (W : World) (s : Sp) (ty : TypeId) (j : Nat) (u : Value) (h : (spV s)[j]? = some u) : (W.alloc (.cells #[.int .i64 (s.c : Int), .int .i64 (s.q : Int)] ty)).cell? ((⟨W.heap.size, 0, none⟩ : Addr).add j) = some u := by
 rw [Addr.add_lit, Nat.zero_add, World.cell?_alloc_at _ _ _ _ rfl]
 rw [<- h]
 unfold spV
 rw [List.getElem?_toArray]
def OwnS (w : World) (base : Nat) (v : Value) (n : Nat) (f : Nat -> Sp) : Prop := w.ownsRow base 35 2 v n (encS f n)
theorem OwnS.sl {w : World} {base n : Nat} {v : Value} {f : Nat -> Sp} (h : OwnS w base v n f) : ∃ a cap, v = .slice a n cap ∧ SlP w a n cap (fun i => ((f i).c : Int)) (fun i => ((f i).q : Int)) := by
 rcases rowCells h with ⟨rfl, rfl⟩ | ⟨g, cap, rfl, hg, hlt, hn, hc, hx, hf⟩
 ·exact ⟨none, 0, rfl, ⟨Nat.le_refl _, by decide, Or.inl rfl⟩⟩
 ·have hr : ∀ i r, i < n -> r < 2 -> w.cell? ⟨g, 0 + i * 2 + r, none⟩ = (spV (f i))[r]? := fun i r hi hr => by
   have := hx (i * 2 + r) (by omega)
   rw [<- Nat.add_assoc] at this
   rw [this]
   exact encS_get f n i r hi hr
  exact ⟨_, cap, rfl, ⟨hn, hc, Or.inr ⟨g, 0, rfl, hlt, fun i hi => hr i 0 hi (by decide), fun i hi => hr i 1 hi (by decide)⟩⟩⟩
theorem OwnS.nil (w : World) (base : Nat) (f : Nat -> Sp) : OwnS w base (.slice none 0 0) 0 f := ⟨rfl, Or.inl ⟨rfl, rfl⟩⟩
structure Lr where
 a : Option Addr
 c : Nat
 lo : Nat
 hi : Nat
def IvR (a : Option Addr) (n lo hi : Nat) : Prop := n = 0 ∨ ∃ b off, a = some ⟨b, off, none⟩ ∧ lo <= b ∧ b < hi
theorem SlI.kept {w w' : World} {a : Option Addr} {n cap lo hi : Nat} {X : Nat -> Int} (h : SlI w a n cap X) (hs : w.heap.size <= w'.heap.size) (hv : IvR a n lo hi) (hk : ∀ b, lo <= b -> b < hi -> w'.heap[b]? = w.heap[b]?) : SlI w' a n cap X := by
 refine ⟨h.le, h.max, ?_⟩
 rcases hv with h0 | ⟨b, off, rfl, h1, h2⟩
 ·exact Or.inl h0
 ·refine h.cells.imp id fun ⟨b', off', e, hlt, c1⟩ => ?_
  have e2 : b = b' := by injection e with e; injection e
  subst e2
  exact ⟨b, off', e, Nat.lt_of_lt_of_le hlt hs, fun i hi => (World.cell?_of_block (a := ⟨b, off' + i, none⟩) (hk b h1 h2)).trans (c1 i hi)⟩
theorem Wr0.keptR {w w' : World} {a : Option Addr} {n lo hi base : Nat} (h : Wr0 w base a n) (hs : w.heap.size <= w'.heap.size) (hv : IvR a n lo hi) (hk : ∀ b, lo <= b -> b < hi -> w'.heap[b]? = w.heap[b]?) : Wr0 w' base a n := by
 rcases hv with h0 | ⟨b, off, rfl, h1, h2⟩
 ·exact Or.inl h0
 ·refine h.imp id fun ⟨b', off', e, q1, q2, hc⟩ => ?_
  have e2 : b = b' := by injection e with e; injection e
  subst e2
  exact ⟨b, off', e, q1, Nat.lt_of_lt_of_le q2 hs, fun i hi => ⟨(hc i hi).1.imp fun _ hx => (World.cell?_of_block (a := ⟨b, off' + i, none⟩) (hk b h1 h2)).trans hx, (by simp [World.frozen?, hk b h1 h2] : w'.frozen? ⟨b, off' + i, none⟩ = w.frozen? ⟨b, off' + i, none⟩).trans (hc i hi).2⟩⟩
structure QR (w : World) (n : Nat) (X : Nat -> Int) (t : Lr) : Prop where
 sl : SlI w t.a n t.c X
 wr : Wr0 w t.lo t.a n
 iv : IvR t.a n t.lo t.hi
 hh : t.lo <= t.hi ∧ t.hi <= w.heap.size
theorem QR.kept {w w' : World} {n : Nat} {X : Nat -> Int} {t : Lr} (h : QR w n X t) (hs : w.heap.size <= w'.heap.size) (hk : ∀ b, t.lo <= b -> b < t.hi -> w'.heap[b]? = w.heap[b]?) : QR w' n X t :=
 ⟨h.sl.kept hs h.iv hk, h.wr.keptR hs h.iv hk, h.iv, h.hh.1, Nat.le_trans h.hh.2 hs⟩
theorem QR.below {w w' : World} {n : Nat} {X : Nat -> Int} {t : Lr} (h : QR w n X t) (hb : Below w.heap.size w w') : QR w' n X t :=
 h.kept hb.size fun b _ h2 => hb.block b (Nat.lt_of_lt_of_le h2 h.hh.2)
theorem QR.grown {w w' : World} {n : Nat} {X : Nat -> Int} {t : Lr} {row : Option Nat} (h : QR w n X t) (hg : w.grownBy w' row) (hr : ∀ b, row = some b -> b < t.lo ∨ t.hi <= b) : QR w' n X t :=
 h.kept hg.size fun b h1 h2 => hg.block b (Nat.lt_of_lt_of_le h2 h.hh.2) (fun e => by have := hr b e.symm; omega)
theorem OwnI.qr {w : World} {base n : Nat} {v : Value} {X : Nat -> Int} (h : OwnI w base v n X) (hb : base <= w.heap.size) : ∃ a c, v = .slice a n c ∧ QR w n X ⟨a, c, base, w.heap.size⟩ := by
 rcases rowCells h with ⟨rfl, rfl⟩ | ⟨g, cap, rfl, hg, hlt, hn, hc, hx, hf⟩
 ·exact ⟨none, 0, rfl, ⟨Nat.le_refl _, Nat.zero_le _, Or.inl rfl⟩, Or.inl rfl, Or.inl rfl, hb, Nat.le_refl _⟩
 ·have hcl : ∀ i, i < n -> w.cell? ⟨g, 0 + i, none⟩ = some (.int .i64 (X i)) := fun i hi => (hx i (by omega)).trans (ints_get X n i hi)
  exact ⟨_, cap, rfl, ⟨hn, hc, Or.inr ⟨g, 0, rfl, hlt, hcl⟩⟩, Or.inr ⟨g, 0, rfl, hg, hlt, fun i hi => ⟨⟨_, hcl i hi⟩, hf _⟩⟩, Or.inr ⟨g, 0, rfl, hg, hlt⟩, hb, Nat.le_refl _⟩
def encR (rn : Nat -> Nat) (T : Nat -> Lr) (n : Nat) : List Value := (List.range n).map fun i => .slice (T i).a (rn i) (T i).c
theorem encR_snoc (rn : Nat -> Nat) (T : Nat -> Lr) (n : Nat) : encR rn T n ++ [.slice (T n).a (rn n) (T n).c] = encR rn T (n + 1) := by simp [encR, List.range_succ]
theorem encR_get (rn : Nat -> Nat) (T : Nat -> Lr) (n i : Nat) (h : i < n) : (encR rn T n)[i]? = some (.slice (T i).a (rn i) (T i).c) := by simp [encR, h]
theorem encR_congr {rn : Nat -> Nat} {T T' : Nat -> Lr} {n : Nat} (h : ∀ i, i < n -> T i = T' i) : encR rn T n = encR rn T' n := by
 unfold encR
 refine List.map_congr_left fun i hi => ?_
 rw [h i (List.mem_range.1 hi)]
structure RowR (w : World) (base : Nat) (v : Value) (n : Nat) (rn : Nat -> Nat) (X : Nat -> Nat -> Int) (T : Nat -> Lr) : Prop where
 own : w.ownsRow base 36 1 v n (encR rn T n)
 q : ∀ i, i < n -> QR w (rn i) (X i) (T i)
 low : ∀ i, i < n -> base <= (T i).lo
 ord : ∀ i j, i < j -> j < n -> (T i).hi <= (T j).lo
 apart : ∀ g, v.ownBlock = some g -> ∀ i, i < n -> g < (T i).lo ∨ (T i).hi <= g
theorem RowR.kept {w w' : World} {base n : Nat} {v : Value} {rn : Nat -> Nat} {X : Nat -> Nat -> Int} {T : Nat -> Lr} (h : RowR w base v n rn X T) (hs : w.heap.size <= w'.heap.size) (h1 : ∀ g, v.ownBlock = some g -> w'.heap[g]? = w.heap[g]?) (h2 : ∀ i, i < n -> ∀ b, (T i).lo <= b -> b < (T i).hi -> w'.heap[b]? = w.heap[b]?) : RowR w' base v n rn X T :=
 ⟨rowKept h.own h1, fun i hi => (h.q i hi).kept hs (h2 i hi), h.low, h.ord, h.apart⟩
theorem RowR.below {w w' : World} {base n : Nat} {v : Value} {rn : Nat -> Nat} {X : Nat -> Nat -> Int} {T : Nat -> Lr} (h : RowR w base v n rn X T) (hb : Below w.heap.size w w') : RowR w' base v n rn X T :=
 h.kept hb.size (fun g hg => hb.block g (rowGt h.own g hg).2) fun i hi b _ h2 => hb.block b (Nat.lt_of_lt_of_le h2 (h.q i hi).hh.2)
theorem RowR.setB {w : World} {base n C j : Nat} {v x : Value} {rn : Nat -> Nat} {X : Nat -> Nat -> Int} {T : Nat -> Lr} (h : RowR w base v n rn X T) (h1 : ∀ g, v.ownBlock = some g -> g ≠ C) (h2 : ∀ i, i < n -> C < (T i).lo ∨ (T i).hi <= C) : RowR (w.setCell ⟨C, j, none⟩ x) base v n rn X T :=
 h.kept (by simp [World.setCell]) (fun g hg => Below.heap_setCell _ _ _ _ (by exact h1 g hg)) fun i hi b q1 q2 => Below.heap_setCell _ _ _ _ (by show b ≠ C; have := h2 i hi; omega)
theorem RowR.grownX {w w' : World} {base n : Nat} {v : Value} {rn : Nat -> Nat} {X : Nat -> Nat -> Int} {T : Nat -> Lr} {row : Option Nat} (h : RowR w base v n rn X T) (hg : w.grownBy w' row) (h1 : ∀ g, v.ownBlock = some g -> some g ≠ row) (h2 : ∀ i, i < n -> ∀ b, row = some b -> b < (T i).lo ∨ (T i).hi <= b) : RowR w' base v n rn X T :=
 h.kept hg.size (fun g q => hg.block g (rowGt h.own g q).2 (h1 g q)) fun i hi b q1 q2 => hg.block b (Nat.lt_of_lt_of_le q2 (h.q i hi).hh.2) (fun e => by have := h2 i hi b e.symm; omega)
theorem RowR.base_le {w : World} {base base' n : Nat} {v : Value} {rn : Nat -> Nat} {X : Nat -> Nat -> Int} {T : Nat -> Lr} (h : RowR w base v n rn X T) (hb : base' <= base) : RowR w base' v n rn X T :=
 ⟨rowLow h.own hb, h.q, fun i hi => Nat.le_trans hb (h.low i hi), h.ord, h.apart⟩
theorem RowR.cells {w : World} {base n : Nat} {v : Value} {rn : Nat -> Nat} {X : Nat -> Nat -> Int} {T : Nat -> Lr} (h : RowR w base v n rn X T) :
  (v = .slice none 0 0 ∧ n = 0) ∨ ∃ g cap, v = .slice (some ⟨g, 0, none⟩) n cap ∧ base <= g ∧ g < w.heap.size ∧ n <= cap ∧ cap <= maxLen ∧ (∀ i, i < n -> w.cell? ⟨g, i, none⟩ = some (.slice (T i).a (rn i) (T i).c)) ∧ ∀ o, w.frozen? ⟨g, o, none⟩ = false := by
 rcases rowCells h.own with h0 | ⟨g, cap, hv, hg, hlt, hn, hc, hx, hf⟩
 ·exact Or.inl h0
 ·exact Or.inr ⟨g, cap, hv, hg, hlt, hn, hc, fun i hi => by have := hx i (by omega); rw [Nat.zero_add] at this; exact this.trans (encR_get rn T n i hi), hf⟩
theorem RowR.sl {w : World} {base n : Nat} {v : Value} {rn : Nat -> Nat} {X : Nat -> Nat -> Int} {T : Nat -> Lr} (h : RowR w base v n rn X T) : ∃ a cap, v = .slice a n cap ∧ SlL w a n cap rn X := by
 rcases h.cells with ⟨rfl, rfl⟩ | ⟨g, cap, rfl, hg, hlt, hn, hc, hx, hf⟩
 ·exact ⟨none, 0, rfl, ⟨Nat.le_refl _, by decide, Or.inl rfl⟩⟩
 ·exact ⟨_, cap, rfl, ⟨hn, hc, Or.inr ⟨g, 0, rfl, hlt, fun i hi => by rw [Nat.zero_add]; exact ⟨_, _, hx i hi, (h.q i hi).sl⟩⟩⟩⟩
theorem RowR.nil (w : World) (base : Nat) (rn : Nat -> Nat) (X : Nat -> Nat -> Int) (T : Nat -> Lr) : RowR w base (.slice none 0 0) 0 rn X T :=
 ⟨⟨rfl, Or.inl ⟨rfl, rfl⟩⟩, fun _ hi => absurd hi (Nat.not_lt_zero _), fun _ hi => absurd hi (Nat.not_lt_zero _), fun _ _ _ hj => absurd hj (Nat.not_lt_zero _), fun _ _ _ hi => absurd hi (Nat.not_lt_zero _)⟩
def extR (T : Nat -> Lr) (n : Nat) (t : Lr) : Nat -> Lr := fun i => if i = n then t else T i
theorem RowR.snoc {w w' : World} {base n g cap : Nat} {v : Value} {rn : Nat -> Nat} {X : Nat -> Nat -> Int} {T : Nat -> Lr} {t : Lr} (h : RowR w base v n rn X T) (ht : QR w (rn n) (X n) t) (h1 : base <= t.lo) (h2 : ∀ i, i < n -> (T i).hi <= t.lo) (h3 : ∀ g, v.ownBlock = some g -> g < t.lo ∨ t.hi <= g)
  (hown : w'.ownsRow base 36 1 (.slice (some ⟨g, 0, none⟩) (n + 1) cap) (n + 1) (encR rn T n ++ [.slice t.a (rn n) t.c])) (hgr : w.grownBy w' v.ownBlock) (hg : v.ownBlock = some g ∨ w.heap.size <= g) : RowR w' base (.slice (some ⟨g, 0, none⟩) (n + 1) cap) (n + 1) rn X (extR T n t) := by
 have e1 : extR T n t n = t := if_pos rfl
 have e2 : ∀ i, i < n -> extR T n t i = T i := fun i hi => if_neg (by omega)
 have e3 : encR rn T n = encR rn (extR T n t) n := encR_congr fun i hi => (e2 i hi).symm
 have hgi : ∀ i, i < n -> g < (T i).lo ∨ (T i).hi <= g := fun i hi => by
  rcases hg with q | q
  ·exact h.apart g q i hi
  ·exact Or.inr (Nat.le_trans (h.q i hi).hh.2 q)
 have hgt : g < t.lo ∨ t.hi <= g := by
  rcases hg with q | q
  ·exact h3 g q
  ·exact Or.inr (Nat.le_trans ht.hh.2 q)
 refine ⟨?_, fun i hi => ?_, fun i hi => ?_, fun i j hij hj => ?_, fun g' hg' i hi => ?_⟩
 ·rw [<- encR_snoc, e1, <- e3]; exact hown
 ·by_cases e : i = n
  ·subst e; rw [e1]; exact ht.grown hgr h3
  ·rw [e2 i (by omega)]; exact (h.q i (by omega)).grown hgr (fun b hb => h.apart b hb i (by omega))
 ·by_cases e : i = n
  ·subst e; rw [e1]; exact h1
  ·rw [e2 i (by omega)]; exact h.low i (by omega)
 ·by_cases e : j = n
  ·subst e; rw [e1, e2 i hij]; exact h2 i hij
  ·rw [e2 i (by omega), e2 j (by omega)]; exact h.ord i j hij (by omega)
 ·have hgg : g = g' := ownInj hg'
  subst hgg
  by_cases e : i = n
  ·subst e; rw [e1]; exact hgt
  ·rw [e2 i (by omega)]; exact hgi i (by omega)
def naE (E : Nat -> Ev) (k : Nat) : Nat := (E k).na
def rsE (E : Nat -> Ev) (n k j : Nat) : Nat := (posV E n ((E k).Av j)).toNat
theorem rsE_at {E : Nat -> Ev} {n k j : Nat} (h : roomTo E n = true) (hk : k < n) (hj : j < naE E k) : posV E n ((E k).Av j) = (rsE E n k j : Int) ∧ rsE E n k j < k ∧ (E (rsE E n k j)).id = (E k).Av j := by
 obtain ⟨p, hp, e1, e2⟩ := auth_there h hk hj
 have : rsE E n k j = p := by unfold rsE; rw [e1]; rfl
 rw [this]
 exact ⟨e1, hp, e2⟩
theorem rsE_lt {E : Nat -> Ev} {n : Nat} (h : roomTo E n = true) : ∀ k, k < n -> ∀ j, j < naE E k -> rsE E n k j < k := fun _ hk _ hj => (rsE_at h hk hj).2.1
theorem id_inj {E : Nat -> Ev} {n i j : Nat} (h : roomTo E n = true) (hi : i < n) (hj : j < n) (e : (E i).id = (E j).id) : i = j := by
 have h1 := posV_here h hi
 have h2 := posV_here h hj
 rw [e, h2] at h1
 omega
theorem rr_chn {E : Nat -> Ev} {n k i : Nat} (h : roomTo E n = true) (hk : k < n) (hr : RR (naE E) (rsE E n) k i) : i = k ∨ Chn E n (fun _ => (E k).id) 1 (E i).id := by
 induction hr with
 | refl => exact Or.inl rfl
 | @ext i j hr hj ih =>
  have hi := RR.le (rsE_lt h) hk hr
  have hp := rsE_at h (by omega) hj
  refine Or.inr ?_
  rw [hp.2.2]
  rcases ih with e | hc
  ·subst e; exact Chn.base (Nat.lt_succ_self 0) hk rfl hj
  ·exact Chn.step hc (by omega) rfl hj
theorem chn_rr {E : Nat -> Ev} {n k : Nat} (h : roomTo E n = true) (hk : k < n) {s : ByteArray} (hc : Chn E n (fun _ => (E k).id) 1 s) : ∀ i, i < n -> (E i).id = s -> RR (naE E) (rsE E n) k i := by
 induction hc with
 | @base i0 j p _ hp e hj =>
  intro i hi e2
  have := id_inj h hp hk e
  subst this
  have hq := rsE_at h hp hj
  have : i = rsE E n p j := id_inj h hi (by omega) (e2.trans hq.2.2.symm)
  rw [this]
  exact RR.ext RR.refl hj
 | @step s j p _ hp e hj ih =>
  intro i hi e2
  have hq := rsE_at h hp hj
  have : i = rsE E n p j := id_inj h hi (by omega) (e2.trans hq.2.2.symm)
  rw [this]
  exact RR.ext (ih p hp e) hj
abbrev spC (f : Nat -> Sp) : Nat -> Int := fun i => ((f i).c : Int)
abbrev spQ (f : Nat -> Sp) : Nat -> Int := fun i => ((f i).q : Int)
end Go.Proofs.YtpmebojkkjlkgaaGreat
