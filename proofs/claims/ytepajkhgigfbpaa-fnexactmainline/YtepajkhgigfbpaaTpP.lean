/-
  Tips: plain functions.
-/
import Derived.Test.YtepajkhgigfbpaaGrX
import Derived.Test.YtepajkhgigfbpaaOwnL
namespace Go.Proofs.Ytepajkhgigfbpaa
open Go.RowKit

/-- one of the first k events follows s. -/
def folB (E : Nat → Ev) (s : ByteArray) : Nat → Bool
  | 0 => false
  | k + 1 => folB E s k || hasB (E k).Pv (E k).np s
/-- the ids of those among the first m events that are marked. -/
def selL (E : Nat → Ev) (M : Nat → Bool) : Nat → List ByteArray
  | 0 => []
  | m + 1 => if M m then selL E M m ++ [(E m).id] else selL E M m
theorem selL_mem (E : Nat → Ev) (M : Nat → Bool) (s : ByteArray) : ∀ m, s ∈ selL E M m ↔ ∃ i, i < m ∧ M i = true ∧ (E i).id = s
  | 0 => by simp [selL]
  | m + 1 => by
    have ih := selL_mem E M s m
    unfold selL
    split
    · rename_i hM
      rw [List.mem_append, ih, List.mem_singleton]
      constructor
      · rintro (⟨i, hi, h⟩ | rfl)
        · exact ⟨i, by omega, h⟩
        · exact ⟨m, by omega, hM, rfl⟩
      · rintro ⟨i, hi, h1, h2⟩
        by_cases e : i = m
        · subst e; exact Or.inr h2.symm
        · exact Or.inl ⟨i, by omega, h1, h2⟩
    · rename_i hM
      rw [ih]
      constructor
      · rintro ⟨i, hi, h⟩; exact ⟨i, by omega, h⟩
      · rintro ⟨i, hi, h1, h2⟩
        by_cases e : i = m
        · subst e; exact absurd h1 hM
        · exact ⟨i, by omega, h1, h2⟩
theorem selL_len (E : Nat → Ev) (M : Nat → Bool) : ∀ m, (selL E M m).length ≤ m
  | 0 => Nat.le_refl _
  | m + 1 => by
    have := selL_len E M m
    unfold selL
    split
    · simp; exact this
    · omega

theorem room_ins (E : Nat → Ev) : ∀ n k, k < n → roomTo E n = true → insCode E k (E k) = 0
  | 0, _, h, _ => absurd h (Nat.not_lt_zero _)
  | n + 1, k, h, e => by
    unfold roomTo at e
    rw [Bool.and_eq_true] at e
    by_cases hk : k = n
    · subst hk; exact of_decide_eq_true e.2
    · exact room_ins E n k (by omega) e.1
theorem room_300 {E : Nat → Ev} {n : Nat} (h : roomTo E n = true) : n ≤ 300 := by
  rcases Nat.eq_zero_or_pos n with h0 | h0
  · omega
  · have := (ins_fresh (room_ins E n (n - 1) (by omega) h)).2.2
    omega

theorem posV_neg {E : Nat → Ev} {s : ByteArray} : ∀ n, posV E n s < 0 → ∀ i, i < n → ((E i).id.toList == s.toList) = false
  | 0, _, i, hi => absurd hi (Nat.not_lt_zero _)
  | n + 1, h, i, hi => by
    rw [posV_step] at h
    by_cases h0 : 0 ≤ posV E n s
    · rw [if_pos h0] at h; omega
    · rw [if_neg h0] at h
      by_cases e : i = n
      · subst e
        cases hb : ((E i).id.toList == s.toList)
        · rfl
        · rw [hb, if_pos rfl] at h; omega
      · exact posV_neg n (by omega) i (by omega)
theorem posV_found (E : Nat → Ev) (s : ByteArray) : ∀ n, 0 ≤ posV E n s → ∃ i, i < n ∧ posV E n s = (i : Int) ∧ ((E i).id.toList == s.toList) = true
  | 0, h => by simp [posV] at h
  | n + 1, h => by
    rw [posV_step] at h ⊢
    by_cases h0 : 0 ≤ posV E n s
    · rw [if_pos h0]
      obtain ⟨i, hi, e, hb⟩ := posV_found E s n h0
      exact ⟨i, by omega, e, hb⟩
    · rw [if_neg h0] at h ⊢
      cases hb : ((E n).id.toList == s.toList)
      · rw [hb] at h; simp at h
      · exact ⟨n, by omega, by simp, hb⟩
theorem posV_here {E : Nat → Ev} {n i : Nat} (h : roomTo E n = true) (hi : i < n) : posV E n (E i).id = (i : Int) :=
  posV_hit E _ n i hi (posV_neg i (ins_fresh (room_ins E n i hi h)).1) (by simp)
theorem posV_iff {E : Nat → Ev} {n i : Nat} (h : roomTo E n = true) (hi : i < n) (s : ByteArray) : decide (posV E n s = (i : Int)) = (s.toList == (E i).id.toList) := by
  cases hb : (s.toList == (E i).id.toList)
  · refine decide_eq_false fun e => ?_
    obtain ⟨j, _, e2, hb2⟩ := posV_found E s n (by omega)
    have : j = i := by omega
    subst this
    rw [ba_of_toList hb2] at hb
    simp at hb
  · rw [ba_of_toList hb]
    exact decide_eq_true (posV_here h hi)

/-- one of the first p events that e follows has place i. -/
def hitB (E : Nat → Ev) (n : Nat) (e : Ev) (i : Nat) : Nat → Bool
  | 0 => false
  | p + 1 => hitB E n e i p || decide (posV E n (e.Pv p) = (i : Int))
/-- one of the first k events follows the one at place i. -/
def hitTo (E : Nat → Ev) (n i : Nat) : Nat → Bool
  | 0 => false
  | k + 1 => hitTo E n i k || hitB E n (E k) i (E k).np
theorem hitB_has {E : Nat → Ev} {n i : Nat} (h : roomTo E n = true) (hi : i < n) (e : Ev) : ∀ p, hitB E n e i p = hasB e.Pv p (E i).id
  | 0 => rfl
  | p + 1 => by unfold hitB hasB; rw [hitB_has h hi e p, posV_iff h hi]
theorem hitTo_fol {E : Nat → Ev} {n i : Nat} (h : roomTo E n = true) (hi : i < n) : ∀ k, hitTo E n i k = folB E (E i).id k
  | 0 => rfl
  | k + 1 => by unfold hitTo folB; rw [hitTo_fol h hi k, hitB_has h hi]

theorem allTo_at {Kn : ByteArray → Bool} {S : Nat → ByteArray} {n k : Nat} (hk : k < n) (h : allTo Kn S n = true) : Kn (S k) = true := by
  cases hb : Kn (S k)
  · rw [allTo_le Kn S n k hk hb] at h; cases h
  · rfl
/-- in a valid room what an event follows is there, ahead of it. -/
theorem room_prev {E : Nat → Ev} {n k p : Nat} (h : roomTo E n = true) (hk : k < n) (hp : p < (E k).np) : 0 ≤ posV E n ((E k).Pv p) ∧ posV E n ((E k).Pv p) < k := by
  have h1 := allTo_at hp (insC_all ((insC_code E k (E k)).trans (room_ins E n k hk h))).1
  have h2 : 0 ≤ posV E k ((E k).Pv p) := by simpa [knE] using h1
  rw [posV_stay E _ k h2 n (by omega)]
  exact ⟨h2, (posV_bd E _ k).2⟩
theorem room_auth {E : Nat → Ev} {n k p : Nat} (h : roomTo E n = true) (hk : k < n) (hp : p < (E k).na) : 0 ≤ posV E n ((E k).Av p) ∧ posV E n ((E k).Av p) < k ∧ posV E k ((E k).Av p) = posV E n ((E k).Av p) := by
  have h1 := allTo_at hp (insC_all ((insC_code E k (E k)).trans (room_ins E n k hk h))).2
  have h2 : 0 ≤ posV E k ((E k).Av p) := by simpa [knE] using h1
  rw [posV_stay E _ k h2 n (by omega)]
  exact ⟨h2, (posV_bd E _ k).2, rfl⟩

theorem selL_nodup {E : Nat → Ev} {n : Nat} (h : roomTo E n = true) (M : Nat → Bool) : ∀ m, m ≤ n → (selL E M m).Nodup
  | 0, _ => List.nodup_nil
  | m + 1, hm => by
    have ih := selL_nodup h M m (by omega)
    unfold selL
    split
    · refine List.nodup_append.2 ⟨ih, by simp, fun a ha b hb => ?_⟩
      rw [List.mem_singleton] at hb
      subst hb
      rintro rfl
      obtain ⟨i, hi, _, e⟩ := (selL_mem E M _ m).1 ha
      have e1 := posV_here h (show i < n by omega)
      have e2 := posV_here h (show m < n by omega)
      rw [e] at e1
      omega
    · exact ih

theorem blLe_trans (a b c : List UInt8) (h1 : decide (a ≤ b) = true) (h2 : decide (b ≤ c) = true) : decide (a ≤ c) = true :=
  decide_eq_true (List.le_trans (of_decide_eq_true h1) (of_decide_eq_true h2))
theorem blLe_total (a b : List UInt8) : (decide (a ≤ b) || decide (b ≤ a)) = true := by
  rcases List.le_total a b with h | h <;> simp [h]
/-- a list sorted by its bytes. -/
def sortB (l : List ByteArray) : List (List UInt8) := (l.map fun s => s.data.toList).mergeSort fun x y => decide (x ≤ y)
def toB (x : List UInt8) : ByteArray := ⟨x.toArray⟩
theorem sortB_mem (l : List ByteArray) (s : ByteArray) : s ∈ (sortB l).map toB ↔ s ∈ l := by
  unfold sortB
  rw [List.mem_map]
  constructor
  · rintro ⟨x, hx, rfl⟩
    rw [List.mem_mergeSort, List.mem_map] at hx
    obtain ⟨t, ht, rfl⟩ := hx
    have : toB t.data.toList = t := by unfold toB; rw [Array.toArray_toList]
    rw [this]; exact ht
  · intro h
    refine ⟨s.data.toList, by rw [List.mem_mergeSort, List.mem_map]; exact ⟨s, h, rfl⟩, by unfold toB; rw [Array.toArray_toList]⟩
theorem sortB_srt {l : List ByteArray} (h : l.Nodup) : Srt ((sortB l).map toB) := by
  have h1 : (sortB l).Pairwise fun x y => decide (x ≤ y) = true := List.pairwise_mergeSort blLe_trans blLe_total _
  have h2 : (sortB l).Nodup := by
    unfold sortB
    rw [(List.mergeSort_perm _ _).nodup_iff]
    exact List.Pairwise.map _ (fun a b hab e => hab (ba_inj e)) h
  unfold Srt
  rw [List.pairwise_map]
  refine (h1.and h2).imp fun {a b} ⟨hab, hne⟩ => ?_
  show a < b
  rcases List.le_iff_lt_or_eq.1 (of_decide_eq_true hab) with h' | h'
  · exact h'
  · exact absurd h' hne
theorem sortB_len (l : List ByteArray) : (sortB l).length = l.length := by simp [sortB]
end Go.Proofs.Ytepajkhgigfbpaa
