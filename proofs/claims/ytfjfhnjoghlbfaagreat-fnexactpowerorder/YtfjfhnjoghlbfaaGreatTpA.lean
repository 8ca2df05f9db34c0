import Derived.Test.YtfjfhnjoghlbfaaGreatGrA
import Derived.Test.YtfjfhnjoghlbfaaGreatOwnB
/-
  Tips: plain functions.
-/
namespace Go.Proofs.YtfjfhnjoghlbfaaGreat
open Go.RowKit

/-- one of the first k events follows s. -/
def folB (E : Nat → Ev) (s : ByteArray) : Nat → Bool
  | 0 => false
  | k + 1 => folB E s k || hasB (E k).Pv (E k).np s
/-- the ids of those among the first m events that are marked. -/
def selL (E : Nat → Ev) (M : Nat → Bool) : Nat → List ByteArray
  | 0 => []
  | m + 1 => if M m then selL E M m ++ [(E m).id] else selL E M m
theorem selL_mem (E : Nat → Ev) (M : Nat → Bool) (s : ByteArray) : ∀ m, s ∈ selL E M m ↔ ∃ i, i < m ∧ M i = true ∧ (E i).id = s
  | 0 => by simp [selL]
  | m + 1 => by
    have ih := selL_mem E M s m
    unfold selL
    split
    · rename_i hM
      rw [List.mem_append, ih, List.mem_singleton]
      constructor
      · rintro (⟨i, hi, h⟩ | rfl)
        · exact ⟨i, by omega, h⟩
        · exact ⟨m, by omega, hM, rfl⟩
      · rintro ⟨i, hi, h1, h2⟩
        by_cases e : i = m
        · subst e; exact Or.inr h2.symm
        · exact Or.inl ⟨i, by omega, h1, h2⟩
    · rename_i hM
      rw [ih]
      constructor
      · rintro ⟨i, hi, h⟩; exact ⟨i, by omega, h⟩
      · rintro ⟨i, hi, h1, h2⟩
        by_cases e : i = m
        · subst e; exact absurd h1 hM
        · exact ⟨i, by omega, h1, h2⟩
theorem selL_len (E : Nat → Ev) (M : Nat → Bool) : ∀ m, (selL E M m).length ≤ m
  | 0 => Nat.le_refl _
  | m + 1 => by
    have := selL_len E M m
    unfold selL
    split
    · simp; exact this
    · omega

theorem room_ins (E : Nat → Ev) : ∀ n k, k < n → roomTo E n = true → insCode E k (E k) = 0
  | 0, _, h, _ => absurd h (Nat.not_lt_zero _)
  | n + 1, k, h, e => by
    unfold roomTo at e
    rw [Bool.and_eq_true] at e
    by_cases hk : k = n
    · subst hk; exact of_decide_eq_true e.2
    · exact room_ins E n k (by omega) e.1
theorem room_300 {E : Nat → Ev} {n : Nat} (h : roomTo E n = true) : n ≤ 300 := by
  rcases Nat.eq_zero_or_pos n with h0 | h0
  · omega
  · have := (ins_fresh (room_ins E n (n - 1) (by omega) h)).2.2
    omega

theorem posV_neg {E : Nat → Ev} {s : ByteArray} : ∀ n, posV E n s < 0 → ∀ i, i < n → ((E i).id.toList == s.toList) = false
  | 0, _, i, hi => absurd hi (Nat.not_lt_zero _)
  | n + 1, h, i, hi => by
    rw [posV_step] at h
    by_cases h0 : 0 ≤ posV E n s
    · rw [if_pos h0] at h; omega
    · rw [if_neg h0] at h
      by_cases e : i = n
      · subst e
        cases hb : ((E i).id.toList == s.toList)
        · rfl
        · rw [hb, if_pos rfl] at h; omega
      · exact posV_neg n (by omega) i (by omega)
theorem posV_found (E : Nat → Ev) (s : ByteArray) : ∀ n, 0 ≤ posV E n s → ∃ i, i < n ∧ posV E n s = (i : Int) ∧ ((E i).id.toList == s.toList) = true
  | 0, h => by simp [posV] at h
  | n + 1, h => by
    rw [posV_step] at h ⊢
    by_cases h0 : 0 ≤ posV E n s
    · rw [if_pos h0]
      obtain ⟨i, hi, e, hb⟩ := posV_found E s n h0
      exact ⟨i, by omega, e, hb⟩
    · rw [if_neg h0] at h ⊢
      cases hb : ((E n).id.toList == s.toList)
      · rw [hb] at h; simp at h
      · exact ⟨n, by omega, by simp, hb⟩
theorem posV_here {E : Nat → Ev} {n i : Nat} (h : roomTo E n = true) (hi : i < n) : posV E n (E i).id = (i : Int) :=
  posV_hit E _ n i hi (posV_neg i (ins_fresh (room_ins E n i hi h)).1) (by simp)
theorem posV_iff {E : Nat → Ev} {n i : Nat} (h : roomTo E n = true) (hi : i < n) (s : ByteArray) : decide (posV E n s = (i : Int)) = (s.toList == (E i).id.toList) := by
  cases hb : (s.toList == (E i).id.toList)
  · refine decide_eq_false fun e => ?_
    obtain ⟨j, _, e2, hb2⟩ := posV_found E s n (by omega)
    have : j = i := by omega
    subst this
    rw [ba_of_toList hb2] at hb
    simp at hb
  · rw [ba_of_toList hb]
    exact decide_eq_true (posV_here h hi)

/-- one of the first p events that e follows has place i. -/
def hitB (E : Nat → Ev) (n : Nat) (e : Ev) (i : Nat) : Nat → Bool
  | 0 => false
  | p + 1 => hitB E n e i p || decide (posV E n (e.Pv p) = (i : Int))
/-- one of the first k events follows the one at place i. -/
def hitTo (E : Nat → Ev) (n i : Nat) : Nat → Bool
  | 0 => false
  | k + 1 => hitTo E n i k || hitB E n (E k) i (E k).np
theorem hitB_has {E : Nat → Ev} {n i : Nat} (h : roomTo E n = true) (hi : i < n) (e : Ev) : ∀ p, hitB E n e i p = hasB e.Pv p (E i).id
  | 0 => rfl
  | p + 1 => by unfold hitB hasB; rw [hitB_has h hi e p, posV_iff h hi]
theorem hitTo_fol {E : Nat → Ev} {n i : Nat} (h : roomTo E n = true) (hi : i < n) : ∀ k, hitTo E n i k = folB E (E i).id k
  | 0 => rfl
  | k + 1 => by unfold hitTo folB; rw [hitTo_fol h hi k, hitB_has h hi]

theorem allTo_at {Kn : ByteArray → Bool} {S : Nat → ByteArray} {n k : Nat} (hk : k < n) (h : allTo Kn S n = true) : Kn (S k) = true := by
  cases hb : Kn (S k)
  · rw [allTo_le Kn S n k hk hb] at h; cases h
  · rfl
/-- in a valid room what an event follows is there, ahead of it. -/
theorem room_prev {E : Nat → Ev} {n k p : Nat} (h : roomTo E n = true) (hk : k < n) (hp : p < (E k).np) : 0 ≤ posV E n ((E k).Pv p) ∧ posV E n ((E k).Pv p) < k := by
  have h1 := allTo_at hp (insC_all ((insC_code E k (E k)).trans (room_ins E n k hk h))).1
  have h2 : 0 ≤ posV E k ((E k).Pv p) := by simpa [knE] using h1
  rw [posV_stay E _ k h2 n (by omega)]
  exact ⟨h2, (posV_bd E _ k).2⟩
theorem room_auth {E : Nat → Ev} {n k p : Nat} (h : roomTo E n = true) (hk : k < n) (hp : p < (E k).na) : 0 ≤ posV E n ((E k).Av p) ∧ posV E n ((E k).Av p) < k ∧ posV E k ((E k).Av p) = posV E n ((E k).Av p) := by
  have h1 := allTo_at hp (insC_all ((insC_code E k (E k)).trans (room_ins E n k hk h))).2
  have h2 : 0 ≤ posV E k ((E k).Av p) := by simpa [knE] using h1
  rw [posV_stay E _ k h2 n (by omega)]
  exact ⟨h2, (posV_bd E _ k).2, rfl⟩

theorem selL_nodup {E : Nat → Ev} {n : Nat} (h : roomTo E n = true) (M : Nat → Bool) : ∀ m, m ≤ n → (selL E M m).Nodup
  | 0, _ => List.nodup_nil
  | m + 1, hm => by
    have ih := selL_nodup h M m (by omega)
    unfold selL
    split
    · refine List.nodup_append.2 ⟨ih, by simp, fun a ha b hb => ?_⟩
      rw [List.mem_singleton] at hb
      subst hb
      rintro rfl
      obtain ⟨i, hi, _, e⟩ := (selL_mem E M _ m).1 ha
      have e1 := posV_here h (show i < n by omega)
      have e2 := posV_here h (show m < n by omega)
      rw [e] at e1
      omega
    · exact ih

theorem blLe_trans (a b c : List UInt8) (h1 : decide (a ≤ b) = true) (h2 : decide (b ≤ c) = true) : decide (a ≤ c) = true :=
  decide_eq_true (List.le_trans (of_decide_eq_true h1) (of_decide_eq_true h2))
theorem blLe_total (a b : List UInt8) : (decide (a ≤ b) || decide (b ≤ a)) = true := by
  rcases List.le_total a b with h | h <;> simp [h]
/-- a list sorted by its bytes. -/
def sortB (l : List ByteArray) : List (List UInt8) := (l.map fun s => s.data.toList).mergeSort fun x y => decide (x ≤ y)
def toB (x : List UInt8) : ByteArray := ⟨x.toArray⟩
theorem sortB_mem (l : List ByteArray) (s : ByteArray) : s ∈ (sortB l).map toB ↔ s ∈ l := by
  unfold sortB
  rw [List.mem_map]
  constructor
  · rintro ⟨x, hx, rfl⟩
    rw [List.mem_mergeSort, List.mem_map] at hx
    obtain ⟨t, ht, rfl⟩ := hx
    have : toB t.data.toList = t := by unfold toB; rw [Array.toArray_toList]
    rw [this]; exact ht
  · intro h
    refine ⟨s.data.toList, by rw [List.mem_mergeSort, List.mem_map]; exact ⟨s, h, rfl⟩, by unfold toB; rw [Array.toArray_toList]⟩
theorem sortB_srt {l : List ByteArray} (h : l.Nodup) : Srt ((sortB l).map toB) := by
  have h1 : (sortB l).Pairwise fun x y => decide (x ≤ y) = true := List.pairwise_mergeSort blLe_trans blLe_total _
  have h2 : (sortB l).Nodup := by
    unfold sortB
    rw [(List.mergeSort_perm _ _).nodup_iff]
    exact List.Pairwise.map _ (fun a b hab e => hab (ba_inj e)) h
  unfold Srt
  rw [List.pairwise_map]
  refine (h1.and h2).imp fun {a b} ⟨hab, hne⟩ => ?_
  show a < b
  rcases List.le_iff_lt_or_eq.1 (of_decide_eq_true hab) with h' | h'
  · exact h'
  · exact absurd h' hne
theorem sortB_len (l : List ByteArray) : (sortB l).length = l.length := by simp [sortB]
end Go.Proofs.YtfjfhnjoghlbfaaGreat
/-
  Chains: plain functions.
-/
namespace Go.Proofs.YtfjfhnjoghlbfaaGreat
open Go.RowKit

/-- what the given ids rest on. -/
inductive Chn (E : Nat → Ev) (n : Nat) (S : Nat → ByteArray) (m : Nat) : ByteArray → Prop
  | base {i k p : Nat} : i < m → p < n → (E p).id = S i → k < (E p).na → Chn E n S m ((E p).Av k)
  | step {s : ByteArray} {k p : Nat} : Chn E n S m s → p < n → (E p).id = s → k < (E p).na → Chn E n S m ((E p).Av k)

/-- one of the first p ids has place j. -/
def hitS (E : Nat → Ev) (n : Nat) (S : Nat → ByteArray) (j : Nat) : Nat → Bool
  | 0 => false
  | p + 1 => hitS E n S j p || decide (posV E n (S p) = (j : Int))
theorem hitS_iff (E : Nat → Ev) (n : Nat) (S : Nat → ByteArray) (j : Nat) : ∀ p, hitS E n S j p = true ↔ ∃ q, q < p ∧ posV E n (S q) = (j : Int)
  | 0 => by simp [hitS]
  | p + 1 => by
    unfold hitS
    rw [Bool.or_eq_true, hitS_iff E n S j p, decide_eq_true_eq]
    constructor
    · rintro (⟨q, hq, e⟩ | e)
      · exact ⟨q, by omega, e⟩
      · exact ⟨p, by omega, e⟩
    · rintro ⟨q, hq, e⟩
      by_cases h : q = p
      · subst h; exact Or.inr e
      · exact Or.inl ⟨q, by omega, e⟩

/-- what is reached behind t events, from the last one on. -/
def rchT (E : Nat → Ev) (n : Nat) (B : Nat → Bool) : Nat → Nat → Bool
  | 0, _ => false
  | t + 1, j => rchT E n B t j || ((B (n - 1 - t) || rchT E n B t (n - 1 - t)) && hitS E n (E (n - 1 - t)).Av j (E (n - 1 - t)).na)
theorem rchT_mono {E : Nat → Ev} {n : Nat} {B : Nat → Bool} {j : Nat} {t : Nat} (h : rchT E n B t j = true) : ∀ t', t ≤ t' → rchT E n B t' j = true
  | 0, h' => by have : t = 0 := by omega
                subst this; exact h
  | t' + 1, h' => by
    by_cases e : t = t' + 1
    · subst e; exact h
    · rw [rchT, rchT_mono h t' (by omega)]; rfl
theorem auth_at {E : Nat → Ev} {n k p j : Nat} (h : roomTo E n = true) (hp : p < n) (hk : k < (E p).na) (e : posV E n ((E p).Av k) = (j : Int)) : j < p ∧ (E j).id = (E p).Av k := by
  obtain ⟨h0, h1, _⟩ := room_auth h hp hk
  obtain ⟨i, hi, e1, hb⟩ := posV_found E ((E p).Av k) n h0
  have : i = j := by omega
  subst this
  exact ⟨by omega, ba_of_toList hb⟩
theorem auth_there {E : Nat → Ev} {n k p : Nat} (h : roomTo E n = true) (hp : p < n) (hk : k < (E p).na) : ∃ j, j < p ∧ posV E n ((E p).Av k) = (j : Int) ∧ (E j).id = (E p).Av k := by
  obtain ⟨h0, h1, _⟩ := room_auth h hp hk
  obtain ⟨i, hi, e1, hb⟩ := posV_found E ((E p).Av k) n h0
  exact ⟨i, by omega, e1, ba_of_toList hb⟩
theorem rchT_late {E : Nat → Ev} {n : Nat} {B : Nat → Bool} {p : Nat} (h : roomTo E n = true) (hp : p < n) : ∀ t, n - 1 - p ≤ t → t ≤ n → rchT E n B t p = rchT E n B (n - 1 - p) p
  | 0, h1, _ => by have : n - 1 - p = 0 := by omega
                   rw [this]
  | t + 1, h1, h2 => by
    by_cases e : n - 1 - p = t + 1
    · rw [e]
    · rw [rchT, rchT_late h hp t (by omega) (by omega)]
      have : hitS E n (E (n - 1 - t)).Av p (E (n - 1 - t)).na = false := by
        cases hb : hitS E n (E (n - 1 - t)).Av p (E (n - 1 - t)).na
        · rfl
        · obtain ⟨q, hq, e2⟩ := (hitS_iff _ _ _ _ _).1 hb
          have := (auth_at h (by omega) hq e2).1
          omega
      rw [this, Bool.and_false, Bool.or_false]
theorem rchT_sound {E : Nat → Ev} {n : Nat} {B : Nat → Bool} {S : Nat → ByteArray} {m : Nat} (h : roomTo E n = true) (hB : ∀ i, i < n → B i = true → ∃ q, q < m ∧ (E i).id = S q) : ∀ t, t ≤ n → ∀ j, rchT E n B t j = true → Chn E n S m (E j).id
  | 0, _, j, e => by cases e
  | t + 1, ht, j, e => by
    rw [rchT, Bool.or_eq_true, Bool.and_eq_true, Bool.or_eq_true] at e
    rcases e with e | ⟨e1, e2⟩
    · exact rchT_sound h hB t (by omega) j e
    · obtain ⟨q, hq, e3⟩ := (hitS_iff _ _ _ _ _).1 e2
      rw [(auth_at h (by omega) hq e3).2]
      rcases e1 with e1 | e1
      · obtain ⟨q', hq', e4⟩ := hB _ (by omega) e1
        exact Chn.base hq' (by omega) e4 hq
      · exact Chn.step (rchT_sound h hB t (by omega) _ e1) (by omega) rfl hq
theorem rchT_done {E : Nat → Ev} {n : Nat} {B : Nat → Bool} {p k j : Nat} (h : roomTo E n = true) (hp : p < n) (hj : j < n) (hk : k < (E p).na) (e : (E j).id = (E p).Av k) (hb : B p = true ∨ rchT E n B n p = true) : rchT E n B n j = true := by
  have hb' : (B p || rchT E n B (n - 1 - p) p) = true := by
    rw [Bool.or_eq_true]
    exact hb.imp id fun h1 => by rw [← rchT_late h hp n (by omega) (Nat.le_refl _)]; exact h1
  refine rchT_mono (t := n - 1 - p + 1) ?_ n (by omega)
  have e1 : n - 1 - (n - 1 - p) = p := by omega
  rw [rchT, e1, hb', (hitS_iff _ _ _ _ _).2 ⟨k, hk, by rw [← e]; exact posV_here h hj⟩]
  simp
theorem rchT_all {E : Nat → Ev} {n : Nat} {B : Nat → Bool} {S : Nat → ByteArray} {m : Nat} (h : roomTo E n = true) (hB : ∀ i q, i < n → q < m → (E i).id = S q → B i = true) {s : ByteArray} (hs : Chn E n S m s) : ∀ j, j < n → (E j).id = s → rchT E n B n j = true := by
  induction hs with
  | base hi hp e hk => exact fun j hj ej => rchT_done h hp hj hk ej (Or.inl (hB _ _ hp hi e))
  | step _ hp e hk ih => exact fun j hj ej => rchT_done h hp hj hk ej (Or.inr (ih _ hp e))
theorem chn_id {E : Nat → Ev} {n : Nat} {S : Nat → ByteArray} {m : Nat} (h : roomTo E n = true) {s : ByteArray} (hs : Chn E n S m s) : ∃ j, j < n ∧ (E j).id = s := by
  cases hs with
  | base hi hp e hk => obtain ⟨j, hj, _, e1⟩ := auth_there h hp hk; exact ⟨j, by omega, e1⟩
  | step _ hp e hk => obtain ⟨j, hj, _, e1⟩ := auth_there h hp hk; exact ⟨j, by omega, e1⟩
/-- the marks that the program's pass leaves are the chain. -/
theorem rchT_chn {E : Nat → Ev} {n : Nat} {S : Nat → ByteArray} {m : Nat} (h : roomTo E n = true) (s : ByteArray) :
    (∃ j, j < n ∧ rchT E n (fun i => hitS E n S i m) n j = true ∧ (E j).id = s) ↔ Chn E n S m s := by
  constructor
  · rintro ⟨j, hj, e, rfl⟩
    refine rchT_sound h (fun i hi hb => ?_) n (Nat.le_refl _) j e
    obtain ⟨q, hq, e1⟩ := (hitS_iff _ _ _ _ _).1 hb
    obtain ⟨i', _, e2, hb2⟩ := posV_found E (S q) n (by omega)
    have : i' = i := by omega
    subst this
    exact ⟨q, hq, ba_of_toList hb2⟩
  · intro hs
    obtain ⟨j, hj, e⟩ := chn_id h hs
    refine ⟨j, hj, rchT_all h (fun i q hi hq e1 => ?_) hs j hj e, e⟩
    exact (hitS_iff _ _ _ _ _).2 ⟨q, hq, by rw [← e1]; exact posV_here h hi⟩

/-! ### the list of the spec -/

/-- x behind l, where l has it not. -/
def addL (l : List ByteArray) (x : ByteArray) : List ByteArray := if hasB (getL l) l.length x then l else l ++ [x]
theorem hasL (l : List ByteArray) (x : ByteArray) : hasB (getL l) l.length x = true ↔ x ∈ l := by
  have := hasB_mem l x l.length (Nat.le_refl _)
  rw [List.take_length] at this
  exact this
def addTo (l : List ByteArray) (A : Nat → ByteArray) : Nat → List ByteArray
  | 0 => l
  | k + 1 => addL (addTo l A k) (A k)
theorem addL_mem (l : List ByteArray) (x s : ByteArray) : s ∈ addL l x ↔ s ∈ l ∨ s = x := by
  unfold addL
  split
  · rename_i h
    exact ⟨Or.inl, fun h' => h'.elim id fun e => e ▸ (hasL l x).1 h⟩
  · simp
theorem addTo_mem (l : List ByteArray) (A : Nat → ByteArray) (s : ByteArray) : ∀ k, s ∈ addTo l A k ↔ s ∈ l ∨ ∃ q, q < k ∧ A q = s
  | 0 => by simp [addTo]
  | k + 1 => by
    rw [addTo, addL_mem, addTo_mem l A s k]
    constructor
    · rintro ((h | ⟨q, hq, e⟩) | rfl)
      · exact Or.inl h
      · exact Or.inr ⟨q, by omega, e⟩
      · exact Or.inr ⟨k, by omega, rfl⟩
    · rintro (h | ⟨q, hq, e⟩)
      · exact Or.inl (Or.inl h)
      · by_cases h : q = k
        · subst h; exact Or.inr e.symm
        · exact Or.inl (Or.inr ⟨q, by omega, e⟩)
theorem addL_nodup {l : List ByteArray} (h : l.Nodup) (x : ByteArray) : (addL l x).Nodup := by
  unfold addL
  split
  · exact h
  · rename_i hx
    refine List.nodup_append.2 ⟨h, by simp, fun a ha b hb => ?_⟩
    rw [List.mem_singleton] at hb
    subst hb
    rintro rfl
    exact hx ((hasL l _).2 ha)
theorem addTo_nodup {l : List ByteArray} (h : l.Nodup) (A : Nat → ByteArray) : ∀ k, (addTo l A k).Nodup
  | 0 => h
  | k + 1 => addL_nodup (addTo_nodup h A k) _
theorem addTo_pre (l : List ByteArray) (A : Nat → ByteArray) : ∀ k, ∃ r, addTo l A k = l ++ r
  | 0 => ⟨[], by simp [addTo]⟩
  | k + 1 => by
    obtain ⟨r, e⟩ := addTo_pre l A k
    rw [addTo, e]
    unfold addL
    split
    · exact ⟨r, rfl⟩
    · exact ⟨r ++ [A k], by simp⟩
theorem addTo_get (l : List ByteArray) (A : Nat → ByteArray) (k : Nat) {i : Nat} (hi : i < l.length) : getL (addTo l A k) i = getL l i := by
  obtain ⟨r, e⟩ := addTo_pre l A k
  rw [e]
  simp [getL, List.getD, List.getElem?_append, hi]
theorem addTo_len (l : List ByteArray) (A : Nat → ByteArray) (k : Nat) : l.length ≤ (addTo l A k).length := by
  obtain ⟨r, e⟩ := addTo_pre l A k
  rw [e]; simp

/-- in the spec's loops: l has no text twice, has what the texts told by P rest on, and nothing else than the chain. -/
structure ChA (E : Nat → Ev) (n : Nat) (S : Nat → ByteArray) (m : Nat) (P : ByteArray → Prop) (l : List ByteArray) : Prop where
  nodup : l.Nodup
  sound : ∀ s, s ∈ l → Chn E n S m s
  closed : ∀ p, p < n → P (E p).id → ∀ k, k < (E p).na → (E p).Av k ∈ l
theorem ids_len {E : Nat → Ev} {n : Nat} {l : List ByteArray} (h : roomTo E n = true) (hn : l.Nodup) (hs : ∀ s, s ∈ l → ∃ j, j < n ∧ (E j).id = s) : l.length ≤ n := by
  have h1 : (l.map fun s => (posV E n s).toNat).Nodup := by
    refine List.pairwise_map.2 (List.Pairwise.imp_of_mem (R := fun a b => a ≠ b) (fun {a b} ha hb hab e => hab ?_) hn)
    obtain ⟨i, hi, rfl⟩ := hs a ha
    obtain ⟨j, hj, rfl⟩ := hs b hb
    rw [posV_here h hi, posV_here h hj] at e
    have : i = j := by simpa using e
    rw [this]
  have := List.Nodup.length_le_of_subset (l₂ := List.range n) h1 (fun x hx => by
    obtain ⟨s, hs', rfl⟩ := List.mem_map.1 hx
    obtain ⟨i, hi, rfl⟩ := hs s hs'
    rw [posV_here h hi]
    exact List.mem_range.2 (by simpa using hi))
  simpa using this
/-- what P told and what p's event rests on. -/
theorem ChA.add {E : Nat → Ev} {n : Nat} {S : Nat → ByteArray} {m : Nat} {P P' : ByteArray → Prop} {l : List ByteArray} (h : ChA E n S m P l) {p : Nat} (hr : roomTo E n = true) (hp : p < n) (hc : ∀ k, k < (E p).na → Chn E n S m ((E p).Av k)) (hP : ∀ s, P' s → P s ∨ s = (E p).id) : ChA E n S m P' (addTo l (E p).Av (E p).na) := by
  refine ⟨addTo_nodup h.nodup _ _, fun s hs => ?_, fun p' hp' hq k hk => ?_⟩
  · rcases (addTo_mem _ _ _ _).1 hs with h1 | ⟨q, hq, rfl⟩
    · exact h.sound s h1
    · exact hc q hq
  · rw [addTo_mem]
    rcases hP _ hq with h1 | h1
    · exact Or.inl (h.closed p' hp' h1 k hk)
    · have e1 := posV_here hr hp'
      have e2 := posV_here hr hp
      rw [h1] at e1
      have : p = p' := by omega
      subst this
      exact Or.inr ⟨k, hk, rfl⟩
theorem ChA.addLen {E : Nat → Ev} {n : Nat} {S : Nat → ByteArray} {m : Nat} {P : ByteArray → Prop} {l : List ByteArray} (h : ChA E n S m P l) {p k : Nat} (hr : roomTo E n = true) (hp : p < n) (hk : k ≤ (E p).na) : (addTo l (E p).Av k).length ≤ n :=
  ids_len hr (addTo_nodup h.nodup _ _) fun s hs => by
    rcases (addTo_mem _ _ _ _).1 hs with h1 | ⟨q, hq, rfl⟩
    · exact chn_id hr (h.sound s h1)
    · obtain ⟨j, hj, _, e⟩ := auth_there hr hp (show q < (E p).na by omega)
      exact ⟨j, by omega, e⟩
theorem ChA.mem {E : Nat → Ev} {n : Nat} {S : Nat → ByteArray} {m : Nat} {l : List ByteArray} (h : ChA E n S m (fun s => (∃ i, i < m ∧ S i = s) ∨ ∃ i, i < l.length ∧ getL l i = s) l) (s : ByteArray) : s ∈ l ↔ Chn E n S m s := by
  refine ⟨h.sound s, fun hs => ?_⟩
  induction hs with
  | base hi hp e hk => exact h.closed _ hp (Or.inl ⟨_, hi, e.symm⟩) _ hk
  | step _ hp e hk ih =>
    obtain ⟨i, hi, e1⟩ := mem_getL ih
    exact h.closed _ hp (Or.inr ⟨i, hi, e1.trans e.symm⟩) _ hk
end Go.Proofs.YtfjfhnjoghlbfaaGreat
/-
  The power of an event and the line of powers: plain functions.
-/
namespace Go.Proofs.YtfjfhnjoghlbfaaGreat
open Go.RowKit

/-- the place of the first event with P among the first j that e rests on, -1 where there is none. -/
def scTo (E : Nat → Ev) (n : Nat) (P : Ev → Bool) (e : Ev) : Nat → Int
  | 0 => -1
  | j + 1 => if 0 ≤ scTo E n P e j then scTo E n P e j else if P (E (posV E n (e.Av j)).toNat) then posV E n (e.Av j) else -1
theorem scTo_miss {E : Nat → Ev} {n : Nat} {P : Ev → Bool} {e : Ev} : ∀ j, (∀ i, i < j → P (E (posV E n (e.Av i)).toNat) = false) → scTo E n P e j = -1
  | 0, _ => rfl
  | j + 1, h => by
    rw [scTo, scTo_miss j (fun i hi => h i (by omega)), if_neg (by omega), h j (by omega)]
    simp
theorem scTo_stay {E : Nat → Ev} {n : Nat} {P : Ev → Bool} {e : Ev} (k : Nat) (hk : 0 ≤ scTo E n P e k) : ∀ j, k ≤ j → scTo E n P e j = scTo E n P e k
  | 0, h => by have : k = 0 := by omega
               subst this; rfl
  | j + 1, h => by
    by_cases ek : k = j + 1
    · subst ek; rfl
    · have := scTo_stay k hk j (by omega)
      rw [scTo, this, if_pos hk]
theorem scTo_hit {E : Nat → Ev} {n : Nat} {P : Ev → Bool} {e : Ev} {j k p : Nat} (hk : k < j) (h0 : ∀ i, i < k → P (E (posV E n (e.Av i)).toNat) = false) (hp : posV E n (e.Av k) = (p : Int)) (h1 : P (E p) = true) : scTo E n P e j = (p : Int) := by
  have e1 : scTo E n P e (k + 1) = (p : Int) := by rw [scTo, scTo_miss k h0, if_neg (by omega), hp, Int.toNat_natCast, h1]; simp
  rw [scTo_stay (k + 1) (by omega) j (by omega), e1]
theorem scTo_case (E : Nat → Ev) (n : Nat) (P : Ev → Bool) (e : Ev) : ∀ j, scTo E n P e j = -1 ∨ ∃ i, i < j ∧ scTo E n P e j = posV E n (e.Av i) ∧ P (E (posV E n (e.Av i)).toNat) = true ∧ (0 ≤ posV E n (e.Av i) ∨ scTo E n P e j < 0)
  | 0 => Or.inl rfl
  | j + 1 => by
    rw [scTo]
    by_cases h0 : 0 ≤ scTo E n P e j
    · rw [if_pos h0]
      rcases scTo_case E n P e j with h | ⟨i, hi, r⟩
      · omega
      · exact Or.inr ⟨i, by omega, r⟩
    · rw [if_neg h0]
      cases hP : P (E (posV E n (e.Av j)).toNat)
      · exact Or.inl (by simp)
      · refine Or.inr ⟨j, by omega, by simp, hP, ?_⟩
        rw [if_pos rfl]
        omega
theorem scTo_bd {E : Nat → Ev} {n p : Nat} {P : Ev → Bool} (h : roomTo E n = true) (hp : p < n) : scTo E n P (E p) (E p).na = -1 ∨ ∃ q, q < p ∧ scTo E n P (E p) (E p).na = (q : Int) ∧ P (E q) = true := by
  rcases scTo_case E n P (E p) (E p).na with h0 | ⟨i, hi, e, hP, _⟩
  · exact Or.inl h0
  · obtain ⟨j, hj, ej, _⟩ := auth_there h hp hi
    refine Or.inr ⟨j, hj, e.trans ej, ?_⟩
    rw [ej, Int.toNat_natCast] at hP
    exact hP
theorem scTo_congr {E : Nat → Ev} {n p : Nat} {P Q : Ev → Bool} (h : roomTo E n = true) (hp : p < n) (hPQ : ∀ i, i < n → P (E i) = Q (E i)) : ∀ j, j ≤ (E p).na → scTo E n P (E p) j = scTo E n Q (E p) j
  | 0, _ => rfl
  | j + 1, hj => by
    rw [scTo, scTo, scTo_congr h hp hPQ j (by omega)]
    obtain ⟨i, hi, e, _⟩ := auth_there h hp (show j < (E p).na by omega)
    rw [e, Int.toNat_natCast, hPQ i (by omega)]

/-- the event is of type power. -/
def isPow (e : Ev) : Bool := e.ty.toList == [112, 111, 119, 101, 114]
/-- the place of an event's power. -/
def pwV (E : Nat → Ev) (n p : Nat) : Int := scTo E n isPow (E p) (E p).na
theorem pwV_bd {E : Nat → Ev} {n p : Nat} (h : roomTo E n = true) (hp : p < n) : -1 ≤ pwV E n p ∧ pwV E n p < p := by
  rcases scTo_bd (P := isPow) h hp with h0 | ⟨q, hq, e, _⟩
  · unfold pwV; omega
  · unfold pwV; omega

/-- the line from place q on. -/
def lnF (E : Nat → Ev) (n : Nat) : Nat → Int → List Nat
  | 0, _ => []
  | f + 1, q => if q < 0 then [] else q.toNat :: lnF E n f (pwV E n q.toNat)
theorem lnF_neg (E : Nat → Ev) (n : Nat) {q : Int} (hq : q < 0) : ∀ f, lnF E n f q = []
  | 0 => rfl
  | f + 1 => by rw [lnF, if_pos hq]
theorem lnF_more {E : Nat → Ev} {n : Nat} (h : roomTo E n = true) : ∀ (f f' : Nat) (q : Int), q < f → q < n → f ≤ f' → lnF E n f' q = lnF E n f q
  | 0, f', q, hq, _, _ => by rw [lnF_neg E n (by omega), lnF_neg E n (by omega)]
  | f + 1, 0, q, _, _, hf => by omega
  | f + 1, f' + 1, q, hq, hn, hf => by
    rw [lnF, lnF]
    by_cases h0 : q < 0
    · rw [if_pos h0, if_pos h0]
    · rw [if_neg h0, if_neg h0]
      have := pwV_bd h (show q.toNat < n by omega)
      rw [lnF_more h f f' _ (by omega) (by omega) (by omega)]
theorem lnF_len (E : Nat → Ev) (n : Nat) : ∀ (f : Nat) (q : Int), (lnF E n f q).length ≤ f
  | 0, _ => Nat.le_refl _
  | f + 1, q => by
    rw [lnF]
    split
    · simp
    · have := lnF_len E n f (pwV E n q.toNat)
      simp; exact this
theorem lnF_mem {E : Nat → Ev} {n : Nat} (h : roomTo E n = true) : ∀ (f : Nat) (q : Int), q < n → ∀ i ∈ lnF E n f q, i < n
  | 0, _, _, i, hi => by simp [lnF] at hi
  | f + 1, q, hq, i, hi => by
    rw [lnF] at hi
    by_cases h0 : q < 0
    · rw [if_pos h0] at hi; cases hi
    · rw [if_neg h0] at hi
      rcases List.mem_cons.1 hi with rfl | hi
      · omega
      · exact lnF_mem h f _ (by have := pwV_bd h (show q.toNat < n by omega); omega) i hi
def ln (E : Nat → Ev) (n : Nat) (q : Int) : List Nat := lnF E n n q
theorem ln_neg (E : Nat → Ev) (n : Nat) {q : Int} (hq : q < 0) : ln E n q = [] := lnF_neg E n hq n
theorem ln_len (E : Nat → Ev) (n : Nat) (q : Int) : (ln E n q).length ≤ n := lnF_len E n n q
theorem ln_mem {E : Nat → Ev} {n : Nat} (h : roomTo E n = true) {q : Int} (hq : q < n) : ∀ i ∈ ln E n q, i < n := lnF_mem h n q hq
theorem ln_cons {E : Nat → Ev} {n p : Nat} (h : roomTo E n = true) (hp : p < n) : ln E n (p : Int) = p :: ln E n (pwV E n p) := by
  obtain ⟨m, rfl⟩ : ∃ m, n = m + 1 := ⟨n - 1, by omega⟩
  have hb := pwV_bd h hp
  unfold ln
  rw [lnF_more h m (m + 1) (pwV E (m + 1) p) (by omega) (by omega) (by omega), lnF, if_neg (by omega), Int.toNat_natCast]

/-- the k-th place of a list, as a number. -/
def lX (l : List Nat) (k : Nat) : Int := ((l.getD k 0 : Nat) : Int)
theorem ln_at {l : List Nat} {k p : Nat} {r : List Nat} (h : l.drop k = p :: r) : lX l k = (p : Int) ∧ l.drop (k + 1) = r ∧ k < l.length := by
  have h1 : l[k]? = some p := by
    have : (l.drop k)[0]? = some p := by rw [h]; rfl
    simpa using this
  refine ⟨by simp [lX, List.getD, h1], ?_, ?_⟩
  · rw [← List.drop_drop, h]; rfl
  · rcases Nat.lt_or_ge k l.length with h' | h'
    · exact h'
    · rw [List.getElem?_eq_none h'] at h1; cases h1
theorem ln_end {l : List Nat} {k : Nat} (h : l.drop k = []) (hk : k ≤ l.length) : k = l.length := by
  have := List.drop_eq_nil_iff.1 h
  omega
theorem lX_lt {l : List Nat} {n k : Nat} (h : ∀ i ∈ l, i < n) (hk : k < l.length) : ∃ p, p < n ∧ lX l k = (p : Int) := by
  refine ⟨l[k], h _ (List.getElem_mem hk), ?_⟩
  simp [lX, List.getD, List.getElem?_eq_getElem hk]

/-- what is known of a well-formed event. -/
theorem ev_id {e : Ev} (h : e.code = 0) : e.id.toList.isEmpty = false := by
  unfold Ev.code evCode at h
  split at h
  · cases h
  rename_i h1
  have hw : isW e.id = true := by
    cases hq : isW e.id
    · exact absurd (Or.inl hq) h1
    · rfl
  unfold isW at hw
  simp only [Bool.and_eq_true, decide_eq_true_eq] at hw
  cases hq : e.id.toList.isEmpty
  · rfl
  · have h0 : e.id.toList = [] := by simpa using hq
    have : e.id.size = 0 := by rw [size_list, h0]; rfl
    omega
theorem ev_pow {e : Ev} (h : e.code = 0) (ht : isPow e = true) : e.st = true ∧ e.key.toList.isEmpty = true := by
  unfold isPow at ht
  unfold Ev.code evCode at h
  split at h
  · cases h
  split at h
  · cases h
  split at h
  · cases h
  split at h
  · cases h
  split at h
  · cases h
  rename_i h5
  have hc : ctB e.ty e.key e.val e.st e.np e.na e.ng e.M e.L = true := by
    cases hq : ctB e.ty e.key e.val e.st e.np e.na e.ng e.M e.L
    · exact absurd hq h5
    · rfl
  have ht' : e.ty.toList = [112, 111, 119, 101, 114] := by simpa using ht
  unfold ctB at hc
  rw [ht'] at hc
  have e1 : (([112, 111, 119, 101, 114] : List UInt8) == [99, 114, 101, 97, 116, 101]) = false := by decide
  have e2 : (([112, 111, 119, 101, 114] : List UInt8) == [109, 101, 109, 98, 101, 114]) = false := by decide
  have e3 : (([112, 111, 119, 101, 114] : List UInt8) == [106, 111, 105, 110, 95, 114, 117, 108, 101, 115]) = false := by decide
  rw [e1, e2, e3] at hc
  simp at hc
  exact ⟨hc.1.1.1, by simp [hc.1.1.2]⟩
theorem room_code {E : Nat → Ev} {n i : Nat} (h : roomTo E n = true) (hi : i < n) : (E i).code = 0 := (ins_fresh (room_ins E n i hi h)).2.1
theorem posV_empty {E : Nat → Ev} {n : Nat} {s : ByteArray} (h : roomTo E n = true) (hs : s.toList.isEmpty = true) : posV E n s = -1 :=
  posV_miss E s n fun i hi => by
    have h1 := ev_id (room_code h hi)
    have h2 : s.toList = [] := by simpa using hs
    rw [h2]
    cases hq : (E i).id.toList
    · rw [hq] at h1; cases h1
    · rfl

/-- Mainline says true. -/
def mlOk (E : Nat → Ev) (n : Nat) (s : ByteArray) : Bool := roomTo E n && (s.toList.isEmpty || (decide (0 ≤ posV E n s) && isPow (E (posV E n s).toNat)))
/-- the places that Mainline gives. -/
def mlL (E : Nat → Ev) (n : Nat) (s : ByteArray) : List Nat := if mlOk E n s then ln E n (posV E n s) else []
/-- what Mainline answers. -/
def MlPost (w : World) (E : Nat → Ev) (n : Nat) (s : ByteArray) (e : Ending) (w' : World) : Prop := Below w.heap.size w w' ∧
  ∃ v, e = .returned (.tuple #[v, .bool (mlOk E n s)]) ∧ OwnT w' w.heap.size v (mlL E n s).length (fun k => (E (lX (mlL E n s) k).toNat).id)
theorem MlPost.no {w : World} {E : Nat → Ev} {n : Nat} {s : ByteArray} {v : Value} {w' : World} (h : mlOk E n s = false) (hb : Below w.heap.size w w') (ho : ∀ S, OwnT w' w.heap.size v 0 S) : MlPost w E n s (.returned (.tuple #[v, .bool false])) w' := by
  refine ⟨hb, v, by rw [h], ?_⟩
  unfold mlL
  rw [h]
  exact ho _
theorem MlPost.yes {w : World} {E : Nat → Ev} {n : Nat} {s : ByteArray} {v : Value} {w' : World} {l : List Nat} (h : mlOk E n s = true) (hl : l = ln E n (posV E n s)) (hb : Below w.heap.size w w') (ho : OwnT w' w.heap.size v l.length (fun k => (E (lX l k).toNat).id)) : MlPost w E n s (.returned (.tuple #[v, .bool true])) w' := by
  refine ⟨hb, v, by rw [h], ?_⟩
  unfold mlL
  rw [h, if_pos rfl, ← hl]
  exact ho
theorem OwnT.mono {w : World} {base base' n : Nat} {v : Value} {S : Nat → ByteArray} (h : OwnT w base v n S) (hb : base' ≤ base) : OwnT w base' v n S := by
  obtain ⟨h1, h2⟩ := h
  exact ⟨h1, h2.imp id fun ⟨g, cap, cur, e, hg, r⟩ => ⟨g, cap, cur, e, Nat.le_trans hb hg, r⟩⟩
theorem OwnT.list {w : World} {base n : Nat} {v : Value} {S : Nat → ByteArray} (h : OwnT w base v n S) : OwnL w base v ((List.range n).map S) := by
  unfold OwnL
  unfold OwnT strs at h
  rw [List.length_map, List.length_range, List.map_map]
  exact h
end Go.Proofs.YtfjfhnjoghlbfaaGreat
/-
  Depths by a mainline and the order by them: plain functions.
-/
namespace Go.Proofs.YtfjfhnjoghlbfaaGreat
open Go.RowKit

/-- the position of p in the line, its length when it is not there. -/
def lnI (line : List Nat) (p : Nat) : Nat := line.findIdx (fun x => x == p)
theorem lnI_le (line : List Nat) (p : Nat) : lnI line p ≤ line.length := List.findIdx_le_length
theorem lnI_hit {line : List Nat} {p k : Nat} (hk : k < line.length) (h0 : ∀ i, i < k → line.getD i 0 ≠ p) (h1 : line.getD k 0 = p) : lnI line p = k := by
  unfold lnI
  rw [List.findIdx_eq hk]
  refine ⟨by simpa [List.getD, List.getElem?_eq_getElem hk] using h1, fun j hj => ?_⟩
  have := h0 j hj
  have hj' : j < line.length := by omega
  simpa [List.getD, List.getElem?_eq_getElem hj'] using this
theorem lnI_miss {line : List Nat} {p : Nat} (h0 : ∀ i, i < line.length → line.getD i 0 ≠ p) : lnI line p = line.length := by
  unfold lnI
  rw [List.findIdx_eq_length]
  intro x hx
  obtain ⟨i, hi, rfl⟩ := List.mem_iff_getElem.1 hx
  have := h0 i hi
  simpa [List.getD, List.getElem?_eq_getElem hi] using this

/-- the depth from place q on. -/
def dpF (E : Nat → Ev) (n : Nat) (line : List Nat) : Nat → Int → Nat
  | 0, _ => line.length
  | f + 1, q => if q < 0 then line.length else if lnI line q.toNat < line.length then lnI line q.toNat else dpF E n line f (pwV E n q.toNat)
theorem dpF_neg (E : Nat → Ev) (n : Nat) (line : List Nat) {q : Int} (hq : q < 0) : ∀ f, dpF E n line f q = line.length
  | 0 => rfl
  | f + 1 => by rw [dpF, if_pos hq]
theorem dpF_more {E : Nat → Ev} {n : Nat} (line : List Nat) (h : roomTo E n = true) : ∀ (f f' : Nat) (q : Int), q < f → q < n → f ≤ f' → dpF E n line f' q = dpF E n line f q
  | 0, f', q, hq, _, _ => by rw [dpF_neg E n line (by omega), dpF_neg E n line (by omega)]
  | f + 1, 0, q, _, _, hf => by omega
  | f + 1, f' + 1, q, hq, hn, hf => by
    rw [dpF, dpF]
    by_cases h0 : q < 0
    · rw [if_pos h0, if_pos h0]
    · rw [if_neg h0, if_neg h0]
      split
      · rfl
      · have := pwV_bd h (show q.toNat < n by omega)
        rw [dpF_more line h f f' _ (by omega) (by omega) (by omega)]
theorem dpF_le (E : Nat → Ev) (n : Nat) (line : List Nat) : ∀ (f : Nat) (q : Int), dpF E n line f q ≤ line.length
  | 0, _ => Nat.le_refl _
  | f + 1, q => by
    rw [dpF]
    split
    · exact Nat.le_refl _
    · split
      · exact lnI_le _ _
      · exact dpF_le E n line f _
def dp (E : Nat → Ev) (n : Nat) (line : List Nat) (q : Int) : Nat := dpF E n line n q
theorem dp_neg (E : Nat → Ev) (n : Nat) (line : List Nat) {q : Int} (hq : q < 0) : dp E n line q = line.length := dpF_neg E n line hq n
theorem dp_le (E : Nat → Ev) (n : Nat) (line : List Nat) (q : Int) : dp E n line q ≤ line.length := dpF_le E n line n q
theorem dp_in {E : Nat → Ev} {n p : Nat} {line : List Nat} (hp : p < n) (h : lnI line p < line.length) : dp E n line (p : Int) = lnI line p := by
  obtain ⟨m, rfl⟩ : ∃ m, n = m + 1 := ⟨n - 1, by omega⟩
  unfold dp
  rw [dpF, if_neg (by omega), Int.toNat_natCast, if_pos h]
theorem dp_step {E : Nat → Ev} {n p : Nat} {line : List Nat} (hr : roomTo E n = true) (hp : p < n) (h : lnI line p = line.length) : dp E n line (p : Int) = dp E n line (pwV E n p) := by
  obtain ⟨m, rfl⟩ : ∃ m, n = m + 1 := ⟨n - 1, by omega⟩
  have hb := pwV_bd hr hp
  unfold dp
  rw [dpF_more line hr m (m + 1) (pwV E (m + 1) p) (by omega) (by omega) (by omega), dpF, if_neg (by omega), Int.toNat_natCast, if_neg (by omega)]

/-- by greater depth, then lesser time, then lesser id. -/
def Bef (E : Nat → Ev) (D : Nat → Nat) (a b : Nat) : Prop := D b < D a ∨ (D a = D b ∧ ((E a).tm < (E b).tm ∨ ((E a).tm = (E b).tm ∧ (E a).id.data.toList < (E b).id.data.toList)))
theorem Bef.irrefl {E : Nat → Ev} {D : Nat → Nat} (a : Nat) : ¬ Bef E D a a := by
  rintro (h | ⟨_, h | ⟨_, h⟩⟩)
  · omega
  · omega
  · exact List.lt_irrefl _ h
theorem Bef.trans {E : Nat → Ev} {D : Nat → Nat} {a b c : Nat} (h1 : Bef E D a b) (h2 : Bef E D b c) : Bef E D a c := by
  rcases h1 with h1 | ⟨e1, h1⟩
  · rcases h2 with h2 | ⟨e2, h2⟩
    · exact Or.inl (by omega)
    · exact Or.inl (by omega)
  · rcases h2 with h2 | ⟨e2, h2⟩
    · exact Or.inl (by omega)
    · refine Or.inr ⟨by omega, ?_⟩
      rcases h1 with h1 | ⟨f1, h1⟩ <;> rcases h2 with h2 | ⟨f2, h2⟩
      · exact Or.inl (by omega)
      · exact Or.inl (by omega)
      · exact Or.inl (by omega)
      · exact Or.inr ⟨by omega, List.lt_trans h1 h2⟩
theorem Bef.asymm {E : Nat → Ev} {D : Nat → Nat} {a b : Nat} (h : Bef E D a b) : ¬ Bef E D b a := fun h' => Bef.irrefl a (h.trans h')
theorem Bef.total {E : Nat → Ev} {D : Nat → Nat} {n a b : Nat} (hr : roomTo E n = true) (ha : a < n) (hb : b < n) (hne : a ≠ b) : Bef E D a b ∨ Bef E D b a := by
  unfold Bef
  by_cases h1 : D b < D a
  · exact Or.inl (Or.inl h1)
  by_cases h2 : D a < D b
  · exact Or.inr (Or.inl h2)
  have e1 : D a = D b := by omega
  by_cases h3 : (E a).tm < (E b).tm
  · exact Or.inl (Or.inr ⟨e1, Or.inl h3⟩)
  by_cases h4 : (E b).tm < (E a).tm
  · exact Or.inr (Or.inr ⟨e1.symm, Or.inl h4⟩)
  have e2 : (E a).tm = (E b).tm := by omega
  have hid : (E a).id.data.toList ≠ (E b).id.data.toList := fun e => hne (by
    have e3 : (E a).id = (E b).id := ba_inj e
    have e4 := posV_here hr ha
    rw [e3, posV_here hr hb] at e4
    omega)
  rcases Nat.lt_or_ge 0 1 with _ | h
  · by_cases h5 : (E a).id.data.toList < (E b).id.data.toList
    · exact Or.inl (Or.inr ⟨e1, Or.inr ⟨e2, h5⟩⟩)
    · rcases List.le_iff_lt_or_eq.1 (List.not_lt.1 h5) with h6 | h6
      · exact Or.inr (Or.inr ⟨e1.symm, Or.inr ⟨e2.symm, h6⟩⟩)
      · exact absurd h6.symm hid
  · omega
/-- two lists of places in order that have the same are the same. -/
theorem bef_unique {E : Nat → Ev} {D : Nat → Nat} {l1 l2 : List Nat} (h1 : l1.Pairwise (Bef E D)) (h2 : l2.Pairwise (Bef E D)) (h : ∀ p, p ∈ l1 ↔ p ∈ l2) : l1 = l2 := by
  have n1 : l1.Nodup := h1.imp fun {a b} hab e => by subst e; exact Bef.irrefl a hab
  have n2 : l2.Nodup := h2.imp fun {a b} hab e => by subst e; exact Bef.irrefl a hab
  exact List.Perm.eq_of_pairwise (le := Bef E D) (fun a b _ _ hab hba => absurd hba hab.asymm) h1 h2 ((List.perm_ext_iff_of_nodup n1 n2).2 h)
end Go.Proofs.YtfjfhnjoghlbfaaGreat
/-
  The order in which events come out: plain.
-/
namespace Go.Proofs.YtfjfhnjoghlbfaaGreat
open Go.RowKit

/-- p rests on q. -/
def Rst (E : Nat → Ev) (n p q : Nat) : Prop := ∃ k, k < (E p).na ∧ posV E n ((E p).Av k) = (q : Int)
/-- all of T that p rests on is out. -/
def Rdy (E : Nat → Ev) (n : Nat) (T : Nat → Prop) (out : List Nat) (p : Nat) : Prop := ∀ q, Rst E n p q → T q → q ∈ out
/-- p is ready. -/
def Cand (E : Nat → Ev) (n : Nat) (T : Nat → Prop) (out : List Nat) (p : Nat) : Prop := T p ∧ p ∉ out ∧ Rdy E n T out p
/-- p comes next. -/
def Nxt (E : Nat → Ev) (n : Nat) (T : Nat → Prop) (D : Nat → Nat) (out : List Nat) (p : Nat) : Prop := Cand E n T out p ∧ ∀ q, Cand E n T out q → q = p ∨ Bef E D p q
/-- each of the list comes next behind those ahead of it. -/
def OrdP (E : Nat → Ev) (n : Nat) (T : Nat → Prop) (D : Nat → Nat) (l : List Nat) : Prop := ∀ k p, l[k]? = some p → Nxt E n T D (l.take k) p

theorem Nxt.uniq {E : Nat → Ev} {n : Nat} {T : Nat → Prop} {D : Nat → Nat} {out : List Nat} {p q : Nat} (h1 : Nxt E n T D out p) (h2 : Nxt E n T D out q) : p = q := by
  rcases h1.2 q h2.1 with h | h
  · exact h.symm
  · rcases h2.2 p h1.1 with h' | h'
    · exact h'
    · exact absurd h' h.asymm
theorem OrdP.nil (E : Nat → Ev) (n : Nat) (T : Nat → Prop) (D : Nat → Nat) : OrdP E n T D [] := fun k p h => by cases h
theorem OrdP.snoc {E : Nat → Ev} {n : Nat} {T : Nat → Prop} {D : Nat → Nat} {l : List Nat} {p : Nat} (h : OrdP E n T D l) (hp : Nxt E n T D l p) : OrdP E n T D (l ++ [p]) := by
  intro k q hk
  rcases Nat.lt_trichotomy k l.length with h1 | h1 | h1
  · rw [List.getElem?_append_left h1] at hk
    rw [List.take_append_of_le_length (by omega)]
    exact h k q hk
  · subst h1
    rw [List.getElem?_append_right (Nat.le_refl _), Nat.sub_self] at hk
    injection hk with hk
    rw [List.take_append_of_le_length (Nat.le_refl _), List.take_length, ← hk]
    exact hp
  · rw [List.getElem?_eq_none (by simp; omega)] at hk; cases hk
theorem OrdP.nodup {E : Nat → Ev} {n : Nat} {T : Nat → Prop} {D : Nat → Nat} {l : List Nat} (h : OrdP E n T D l) : l.Nodup := by
  refine List.pairwise_iff_getElem.2 fun i j hi hj hij e => ?_
  have h1 := (h j l[j] (List.getElem?_eq_getElem hj)).1.2.1
  refine h1 ?_
  rw [← e]
  exact List.mem_iff_getElem.2 ⟨i, by simp; omega, by simp⟩
theorem OrdP.sub {E : Nat → Ev} {n : Nat} {T : Nat → Prop} {D : Nat → Nat} {l : List Nat} (h : OrdP E n T D l) : ∀ p ∈ l, T p := fun p hp => by
  obtain ⟨i, hi, rfl⟩ := List.mem_iff_getElem.1 hp
  exact (h i _ (List.getElem?_eq_getElem hi)).1.1
theorem OrdP.uniq {E : Nat → Ev} {n : Nat} {T : Nat → Prop} {D : Nat → Nat} {l1 l2 : List Nat} (h1 : OrdP E n T D l1) (h2 : OrdP E n T D l2) (c1 : ∀ p, T p → p ∈ l1) (c2 : ∀ p, T p → p ∈ l2) : l1 = l2 := by
  have hl : l1.length = l2.length := ((List.perm_ext_iff_of_nodup h1.nodup h2.nodup).2 fun p => ⟨fun hp => c2 p (h1.sub p hp), fun hp => c1 p (h2.sub p hp)⟩).length_eq
  have ht : ∀ k, l1.take k = l2.take k := by
    intro k
    induction k with
    | zero => rfl
    | succ k ih =>
      rcases Nat.lt_or_ge k l1.length with hk | hk
      · have e : l1[k] = l2[k] := by
          have q1 := h1 k _ (List.getElem?_eq_getElem hk)
          have q2 := h2 k _ (List.getElem?_eq_getElem (by omega : k < l2.length))
          rw [ih] at q1
          exact q1.uniq q2
        rw [List.take_add_one, List.take_add_one, ih, List.getElem?_eq_getElem hk, List.getElem?_eq_getElem (by omega : k < l2.length), e]
      · rw [List.take_of_length_le hk, List.take_of_length_le (by omega)] at ih
        rw [List.take_of_length_le (by omega), List.take_of_length_le (by omega), ih]
  have := ht l1.length
  rw [List.take_length, hl, List.take_length] at this
  exact this
theorem rst_lt {E : Nat → Ev} {n p q : Nat} (hr : roomTo E n = true) (hp : p < n) (h : Rst E n p q) : q < p := by
  obtain ⟨k, hk, e⟩ := h
  exact (auth_at hr hp hk e).1
/-- while something is left, something is ready. -/
theorem cand_ex {E : Nat → Ev} {n : Nat} {T : Nat → Prop} {out : List Nat} (hr : roomTo E n = true) (hT : ∀ p, T p → p < n) : ∀ p, T p → p ∉ out → ∃ q, Cand E n T out q := by
  intro p
  induction p using Nat.strongRecOn with
  | ind p ih =>
    intro h1 h2
    by_cases hc : Rdy E n T out p
    · exact ⟨p, h1, h2, hc⟩
    · unfold Rdy at hc
      obtain ⟨q, hq⟩ := Classical.not_forall.1 hc
      obtain ⟨hr', hq⟩ := Classical.not_imp.1 hq
      obtain ⟨ht, hq⟩ := Classical.not_imp.1 hq
      exact ih q (rst_lt hr (hT p h1) hr') ht hq

theorem Bef.cotrans {E : Nat → Ev} {D : Nat → Nat} {a c : Nat} (b : Nat) (h : Bef E D a c) : Bef E D a b ∨ Bef E D b c := by
  unfold Bef at *
  by_cases h1 : D b < D a
  · exact Or.inl (Or.inl h1)
  by_cases h2 : D c < D b
  · exact Or.inr (Or.inl h2)
  rcases h with h | ⟨e, h⟩
  · omega
  by_cases h3 : (E a).tm < (E b).tm
  · exact Or.inl (Or.inr ⟨by omega, Or.inl h3⟩)
  by_cases h4 : (E b).tm < (E c).tm
  · exact Or.inr (Or.inr ⟨by omega, Or.inl h4⟩)
  rcases h with h | ⟨e2, h⟩
  · omega
  by_cases h5 : (E a).id.data.toList < (E b).id.data.toList
  · exact Or.inl (Or.inr ⟨by omega, Or.inr ⟨by omega, h5⟩⟩)
  · refine Or.inr (Or.inr ⟨by omega, Or.inr ⟨by omega, ?_⟩⟩)
    rcases List.le_iff_lt_or_eq.1 (List.not_lt.1 h5) with h6 | h6
    · exact List.lt_trans h6 h
    · rw [h6]; exact h
theorem nb_trans {E : Nat → Ev} {D : Nat → Nat} {a b c : Nat} (h1 : ¬ Bef E D b a) (h2 : ¬ Bef E D c b) : ¬ Bef E D c a := fun h => (h.cotrans b).elim h2 h1
end Go.Proofs.YtfjfhnjoghlbfaaGreat
/-
  Heaps: plain.
-/
namespace Go.Proofs.YtfjfhnjoghlbfaaGreat
open Go.RowKit

/-- places a and b change. -/
def swN (a b i : Nat) : Nat := if i = a then b else if i = b then a else i
theorem swN_swN (a b i : Nat) : swN a b (swN a b i) = i := by
  unfold swN
  by_cases h1 : i = a
  · subst h1
    rw [if_pos rfl]
    by_cases h2 : b = i
    · rw [if_pos h2]; exact h2
    · rw [if_neg h2, if_pos rfl]
  · rw [if_neg h1]
    by_cases h2 : i = b
    · rw [if_pos h2, if_pos rfl]; exact h2.symm
    · rw [if_neg h2, if_neg h1, if_neg h2]
theorem swN_lt {a b i len : Nat} (ha : a < len) (hb : b < len) (hi : i < len) : swN a b i < len := by
  unfold swN; split
  · exact hb
  · split
    · exact ha
    · exact hi
theorem swN_a (a b : Nat) : swN a b a = b := by unfold swN; rw [if_pos rfl]
theorem swN_b (a b : Nat) : swN a b b = a := by
  unfold swN; split
  · assumption
  · rw [if_pos rfl]
theorem swN_ne {a b i : Nat} (h1 : i ≠ a) (h2 : i ≠ b) : swN a b i = i := by unfold swN; rw [if_neg h1, if_neg h2]
def swX (X : Nat → Nat) (a b i : Nat) : Nat := X (swN a b i)

def MemX (X : Nat → Nat) (len p : Nat) : Prop := ∃ i, i < len ∧ X i = p
def InjX (X : Nat → Nat) (len : Nat) : Prop := ∀ i j, i < len → j < len → X i = X j → i = j
theorem mem_sw {X : Nat → Nat} {a b len p : Nat} (ha : a < len) (hb : b < len) : MemX (swX X a b) len p ↔ MemX X len p := by
  constructor
  · rintro ⟨i, hi, e⟩; exact ⟨swN a b i, swN_lt ha hb hi, e⟩
  · rintro ⟨i, hi, e⟩; exact ⟨swN a b i, swN_lt ha hb hi, by unfold swX; rw [swN_swN]; exact e⟩
theorem inj_sw {X : Nat → Nat} {a b len : Nat} (ha : a < len) (hb : b < len) (h : InjX X len) : InjX (swX X a b) len := fun i j hi hj e => by
  have := h _ _ (swN_lt ha hb hi) (swN_lt ha hb hj) e
  rw [← swN_swN a b i, this, swN_swN]

/-- a heap. -/
def Heap (E : Nat → Ev) (D : Nat → Nat) (len : Nat) (X : Nat → Nat) : Prop := ∀ i, 0 < i → i < len → ¬ Bef E D (X i) (X ((i - 1) / 2))
/-- a heap but for place at, which may be too light. -/
def HUp (E : Nat → Ev) (D : Nat → Nat) (len : Nat) (X : Nat → Nat) (at_ : Nat) : Prop :=
  (∀ i, 0 < i → i < len → i ≠ at_ → ¬ Bef E D (X i) (X ((i - 1) / 2))) ∧ ∀ i, 0 < i → i < len → (i - 1) / 2 = at_ → 0 < at_ → ¬ Bef E D (X i) (X ((at_ - 1) / 2))
/-- a heap but for place at, which may be too heavy. -/
def HDn (E : Nat → Ev) (D : Nat → Nat) (len : Nat) (X : Nat → Nat) (at_ : Nat) : Prop :=
  (∀ i, 0 < i → i < len → (i - 1) / 2 ≠ at_ → ¬ Bef E D (X i) (X ((i - 1) / 2))) ∧ ∀ i, 0 < i → i < len → (i - 1) / 2 = at_ → 0 < at_ → ¬ Bef E D (X i) (X ((at_ - 1) / 2))

theorem hup_start {E : Nat → Ev} {D : Nat → Nat} {len : Nat} {X : Nat → Nat} (h : Heap E D len X) : HUp E D (len + 1) X len :=
  ⟨fun i h0 h1 h2 => h i h0 (by omega), fun i h0 h1 h2 h3 => by omega⟩
theorem hup_top {E : Nat → Ev} {D : Nat → Nat} {len : Nat} {X : Nat → Nat} (h : HUp E D len X 0) : Heap E D len X := fun i h0 h1 => h.1 i h0 h1 (by omega)
theorem hup_stop {E : Nat → Ev} {D : Nat → Nat} {len at_ : Nat} {X : Nat → Nat} (h : HUp E D len X at_) (hb : ¬ Bef E D (X at_) (X ((at_ - 1) / 2))) : Heap E D len X := fun i h0 h1 => by
  by_cases e : i = at_
  · rw [e]; exact hb
  · exact h.1 i h0 h1 e
theorem hup_step {E : Nat → Ev} {D : Nat → Nat} {len at_ : Nat} {X : Nat → Nat} (h : HUp E D len X at_) (h0 : 0 < at_) (hl : at_ < len) (hb : Bef E D (X at_) (X ((at_ - 1) / 2))) : HUp E D len (swX X at_ ((at_ - 1) / 2)) ((at_ - 1) / 2) := by
  obtain ⟨q, hq⟩ : ∃ q, q = (at_ - 1) / 2 := ⟨_, rfl⟩
  rw [← hq] at hb ⊢
  have hqa : q < at_ := by omega
  refine ⟨fun i i0 i1 i2 => ?_, fun i i0 i1 i2 i3 => ?_⟩
  · unfold swX
    by_cases e1 : i = at_
    · subst e1
      rw [swN_a, ← hq, swN_b]
      exact hb.asymm
    · rw [swN_ne e1 i2]
      by_cases e2 : (i - 1) / 2 = at_
      · rw [e2, swN_a, hq]
        exact h.2 i i0 i1 e2 h0
      · by_cases e3 : (i - 1) / 2 = q
        · rw [e3, swN_b]
          have := h.1 i i0 i1 e1
          rw [e3] at this
          exact fun hx => this (hx.trans hb)
        · rw [swN_ne e2 e3]
          exact h.1 i i0 i1 e1
  · unfold swX
    have hq0 : (q - 1) / 2 ≠ at_ := by omega
    have hq1 : (q - 1) / 2 ≠ q := by omega
    rw [swN_ne hq0 hq1]
    have hqq := h.1 q i3 (by omega) (by omega)
    by_cases e1 : i = at_
    · subst e1
      rw [swN_a]
      exact hqq
    · have e2 : i ≠ q := by omega
      rw [swN_ne e1 e2]
      have := h.1 i i0 i1 e1
      rw [i2] at this
      exact nb_trans hqq this

theorem hdn_start {E : Nat → Ev} {D : Nat → Nat} {len : Nat} {X : Nat → Nat} (h : Heap E D (len + 1) X) : HDn E D len (swX X 0 len) 0 := by
  refine ⟨fun i h0 h1 h2 => ?_, fun i h0 h1 h2 h3 => by omega⟩
  unfold swX
  rw [swN_ne (by omega) (by omega), swN_ne h2 (by omega)]
  exact h i h0 (by omega)
theorem hdn_stop {E : Nat → Ev} {D : Nat → Nat} {len at_ : Nat} {X : Nat → Nat} (h : HDn E D len X at_) (h1 : 2 * at_ + 1 < len → ¬ Bef E D (X (2 * at_ + 1)) (X at_)) (h2 : 2 * at_ + 2 < len → ¬ Bef E D (X (2 * at_ + 2)) (X at_)) : Heap E D len X := fun i i0 i1 => by
  by_cases e : (i - 1) / 2 = at_
  · rw [e]
    by_cases e1 : i = 2 * at_ + 1
    · rw [e1]; exact h1 (by omega)
    · have : i = 2 * at_ + 2 := by omega
      rw [this]; exact h2 (by omega)
  · exact h.1 i i0 i1 e
theorem hdn_step {E : Nat → Ev} {D : Nat → Nat} {len at_ c : Nat} {X : Nat → Nat} (h : HDn E D len X at_) (hc : c < len) (hp : (c - 1) / 2 = at_) (c0 : 0 < c) (hb : Bef E D (X c) (X at_)) (hl : ∀ i, 0 < i → i < len → (i - 1) / 2 = at_ → ¬ Bef E D (X i) (X c)) : HDn E D len (swX X at_ c) c := by
  have hca : at_ < c := by omega
  refine ⟨fun i i0 i1 i2 => ?_, fun i i0 i1 i2 i3 => ?_⟩
  · unfold swX
    by_cases e1 : (i - 1) / 2 = at_
    · rw [e1, swN_a]
      by_cases e2 : i = c
      · subst e2; rw [swN_b]; exact hb.asymm
      · have : i ≠ at_ := by omega
        rw [swN_ne this e2]
        exact hl i i0 i1 e1
    · rw [swN_ne e1 i2]
      by_cases e2 : i = at_
      · subst e2
        rw [swN_a]
        exact h.2 c c0 hc hp i0
      · by_cases e3 : i = c
        · subst e3; exact absurd hp e1
        · rw [swN_ne e2 e3]
          exact h.1 i i0 i1 e1
  · unfold swX
    rw [hp, swN_a]
    have e1 : i ≠ at_ := by omega
    have e2 : i ≠ c := by omega
    rw [swN_ne e1 e2]
    have := h.1 i i0 i1 (by omega)
    rw [i2] at this
    exact this

theorem heap_min {E : Nat → Ev} {D : Nat → Nat} {len : Nat} {X : Nat → Nat} (h : Heap E D len X) : ∀ i, i < len → ¬ Bef E D (X i) (X 0) := by
  intro i
  induction i using Nat.strongRecOn with
  | ind i ih =>
    intro hi
    by_cases e : i = 0
    · subst e; exact Bef.irrefl _
    · exact nb_trans (ih ((i - 1) / 2) (by omega) (by omega)) (h i (by omega) hi)
/-- what is left when the first has been taken. -/
theorem mem_pop {X : Nat → Nat} {len p : Nat} (hI : InjX X (len + 1)) : MemX (swX X 0 len) len p ↔ MemX X (len + 1) p ∧ p ≠ X 0 := by
  constructor
  · rintro ⟨i, hi, e⟩
    refine ⟨⟨swN 0 len i, swN_lt (by omega) (by omega) (by omega), e⟩, fun e2 => ?_⟩
    have e3 : swN 0 len i = 0 := hI _ _ (swN_lt (by omega) (by omega) (by omega)) (by omega) (by rw [← e2]; exact e)
    have : i = len := by rw [← swN_swN 0 len i, e3, swN_a]
    omega
  · rintro ⟨⟨i, hi, e⟩, e2⟩
    have hi0 : i ≠ 0 := fun h => e2 (by rw [← e, h])
    refine ⟨swN 0 len i, ?_, by unfold swX; rw [swN_swN]; exact e⟩
    unfold swN
    rw [if_neg hi0]
    split
    · omega
    · omega
theorem inj_less {X : Nat → Nat} {len len' : Nat} (h : InjX X len) (hl : len' ≤ len) : InjX X len' := fun i j hi hj e => h i j (by omega) (by omega) e
end Go.Proofs.YtfjfhnjoghlbfaaGreat
