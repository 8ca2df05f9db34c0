import Derived.Test.YtlopjfhdhkonbaaGrA
import Derived.Test.YtlopjfhdhkonbaaOwnL
/-
  Tips: plain functions.
-/
namespace Go.Proofs.Ytlopjfhdhkonbaa
open Go.RowKit

/-- one of the first k events follows s. -/
def folB (E : Nat → Ev) (s : ByteArray) : Nat → Bool
  | 0 => false
  | k + 1 => folB E s k || hasB (E k).Pv (E k).np s
/-- the ids of those among the first m events that are marked. -/
def selL (E : Nat → Ev) (M : Nat → Bool) : Nat → List ByteArray
  | 0 => []
  | m + 1 => if M m then selL E M m ++ [(E m).id] else selL E M m
theorem selL_mem (E : Nat → Ev) (M : Nat → Bool) (s : ByteArray) : ∀ m, s ∈ selL E M m ↔ ∃ i, i < m ∧ M i = true ∧ (E i).id = s
  | 0 => by simp [selL]
  | m + 1 => by
    have ih := selL_mem E M s m
    unfold selL
    split
    · rename_i hM
      rw [List.mem_append, ih, List.mem_singleton]
      constructor
      · rintro (⟨i, hi, h⟩ | rfl)
        · exact ⟨i, by omega, h⟩
        · exact ⟨m, by omega, hM, rfl⟩
      · rintro ⟨i, hi, h1, h2⟩
        by_cases e : i = m
        · subst e; exact Or.inr h2.symm
        · exact Or.inl ⟨i, by omega, h1, h2⟩
    · rename_i hM
      rw [ih]
      constructor
      · rintro ⟨i, hi, h⟩; exact ⟨i, by omega, h⟩
      · rintro ⟨i, hi, h1, h2⟩
        by_cases e : i = m
        · subst e; exact absurd h1 hM
        · exact ⟨i, by omega, h1, h2⟩
theorem selL_len (E : Nat → Ev) (M : Nat → Bool) : ∀ m, (selL E M m).length ≤ m
  | 0 => Nat.le_refl _
  | m + 1 => by
    have := selL_len E M m
    unfold selL
    split
    · simp; exact this
    · omega

theorem room_ins (E : Nat → Ev) : ∀ n k, k < n → roomTo E n = true → insCode E k (E k) = 0
  | 0, _, h, _ => absurd h (Nat.not_lt_zero _)
  | n + 1, k, h, e => by
    unfold roomTo at e
    rw [Bool.and_eq_true] at e
    by_cases hk : k = n
    · subst hk; exact of_decide_eq_true e.2
    · exact room_ins E n k (by omega) e.1
theorem room_300 {E : Nat → Ev} {n : Nat} (h : roomTo E n = true) : n ≤ 300 := by
  rcases Nat.eq_zero_or_pos n with h0 | h0
  · omega
  · have := (ins_fresh (room_ins E n (n - 1) (by omega) h)).2.2
    omega

theorem posV_neg {E : Nat → Ev} {s : ByteArray} : ∀ n, posV E n s < 0 → ∀ i, i < n → ((E i).id.toList == s.toList) = false
  | 0, _, i, hi => absurd hi (Nat.not_lt_zero _)
  | n + 1, h, i, hi => by
    rw [posV_step] at h
    by_cases h0 : 0 ≤ posV E n s
    · rw [if_pos h0] at h; omega
    · rw [if_neg h0] at h
      by_cases e : i = n
      · subst e
        cases hb : ((E i).id.toList == s.toList)
        · rfl
        · rw [hb, if_pos rfl] at h; omega
      · exact posV_neg n (by omega) i (by omega)
theorem posV_found (E : Nat → Ev) (s : ByteArray) : ∀ n, 0 ≤ posV E n s → ∃ i, i < n ∧ posV E n s = (i : Int) ∧ ((E i).id.toList == s.toList) = true
  | 0, h => by simp [posV] at h
  | n + 1, h => by
    rw [posV_step] at h ⊢
    by_cases h0 : 0 ≤ posV E n s
    · rw [if_pos h0]
      obtain ⟨i, hi, e, hb⟩ := posV_found E s n h0
      exact ⟨i, by omega, e, hb⟩
    · rw [if_neg h0] at h ⊢
      cases hb : ((E n).id.toList == s.toList)
      · rw [hb] at h; simp at h
      · exact ⟨n, by omega, by simp, hb⟩
theorem posV_here {E : Nat → Ev} {n i : Nat} (h : roomTo E n = true) (hi : i < n) : posV E n (E i).id = (i : Int) :=
  posV_hit E _ n i hi (posV_neg i (ins_fresh (room_ins E n i hi h)).1) (by simp)
theorem posV_iff {E : Nat → Ev} {n i : Nat} (h : roomTo E n = true) (hi : i < n) (s : ByteArray) : decide (posV E n s = (i : Int)) = (s.toList == (E i).id.toList) := by
  cases hb : (s.toList == (E i).id.toList)
  · refine decide_eq_false fun e => ?_
    obtain ⟨j, _, e2, hb2⟩ := posV_found E s n (by omega)
    have : j = i := by omega
    subst this
    rw [ba_of_toList hb2] at hb
    simp at hb
  · rw [ba_of_toList hb]
    exact decide_eq_true (posV_here h hi)

/-- one of the first p events that e follows has place i. -/
def hitB (E : Nat → Ev) (n : Nat) (e : Ev) (i : Nat) : Nat → Bool
  | 0 => false
  | p + 1 => hitB E n e i p || decide (posV E n (e.Pv p) = (i : Int))
/-- one of the first k events follows the one at place i. -/
def hitTo (E : Nat → Ev) (n i : Nat) : Nat → Bool
  | 0 => false
  | k + 1 => hitTo E n i k || hitB E n (E k) i (E k).np
theorem hitB_has {E : Nat → Ev} {n i : Nat} (h : roomTo E n = true) (hi : i < n) (e : Ev) : ∀ p, hitB E n e i p = hasB e.Pv p (E i).id
  | 0 => rfl
  | p + 1 => by unfold hitB hasB; rw [hitB_has h hi e p, posV_iff h hi]
theorem hitTo_fol {E : Nat → Ev} {n i : Nat} (h : roomTo E n = true) (hi : i < n) : ∀ k, hitTo E n i k = folB E (E i).id k
  | 0 => rfl
  | k + 1 => by unfold hitTo folB; rw [hitTo_fol h hi k, hitB_has h hi]

theorem allTo_at {Kn : ByteArray → Bool} {S : Nat → ByteArray} {n k : Nat} (hk : k < n) (h : allTo Kn S n = true) : Kn (S k) = true := by
  cases hb : Kn (S k)
  · rw [allTo_le Kn S n k hk hb] at h; cases h
  · rfl
/-- in a valid room what an event follows is there, ahead of it. -/
theorem room_prev {E : Nat → Ev} {n k p : Nat} (h : roomTo E n = true) (hk : k < n) (hp : p < (E k).np) : 0 ≤ posV E n ((E k).Pv p) ∧ posV E n ((E k).Pv p) < k := by
  have h1 := allTo_at hp (insC_all ((insC_code E k (E k)).trans (room_ins E n k hk h))).1
  have h2 : 0 ≤ posV E k ((E k).Pv p) := by simpa [knE] using h1
  rw [posV_stay E _ k h2 n (by omega)]
  exact ⟨h2, (posV_bd E _ k).2⟩
theorem room_auth {E : Nat → Ev} {n k p : Nat} (h : roomTo E n = true) (hk : k < n) (hp : p < (E k).na) : 0 ≤ posV E n ((E k).Av p) ∧ posV E n ((E k).Av p) < k ∧ posV E k ((E k).Av p) = posV E n ((E k).Av p) := by
  have h1 := allTo_at hp (insC_all ((insC_code E k (E k)).trans (room_ins E n k hk h))).2
  have h2 : 0 ≤ posV E k ((E k).Av p) := by simpa [knE] using h1
  rw [posV_stay E _ k h2 n (by omega)]
  exact ⟨h2, (posV_bd E _ k).2, rfl⟩

theorem selL_nodup {E : Nat → Ev} {n : Nat} (h : roomTo E n = true) (M : Nat → Bool) : ∀ m, m ≤ n → (selL E M m).Nodup
  | 0, _ => List.nodup_nil
  | m + 1, hm => by
    have ih := selL_nodup h M m (by omega)
    unfold selL
    split
    · refine List.nodup_append.2 ⟨ih, by simp, fun a ha b hb => ?_⟩
      rw [List.mem_singleton] at hb
      subst hb
      rintro rfl
      obtain ⟨i, hi, _, e⟩ := (selL_mem E M _ m).1 ha
      have e1 := posV_here h (show i < n by omega)
      have e2 := posV_here h (show m < n by omega)
      rw [e] at e1
      omega
    · exact ih

theorem blLe_trans (a b c : List UInt8) (h1 : decide (a ≤ b) = true) (h2 : decide (b ≤ c) = true) : decide (a ≤ c) = true :=
  decide_eq_true (List.le_trans (of_decide_eq_true h1) (of_decide_eq_true h2))
theorem blLe_total (a b : List UInt8) : (decide (a ≤ b) || decide (b ≤ a)) = true := by
  rcases List.le_total a b with h | h <;> simp [h]
/-- a list sorted by its bytes. -/
def sortB (l : List ByteArray) : List (List UInt8) := (l.map fun s => s.data.toList).mergeSort fun x y => decide (x ≤ y)
def toB (x : List UInt8) : ByteArray := ⟨x.toArray⟩
theorem sortB_mem (l : List ByteArray) (s : ByteArray) : s ∈ (sortB l).map toB ↔ s ∈ l := by
  unfold sortB
  rw [List.mem_map]
  constructor
  · rintro ⟨x, hx, rfl⟩
    rw [List.mem_mergeSort, List.mem_map] at hx
    obtain ⟨t, ht, rfl⟩ := hx
    have : toB t.data.toList = t := by unfold toB; rw [Array.toArray_toList]
    rw [this]; exact ht
  · intro h
    refine ⟨s.data.toList, by rw [List.mem_mergeSort, List.mem_map]; exact ⟨s, h, rfl⟩, by unfold toB; rw [Array.toArray_toList]⟩
theorem sortB_srt {l : List ByteArray} (h : l.Nodup) : Srt ((sortB l).map toB) := by
  have h1 : (sortB l).Pairwise fun x y => decide (x ≤ y) = true := List.pairwise_mergeSort blLe_trans blLe_total _
  have h2 : (sortB l).Nodup := by
    unfold sortB
    rw [(List.mergeSort_perm _ _).nodup_iff]
    exact List.Pairwise.map _ (fun a b hab e => hab (ba_inj e)) h
  unfold Srt
  rw [List.pairwise_map]
  refine (h1.and h2).imp fun {a b} ⟨hab, hne⟩ => ?_
  show a < b
  rcases List.le_iff_lt_or_eq.1 (of_decide_eq_true hab) with h' | h'
  · exact h'
  · exact absurd h' hne
theorem sortB_len (l : List ByteArray) : (sortB l).length = l.length := by simp [sortB]
end Go.Proofs.Ytlopjfhdhkonbaa
/-
  Chains: plain functions.
-/
namespace Go.Proofs.Ytlopjfhdhkonbaa
open Go.RowKit

/-- what the given ids rest on. -/
inductive Chn (E : Nat → Ev) (n : Nat) (S : Nat → ByteArray) (m : Nat) : ByteArray → Prop
  | base {i k p : Nat} : i < m → p < n → (E p).id = S i → k < (E p).na → Chn E n S m ((E p).Av k)
  | step {s : ByteArray} {k p : Nat} : Chn E n S m s → p < n → (E p).id = s → k < (E p).na → Chn E n S m ((E p).Av k)

/-- one of the first p ids has place j. -/
def hitS (E : Nat → Ev) (n : Nat) (S : Nat → ByteArray) (j : Nat) : Nat → Bool
  | 0 => false
  | p + 1 => hitS E n S j p || decide (posV E n (S p) = (j : Int))
theorem hitS_iff (E : Nat → Ev) (n : Nat) (S : Nat → ByteArray) (j : Nat) : ∀ p, hitS E n S j p = true ↔ ∃ q, q < p ∧ posV E n (S q) = (j : Int)
  | 0 => by simp [hitS]
  | p + 1 => by
    unfold hitS
    rw [Bool.or_eq_true, hitS_iff E n S j p, decide_eq_true_eq]
    constructor
    · rintro (⟨q, hq, e⟩ | e)
      · exact ⟨q, by omega, e⟩
      · exact ⟨p, by omega, e⟩
    · rintro ⟨q, hq, e⟩
      by_cases h : q = p
      · subst h; exact Or.inr e
      · exact Or.inl ⟨q, by omega, e⟩

/-- what is reached behind t events, from the last one on. -/
def rchT (E : Nat → Ev) (n : Nat) (B : Nat → Bool) : Nat → Nat → Bool
  | 0, _ => false
  | t + 1, j => rchT E n B t j || ((B (n - 1 - t) || rchT E n B t (n - 1 - t)) && hitS E n (E (n - 1 - t)).Av j (E (n - 1 - t)).na)
theorem rchT_mono {E : Nat → Ev} {n : Nat} {B : Nat → Bool} {j : Nat} {t : Nat} (h : rchT E n B t j = true) : ∀ t', t ≤ t' → rchT E n B t' j = true
  | 0, h' => by have : t = 0 := by omega
                subst this; exact h
  | t' + 1, h' => by
    by_cases e : t = t' + 1
    · subst e; exact h
    · rw [rchT, rchT_mono h t' (by omega)]; rfl
theorem auth_at {E : Nat → Ev} {n k p j : Nat} (h : roomTo E n = true) (hp : p < n) (hk : k < (E p).na) (e : posV E n ((E p).Av k) = (j : Int)) : j < p ∧ (E j).id = (E p).Av k := by
  obtain ⟨h0, h1, _⟩ := room_auth h hp hk
  obtain ⟨i, hi, e1, hb⟩ := posV_found E ((E p).Av k) n h0
  have : i = j := by omega
  subst this
  exact ⟨by omega, ba_of_toList hb⟩
theorem auth_there {E : Nat → Ev} {n k p : Nat} (h : roomTo E n = true) (hp : p < n) (hk : k < (E p).na) : ∃ j, j < p ∧ posV E n ((E p).Av k) = (j : Int) ∧ (E j).id = (E p).Av k := by
  obtain ⟨h0, h1, _⟩ := room_auth h hp hk
  obtain ⟨i, hi, e1, hb⟩ := posV_found E ((E p).Av k) n h0
  exact ⟨i, by omega, e1, ba_of_toList hb⟩
theorem rchT_late {E : Nat → Ev} {n : Nat} {B : Nat → Bool} {p : Nat} (h : roomTo E n = true) (hp : p < n) : ∀ t, n - 1 - p ≤ t → t ≤ n → rchT E n B t p = rchT E n B (n - 1 - p) p
  | 0, h1, _ => by have : n - 1 - p = 0 := by omega
                   rw [this]
  | t + 1, h1, h2 => by
    by_cases e : n - 1 - p = t + 1
    · rw [e]
    · rw [rchT, rchT_late h hp t (by omega) (by omega)]
      have : hitS E n (E (n - 1 - t)).Av p (E (n - 1 - t)).na = false := by
        cases hb : hitS E n (E (n - 1 - t)).Av p (E (n - 1 - t)).na
        · rfl
        · obtain ⟨q, hq, e2⟩ := (hitS_iff _ _ _ _ _).1 hb
          have := (auth_at h (by omega) hq e2).1
          omega
      rw [this, Bool.and_false, Bool.or_false]
theorem rchT_sound {E : Nat → Ev} {n : Nat} {B : Nat → Bool} {S : Nat → ByteArray} {m : Nat} (h : roomTo E n = true) (hB : ∀ i, i < n → B i = true → ∃ q, q < m ∧ (E i).id = S q) : ∀ t, t ≤ n → ∀ j, rchT E n B t j = true → Chn E n S m (E j).id
  | 0, _, j, e => by cases e
  | t + 1, ht, j, e => by
    rw [rchT, Bool.or_eq_true, Bool.and_eq_true, Bool.or_eq_true] at e
    rcases e with e | ⟨e1, e2⟩
    · exact rchT_sound h hB t (by omega) j e
    · obtain ⟨q, hq, e3⟩ := (hitS_iff _ _ _ _ _).1 e2
      rw [(auth_at h (by omega) hq e3).2]
      rcases e1 with e1 | e1
      · obtain ⟨q', hq', e4⟩ := hB _ (by omega) e1
        exact Chn.base hq' (by omega) e4 hq
      · exact Chn.step (rchT_sound h hB t (by omega) _ e1) (by omega) rfl hq
theorem rchT_done {E : Nat → Ev} {n : Nat} {B : Nat → Bool} {p k j : Nat} (h : roomTo E n = true) (hp : p < n) (hj : j < n) (hk : k < (E p).na) (e : (E j).id = (E p).Av k) (hb : B p = true ∨ rchT E n B n p = true) : rchT E n B n j = true := by
  have hb' : (B p || rchT E n B (n - 1 - p) p) = true := by
    rw [Bool.or_eq_true]
    exact hb.imp id fun h1 => by rw [← rchT_late h hp n (by omega) (Nat.le_refl _)]; exact h1
  refine rchT_mono (t := n - 1 - p + 1) ?_ n (by omega)
  have e1 : n - 1 - (n - 1 - p) = p := by omega
  rw [rchT, e1, hb', (hitS_iff _ _ _ _ _).2 ⟨k, hk, by rw [← e]; exact posV_here h hj⟩]
  simp
theorem rchT_all {E : Nat → Ev} {n : Nat} {B : Nat → Bool} {S : Nat → ByteArray} {m : Nat} (h : roomTo E n = true) (hB : ∀ i q, i < n → q < m → (E i).id = S q → B i = true) {s : ByteArray} (hs : Chn E n S m s) : ∀ j, j < n → (E j).id = s → rchT E n B n j = true := by
  induction hs with
  | base hi hp e hk => exact fun j hj ej => rchT_done h hp hj hk ej (Or.inl (hB _ _ hp hi e))
  | step _ hp e hk ih => exact fun j hj ej => rchT_done h hp hj hk ej (Or.inr (ih _ hp e))
theorem chn_id {E : Nat → Ev} {n : Nat} {S : Nat → ByteArray} {m : Nat} (h : roomTo E n = true) {s : ByteArray} (hs : Chn E n S m s) : ∃ j, j < n ∧ (E j).id = s := by
  cases hs with
  | base hi hp e hk => obtain ⟨j, hj, _, e1⟩ := auth_there h hp hk; exact ⟨j, by omega, e1⟩
  | step _ hp e hk => obtain ⟨j, hj, _, e1⟩ := auth_there h hp hk; exact ⟨j, by omega, e1⟩
/-- the marks that the program's pass leaves are the chain. -/
theorem rchT_chn {E : Nat → Ev} {n : Nat} {S : Nat → ByteArray} {m : Nat} (h : roomTo E n = true) (s : ByteArray) :
    (∃ j, j < n ∧ rchT E n (fun i => hitS E n S i m) n j = true ∧ (E j).id = s) ↔ Chn E n S m s := by
  constructor
  · rintro ⟨j, hj, e, rfl⟩
    refine rchT_sound h (fun i hi hb => ?_) n (Nat.le_refl _) j e
    obtain ⟨q, hq, e1⟩ := (hitS_iff _ _ _ _ _).1 hb
    obtain ⟨i', _, e2, hb2⟩ := posV_found E (S q) n (by omega)
    have : i' = i := by omega
    subst this
    exact ⟨q, hq, ba_of_toList hb2⟩
  · intro hs
    obtain ⟨j, hj, e⟩ := chn_id h hs
    refine ⟨j, hj, rchT_all h (fun i q hi hq e1 => ?_) hs j hj e, e⟩
    exact (hitS_iff _ _ _ _ _).2 ⟨q, hq, by rw [← e1]; exact posV_here h hi⟩

/-! ### the list of the spec -/

/-- x behind l, where l has it not. -/
def addL (l : List ByteArray) (x : ByteArray) : List ByteArray := if hasB (getL l) l.length x then l else l ++ [x]
theorem hasL (l : List ByteArray) (x : ByteArray) : hasB (getL l) l.length x = true ↔ x ∈ l := by
  have := hasB_mem l x l.length (Nat.le_refl _)
  rw [List.take_length] at this
  exact this
def addTo (l : List ByteArray) (A : Nat → ByteArray) : Nat → List ByteArray
  | 0 => l
  | k + 1 => addL (addTo l A k) (A k)
theorem addL_mem (l : List ByteArray) (x s : ByteArray) : s ∈ addL l x ↔ s ∈ l ∨ s = x := by
  unfold addL
  split
  · rename_i h
    exact ⟨Or.inl, fun h' => h'.elim id fun e => e ▸ (hasL l x).1 h⟩
  · simp
theorem addTo_mem (l : List ByteArray) (A : Nat → ByteArray) (s : ByteArray) : ∀ k, s ∈ addTo l A k ↔ s ∈ l ∨ ∃ q, q < k ∧ A q = s
  | 0 => by simp [addTo]
  | k + 1 => by
    rw [addTo, addL_mem, addTo_mem l A s k]
    constructor
    · rintro ((h | ⟨q, hq, e⟩) | rfl)
      · exact Or.inl h
      · exact Or.inr ⟨q, by omega, e⟩
      · exact Or.inr ⟨k, by omega, rfl⟩
    · rintro (h | ⟨q, hq, e⟩)
      · exact Or.inl (Or.inl h)
      · by_cases h : q = k
        · subst h; exact Or.inr e.symm
        · exact Or.inl (Or.inr ⟨q, by omega, e⟩)
theorem addL_nodup {l : List ByteArray} (h : l.Nodup) (x : ByteArray) : (addL l x).Nodup := by
  unfold addL
  split
  · exact h
  · rename_i hx
    refine List.nodup_append.2 ⟨h, by simp, fun a ha b hb => ?_⟩
    rw [List.mem_singleton] at hb
    subst hb
    rintro rfl
    exact hx ((hasL l _).2 ha)
theorem addTo_nodup {l : List ByteArray} (h : l.Nodup) (A : Nat → ByteArray) : ∀ k, (addTo l A k).Nodup
  | 0 => h
  | k + 1 => addL_nodup (addTo_nodup h A k) _
theorem addTo_pre (l : List ByteArray) (A : Nat → ByteArray) : ∀ k, ∃ r, addTo l A k = l ++ r
  | 0 => ⟨[], by simp [addTo]⟩
  | k + 1 => by
    obtain ⟨r, e⟩ := addTo_pre l A k
    rw [addTo, e]
    unfold addL
    split
    · exact ⟨r, rfl⟩
    · exact ⟨r ++ [A k], by simp⟩
theorem addTo_get (l : List ByteArray) (A : Nat → ByteArray) (k : Nat) {i : Nat} (hi : i < l.length) : getL (addTo l A k) i = getL l i := by
  obtain ⟨r, e⟩ := addTo_pre l A k
  rw [e]
  simp [getL, List.getD, List.getElem?_append, hi]
theorem addTo_len (l : List ByteArray) (A : Nat → ByteArray) (k : Nat) : l.length ≤ (addTo l A k).length := by
  obtain ⟨r, e⟩ := addTo_pre l A k
  rw [e]; simp

/-- in the spec's loops: l has no text twice, has what the texts told by P rest on, and nothing else than the chain. -/
structure ChA (E : Nat → Ev) (n : Nat) (S : Nat → ByteArray) (m : Nat) (P : ByteArray → Prop) (l : List ByteArray) : Prop where
  nodup : l.Nodup
  sound : ∀ s, s ∈ l → Chn E n S m s
  closed : ∀ p, p < n → P (E p).id → ∀ k, k < (E p).na → (E p).Av k ∈ l
theorem ids_len {E : Nat → Ev} {n : Nat} {l : List ByteArray} (h : roomTo E n = true) (hn : l.Nodup) (hs : ∀ s, s ∈ l → ∃ j, j < n ∧ (E j).id = s) : l.length ≤ n := by
  have h1 : (l.map fun s => (posV E n s).toNat).Nodup := by
    refine List.pairwise_map.2 (List.Pairwise.imp_of_mem (R := fun a b => a ≠ b) (fun {a b} ha hb hab e => hab ?_) hn)
    obtain ⟨i, hi, rfl⟩ := hs a ha
    obtain ⟨j, hj, rfl⟩ := hs b hb
    rw [posV_here h hi, posV_here h hj] at e
    have : i = j := by simpa using e
    rw [this]
  have := List.Nodup.length_le_of_subset (l₂ := List.range n) h1 (fun x hx => by
    obtain ⟨s, hs', rfl⟩ := List.mem_map.1 hx
    obtain ⟨i, hi, rfl⟩ := hs s hs'
    rw [posV_here h hi]
    exact List.mem_range.2 (by simpa using hi))
  simpa using this
/-- what P told and what p's event rests on. -/
theorem ChA.add {E : Nat → Ev} {n : Nat} {S : Nat → ByteArray} {m : Nat} {P P' : ByteArray → Prop} {l : List ByteArray} (h : ChA E n S m P l) {p : Nat} (hr : roomTo E n = true) (hp : p < n) (hc : ∀ k, k < (E p).na → Chn E n S m ((E p).Av k)) (hP : ∀ s, P' s → P s ∨ s = (E p).id) : ChA E n S m P' (addTo l (E p).Av (E p).na) := by
  refine ⟨addTo_nodup h.nodup _ _, fun s hs => ?_, fun p' hp' hq k hk => ?_⟩
  · rcases (addTo_mem _ _ _ _).1 hs with h1 | ⟨q, hq, rfl⟩
    · exact h.sound s h1
    · exact hc q hq
  · rw [addTo_mem]
    rcases hP _ hq with h1 | h1
    · exact Or.inl (h.closed p' hp' h1 k hk)
    · have e1 := posV_here hr hp'
      have e2 := posV_here hr hp
      rw [h1] at e1
      have : p = p' := by omega
      subst this
      exact Or.inr ⟨k, hk, rfl⟩
theorem ChA.addLen {E : Nat → Ev} {n : Nat} {S : Nat → ByteArray} {m : Nat} {P : ByteArray → Prop} {l : List ByteArray} (h : ChA E n S m P l) {p k : Nat} (hr : roomTo E n = true) (hp : p < n) (hk : k ≤ (E p).na) : (addTo l (E p).Av k).length ≤ n :=
  ids_len hr (addTo_nodup h.nodup _ _) fun s hs => by
    rcases (addTo_mem _ _ _ _).1 hs with h1 | ⟨q, hq, rfl⟩
    · exact chn_id hr (h.sound s h1)
    · obtain ⟨j, hj, _, e⟩ := auth_there hr hp (show q < (E p).na by omega)
      exact ⟨j, by omega, e⟩
theorem ChA.mem {E : Nat → Ev} {n : Nat} {S : Nat → ByteArray} {m : Nat} {l : List ByteArray} (h : ChA E n S m (fun s => (∃ i, i < m ∧ S i = s) ∨ ∃ i, i < l.length ∧ getL l i = s) l) (s : ByteArray) : s ∈ l ↔ Chn E n S m s := by
  refine ⟨h.sound s, fun hs => ?_⟩
  induction hs with
  | base hi hp e hk => exact h.closed _ hp (Or.inl ⟨_, hi, e.symm⟩) _ hk
  | step _ hp e hk ih =>
    obtain ⟨i, hi, e1⟩ := mem_getL ih
    exact h.closed _ hp (Or.inr ⟨i, hi, e1.trans e.symm⟩) _ hk
end Go.Proofs.Ytlopjfhdhkonbaa
