/-
  Chains: plain functions.
-/
import Derived.Test.YtepajkhgigfbpaaTpP
namespace Go.Proofs.Ytepajkhgigfbpaa
open Go.RowKit

/-- what the given ids rest on. -/
inductive Chn (E : Nat → Ev) (n : Nat) (S : Nat → ByteArray) (m : Nat) : ByteArray → Prop
  | base {i k p : Nat} : i < m → p < n → (E p).id = S i → k < (E p).na → Chn E n S m ((E p).Av k)
  | step {s : ByteArray} {k p : Nat} : Chn E n S m s → p < n → (E p).id = s → k < (E p).na → Chn E n S m ((E p).Av k)

/-- one of the first p ids has place j. -/
def hitS (E : Nat → Ev) (n : Nat) (S : Nat → ByteArray) (j : Nat) : Nat → Bool
  | 0 => false
  | p + 1 => hitS E n S j p || decide (posV E n (S p) = (j : Int))
theorem hitS_iff (E : Nat → Ev) (n : Nat) (S : Nat → ByteArray) (j : Nat) : ∀ p, hitS E n S j p = true ↔ ∃ q, q < p ∧ posV E n (S q) = (j : Int)
  | 0 => by simp [hitS]
  | p + 1 => by
    unfold hitS
    rw [Bool.or_eq_true, hitS_iff E n S j p, decide_eq_true_eq]
    constructor
    · rintro (⟨q, hq, e⟩ | e)
      · exact ⟨q, by omega, e⟩
      · exact ⟨p, by omega, e⟩
    · rintro ⟨q, hq, e⟩
      by_cases h : q = p
      · subst h; exact Or.inr e
      · exact Or.inl ⟨q, by omega, e⟩

/-- what is reached behind t events, from the last one on. -/
def rchT (E : Nat → Ev) (n : Nat) (B : Nat → Bool) : Nat → Nat → Bool
  | 0, _ => false
  | t + 1, j => rchT E n B t j || ((B (n - 1 - t) || rchT E n B t (n - 1 - t)) && hitS E n (E (n - 1 - t)).Av j (E (n - 1 - t)).na)
theorem rchT_mono {E : Nat → Ev} {n : Nat} {B : Nat → Bool} {j : Nat} {t : Nat} (h : rchT E n B t j = true) : ∀ t', t ≤ t' → rchT E n B t' j = true
  | 0, h' => by have : t = 0 := by omega
                subst this; exact h
  | t' + 1, h' => by
    by_cases e : t = t' + 1
    · subst e; exact h
    · rw [rchT, rchT_mono h t' (by omega)]; rfl
theorem auth_at {E : Nat → Ev} {n k p j : Nat} (h : roomTo E n = true) (hp : p < n) (hk : k < (E p).na) (e : posV E n ((E p).Av k) = (j : Int)) : j < p ∧ (E j).id = (E p).Av k := by
  obtain ⟨h0, h1, _⟩ := room_auth h hp hk
  obtain ⟨i, hi, e1, hb⟩ := posV_found E ((E p).Av k) n h0
  have : i = j := by omega
  subst this
  exact ⟨by omega, ba_of_toList hb⟩
theorem auth_there {E : Nat → Ev} {n k p : Nat} (h : roomTo E n = true) (hp : p < n) (hk : k < (E p).na) : ∃ j, j < p ∧ posV E n ((E p).Av k) = (j : Int) ∧ (E j).id = (E p).Av k := by
  obtain ⟨h0, h1, _⟩ := room_auth h hp hk
  obtain ⟨i, hi, e1, hb⟩ := posV_found E ((E p).Av k) n h0
  exact ⟨i, by omega, e1, ba_of_toList hb⟩
theorem rchT_late {E : Nat → Ev} {n : Nat} {B : Nat → Bool} {p : Nat} (h : roomTo E n = true) (hp : p < n) : ∀ t, n - 1 - p ≤ t → t ≤ n → rchT E n B t p = rchT E n B (n - 1 - p) p
  | 0, h1, _ => by have : n - 1 - p = 0 := by omega
                   rw [this]
  | t + 1, h1, h2 => by
    by_cases e : n - 1 - p = t + 1
    · rw [e]
    · rw [rchT, rchT_late h hp t (by omega) (by omega)]
      have : hitS E n (E (n - 1 - t)).Av p (E (n - 1 - t)).na = false := by
        cases hb : hitS E n (E (n - 1 - t)).Av p (E (n - 1 - t)).na
        · rfl
        · obtain ⟨q, hq, e2⟩ := (hitS_iff _ _ _ _ _).1 hb
          have := (auth_at h (by omega) hq e2).1
          omega
      rw [this, Bool.and_false, Bool.or_false]
theorem rchT_sound {E : Nat → Ev} {n : Nat} {B : Nat → Bool} {S : Nat → ByteArray} {m : Nat} (h : roomTo E n = true) (hB : ∀ i, i < n → B i = true → ∃ q, q < m ∧ (E i).id = S q) : ∀ t, t ≤ n → ∀ j, rchT E n B t j = true → Chn E n S m (E j).id
  | 0, _, j, e => by cases e
  | t + 1, ht, j, e => by
    rw [rchT, Bool.or_eq_true, Bool.and_eq_true, Bool.or_eq_true] at e
    rcases e with e | ⟨e1, e2⟩
    · exact rchT_sound h hB t (by omega) j e
    · obtain ⟨q, hq, e3⟩ := (hitS_iff _ _ _ _ _).1 e2
      rw [(auth_at h (by omega) hq e3).2]
      rcases e1 with e1 | e1
      · obtain ⟨q', hq', e4⟩ := hB _ (by omega) e1
        exact Chn.base hq' (by omega) e4 hq
      · exact Chn.step (rchT_sound h hB t (by omega) _ e1) (by omega) rfl hq
theorem rchT_done {E : Nat → Ev} {n : Nat} {B : Nat → Bool} {p k j : Nat} (h : roomTo E n = true) (hp : p < n) (hj : j < n) (hk : k < (E p).na) (e : (E j).id = (E p).Av k) (hb : B p = true ∨ rchT E n B n p = true) : rchT E n B n j = true := by
  have hb' : (B p || rchT E n B (n - 1 - p) p) = true := by
    rw [Bool.or_eq_true]
    exact hb.imp id fun h1 => by rw [← rchT_late h hp n (by omega) (Nat.le_refl _)]; exact h1
  refine rchT_mono (t := n - 1 - p + 1) ?_ n (by omega)
  have e1 : n - 1 - (n - 1 - p) = p := by omega
  rw [rchT, e1, hb', (hitS_iff _ _ _ _ _).2 ⟨k, hk, by rw [← e]; exact posV_here h hj⟩]
  simp
theorem rchT_all {E : Nat → Ev} {n : Nat} {B : Nat → Bool} {S : Nat → ByteArray} {m : Nat} (h : roomTo E n = true) (hB : ∀ i q, i < n → q < m → (E i).id = S q → B i = true) {s : ByteArray} (hs : Chn E n S m s) : ∀ j, j < n → (E j).id = s → rchT E n B n j = true := by
  induction hs with
  | base hi hp e hk => exact fun j hj ej => rchT_done h hp hj hk ej (Or.inl (hB _ _ hp hi e))
  | step _ hp e hk ih => exact fun j hj ej => rchT_done h hp hj hk ej (Or.inr (ih _ hp e))
theorem chn_id {E : Nat → Ev} {n : Nat} {S : Nat → ByteArray} {m : Nat} (h : roomTo E n = true) {s : ByteArray} (hs : Chn E n S m s) : ∃ j, j < n ∧ (E j).id = s := by
  cases hs with
  | base hi hp e hk => obtain ⟨j, hj, _, e1⟩ := auth_there h hp hk; exact ⟨j, by omega, e1⟩
  | step _ hp e hk => obtain ⟨j, hj, _, e1⟩ := auth_there h hp hk; exact ⟨j, by omega, e1⟩
/-- the marks that the program's pass leaves are the chain. -/
theorem rchT_chn {E : Nat → Ev} {n : Nat} {S : Nat → ByteArray} {m : Nat} (h : roomTo E n = true) (s : ByteArray) :
    (∃ j, j < n ∧ rchT E n (fun i => hitS E n S i m) n j = true ∧ (E j).id = s) ↔ Chn E n S m s := by
  constructor
  · rintro ⟨j, hj, e, rfl⟩
    refine rchT_sound h (fun i hi hb => ?_) n (Nat.le_refl _) j e
    obtain ⟨q, hq, e1⟩ := (hitS_iff _ _ _ _ _).1 hb
    obtain ⟨i', _, e2, hb2⟩ := posV_found E (S q) n (by omega)
    have : i' = i := by omega
    subst this
    exact ⟨q, hq, ba_of_toList hb2⟩
  · intro hs
    obtain ⟨j, hj, e⟩ := chn_id h hs
    refine ⟨j, hj, rchT_all h (fun i q hi hq e1 => ?_) hs j hj e, e⟩
    exact (hitS_iff _ _ _ _ _).2 ⟨q, hq, by rw [← e1]; exact posV_here h hi⟩

/-! ### the list of the spec -/

/-- x behind l, where l has it not. -/
def addL (l : List ByteArray) (x : ByteArray) : List ByteArray := if hasB (getL l) l.length x then l else l ++ [x]
theorem hasL (l : List ByteArray) (x : ByteArray) : hasB (getL l) l.length x = true ↔ x ∈ l := by
  have := hasB_mem l x l.length (Nat.le_refl _)
  rw [List.take_length] at this
  exact this
def addTo (l : List ByteArray) (A : Nat → ByteArray) : Nat → List ByteArray
  | 0 => l
  | k + 1 => addL (addTo l A k) (A k)
theorem addL_mem (l : List ByteArray) (x s : ByteArray) : s ∈ addL l x ↔ s ∈ l ∨ s = x := by
  unfold addL
  split
  · rename_i h
    exact ⟨Or.inl, fun h' => h'.elim id fun e => e ▸ (hasL l x).1 h⟩
  · simp
theorem addTo_mem (l : List ByteArray) (A : Nat → ByteArray) (s : ByteArray) : ∀ k, s ∈ addTo l A k ↔ s ∈ l ∨ ∃ q, q < k ∧ A q = s
  | 0 => by simp [addTo]
  | k + 1 => by
    rw [addTo, addL_mem, addTo_mem l A s k]
    constructor
    · rintro ((h | ⟨q, hq, e⟩) | rfl)
      · exact Or.inl h
      · exact Or.inr ⟨q, by omega, e⟩
      · exact Or.inr ⟨k, by omega, rfl⟩
    · rintro (h | ⟨q, hq, e⟩)
      · exact Or.inl (Or.inl h)
      · by_cases h : q = k
        · subst h; exact Or.inr e.symm
        · exact Or.inl (Or.inr ⟨q, by omega, e⟩)
theorem addL_nodup {l : List ByteArray} (h : l.Nodup) (x : ByteArray) : (addL l x).Nodup := by
  unfold addL
  split
  · exact h
  · rename_i hx
    refine List.nodup_append.2 ⟨h, by simp, fun a ha b hb => ?_⟩
    rw [List.mem_singleton] at hb
    subst hb
    rintro rfl
    exact hx ((hasL l _).2 ha)
theorem addTo_nodup {l : List ByteArray} (h : l.Nodup) (A : Nat → ByteArray) : ∀ k, (addTo l A k).Nodup
  | 0 => h
  | k + 1 => addL_nodup (addTo_nodup h A k) _
theorem addTo_pre (l : List ByteArray) (A : Nat → ByteArray) : ∀ k, ∃ r, addTo l A k = l ++ r
  | 0 => ⟨[], by simp [addTo]⟩
  | k + 1 => by
    obtain ⟨r, e⟩ := addTo_pre l A k
    rw [addTo, e]
    unfold addL
    split
    · exact ⟨r, rfl⟩
    · exact ⟨r ++ [A k], by simp⟩
theorem addTo_get (l : List ByteArray) (A : Nat → ByteArray) (k : Nat) {i : Nat} (hi : i < l.length) : getL (addTo l A k) i = getL l i := by
  obtain ⟨r, e⟩ := addTo_pre l A k
  rw [e]
  simp [getL, List.getD, List.getElem?_append, hi]
theorem addTo_len (l : List ByteArray) (A : Nat → ByteArray) (k : Nat) : l.length ≤ (addTo l A k).length := by
  obtain ⟨r, e⟩ := addTo_pre l A k
  rw [e]; simp

/-- in the spec's loops: l has no text twice, has what the texts told by P rest on, and nothing else than the chain. -/
structure ChA (E : Nat → Ev) (n : Nat) (S : Nat → ByteArray) (m : Nat) (P : ByteArray → Prop) (l : List ByteArray) : Prop where
  nodup : l.Nodup
  sound : ∀ s, s ∈ l → Chn E n S m s
  closed : ∀ p, p < n → P (E p).id → ∀ k, k < (E p).na → (E p).Av k ∈ l
theorem ids_len {E : Nat → Ev} {n : Nat} {l : List ByteArray} (h : roomTo E n = true) (hn : l.Nodup) (hs : ∀ s, s ∈ l → ∃ j, j < n ∧ (E j).id = s) : l.length ≤ n := by
  have h1 : (l.map fun s => (posV E n s).toNat).Nodup := by
    refine List.pairwise_map.2 (List.Pairwise.imp_of_mem (R := fun a b => a ≠ b) (fun {a b} ha hb hab e => hab ?_) hn)
    obtain ⟨i, hi, rfl⟩ := hs a ha
    obtain ⟨j, hj, rfl⟩ := hs b hb
    rw [posV_here h hi, posV_here h hj] at e
    have : i = j := by simpa using e
    rw [this]
  have := List.Nodup.length_le_of_subset (l₂ := List.range n) h1 (fun x hx => by
    obtain ⟨s, hs', rfl⟩ := List.mem_map.1 hx
    obtain ⟨i, hi, rfl⟩ := hs s hs'
    rw [posV_here h hi]
    exact List.mem_range.2 (by simpa using hi))
  simpa using this
/-- what P told and what p's event rests on. -/
theorem ChA.add {E : Nat → Ev} {n : Nat} {S : Nat → ByteArray} {m : Nat} {P P' : ByteArray → Prop} {l : List ByteArray} (h : ChA E n S m P l) {p : Nat} (hr : roomTo E n = true) (hp : p < n) (hc : ∀ k, k < (E p).na → Chn E n S m ((E p).Av k)) (hP : ∀ s, P' s → P s ∨ s = (E p).id) : ChA E n S m P' (addTo l (E p).Av (E p).na) := by
  refine ⟨addTo_nodup h.nodup _ _, fun s hs => ?_, fun p' hp' hq k hk => ?_⟩
  · rcases (addTo_mem _ _ _ _).1 hs with h1 | ⟨q, hq, rfl⟩
    · exact h.sound s h1
    · exact hc q hq
  · rw [addTo_mem]
    rcases hP _ hq with h1 | h1
    · exact Or.inl (h.closed p' hp' h1 k hk)
    · have e1 := posV_here hr hp'
      have e2 := posV_here hr hp
      rw [h1] at e1
      have : p = p' := by omega
      subst this
      exact Or.inr ⟨k, hk, rfl⟩
theorem ChA.addLen {E : Nat → Ev} {n : Nat} {S : Nat → ByteArray} {m : Nat} {P : ByteArray → Prop} {l : List ByteArray} (h : ChA E n S m P l) {p k : Nat} (hr : roomTo E n = true) (hp : p < n) (hk : k ≤ (E p).na) : (addTo l (E p).Av k).length ≤ n :=
  ids_len hr (addTo_nodup h.nodup _ _) fun s hs => by
    rcases (addTo_mem _ _ _ _).1 hs with h1 | ⟨q, hq, rfl⟩
    · exact chn_id hr (h.sound s h1)
    · obtain ⟨j, hj, _, e⟩ := auth_there hr hp (show q < (E p).na by omega)
      exact ⟨j, by omega, e⟩
theorem ChA.mem {E : Nat → Ev} {n : Nat} {S : Nat → ByteArray} {m : Nat} {l : List ByteArray} (h : ChA E n S m (fun s => (∃ i, i < m ∧ S i = s) ∨ ∃ i, i < l.length ∧ getL l i = s) l) (s : ByteArray) : s ∈ l ↔ Chn E n S m s := by
  refine ⟨h.sound s, fun hs => ?_⟩
  induction hs with
  | base hi hp e hk => exact h.closed _ hp (Or.inl ⟨_, hi, e.symm⟩) _ hk
  | step _ hp e hk ih =>
    obtain ⟨i, hi, e1⟩ := mem_getL ih
    exact h.closed _ hp (Or.inr ⟨i, hi, e1.trans e.symm⟩) _ hk
end Go.Proofs.Ytepajkhgigfbpaa
