import Derived.Test.YtpmebojkkjlkgaaGreatGrLZR
namespace Go.Proofs.YtpmebojkkjlkgaaGreat
open Go.RowKit
def selL (E : Nat -> Ev) (M : Nat -> Bool) : Nat -> List ByteArray
 | 0 => []
 | m + 1 => if M m then selL E M m ++ [(E m).id] else selL E M m
theorem selL_mem (E : Nat -> Ev) (M : Nat -> Bool) (s : ByteArray) : ∀ m, s ∈ selL E M m ↔ ∃ i, i < m ∧ M i = true ∧ (E i).id = s
 | 0 => by simp [selL]
 | m + 1 => by
  have ih := selL_mem E M s m
  unfold selL
  split
  ·rename_i hM
   rw [List.mem_append, ih, List.mem_singleton]
   constructor
   ·rintro (⟨i, hi, h⟩ | rfl)
    ·exact ⟨i, by omega, h⟩
    ·exact ⟨m, by omega, hM, rfl⟩
   ·rintro ⟨i, hi, h1, h2⟩
    by_cases e : i = m
    ·subst e; exact Or.inr h2.symm
    ·exact Or.inl ⟨i, by omega, h1, h2⟩
  ·rename_i hM
   rw [ih]
   constructor
   ·rintro ⟨i, hi, h⟩; exact ⟨i, by omega, h⟩
   ·rintro ⟨i, hi, h1, h2⟩
    by_cases e : i = m
    ·subst e; exact absurd h1 hM
    ·exact ⟨i, by omega, h1, h2⟩
theorem selL_len (E : Nat -> Ev) (M : Nat -> Bool) : ∀ m, (selL E M m).length <= m
 | 0 => Nat.le_refl _
 | m + 1 => by
  have := selL_len E M m
  unfold selL
  split
  ·simp; exact this
  ·omega
theorem room_ins (E : Nat -> Ev) : ∀ n k, k < n -> roomTo E n = true -> insCode E k (E k) = 0
 | 0, _, h, _ => absurd h (Nat.not_lt_zero _)
 | n + 1, k, h, e => by
  unfold roomTo at e
  rw [Bool.and_eq_true] at e
  by_cases hk : k = n
  ·subst hk; exact of_decide_eq_true e.2
  ·exact room_ins E n k (by omega) e.1
theorem room_300 {E : Nat -> Ev} {n : Nat} (h : roomTo E n = true) : n <= 300 := by
 rcases Nat.eq_zero_or_pos n with h0 | h0
 ·omega
 ·have := (ins_fresh (room_ins E n (n - 1) (by omega) h)).2.2
  omega
theorem posV_neg {E : Nat -> Ev} {s : ByteArray} : ∀ n, posV E n s < 0 -> ∀ i, i < n -> ((E i).id.toList == s.toList) = false
 | 0, _, i, hi => absurd hi (Nat.not_lt_zero _)
 | n + 1, h, i, hi => by
  rw [posV_step] at h
  by_cases h0 : 0 <= posV E n s
  ·rw [if_pos h0] at h; omega
  ·rw [if_neg h0] at h
   by_cases e : i = n
   ·subst e
    cases hb : ((E i).id.toList == s.toList)
    ·rfl
    ·rw [hb, if_pos rfl] at h; omega
   ·exact posV_neg n (by omega) i (by omega)
theorem posV_found (E : Nat -> Ev) (s : ByteArray) : ∀ n, 0 <= posV E n s -> ∃ i, i < n ∧ posV E n s = (i : Int) ∧ ((E i).id.toList == s.toList) = true
 | 0, h => by simp [posV] at h
 | n + 1, h => by
  rw [posV_step] at h ⊢
  by_cases h0 : 0 <= posV E n s
  ·rw [if_pos h0]
   obtain ⟨i, hi, e, hb⟩ := posV_found E s n h0
   exact ⟨i, by omega, e, hb⟩
  ·rw [if_neg h0] at h ⊢
   cases hb : ((E n).id.toList == s.toList)
   ·rw [hb] at h; simp at h
   ·exact ⟨n, by omega, by simp, hb⟩
theorem posV_here {E : Nat -> Ev} {n i : Nat} (h : roomTo E n = true) (hi : i < n) : posV E n (E i).id = (i : Int) :=
 posV_hit E _ n i hi (posV_neg i (ins_fresh (room_ins E n i hi h)).1) (by simp)
theorem allTo_at {Kn : ByteArray -> Bool} {S : Nat -> ByteArray} {n k : Nat} (hk : k < n) (h : allTo Kn S n = true) : Kn (S k) = true := by
 cases hb : Kn (S k)
 ·rw [allTo_le Kn S n k hk hb] at h; cases h
 ·rfl
theorem room_prev {E : Nat -> Ev} {n k p : Nat} (h : roomTo E n = true) (hk : k < n) (hp : p < (E k).np) : 0 <= posV E n ((E k).Pv p) ∧ posV E n ((E k).Pv p) < k := by
 have h1 := allTo_at hp (insC_all ((insC_code E k (E k)).trans (room_ins E n k hk h))).1
 have h2 : 0 <= posV E k ((E k).Pv p) := by simpa [knE] using h1
 rw [posV_stay E _ k h2 n (by omega)]
 exact ⟨h2, (posV_bd E _ k).2⟩
theorem room_auth {E : Nat -> Ev} {n k p : Nat} (h : roomTo E n = true) (hk : k < n) (hp : p < (E k).na) : 0 <= posV E n ((E k).Av p) ∧ posV E n ((E k).Av p) < k ∧ posV E k ((E k).Av p) = posV E n ((E k).Av p) := by
 have h1 := allTo_at hp (insC_all ((insC_code E k (E k)).trans (room_ins E n k hk h))).2
 have h2 : 0 <= posV E k ((E k).Av p) := by simpa [knE] using h1
 rw [posV_stay E _ k h2 n (by omega)]
 exact ⟨h2, (posV_bd E _ k).2, rfl⟩
theorem selL_nodup {E : Nat -> Ev} {n : Nat} (h : roomTo E n = true) (M : Nat -> Bool) : ∀ m, m <= n -> (selL E M m).Nodup
 | 0, _ => List.nodup_nil
 | m + 1, hm => by
  have ih := selL_nodup h M m (by omega)
  unfold selL
  split
  ·refine List.nodup_append.2 ⟨ih, by simp, fun a ha b hb => ?_⟩
   rw [List.mem_singleton] at hb
   subst hb
   rintro rfl
   obtain ⟨i, hi, _, e⟩ := (selL_mem E M _ m).1 ha
   have e1 := posV_here h (show i < n by omega)
   have e2 := posV_here h (show m < n by omega)
   rw [e] at e1
   omega
  ·exact ih
theorem blLe_trans (a b c : List UInt8) (h1 : decide (a <= b) = true) (h2 : decide (b <= c) = true) : decide (a <= c) = true :=
 decide_eq_true (List.le_trans (of_decide_eq_true h1) (of_decide_eq_true h2))
theorem blLe_total (a b : List UInt8) : (decide (a <= b) || decide (b <= a)) = true := by
 rcases List.le_total a b with h | h <;> simp [h]
def sortB (l : List ByteArray) : List (List UInt8) := (l.map fun s => s.data.toList).mergeSort fun x y => decide (x <= y)
def toB (x : List UInt8) : ByteArray := ⟨x.toArray⟩
theorem sortB_mem (l : List ByteArray) (s : ByteArray) : s ∈ (sortB l).map toB ↔ s ∈ l := by
 unfold sortB
 rw [List.mem_map]
 constructor
 ·rintro ⟨x, hx, rfl⟩
  rw [List.mem_mergeSort, List.mem_map] at hx
  obtain ⟨t, ht, rfl⟩ := hx
  have : toB t.data.toList = t := by unfold toB; rw [Array.toArray_toList]
  rw [this]; exact ht
 ·intro h
  refine ⟨s.data.toList, by rw [List.mem_mergeSort, List.mem_map]; exact ⟨s, h, rfl⟩, by unfold toB; rw [Array.toArray_toList]⟩
theorem sortB_srt {l : List ByteArray} (h : l.Nodup) : Srt ((sortB l).map toB) := by
 have h1 : (sortB l).Pairwise fun x y => decide (x <= y) = true := List.pairwise_mergeSort blLe_trans blLe_total _
 have h2 : (sortB l).Nodup := by
  unfold sortB
  rw [(List.mergeSort_perm _ _).nodup_iff]
  exact List.Pairwise.map _ (fun a b hab e => hab (ba_inj e)) h
 unfold Srt
 rw [List.pairwise_map]
 refine (h1.and h2).imp fun {a b} ⟨hab, hne⟩ => ?_
 show a < b
 rcases List.le_iff_lt_or_eq.1 (of_decide_eq_true hab) with h' | h'
 ·exact h'
 ·exact absurd h' hne
theorem sortB_len (l : List ByteArray) : (sortB l).length = l.length := by simp [sortB]
inductive Chn (E : Nat -> Ev) (n : Nat) (S : Nat -> ByteArray) (m : Nat) : ByteArray -> Prop
 | base {i k p : Nat} : i < m -> p < n -> (E p).id = S i -> k < (E p).na -> Chn E n S m ((E p).Av k)
 | step {s : ByteArray} {k p : Nat} : Chn E n S m s -> p < n -> (E p).id = s -> k < (E p).na -> Chn E n S m ((E p).Av k)
def hitS (E : Nat -> Ev) (n : Nat) (S : Nat -> ByteArray) (j : Nat) : Nat -> Bool
 | 0 => false
 | p + 1 => hitS E n S j p || decide (posV E n (S p) = (j : Int))
theorem hitS_iff (E : Nat -> Ev) (n : Nat) (S : Nat -> ByteArray) (j : Nat) : ∀ p, hitS E n S j p = true ↔ ∃ q, q < p ∧ posV E n (S q) = (j : Int)
 | 0 => by simp [hitS]
 | p + 1 => by
  unfold hitS
  rw [Bool.or_eq_true, hitS_iff E n S j p, decide_eq_true_eq]
  constructor
  ·rintro (⟨q, hq, e⟩ | e)
   ·exact ⟨q, by omega, e⟩
   ·exact ⟨p, by omega, e⟩
  ·rintro ⟨q, hq, e⟩
   by_cases h : q = p
   ·subst h; exact Or.inr e
   ·exact Or.inl ⟨q, by omega, e⟩
def rchT (E : Nat -> Ev) (n : Nat) (B : Nat -> Bool) : Nat -> Nat -> Bool
 | 0, _ => false
 | t + 1, j => rchT E n B t j || ((B (n - 1 - t) || rchT E n B t (n - 1 - t)) && hitS E n (E (n - 1 - t)).Av j (E (n - 1 - t)).na)
theorem rchT_mono {E : Nat -> Ev} {n : Nat} {B : Nat -> Bool} {j : Nat} {t : Nat} (h : rchT E n B t j = true) : ∀ t', t <= t' -> rchT E n B t' j = true
  | 0, h' => by have : t = 0 := by omega
                subst this; exact h
  | t' + 1, h' => by
    by_cases e : t = t' + 1
    · subst e; exact h
    · rw [rchT, rchT_mono h t' (by omega)]; rfl
theorem auth_at {E : Nat -> Ev} {n k p j : Nat} (h : roomTo E n = true) (hp : p < n) (hk : k < (E p).na) (e : posV E n ((E p).Av k) = (j : Int)) : j < p ∧ (E j).id = (E p).Av k := by
 obtain ⟨h0, h1, _⟩ := room_auth h hp hk
 obtain ⟨i, hi, e1, hb⟩ := posV_found E ((E p).Av k) n h0
 have : i = j := by omega
 subst this
 exact ⟨by omega, ba_of_toList hb⟩
theorem auth_there {E : Nat -> Ev} {n k p : Nat} (h : roomTo E n = true) (hp : p < n) (hk : k < (E p).na) : ∃ j, j < p ∧ posV E n ((E p).Av k) = (j : Int) ∧ (E j).id = (E p).Av k := by
 obtain ⟨h0, h1, _⟩ := room_auth h hp hk
 obtain ⟨i, hi, e1, hb⟩ := posV_found E ((E p).Av k) n h0
 exact ⟨i, by omega, e1, ba_of_toList hb⟩
theorem rchT_late {E : Nat -> Ev} {n : Nat} {B : Nat -> Bool} {p : Nat} (h : roomTo E n = true) (hp : p < n) : ∀ t, n - 1 - p <= t -> t <= n -> rchT E n B t p = rchT E n B (n - 1 - p) p
  | 0, h1, _ => by have : n - 1 - p = 0 := by omega
                   rw [this]
  | t + 1, h1, h2 => by
    by_cases e : n - 1 - p = t + 1
    · rw [e]
    · rw [rchT, rchT_late h hp t (by omega) (by omega)]
      have : hitS E n (E (n - 1 - t)).Av p (E (n - 1 - t)).na = false := by
        cases hb : hitS E n (E (n - 1 - t)).Av p (E (n - 1 - t)).na
        · rfl
        · obtain ⟨q, hq, e2⟩ := (hitS_iff _ _ _ _ _).1 hb
          have := (auth_at h (by omega) hq e2).1
          omega
      rw [this, Bool.and_false, Bool.or_false]
theorem rchT_sound {E : Nat -> Ev} {n : Nat} {B : Nat -> Bool} {S : Nat -> ByteArray} {m : Nat} (h : roomTo E n = true) (hB : ∀ i, i < n -> B i = true -> ∃ q, q < m ∧ (E i).id = S q) : ∀ t, t <= n -> ∀ j, rchT E n B t j = true -> Chn E n S m (E j).id
 | 0, _, j, e => by cases e
 | t + 1, ht, j, e => by
  rw [rchT, Bool.or_eq_true, Bool.and_eq_true, Bool.or_eq_true] at e
  rcases e with e | ⟨e1, e2⟩
  ·exact rchT_sound h hB t (by omega) j e
  ·obtain ⟨q, hq, e3⟩ := (hitS_iff _ _ _ _ _).1 e2
   rw [(auth_at h (by omega) hq e3).2]
   rcases e1 with e1 | e1
   ·obtain ⟨q', hq', e4⟩ := hB _ (by omega) e1
    exact Chn.base hq' (by omega) e4 hq
   ·exact Chn.step (rchT_sound h hB t (by omega) _ e1) (by omega) rfl hq
theorem rchT_done {E : Nat -> Ev} {n : Nat} {B : Nat -> Bool} {p k j : Nat} (h : roomTo E n = true) (hp : p < n) (hj : j < n) (hk : k < (E p).na) (e : (E j).id = (E p).Av k) (hb : B p = true ∨ rchT E n B n p = true) : rchT E n B n j = true := by
 have hb' : (B p || rchT E n B (n - 1 - p) p) = true := by
  rw [Bool.or_eq_true]
  exact hb.imp id fun h1 => by rw [<- rchT_late h hp n (by omega) (Nat.le_refl _)]; exact h1
 refine rchT_mono (t := n - 1 - p + 1) ?_ n (by omega)
 have e1 : n - 1 - (n - 1 - p) = p := by omega
 rw [rchT, e1, hb', (hitS_iff _ _ _ _ _).2 ⟨k, hk, by rw [<- e]; exact posV_here h hj⟩]
 simp
theorem rchT_all {E : Nat -> Ev} {n : Nat} {B : Nat -> Bool} {S : Nat -> ByteArray} {m : Nat} (h : roomTo E n = true) (hB : ∀ i q, i < n -> q < m -> (E i).id = S q -> B i = true) {s : ByteArray} (hs : Chn E n S m s) : ∀ j, j < n -> (E j).id = s -> rchT E n B n j = true := by
 induction hs with
 | base hi hp e hk => exact fun j hj ej => rchT_done h hp hj hk ej (Or.inl (hB _ _ hp hi e))
 | step _ hp e hk ih => exact fun j hj ej => rchT_done h hp hj hk ej (Or.inr (ih _ hp e))
theorem chn_id {E : Nat -> Ev} {n : Nat} {S : Nat -> ByteArray} {m : Nat} (h : roomTo E n = true) {s : ByteArray} (hs : Chn E n S m s) : ∃ j, j < n ∧ (E j).id = s := by
 cases hs with
 | base hi hp e hk => obtain ⟨j, hj, _, e1⟩ := auth_there h hp hk; exact ⟨j, by omega, e1⟩
 | step _ hp e hk => obtain ⟨j, hj, _, e1⟩ := auth_there h hp hk; exact ⟨j, by omega, e1⟩
theorem rchT_chn {E : Nat -> Ev} {n : Nat} {S : Nat -> ByteArray} {m : Nat} (h : roomTo E n = true) (s : ByteArray) :
  (∃ j, j < n ∧ rchT E n (fun i => hitS E n S i m) n j = true ∧ (E j).id = s) ↔ Chn E n S m s := by
 constructor
 ·rintro ⟨j, hj, e, rfl⟩
  refine rchT_sound h (fun i hi hb => ?_) n (Nat.le_refl _) j e
  obtain ⟨q, hq, e1⟩ := (hitS_iff _ _ _ _ _).1 hb
  obtain ⟨i', _, e2, hb2⟩ := posV_found E (S q) n (by omega)
  have : i' = i := by omega
  subst this
  exact ⟨q, hq, ba_of_toList hb2⟩
 ·intro hs
  obtain ⟨j, hj, e⟩ := chn_id h hs
  refine ⟨j, hj, rchT_all h (fun i q hi hq e1 => ?_) hs j hj e, e⟩
  exact (hitS_iff _ _ _ _ _).2 ⟨q, hq, by rw [<- e1]; exact posV_here h hi⟩
def addL (l : List ByteArray) (x : ByteArray) : List ByteArray := if hasB (getL l) l.length x then l else l ++ [x]
theorem hasL (l : List ByteArray) (x : ByteArray) : hasB (getL l) l.length x = true ↔ x ∈ l := by
 have := hasB_mem l x l.length (Nat.le_refl _)
 rw [List.take_length] at this
 exact this
def addTo (l : List ByteArray) (A : Nat -> ByteArray) : Nat -> List ByteArray
 | 0 => l
 | k + 1 => addL (addTo l A k) (A k)
theorem addL_mem (l : List ByteArray) (x s : ByteArray) : s ∈ addL l x ↔ s ∈ l ∨ s = x := by
 unfold addL
 split
 ·rename_i h
  exact ⟨Or.inl, fun h' => h'.elim id fun e => e ▸ (hasL l x).1 h⟩
 ·simp
theorem addTo_mem (l : List ByteArray) (A : Nat -> ByteArray) (s : ByteArray) : ∀ k, s ∈ addTo l A k ↔ s ∈ l ∨ ∃ q, q < k ∧ A q = s
 | 0 => by simp [addTo]
 | k + 1 => by
  rw [addTo, addL_mem, addTo_mem l A s k]
  constructor
  ·rintro ((h | ⟨q, hq, e⟩) | rfl)
   ·exact Or.inl h
   ·exact Or.inr ⟨q, by omega, e⟩
   ·exact Or.inr ⟨k, by omega, rfl⟩
  ·rintro (h | ⟨q, hq, e⟩)
   ·exact Or.inl (Or.inl h)
   ·by_cases h : q = k
    ·subst h; exact Or.inr e.symm
    ·exact Or.inl (Or.inr ⟨q, by omega, e⟩)
theorem addL_nodup {l : List ByteArray} (h : l.Nodup) (x : ByteArray) : (addL l x).Nodup := by
 unfold addL
 split
 ·exact h
 ·rename_i hx
  refine List.nodup_append.2 ⟨h, by simp, fun a ha b hb => ?_⟩
  rw [List.mem_singleton] at hb
  subst hb
  rintro rfl
  exact hx ((hasL l _).2 ha)
theorem addTo_nodup {l : List ByteArray} (h : l.Nodup) (A : Nat -> ByteArray) : ∀ k, (addTo l A k).Nodup
 | 0 => h
 | k + 1 => addL_nodup (addTo_nodup h A k) _
theorem addTo_pre (l : List ByteArray) (A : Nat -> ByteArray) : ∀ k, ∃ r, addTo l A k = l ++ r
 | 0 => ⟨[], by simp [addTo]⟩
 | k + 1 => by
  obtain ⟨r, e⟩ := addTo_pre l A k
  rw [addTo, e]
  unfold addL
  split
  ·exact ⟨r, rfl⟩
  ·exact ⟨r ++ [A k], by simp⟩
structure ChA (E : Nat -> Ev) (n : Nat) (S : Nat -> ByteArray) (m : Nat) (P : ByteArray -> Prop) (l : List ByteArray) : Prop where
 nodup : l.Nodup
 sound : ∀ s, s ∈ l -> Chn E n S m s
 closed : ∀ p, p < n -> P (E p).id -> ∀ k, k < (E p).na -> (E p).Av k ∈ l
theorem ids_len {E : Nat -> Ev} {n : Nat} {l : List ByteArray} (h : roomTo E n = true) (hn : l.Nodup) (hs : ∀ s, s ∈ l -> ∃ j, j < n ∧ (E j).id = s) : l.length <= n := by
 have h1 : (l.map fun s => (posV E n s).toNat).Nodup := by
  refine List.pairwise_map.2 (List.Pairwise.imp_of_mem (R := fun a b => a ≠ b) (fun {a b} ha hb hab e => hab ?_) hn)
  obtain ⟨i, hi, rfl⟩ := hs a ha
  obtain ⟨j, hj, rfl⟩ := hs b hb
  rw [posV_here h hi, posV_here h hj] at e
  have : i = j := by simpa using e
  rw [this]
 have := List.Nodup.length_le_of_subset (l₂ := List.range n) h1 (fun x hx => by
  obtain ⟨s, hs', rfl⟩ := List.mem_map.1 hx
  obtain ⟨i, hi, rfl⟩ := hs s hs'
  rw [posV_here h hi]
  exact List.mem_range.2 (by simpa using hi))
 simpa using this
theorem ChA.add {E : Nat -> Ev} {n : Nat} {S : Nat -> ByteArray} {m : Nat} {P P' : ByteArray -> Prop} {l : List ByteArray} (h : ChA E n S m P l) {p : Nat} (hr : roomTo E n = true) (hp : p < n) (hc : ∀ k, k < (E p).na -> Chn E n S m ((E p).Av k)) (hP : ∀ s, P' s -> P s ∨ s = (E p).id) : ChA E n S m P' (addTo l (E p).Av (E p).na) := by
 refine ⟨addTo_nodup h.nodup _ _, fun s hs => ?_, fun p' hp' hq k hk => ?_⟩
 ·rcases (addTo_mem _ _ _ _).1 hs with h1 | ⟨q, hq, rfl⟩
  ·exact h.sound s h1
  ·exact hc q hq
 ·rw [addTo_mem]
  rcases hP _ hq with h1 | h1
  ·exact Or.inl (h.closed p' hp' h1 k hk)
  ·have e1 := posV_here hr hp'
   have e2 := posV_here hr hp
   rw [h1] at e1
   have : p = p' := by omega
   subst this
   exact Or.inr ⟨k, hk, rfl⟩
theorem ChA.addLen {E : Nat -> Ev} {n : Nat} {S : Nat -> ByteArray} {m : Nat} {P : ByteArray -> Prop} {l : List ByteArray} (h : ChA E n S m P l) {p k : Nat} (hr : roomTo E n = true) (hp : p < n) (hk : k <= (E p).na) : (addTo l (E p).Av k).length <= n :=
 ids_len hr (addTo_nodup h.nodup _ _) fun s hs => by
  rcases (addTo_mem _ _ _ _).1 hs with h1 | ⟨q, hq, rfl⟩
  ·exact chn_id hr (h.sound s h1)
  ·obtain ⟨j, hj, _, e⟩ := auth_there hr hp (show q < (E p).na by omega)
   exact ⟨j, by omega, e⟩
theorem ChA.mem {E : Nat -> Ev} {n : Nat} {S : Nat -> ByteArray} {m : Nat} {l : List ByteArray} (h : ChA E n S m (fun s => (∃ i, i < m ∧ S i = s) ∨ ∃ i, i < l.length ∧ getL l i = s) l) (s : ByteArray) : s ∈ l ↔ Chn E n S m s := by
 refine ⟨h.sound s, fun hs => ?_⟩
 induction hs with
 | base hi hp e hk => exact h.closed _ hp (Or.inl ⟨_, hi, e.symm⟩) _ hk
 | step _ hp e hk ih =>
  obtain ⟨i, hi, e1⟩ := mem_getL ih
  exact h.closed _ hp (Or.inr ⟨i, hi, e1.trans e.symm⟩) _ hk
def scTo (E : Nat -> Ev) (n : Nat) (P : Ev -> Bool) (e : Ev) : Nat -> Int
 | 0 => -1
 | j + 1 => if 0 <= scTo E n P e j then scTo E n P e j else if P (E (posV E n (e.Av j)).toNat) then posV E n (e.Av j) else -1
theorem scTo_miss {E : Nat -> Ev} {n : Nat} {P : Ev -> Bool} {e : Ev} : ∀ j, (∀ i, i < j -> P (E (posV E n (e.Av i)).toNat) = false) -> scTo E n P e j = -1
 | 0, _ => rfl
 | j + 1, h => by
  rw [scTo, scTo_miss j (fun i hi => h i (by omega)), if_neg (by omega), h j (by omega)]
  simp
theorem scTo_stay {E : Nat -> Ev} {n : Nat} {P : Ev -> Bool} {e : Ev} (k : Nat) (hk : 0 <= scTo E n P e k) : ∀ j, k <= j -> scTo E n P e j = scTo E n P e k
  | 0, h => by have : k = 0 := by omega
               subst this; rfl
  | j + 1, h => by
    by_cases ek : k = j + 1
    · subst ek; rfl
    · have := scTo_stay k hk j (by omega)
      rw [scTo, this, if_pos hk]
theorem scTo_hit {E : Nat -> Ev} {n : Nat} {P : Ev -> Bool} {e : Ev} {j k p : Nat} (hk : k < j) (h0 : ∀ i, i < k -> P (E (posV E n (e.Av i)).toNat) = false) (hp : posV E n (e.Av k) = (p : Int)) (h1 : P (E p) = true) : scTo E n P e j = (p : Int) := by
 have e1 : scTo E n P e (k + 1) = (p : Int) := by rw [scTo, scTo_miss k h0, if_neg (by omega), hp, Int.toNat_natCast, h1]; simp
 rw [scTo_stay (k + 1) (by omega) j (by omega), e1]
theorem scTo_case (E : Nat -> Ev) (n : Nat) (P : Ev -> Bool) (e : Ev) : ∀ j, scTo E n P e j = -1 ∨ ∃ i, i < j ∧ scTo E n P e j = posV E n (e.Av i) ∧ P (E (posV E n (e.Av i)).toNat) = true ∧ (0 <= posV E n (e.Av i) ∨ scTo E n P e j < 0)
 | 0 => Or.inl rfl
 | j + 1 => by
  rw [scTo]
  by_cases h0 : 0 <= scTo E n P e j
  ·rw [if_pos h0]
   rcases scTo_case E n P e j with h | ⟨i, hi, r⟩
   ·omega
   ·exact Or.inr ⟨i, by omega, r⟩
  ·rw [if_neg h0]
   cases hP : P (E (posV E n (e.Av j)).toNat)
   ·exact Or.inl (by simp)
   ·refine Or.inr ⟨j, by omega, by simp, hP, ?_⟩
    rw [if_pos rfl]
    omega
theorem scTo_bd {E : Nat -> Ev} {n p : Nat} {P : Ev -> Bool} (h : roomTo E n = true) (hp : p < n) : scTo E n P (E p) (E p).na = -1 ∨ ∃ q, q < p ∧ scTo E n P (E p) (E p).na = (q : Int) ∧ P (E q) = true := by
 rcases scTo_case E n P (E p) (E p).na with h0 | ⟨i, hi, e, hP, _⟩
 ·exact Or.inl h0
 ·obtain ⟨j, hj, ej, _⟩ := auth_there h hp hi
  refine Or.inr ⟨j, hj, e.trans ej, ?_⟩
  rw [ej, Int.toNat_natCast] at hP
  exact hP
theorem scTo_congr {E : Nat -> Ev} {n p : Nat} {P Q : Ev -> Bool} (h : roomTo E n = true) (hp : p < n) (hPQ : ∀ i, i < n -> P (E i) = Q (E i)) : ∀ j, j <= (E p).na -> scTo E n P (E p) j = scTo E n Q (E p) j
 | 0, _ => rfl
 | j + 1, hj => by
  rw [scTo, scTo, scTo_congr h hp hPQ j (by omega)]
  obtain ⟨i, hi, e, _⟩ := auth_there h hp (show j < (E p).na by omega)
  rw [e, Int.toNat_natCast, hPQ i (by omega)]
def isPow (e : Ev) : Bool := e.ty.toList == [112, 111, 119, 101, 114]
def pwV (E : Nat -> Ev) (n p : Nat) : Int := scTo E n isPow (E p) (E p).na
theorem pwV_bd {E : Nat -> Ev} {n p : Nat} (h : roomTo E n = true) (hp : p < n) : -1 <= pwV E n p ∧ pwV E n p < p := by
 rcases scTo_bd (P := isPow) h hp with h0 | ⟨q, hq, e, _⟩
 ·unfold pwV; omega
 ·unfold pwV; omega
def lnF (E : Nat -> Ev) (n : Nat) : Nat -> Int -> List Nat
 | 0, _ => []
 | f + 1, q => if q < 0 then [] else q.toNat :: lnF E n f (pwV E n q.toNat)
theorem lnF_neg (E : Nat -> Ev) (n : Nat) {q : Int} (hq : q < 0) : ∀ f, lnF E n f q = []
 | 0 => rfl
 | f + 1 => by rw [lnF, if_pos hq]
theorem lnF_more {E : Nat -> Ev} {n : Nat} (h : roomTo E n = true) : ∀ (f f' : Nat) (q : Int), q < f -> q < n -> f <= f' -> lnF E n f' q = lnF E n f q
 | 0, f', q, hq, _, _ => by rw [lnF_neg E n (by omega), lnF_neg E n (by omega)]
 | f + 1, 0, q, _, _, hf => by omega
 | f + 1, f' + 1, q, hq, hn, hf => by
  rw [lnF, lnF]
  by_cases h0 : q < 0
  ·rw [if_pos h0, if_pos h0]
  ·rw [if_neg h0, if_neg h0]
   have := pwV_bd h (show q.toNat < n by omega)
   rw [lnF_more h f f' _ (by omega) (by omega) (by omega)]
theorem lnF_len (E : Nat -> Ev) (n : Nat) : ∀ (f : Nat) (q : Int), (lnF E n f q).length <= f
 | 0, _ => Nat.le_refl _
 | f + 1, q => by
  rw [lnF]
  split
  ·simp
  ·have := lnF_len E n f (pwV E n q.toNat)
   simp; exact this
theorem lnF_mem {E : Nat -> Ev} {n : Nat} (h : roomTo E n = true) : ∀ (f : Nat) (q : Int), q < n -> ∀ i ∈ lnF E n f q, i < n
 | 0, _, _, i, hi => by simp [lnF] at hi
 | f + 1, q, hq, i, hi => by
  rw [lnF] at hi
  by_cases h0 : q < 0
  ·rw [if_pos h0] at hi; cases hi
  ·rw [if_neg h0] at hi
   rcases List.mem_cons.1 hi with rfl | hi
   ·omega
   ·exact lnF_mem h f _ (by have := pwV_bd h (show q.toNat < n by omega); omega) i hi
def ln (E : Nat -> Ev) (n : Nat) (q : Int) : List Nat := lnF E n n q
theorem ln_neg (E : Nat -> Ev) (n : Nat) {q : Int} (hq : q < 0) : ln E n q = [] := lnF_neg E n hq n
theorem ln_len (E : Nat -> Ev) (n : Nat) (q : Int) : (ln E n q).length <= n := lnF_len E n n q
theorem ln_mem {E : Nat -> Ev} {n : Nat} (h : roomTo E n = true) {q : Int} (hq : q < n) : ∀ i ∈ ln E n q, i < n := lnF_mem h n q hq
theorem ln_cons {E : Nat -> Ev} {n p : Nat} (h : roomTo E n = true) (hp : p < n) : ln E n (p : Int) = p :: ln E n (pwV E n p) := by
 obtain ⟨m, rfl⟩ : ∃ m, n = m + 1 := ⟨n - 1, by omega⟩
 have hb := pwV_bd h hp
 unfold ln
 rw [lnF_more h m (m + 1) (pwV E (m + 1) p) (by omega) (by omega) (by omega), lnF, if_neg (by omega), Int.toNat_natCast]
def lX (l : List Nat) (k : Nat) : Int := ((l.getD k 0 : Nat) : Int)
theorem ln_at {l : List Nat} {k p : Nat} {r : List Nat} (h : l.drop k = p :: r) : lX l k = (p : Int) ∧ l.drop (k + 1) = r ∧ k < l.length := by
 have h1 : l[k]? = some p := by
  have : (l.drop k)[0]? = some p := by rw [h]; rfl
  simpa using this
 refine ⟨by simp [lX, List.getD, h1], ?_, ?_⟩
 ·rw [<- List.drop_drop, h]; rfl
 ·rcases Nat.lt_or_ge k l.length with h' | h'
  ·exact h'
  ·rw [List.getElem?_eq_none h'] at h1; cases h1
theorem ln_end {l : List Nat} {k : Nat} (h : l.drop k = []) (hk : k <= l.length) : k = l.length := by
 have := List.drop_eq_nil_iff.1 h
 omega
theorem lX_lt {l : List Nat} {n k : Nat} (h : ∀ i ∈ l, i < n) (hk : k < l.length) : ∃ p, p < n ∧ lX l k = (p : Int) := by
 refine ⟨l[k], h _ (List.getElem_mem hk), ?_⟩
 simp [lX, List.getD, List.getElem?_eq_getElem hk]
theorem ev_id {e : Ev} (h : e.code = 0) : e.id.toList.isEmpty = false := by
 unfold Ev.code evCode at h
 split at h
 ·cases h
 rename_i h1
 have hw : isW e.id = true := by
  cases hq : isW e.id
  ·exact absurd (Or.inl hq) h1
  ·rfl
 unfold isW at hw
 simp only [Bool.and_eq_true, decide_eq_true_eq] at hw
 cases hq : e.id.toList.isEmpty
 ·rfl
 ·have h0 : e.id.toList = [] := by simpa using hq
  have : e.id.size = 0 := by rw [size_list, h0]; rfl
  omega
theorem ev_pow {e : Ev} (h : e.code = 0) (ht : isPow e = true) : e.st = true ∧ e.key.toList.isEmpty = true := by
 unfold isPow at ht
 unfold Ev.code evCode at h
 split at h
 ·cases h
 split at h
 ·cases h
 split at h
 ·cases h
 split at h
 ·cases h
 split at h
 ·cases h
 rename_i h5
 have hc : ctB e.ty e.key e.val e.st e.np e.na e.ng e.M e.L = true := by
  cases hq : ctB e.ty e.key e.val e.st e.np e.na e.ng e.M e.L
  ·exact absurd hq h5
  ·rfl
 have ht' : e.ty.toList = [112, 111, 119, 101, 114] := by simpa using ht
 unfold ctB at hc
 rw [ht'] at hc
 have e1 : (([112, 111, 119, 101, 114] : List UInt8) == [99, 114, 101, 97, 116, 101]) = false := by decide
 have e2 : (([112, 111, 119, 101, 114] : List UInt8) == [109, 101, 109, 98, 101, 114]) = false := by decide
 have e3 : (([112, 111, 119, 101, 114] : List UInt8) == [106, 111, 105, 110, 95, 114, 117, 108, 101, 115]) = false := by decide
 rw [e1, e2, e3] at hc
 simp at hc
 exact ⟨hc.1.1.1, by simp [hc.1.1.2]⟩
theorem room_code {E : Nat -> Ev} {n i : Nat} (h : roomTo E n = true) (hi : i < n) : (E i).code = 0 := (ins_fresh (room_ins E n i hi h)).2.1
theorem posV_empty {E : Nat -> Ev} {n : Nat} {s : ByteArray} (h : roomTo E n = true) (hs : s.toList.isEmpty = true) : posV E n s = -1 :=
 posV_miss E s n fun i hi => by
  have h1 := ev_id (room_code h hi)
  have h2 : s.toList = [] := by simpa using hs
  rw [h2]
  cases hq : (E i).id.toList
  ·rw [hq] at h1; cases h1
  ·rfl
theorem OwnT.mono {w : World} {base base' n : Nat} {v : Value} {S : Nat -> ByteArray} (h : OwnT w base v n S) (hb : base' <= base) : OwnT w base' v n S := by
 obtain ⟨h1, h2⟩ := h
 exact ⟨h1, h2.imp id fun ⟨g, cap, cur, e, hg, r⟩ => ⟨g, cap, cur, e, Nat.le_trans hb hg, r⟩⟩
end Go.Proofs.YtpmebojkkjlkgaaGreat
