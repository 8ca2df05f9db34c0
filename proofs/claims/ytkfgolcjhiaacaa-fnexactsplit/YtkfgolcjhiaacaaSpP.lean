/-
  States taken apart: plain facts.
-/
import Derived.Test.YtkfgolcjhiaacaaPatP
import Derived.Test.YtkfgolcjhiaacaaStP
import Derived.Test.YtkfgolcjhiaacaaFndS
import Derived.Test.YtkfgolcjhiaacaaOwnL
namespace Go.Proofs.Ytkfgolcjhiaacaa
open Go.RowKit

theorem ba_emptyT : ByteArray.empty.toList.isEmpty = true := by rw [ByteArray.toList_eq]; rfl
theorem findB_ea (l : List Ent) (x : Ent) : findB l x.ty x.key = (eaV l x).id := by
  have h0 : eaV l x = eaV l ⟨x.ty, x.key, ⟨#[]⟩⟩ := rfl
  rw [h0]
  unfold findB eaV
  rcases posI_look l ⟨x.ty, x.key, ⟨#[]⟩⟩ with ⟨h1, h2⟩ | ⟨e, h1, h2, h3⟩
  · rw [h1, h2, if_neg (by decide)]; rfl
  · rw [h1, if_pos h2, h3]; rfl

/-- the first k states have x's Id at x's slot. -/
def agTo (L : Nat → List Ent) (x : Ent) : Nat → Bool
  | 0 => true
  | k + 1 => agTo L x k && ((findB (L k) x.ty x.key).toList == x.id.toList)
theorem agTo_le (L : Nat → List Ent) (x : Ent) : ∀ n k, k < n → agTo L x (k + 1) = false → agTo L x n = false
  | n + 1, k, h, h1 => by
    by_cases e : k = n
    · rw [← e]; exact h1
    · rw [agTo, agTo_le L x n k (by omega) h1]; rfl
theorem agTo_all {L : Nat → List Ent} {x : Ent} : ∀ {n}, agTo L x n = true → ∀ k, k < n → findB (L k) x.ty x.key = x.id
  | n + 1, h, k, hk => by
    rw [agTo, Bool.and_eq_true] at h
    by_cases e : k = n
    · subst e
      rw [beq_iff_eq, ByteArray.toList_eq, ByteArray.toList_eq] at h
      exact ba_eq h.2
    · exact agTo_all h.1 k (by omega)
theorem agTo_of {L : Nat → List Ent} {x : Ent} : ∀ {n}, (∀ k, k < n → findB (L k) x.ty x.key = x.id) → agTo L x n = true
  | 0, _ => rfl
  | n + 1, h => by rw [agTo, agTo_of (fun k hk => h k (by omega)), h n (by omega)]; simp
/-- the first k lists are states. -/
def okTo (L : Nat → List Ent) : Nat → Bool
  | 0 => true
  | k + 1 => okTo L k && stB (L k)
theorem okTo_le (L : Nat → List Ent) : ∀ n k, k < n → okTo L (k + 1) = false → okTo L n = false
  | n + 1, k, h, h1 => by
    by_cases e : k = n
    · rw [← e]; exact h1
    · rw [okTo, okTo_le L n k (by omega) h1]; rfl
theorem okTo_at {L : Nat → List Ent} : ∀ {n}, okTo L n = true → ∀ k, k < n → stB (L k) = true
  | n + 1, h, k, hk => by
    rw [okTo, Bool.and_eq_true] at h
    by_cases e : k = n
    · subst e; exact h.2
    · exact okTo_at h.1 k (by omega)
/-- Split says true. -/
def spOk (L : Nat → List Ent) (n : Nat) : Bool := decide (n ≤ 20) && okTo L n
theorem spOk_parts {L : Nat → List Ent} {n : Nat} (h : spOk L n = true) : n ≤ 20 ∧ okTo L n = true := by
  unfold spOk at h
  rw [Bool.and_eq_true, decide_eq_true_eq] at h
  exact h

/-- an entry of a state. -/
def InS (L : Nat → List Ent) (n : Nat) (x : Ent) : Prop := ∃ i, i < n ∧ x ∈ L i
/-- the entries on which all agree, in order; the Ids of the others, in order. -/
structure SpFin (L : Nat → List Ent) (n : Nat) (Se : List Ent) (So : List ByteArray) : Prop where
  srt : SrtE Se
  mem : ∀ x, x ∈ Se ↔ agTo L x n = true ∧ InS L n x
  srtO : Srt So
  memO : ∀ t, t ∈ So ↔ ∃ x, (agTo L x n = false ∧ InS L n x) ∧ x.id = t

/-! ### the spec's lists -/

/-- the entries kept so far, behind k entries of l. -/
def saK (L : Nat → List Ent) (n : Nat) (acc l : List Ent) : Nat → List Ent
  | 0 => acc
  | k + 1 => if agTo L (eAt l k) n then setL (saK L n acc l k) (eAt l k) false else saK L n acc l k
def saI (L : Nat → List Ent) (n : Nat) : Nat → List Ent
  | 0 => []
  | i + 1 => saK L n (saI L n i) (L i) (L i).length
/-- the other Ids so far, behind k entries of l. -/
def otK (L : Nat → List Ent) (n : Nat) (acc : List ByteArray) (l : List Ent) : Nat → List ByteArray
  | 0 => acc
  | k + 1 => if agTo L (eAt l k) n then otK L n acc l k else otK L n acc l k ++ [(eAt l k).id]
def otI (L : Nat → List Ent) (n : Nat) : Nat → List ByteArray
  | 0 => []
  | i + 1 => otK L n (otI L n i) (L i) (L i).length

theorem saK_len (L : Nat → List Ent) (n : Nat) (acc l : List Ent) : ∀ k, (saK L n acc l k).length ≤ acc.length + k
  | 0 => Nat.le_refl _
  | k + 1 => by
    have := saK_len L n acc l k
    have := setL_len (saK L n acc l k) (eAt l k) false
    unfold saK
    split <;> omega
theorem otK_len (L : Nat → List Ent) (n : Nat) (acc : List ByteArray) (l : List Ent) : ∀ k, (otK L n acc l k).length ≤ acc.length + k
  | 0 => Nat.le_refl _
  | k + 1 => by
    have := otK_len L n acc l k
    unfold otK
    split
    · omega
    · simp; omega
theorem saI_len {L : Nat → List Ent} (n : Nat) : ∀ {i}, okTo L i = true → (saI L n i).length ≤ i * 300
  | 0, _ => Nat.le_refl _
  | i + 1, h => by
    rw [okTo, Bool.and_eq_true] at h
    have := saI_len n h.1
    have := saK_len L n (saI L n i) (L i) (L i).length
    have := (st_parts h.2).1
    unfold saI
    omega
theorem otI_len {L : Nat → List Ent} (n : Nat) : ∀ {i}, okTo L i = true → (otI L n i).length ≤ i * 300
  | 0, _ => Nat.le_refl _
  | i + 1, h => by
    rw [okTo, Bool.and_eq_true] at h
    have := otI_len n h.1
    have := otK_len L n (otI L n i) (L i) (L i).length
    have := (st_parts h.2).1
    unfold otI
    omega
theorem saK_ok {L : Nat → List Ent} (n : Nat) {acc l : List Ent} (h : AllOk acc) (hl : AllOk l) : ∀ k, k ≤ l.length → AllOk (saK L n acc l k)
  | 0, _ => h
  | k + 1, hk => by
    have ih := saK_ok (L := L) n h hl k (by omega)
    unfold saK
    split
    · exact ih.set (hl.at k (by omega))
    · exact ih
theorem saI_ok {L : Nat → List Ent} (n : Nat) : ∀ {i}, (∀ j, j < i → AllOk (L j)) → AllOk (saI L n i)
  | 0, _ => fun x hx => by cases hx
  | i + 1, h => saK_ok n (saI_ok n (fun j hj => h j (by omega))) (h i (by omega)) _ (Nat.le_refl _)
theorem otK_ok {L : Nat → List Ent} (n : Nat) {acc : List ByteArray} {l : List Ent} (h : ∀ t ∈ acc, t.size ≤ maxLen) (hl : AllOk l) : ∀ k, k ≤ l.length → ∀ t ∈ otK L n acc l k, t.size ≤ maxLen
  | 0, _ => h
  | k + 1, hk => by
    have ih := otK_ok (L := L) n h hl k (by omega)
    unfold otK
    split
    · exact ih
    · intro t ht
      rcases List.mem_append.1 ht with h' | h'
      · exact ih t h'
      · rw [List.mem_singleton] at h'
        subst h'
        exact (hl.at k (by omega)).2.2
theorem otI_ok {L : Nat → List Ent} (n : Nat) : ∀ {i}, (∀ j, j < i → AllOk (L j)) → ∀ t ∈ otI L n i, t.size ≤ maxLen
  | 0, _ => fun x hx => by cases hx
  | i + 1, h => otK_ok n (otI_ok n (fun j hj => h j (by omega))) (h i (by omega)) _ (Nat.le_refl _)

theorem ag_same {L : Nat → List Ent} {n : Nat} {x y : Ent} (hn : 0 < n) (hx : agTo L x n = true) (hy : agTo L y n = true) (e : x.ty = y.ty ∧ x.key = y.key) : x = y := by
  have h1 := agTo_all hx 0 hn
  have h2 := agTo_all hy 0 hn
  rw [e.1, e.2, h2] at h1
  obtain ⟨xt, xk, xi⟩ := x
  obtain ⟨yt, yk, yi⟩ := y
  simp only at e h1
  rw [e.1, e.2, h1]

theorem saK_in {L : Nat → List Ent} {n : Nat} (hn : 0 < n) {acc l : List Ent} (h : SrtE acc) (ha : ∀ x ∈ acc, agTo L x n = true) (hi : Ids l) : ∀ k, k ≤ l.length → SrtE (saK L n acc l k) ∧ ∀ x, x ∈ saK L n acc l k ↔ (x ∈ acc ∨ (agTo L x n = true ∧ ∃ j, j < k ∧ eAt l j = x))
  | 0, _ => ⟨h, fun x => ⟨fun hx => Or.inl hx, fun hx => hx.elim id (fun ⟨_, j, hj, _⟩ => absurd hj (Nat.not_lt_zero _))⟩⟩
  | k + 1, hk => by
    obtain ⟨ih1, ih2⟩ := saK_in hn h ha hi k (by omega)
    unfold saK
    by_cases hag : agTo L (eAt l k) n = true
    · rw [if_pos hag]
      refine ⟨setL_srt ih1 _ _, fun x => ?_⟩
      have hall : ∀ y ∈ saK L n acc l k, agTo L y n = true := fun y hy => ((ih2 y).1 hy).elim (ha y) (fun h' => h'.1)
      have hkp : kept (eAt l k) false = true := by unfold kept; rw [hi _ (eAt_mem l k (by omega))]; rfl
      rw [setL_in ih1]
      constructor
      · rintro (⟨h1, _⟩ | ⟨rfl, _⟩)
        · rcases (ih2 x).1 h1 with h' | ⟨h', j, hj, e⟩
          · exact Or.inl h'
          · exact Or.inr ⟨h', j, by omega, e⟩
        · exact Or.inr ⟨hag, k, by omega, rfl⟩
      · intro hx
        by_cases e : x = eAt l k
        · exact Or.inr ⟨e, hkp⟩
        · have hin : x ∈ saK L n acc l k := by
            rcases hx with h' | ⟨h', j, hj, ej⟩
            · exact (ih2 x).2 (Or.inl h')
            · by_cases ejk : j = k
              · subst ejk; exact absurd ej.symm e
              · exact (ih2 x).2 (Or.inr ⟨h', j, by omega, ej⟩)
          exact Or.inl ⟨hin, fun es => e (ag_same hn (hall x hin) hag es)⟩
    · rw [if_neg hag]
      refine ⟨ih1, fun x => ?_⟩
      rw [ih2]
      constructor
      · rintro (h' | ⟨h', j, hj, e⟩)
        · exact Or.inl h'
        · exact Or.inr ⟨h', j, by omega, e⟩
      · rintro (h' | ⟨h', j, hj, e⟩)
        · exact Or.inl h'
        · by_cases ejk : j = k
          · subst ejk; subst e; exact absurd h' hag
          · exact Or.inr ⟨h', j, by omega, e⟩
theorem mem_eAt {l : List Ent} {x : Ent} : x ∈ l ↔ ∃ j, j < l.length ∧ eAt l j = x := by
  constructor
  · intro h
    obtain ⟨j, hj, rfl⟩ := List.mem_iff_getElem.1 h
    exact ⟨j, hj, eAt_get l j hj⟩
  · rintro ⟨j, hj, rfl⟩
    exact eAt_mem l j hj
theorem saI_in {L : Nat → List Ent} {n : Nat} (hn : 0 < n) : ∀ {i}, okTo L i = true → SrtE (saI L n i) ∧ ∀ x, x ∈ saI L n i ↔ agTo L x n = true ∧ InS L i x
  | 0, _ => ⟨List.Pairwise.nil, fun x => ⟨fun h => (by cases h), fun ⟨_, j, hj, _⟩ => absurd hj (Nat.not_lt_zero _)⟩⟩
  | i + 1, h => by
    rw [okTo, Bool.and_eq_true] at h
    obtain ⟨ih1, ih2⟩ := saI_in hn h.1
    obtain ⟨h1, h2⟩ := saK_in (L := L) hn ih1 (fun x hx => ((ih2 x).1 hx).1) (st_parts h.2).2.2 _ (Nat.le_refl (L i).length)
    unfold saI
    refine ⟨h1, fun x => ?_⟩
    rw [h2, ih2, ← mem_eAt]
    constructor
    · rintro (⟨h', j, hj, e⟩ | ⟨h', e⟩)
      · exact ⟨h', j, by omega, e⟩
      · exact ⟨h', i, by omega, e⟩
    · rintro ⟨h', j, hj, e⟩
      by_cases eji : j = i
      · subst eji; exact Or.inr ⟨h', e⟩
      · exact Or.inl ⟨h', j, by omega, e⟩
theorem otK_in (L : Nat → List Ent) (n : Nat) (acc : List ByteArray) (l : List Ent) (t : ByteArray) : ∀ k, t ∈ otK L n acc l k ↔ (t ∈ acc ∨ ∃ j, j < k ∧ agTo L (eAt l j) n = false ∧ (eAt l j).id = t)
  | 0 => ⟨fun hx => Or.inl hx, fun hx => hx.elim id (fun ⟨j, hj, _⟩ => absurd hj (Nat.not_lt_zero _))⟩
  | k + 1 => by
    have ih := otK_in L n acc l t k
    unfold otK
    by_cases hag : agTo L (eAt l k) n = true
    · rw [if_pos hag, ih]
      constructor
      · rintro (h' | ⟨j, hj, e⟩)
        · exact Or.inl h'
        · exact Or.inr ⟨j, by omega, e⟩
      · rintro (h' | ⟨j, hj, e⟩)
        · exact Or.inl h'
        · by_cases ejk : j = k
          · subst ejk; rw [hag] at e; cases e.1
          · exact Or.inr ⟨j, by omega, e⟩
    · rw [if_neg hag, List.mem_append, ih, List.mem_singleton]
      have hag' : agTo L (eAt l k) n = false := by simpa using hag
      constructor
      · rintro ((h' | ⟨j, hj, e⟩) | h')
        · exact Or.inl h'
        · exact Or.inr ⟨j, by omega, e⟩
        · exact Or.inr ⟨k, by omega, hag', h'.symm⟩
      · rintro (h' | ⟨j, hj, e⟩)
        · exact Or.inl (Or.inl h')
        · by_cases ejk : j = k
          · subst ejk; exact Or.inr e.2.symm
          · exact Or.inl (Or.inr ⟨j, by omega, e⟩)
theorem otI_in (L : Nat → List Ent) (n : Nat) (t : ByteArray) : ∀ i, t ∈ otI L n i ↔ ∃ x, (agTo L x n = false ∧ InS L i x) ∧ x.id = t
  | 0 => ⟨fun h => (by cases h), fun ⟨x, ⟨_, j, hj, _⟩, _⟩ => absurd hj (Nat.not_lt_zero _)⟩
  | i + 1 => by
    unfold otI
    rw [otK_in, otI_in L n t i]
    constructor
    · rintro (⟨x, ⟨h1, j, hj, e⟩, h2⟩ | ⟨j, hj, h1, h2⟩)
      · exact ⟨x, ⟨h1, j, by omega, e⟩, h2⟩
      · exact ⟨_, ⟨h1, i, by omega, eAt_mem _ j hj⟩, h2⟩
    · rintro ⟨x, ⟨h1, j, hj, e⟩, h2⟩
      by_cases eji : j = i
      · subst eji
        obtain ⟨q, hq, rfl⟩ := mem_eAt.1 e
        exact Or.inr ⟨q, hq, h1, h2⟩
      · exact Or.inl ⟨x, ⟨h1, j, by omega, e⟩, h2⟩

/-! ### the program's lists -/

/-- the three fields are the same. -/
def eqB3 (x y : Ent) : Bool := (x.ty.toList == y.ty.toList) && ((x.key.toList == y.key.toList) && (x.id.toList == y.id.toList))
theorem eqB3_iff (x y : Ent) : eqB3 x y = true ↔ x = y := by
  unfold eqB3
  rw [Bool.and_eq_true, Bool.and_eq_true, beq_iff_eq, beq_iff_eq, beq_iff_eq, ByteArray.toList_eq, ByteArray.toList_eq, ByteArray.toList_eq, ByteArray.toList_eq, ByteArray.toList_eq, ByteArray.toList_eq]
  obtain ⟨a, b, c⟩ := x
  obtain ⟨a', b', c'⟩ := y
  constructor
  · rintro ⟨h1, h2, h3⟩
    simp only at h1 h2 h3
    rw [ba_eq h1, ba_eq h2, ba_eq h3]
  · intro h
    injection h with h1 h2 h3
    exact ⟨by rw [h1], by rw [h2], by rw [h3]⟩
/-- in a list in order, x is what stands at its slot exactly when x is in it. -/
theorem ea_in {l : List Ent} (hs : SrtE l) {x : Ent} (hx : x.id.toList.isEmpty = false) : eqB3 (eaV l x) x = true ↔ x ∈ l := by
  rw [eqB3_iff]
  constructor
  · intro h
    unfold eaV at h
    cases hl : lookE l x with
    | none =>
      rw [hl] at h
      have : x.id = ByteArray.empty := by rw [← h]; rfl
      rw [this, ba_emptyT] at hx
      cases hx
    | some y =>
      rw [hl] at h
      have : y = x := h
      rw [← this]
      exact (lookE_some hl).1
  · intro h
    unfold eaV
    rw [lookE_mem hs h ⟨rfl, rfl⟩]
    rfl
theorem fi_in {l : List Ent} (hs : SrtE l) {x : Ent} (hx : x.id.toList.isEmpty = false) : findB l x.ty x.key = x.id ↔ x ∈ l := by
  rw [findB_ea]
  constructor
  · intro h
    unfold eaV at h
    cases hl : lookE l x with
    | none =>
      rw [hl] at h
      have : x.id = ByteArray.empty := by rw [← h]; rfl
      rw [this, ba_emptyT] at hx
      cases hx
    | some y =>
      rw [hl] at h
      have hid : y.id = x.id := h
      obtain ⟨h1, h2, h3⟩ := lookE_some hl
      have : y = x := by
        obtain ⟨a, b, c⟩ := y
        obtain ⟨a', b', c'⟩ := x
        simp only at hid h2 h3
        rw [hid, h2, h3]
      rw [← this]
      exact h1
  · intro h
    unfold eaV
    rw [lookE_mem hs h ⟨rfl, rfl⟩]
    rfl
/-- the first k states behind the first one have x. -/
def iaTo (L : Nat → List Ent) (x : Ent) : Nat → Bool
  | 0 => true
  | k + 1 => iaTo L x k && eqB3 (eaV (L (k + 1)) x) x
theorem iaTo_le (L : Nat → List Ent) (x : Ent) : ∀ n k, k < n → iaTo L x (k + 1) = false → iaTo L x n = false
  | n + 1, k, h, h1 => by
    by_cases e : k = n
    · rw [← e]; exact h1
    · rw [iaTo, iaTo_le L x n k (by omega) h1]; rfl
theorem iaTo_all {L : Nat → List Ent} {x : Ent} : ∀ n, iaTo L x n = true ↔ ∀ k, k < n → eqB3 (eaV (L (k + 1)) x) x = true
  | 0 => ⟨fun _ k hk => absurd hk (Nat.not_lt_zero _), fun _ => rfl⟩
  | n + 1 => by
    rw [iaTo, Bool.and_eq_true, iaTo_all n]
    constructor
    · rintro ⟨h1, h2⟩ k hk
      by_cases e : k = n
      · subst e; exact h2
      · exact h1 k (by omega)
    · intro h
      exact ⟨fun k hk => h k (by omega), h n (by omega)⟩
theorem ag_mem {L : Nat → List Ent} {n : Nat} (hok : okTo L n = true) {x : Ent} (hx : x.id.toList.isEmpty = false) : agTo L x n = true ↔ ∀ k, k < n → x ∈ L k := by
  constructor
  · intro h k hk
    exact (fi_in (st_parts (okTo_at hok k hk)).2.1 hx).1 (agTo_all h k hk)
  · intro h
    exact agTo_of fun k hk => (fi_in (st_parts (okTo_at hok k hk)).2.1 hx).2 (h k hk)
theorem ia_ag {L : Nat → List Ent} {m : Nat} (hok : okTo L (m + 1) = true) {x : Ent} (hx : x ∈ L 0) : iaTo L x m = agTo L x (m + 1) := by
  have hid := (st_parts (okTo_at hok 0 (by omega))).2.2 x hx
  rw [Bool.eq_iff_iff, ag_mem hok hid, iaTo_all]
  constructor
  · intro h k hk
    rcases k with _ | k
    · exact hx
    · exact (ea_in (st_parts (okTo_at hok (k + 1) hk)).2.1 hid).1 (h k (by omega))
  · intro h k hk
    exact (ea_in (st_parts (okTo_at hok (k + 1) (by omega))).2.1 hid).2 (h (k + 1) (by omega))
/-- the entries of the first state, as far as they are agreed on. -/
def agL (L : Nat → List Ent) (m : Nat) : Nat → List Ent
  | 0 => []
  | k + 1 => if iaTo L (eAt (L 0) k) m then agL L m k ++ [eAt (L 0) k] else agL L m k
theorem agL_sub (L : Nat → List Ent) (m : Nat) : ∀ k, k ≤ (L 0).length → (agL L m k).Sublist ((L 0).take k)
  | 0, _ => List.nil_sublist _
  | k + 1, hk => by
    have ih := agL_sub L m k (by omega)
    have e : (L 0).take (k + 1) = (L 0).take k ++ [eAt (L 0) k] := by rw [List.take_succ_eq_append_getElem (by omega), eAt_get]
    unfold agL
    rw [e]
    split
    · exact List.Sublist.append ih (List.Sublist.refl _)
    · exact ih.trans (List.sublist_append_left _ _)
theorem agL_in (L : Nat → List Ent) (m : Nat) (x : Ent) : ∀ k, x ∈ agL L m k ↔ ∃ j, j < k ∧ eAt (L 0) j = x ∧ iaTo L x m = true
  | 0 => ⟨fun h => (by cases h), fun ⟨j, hj, _⟩ => absurd hj (Nat.not_lt_zero _)⟩
  | k + 1 => by
    have ih := agL_in L m x k
    unfold agL
    split
    · rename_i hia
      rw [List.mem_append, ih, List.mem_singleton]
      constructor
      · rintro (⟨j, hj, e⟩ | rfl)
        · exact ⟨j, by omega, e⟩
        · exact ⟨k, by omega, rfl, hia⟩
      · rintro ⟨j, hj, e1, e2⟩
        by_cases ejk : j = k
        · subst ejk; exact Or.inr e1.symm
        · exact Or.inl ⟨j, by omega, e1, e2⟩
    · rename_i hia
      rw [ih]
      constructor
      · rintro ⟨j, hj, e⟩
        exact ⟨j, by omega, e⟩
      · rintro ⟨j, hj, e1, e2⟩
        by_cases ejk : j = k
        · subst ejk; subst e1; exact absurd e2 hia
        · exact ⟨j, by omega, e1, e2⟩
/-- what agreedEntries answers. -/
def agR (L : Nat → List Ent) (n : Nat) : List Ent := if n = 0 then [] else agL L (n - 1) (L 0).length
theorem agR_in {L : Nat → List Ent} {n : Nat} (hok : okTo L n = true) : SrtE (agR L n) ∧ (agR L n).length ≤ 300 ∧ (∀ x, x ∈ agR L n ↔ agTo L x n = true ∧ InS L n x) := by
  rcases n with _ | m
  · exact ⟨List.Pairwise.nil, Nat.zero_le _, fun x => ⟨fun h => (by cases h), fun ⟨_, j, hj, _⟩ => absurd hj (Nat.not_lt_zero _)⟩⟩
  · have h0 := st_parts (okTo_at hok 0 (by omega))
    have hsub := agL_sub L m (L 0).length (Nat.le_refl _)
    rw [List.take_length] at hsub
    unfold agR
    rw [if_neg (by omega), Nat.add_sub_cancel]
    refine ⟨List.Pairwise.sublist hsub h0.2.1, Nat.le_trans hsub.length_le h0.1, fun x => ?_⟩
    rw [agL_in]
    constructor
    · rintro ⟨j, hj, rfl, h2⟩
      have hx := eAt_mem (L 0) j hj
      exact ⟨by rw [← ia_ag hok hx]; exact h2, 0, by omega, hx⟩
    · rintro ⟨h1, i, hi, hx⟩
      have hid := (st_parts (okTo_at hok i hi)).2.2 x hx
      have hx0 := (ag_mem hok hid).1 h1 0 (by omega)
      obtain ⟨j, hj, e⟩ := mem_eAt.1 hx0
      exact ⟨j, hj, e, by rw [ia_ag hok hx0]; exact h1⟩
/-- an entry of a state is one of those agreed on exactly when all have it. -/
theorem same_ag {L : Nat → List Ent} {n i : Nat} (hok : okTo L n = true) (hi : i < n) {x : Ent} (hx : x ∈ L i) : eqB3 (eaV (agR L n) x) x = agTo L x n := by
  obtain ⟨h1, _, h3⟩ := agR_in hok
  have hid := (st_parts (okTo_at hok i hi)).2.2 x hx
  rw [Bool.eq_iff_iff, ea_in h1 hid, h3]
  exact ⟨fun h => h.1, fun h => ⟨h, i, hi, hx⟩⟩
theorem spFin_unique {L : Nat → List Ent} {n : Nat} {Se Se' : List Ent} {So So' : List ByteArray} (h : SpFin L n Se So) (h' : SpFin L n Se' So') : Se = Se' ∧ So = So' :=
  ⟨srt_ext h.srt h'.srt (fun x => (h.mem x).trans (h'.mem x).symm), srt_unique h.srtO h'.srtO (fun t => (h.memO t).trans (h'.memO t).symm)⟩
end Go.Proofs.Ytkfgolcjhiaacaa
