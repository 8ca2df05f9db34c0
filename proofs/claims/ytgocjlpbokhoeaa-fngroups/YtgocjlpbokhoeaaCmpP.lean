import Derived.Test.YtgocjlpbokhoeaaEntM
import Derived.Lib.Bytealg
import Derived.Sort.Walk0
namespace Go.Proofs.Ytgocjlpbokhoeaa
open Go.RowKit
theorem ba_eq {s t : ByteArray} (h : s.data.toList = t.data.toList) : s = t := by
  obtain ⟨s⟩ := s; obtain ⟨t⟩ := t
  exact congrArg _ (Array.toList_inj.1 h)
theorem cmp_cases : ∀ x y : List UInt8, (x < y ∧ Lib.compareBytes x y = -1) ∨ (x = y ∧ Lib.compareBytes x y = 0) ∨ (y < x ∧ Lib.compareBytes x y = 1)
  | [], [] => Or.inr (Or.inl ⟨rfl, rfl⟩)
  | [], b :: y => Or.inl ⟨by simp, rfl⟩
  | a :: x, [] => Or.inr (Or.inr ⟨by simp, rfl⟩)
  | a :: x, b :: y => by
    unfold Lib.compareBytes
    by_cases h1 : a < b
    · rw [if_pos h1]; exact Or.inl ⟨List.cons_lt_cons_iff.2 (Or.inl h1), rfl⟩
    · rw [if_neg h1]
      by_cases h2 : b < a
      · rw [if_pos h2]; exact Or.inr (Or.inr ⟨List.cons_lt_cons_iff.2 (Or.inl h2), rfl⟩)
      · rw [if_neg h2]
        have e : a = b := UInt8.le_antisymm (UInt8.not_lt.1 h2) (UInt8.not_lt.1 h1)
        subst e
        rcases cmp_cases x y with ⟨h, e⟩ | ⟨rfl, e⟩ | ⟨h, e⟩
        · exact Or.inl ⟨List.cons_lt_cons_iff.2 (Or.inr ⟨rfl, h⟩), e⟩
        · exact Or.inr (Or.inl ⟨rfl, e⟩)
        · exact Or.inr (Or.inr ⟨List.cons_lt_cons_iff.2 (Or.inr ⟨rfl, h⟩), e⟩)
def cB (a b : ByteArray) : Int := Lib.compareBytes a.data.toList b.data.toList
def cmpE (a b : Ent) : Int := if cB a.ty b.ty = 0 then cB a.key b.key else cB a.ty b.ty
def Lt (a b : Ent) : Prop := a.ty.data.toList < b.ty.data.toList ∨ (a.ty = b.ty ∧ a.key.data.toList < b.key.data.toList)
theorem befB_iff (a b : Ent) : befB a b = true ↔ Lt a b := by
  unfold befB Lt
  rw [ByteArray.toList_eq, ByteArray.toList_eq, ByteArray.toList_eq, ByteArray.toList_eq]
  by_cases h : a.ty.data.toList = b.ty.data.toList
  · rw [if_pos (by simpa using h), bytesLess_eq, decide_eq_true_eq]
    constructor
    · exact fun h' => Or.inr ⟨ba_eq h, h'⟩
    · rintro (h' | h')
      · rw [h] at h'; exact absurd h' (List.lt_irrefl _)
      · exact h'.2
  · rw [if_neg (by simpa using h), bytesLess_eq, decide_eq_true_eq]
    constructor
    · exact Or.inl
    · rintro (h' | h')
      · exact h'
      · exact absurd (by rw [h'.1]) h
theorem samB_iff (a b : Ent) : samB a b = true ↔ a.ty = b.ty ∧ a.key = b.key := by
  unfold samB
  rw [Bool.and_eq_true, ByteArray.toList_eq, ByteArray.toList_eq, ByteArray.toList_eq, ByteArray.toList_eq, beq_iff_eq, beq_iff_eq]
  exact ⟨fun h => ⟨ba_eq h.1, ba_eq h.2⟩, fun h => ⟨by rw [h.1], by rw [h.2]⟩⟩
theorem Lt.trans {a b c : Ent} (h1 : Lt a b) (h2 : Lt b c) : Lt a c := by
  unfold Lt at *
  rcases h1 with h1 | ⟨e1, h1⟩ <;> rcases h2 with h2 | ⟨e2, h2⟩
  · exact Or.inl (List.lt_trans h1 h2)
  · rw [← e2]; exact Or.inl h1
  · rw [e1]; exact Or.inl h2
  · exact Or.inr ⟨e1.trans e2, List.lt_trans h1 h2⟩
theorem Lt.irrefl (a : Ent) : ¬ Lt a a := by
  rintro (h | h)
  · exact List.lt_irrefl _ h
  · exact List.lt_irrefl _ h.2
theorem tri (a b : Ent) : (Lt a b ∧ cmpE a b = -1) ∨ ((a.ty = b.ty ∧ a.key = b.key) ∧ cmpE a b = 0) ∨ (Lt b a ∧ cmpE a b = 1) := by
  unfold cmpE Lt
  rcases cmp_cases a.ty.data.toList b.ty.data.toList with ⟨h, e⟩ | ⟨h, e⟩ | ⟨h, e⟩
  · exact Or.inl ⟨Or.inl h, by unfold cB; rw [e]; rfl⟩
  · rcases cmp_cases a.key.data.toList b.key.data.toList with ⟨h2, e2⟩ | ⟨h2, e2⟩ | ⟨h2, e2⟩
    · exact Or.inl ⟨Or.inr ⟨ba_eq h, h2⟩, by unfold cB; rw [e, e2]; rfl⟩
    · exact Or.inr (Or.inl ⟨⟨ba_eq h, ba_eq h2⟩, by unfold cB; rw [e, e2]; rfl⟩)
    · exact Or.inr (Or.inr ⟨Or.inr ⟨(ba_eq h).symm, h2⟩, by unfold cB; rw [e, e2]; rfl⟩)
  · exact Or.inr (Or.inr ⟨Or.inl h, by unfold cB; rw [e]; rfl⟩)
theorem Lt.ne {a b : Ent} (h : Lt a b) : ¬ (a.ty = b.ty ∧ a.key = b.key) := by
  rintro ⟨e1, e2⟩
  unfold Lt at h
  rw [e1, e2] at h
  rcases h with h | h
  · exact List.lt_irrefl _ h
  · exact List.lt_irrefl _ h.2
theorem Lt.asymm {a b : Ent} (h : Lt a b) : ¬ Lt b a := fun h' => Lt.irrefl a (h.trans h')
theorem cmpE_neg (a b : Ent) : cmpE a b < 0 ↔ Lt a b := by
  rcases tri a b with ⟨h, e⟩ | ⟨h, e⟩ | ⟨h, e⟩
  · rw [e]; exact ⟨fun _ => h, fun _ => by decide⟩
  · rw [e]; exact ⟨fun h' => absurd h' (by decide), fun h' => absurd h h'.ne⟩
  · rw [e]; exact ⟨fun h' => absurd h' (by decide), fun h' => absurd h h'.asymm⟩
theorem cmpE_zero (a b : Ent) : cmpE a b = 0 ↔ (a.ty = b.ty ∧ a.key = b.key) := by
  rcases tri a b with ⟨h, e⟩ | ⟨h, e⟩ | ⟨h, e⟩
  · rw [e]; exact ⟨fun h' => absurd h' (by decide), fun h' => absurd h' h.ne⟩
  · rw [e]; exact ⟨fun _ => h, fun _ => rfl⟩
  · rw [e]; exact ⟨fun h' => absurd h' (by decide), fun h' => absurd ⟨h'.1.symm, h'.2.symm⟩ h.ne⟩
theorem cmpE_bef (a b : Ent) : befB a b = decide (cmpE a b < 0) := by
  rw [Bool.eq_iff_iff, befB_iff, decide_eq_true_eq, cmpE_neg]
def SrtE (l : List Ent) : Prop := l.Pairwise Lt
theorem ordTo_iff (l : List Ent) : ∀ n, ordTo l n = true ↔ ∀ i, i + 1 < n → befB (eAt l i) (eAt l (i + 1)) = true
  | 0 => ⟨fun _ i hi => absurd hi (by omega), fun _ => rfl⟩
  | n + 1 => by
    unfold ordTo
    rw [Bool.and_eq_true, ordTo_iff l n]
    constructor
    · rintro ⟨h1, h2⟩ i hi
      by_cases e : i + 1 = n
      · subst e
        rw [Bool.or_eq_true] at h2
        rcases h2 with h2 | h2
        · simp at h2
        · exact h2
      · exact h1 i (by omega)
    · refine fun h => ⟨fun i hi => h i (by omega), ?_⟩
      cases n with
      | zero => rfl
      | succ m => rw [Bool.or_eq_true]; exact Or.inr (h m (by omega))
theorem srt_at {l : List Ent} (h : SrtE l) {i j : Nat} (hij : i < j) (hj : j < l.length) : Lt (eAt l i) (eAt l j) := by
  rw [eAt_get l i (by omega), eAt_get l j hj]
  exact List.pairwise_iff_getElem.1 h i j (by omega) hj hij
theorem srt_of {l : List Ent} (h : ordB l = true) : SrtE l := by
  have h1 := (ordTo_iff l l.length).1 h
  have h2 : ∀ j, j < l.length → ∀ i, i < j → Lt (eAt l i) (eAt l j) := by
    intro j
    induction j with
    | zero => exact fun _ i hi => absurd hi (Nat.not_lt_zero _)
    | succ j ih =>
      intro hj i hi
      have hs := (befB_iff _ _).1 (h1 j hj)
      by_cases e : i = j
      · subst e; exact hs
      · exact (ih (by omega) i (by omega)).trans hs
  refine List.pairwise_iff_getElem.2 fun i j hi hj hij => ?_
  have := h2 j hj i hij
  rwa [eAt_get l i hi, eAt_get l j hj] at this
theorem ord_of {l : List Ent} (h : SrtE l) : ordB l = true :=
  (ordTo_iff l l.length).2 fun i hi => (befB_iff _ _).2 (srt_at h (Nat.lt_succ_self i) hi)
def lookE (l : List Ent) (s : Ent) : Option Ent := l.find? fun x => samB x s
theorem lookE_some {l : List Ent} {s e : Ent} (h : lookE l s = some e) : e ∈ l ∧ e.ty = s.ty ∧ e.key = s.key := by
  unfold lookE at h
  have h2 : samB e s = true := List.find?_some (p := fun x => samB x s) h
  exact ⟨List.mem_of_find?_eq_some h, (samB_iff _ _).1 h2⟩
theorem lookE_none {l : List Ent} {s : Ent} : lookE l s = none ↔ ∀ x ∈ l, ¬ (x.ty = s.ty ∧ x.key = s.key) := by
  unfold lookE
  rw [List.find?_eq_none]
  exact ⟨fun h x hx e => h x hx ((samB_iff _ _).2 e), fun h x hx e => h x hx ((samB_iff _ _).1 e)⟩
theorem srt_uniq {l : List Ent} (h : SrtE l) {x y : Ent} (hx : x ∈ l) (hy : y ∈ l) (e : x.ty = y.ty ∧ x.key = y.key) : x = y := by
  obtain ⟨i, hi, rfl⟩ := List.mem_iff_getElem.1 hx
  obtain ⟨j, hj, rfl⟩ := List.mem_iff_getElem.1 hy
  rcases Nat.lt_trichotomy i j with hij | hij | hij
  · exact absurd e (List.pairwise_iff_getElem.1 h i j hi hj hij).ne
  · subst hij; rfl
  · exact absurd ⟨e.1.symm, e.2.symm⟩ (List.pairwise_iff_getElem.1 h j i hj hi hij).ne
theorem lookE_mem {l : List Ent} (h : SrtE l) {x s : Ent} (hx : x ∈ l) (e : x.ty = s.ty ∧ x.key = s.key) : lookE l s = some x := by
  cases hl : lookE l s with
  | none => exact absurd e (lookE_none.1 hl x hx)
  | some y =>
    obtain ⟨h1, h2, h3⟩ := lookE_some hl
    rw [srt_uniq h h1 hx ⟨h2.trans e.1.symm, h3.trans e.2.symm⟩]
theorem srt_ext : ∀ {l l' : List Ent}, SrtE l → SrtE l' → (∀ x, x ∈ l ↔ x ∈ l') → l = l'
  | [], [], _, _, _ => rfl
  | [], b :: l', _, _, h => absurd ((h b).2 (by simp)) (by simp)
  | a :: l, [], _, _, h => absurd ((h a).1 (by simp)) (by simp)
  | a :: l, b :: l', h1, h2, h => by
    obtain ⟨p1, q1⟩ := List.pairwise_cons.1 h1
    obtain ⟨p2, q2⟩ := List.pairwise_cons.1 h2
    have e : a = b := by
      rcases List.mem_cons.1 ((h a).1 (by simp)) with e | ha
      · exact e
      · rcases List.mem_cons.1 ((h b).2 (by simp)) with e | hb
        · exact e.symm
        · exact absurd (p1 b hb) (p2 a ha).asymm
    subst e
    congr 1
    refine srt_ext q1 q2 fun x => ⟨fun hx => ?_, fun hx => ?_⟩
    · rcases List.mem_cons.1 ((h x).1 (List.mem_cons_of_mem _ hx)) with e | hx'
      · subst e; exact absurd (p1 x hx) (Lt.irrefl x)
      · exact hx'
    · rcases List.mem_cons.1 ((h x).2 (List.mem_cons_of_mem _ hx)) with e | hx'
      · subst e; exact absurd (p2 x hx) (Lt.irrefl x)
      · exact hx'
theorem srt_ext_look {l l' : List Ent} (h1 : SrtE l) (h2 : SrtE l') (h : ∀ s, lookE l s = lookE l' s) : l = l' := by
  refine srt_ext h1 h2 fun x => ⟨fun hx => ?_, fun hx => ?_⟩
  · have := lookE_mem h1 hx (s := x) ⟨rfl, rfl⟩
    rw [h x] at this
    exact (lookE_some this).1
  · have := lookE_mem h2 hx (s := x) ⟨rfl, rfl⟩
    rw [← h x] at this
    exact (lookE_some this).1
theorem bs_hit {l : List Ent} (h : SrtE l) {s : Ent} {i : Nat} (hi : i < l.length) (e : cmpE (eAt l i) s = 0) : lookE l s = some (eAt l i) := lookE_mem h (eAt_mem l i hi) ((cmpE_zero _ _).1 e)
theorem bs_miss {l : List Ent} (h : SrtE l) {s : Ent} {i : Nat} (h1 : ∀ t, t < i → cmpE (eAt l t) s < 0) (h2 : ∀ t, i ≤ t → t < l.length → 0 ≤ cmpE (eAt l t) s) (h3 : i < l.length → cmpE (eAt l i) s ≠ 0) : lookE l s = none := by
  refine lookE_none.2 fun x hx e => ?_
  obtain ⟨j, hj, rfl⟩ := List.mem_iff_getElem.1 hx
  rw [← eAt_get l j hj] at e
  have e0 := (cmpE_zero _ _).2 e
  rcases Nat.lt_trichotomy j i with hji | hji | hji
  · have := h1 j hji; omega
  · subst hji; exact h3 hj e0
  · have hl := srt_at h hji hj
    have hi : i < l.length := by omega
    have h4 := h2 i (Nat.le_refl _) hi
    have h5 := h3 hi
    rcases tri (eAt l i) s with ⟨_, e⟩ | ⟨_, e⟩ | ⟨hlt, _⟩
    · omega
    · exact h5 e
    · exact (hlt.trans hl).ne ⟨e.1.symm, e.2.symm⟩
theorem bs_mono {l : List Ent} (h : SrtE l) {s : Ent} {i j : Nat} (hij : i ≤ j) (hj : j < l.length) (e : cmpE (eAt l j) s < 0) : cmpE (eAt l i) s < 0 := by
  rcases Nat.lt_or_ge i j with hlt | hge
  · exact (cmpE_neg _ _).2 ((srt_at h hlt hj).trans ((cmpE_neg _ _).1 e))
  · rw [show i = j by omega]; exact e
end Go.Proofs.Ytgocjlpbokhoeaa
