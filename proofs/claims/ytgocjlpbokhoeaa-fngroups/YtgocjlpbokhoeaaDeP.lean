import Derived.Test.YtgocjlpbokhoeaaDlPM
import Derived.Test.YtgocjlpbokhoeaaPatP
import Derived.Test.YtgocjlpbokhoeaaCsIM
import Derived.Test.YtgocjlpbokhoeaaAmI
namespace Go.Proofs.Ytgocjlpbokhoeaa
open Go.RowKit
theorem findB_look2 (l : List Ent) (kind key : ByteArray) : findB l kind key = (eaV l ⟨kind, key, ⟨#[]⟩⟩).id := by
  unfold findB eaV
  rcases posI_look l ⟨kind, key, ⟨#[]⟩⟩ with ⟨h1, h2⟩ | ⟨e, h1, h2, h3⟩
  · rw [h1, h2, if_neg (by decide)]; rfl
  · rw [h1, if_pos h2, h3]; rfl
def wipe (e : Ent) : Ent := ⟨e.ty, e.key, ⟨#[]⟩⟩
def sidB (x y : Ent) : Bool := x.id.toList == y.id.toList
def deF (a b : List Ent) (s : Ent) : Option Ent := match lookE a s with
  | none => lookE b s
  | some x => match lookE b s with
    | none => some (wipe x)
    | some y => if sidB y x = true then none else some y
def d1F (b : List Ent) (o : Option Ent) : Option Ent := match o with
  | none => none
  | some x => if (findB b x.ty x.key).toList == x.id.toList then none else some ⟨x.ty, x.key, findB b x.ty x.key⟩
theorem look_fresh {l : List Ent} (h : SrtE l) {k : Nat} (hk : k < l.length) {s : Ent} (hs : samB (eAt l k) s = true) : lookE (l.take k) s = none := by
  obtain ⟨h1, h2⟩ := (samB_iff _ _).1 hs
  rw [← lookE_resp (l.take k) (eAt l k) s h1 h2]
  exact take_fresh h hk
theorem look_step {l : List Ent} {k : Nat} (hk : k < l.length) (s : Ent) : lookE (l.take (k + 1)) s = (lookE (l.take k) s).or (if samB (eAt l k) s = true then some (eAt l k) else none) := by
  rw [take_snocE l k hk, look_snoc]
theorem dl1_look {a b : List Ent} (ha : SrtE a) : ∀ k, k ≤ a.length → SrtE (dl1 a b k) ∧ ∀ s, lookE (dl1 a b k) s = d1F b (lookE (a.take k) s)
  | 0, _ => ⟨List.Pairwise.nil, fun s => by rw [List.take_zero]; rfl⟩
  | k + 1, hk => by
    obtain ⟨i1, i2⟩ := dl1_look ha k (by omega)
    have hkl : k < a.length := by omega
    unfold dl1
    cases hq : ((findB b (eAt a k).ty (eAt a k).key).toList == (eAt a k).id.toList)
    · simp only [Bool.false_eq_true, if_false]
      refine ⟨setL_srt i1 _ _, fun s => ?_⟩
      rw [setL_look i1, i2, look_step hkl]
      by_cases hs : samB (eAt a k) s = true
      · rw [if_pos ((samB_iff _ _).1 hs), if_pos (show kept _ true = true from rfl), look_fresh ha hkl hs, if_pos hs]
        show _ = d1F b (some (eAt a k))
        unfold d1F
        simp only [hq, Bool.false_eq_true, if_false]
      · rw [if_neg (fun e => hs ((samB_iff (eAt a k) s).2 e)), if_neg hs]
        cases lookE (a.take k) s <;> rfl
    · simp only [if_true]
      refine ⟨i1, fun s => ?_⟩
      rw [i2, look_step hkl]
      by_cases hs : samB (eAt a k) s = true
      · rw [look_fresh ha hkl hs, if_pos hs]
        show _ = d1F b (some (eAt a k))
        unfold d1F
        simp only [hq, if_true]
      · rw [if_neg hs]
        cases lookE (a.take k) s <;> rfl
theorem dl2_look {a b : List Ent} (ha : SrtE a) (hb : SrtE b) : ∀ k, k ≤ b.length → SrtE (dl2 a b k) ∧ ∀ s, lookE (dl2 a b k) s = match lookE (b.take k) s with
      | some y => if (lookE a s).isSome = true then d1F b (lookE a s) else some y
      | none => d1F b (lookE a s)
  | 0, _ => by
    obtain ⟨h1, h2⟩ := dl1_look (b := b) ha a.length (Nat.le_refl _)
    refine ⟨h1, fun s => ?_⟩
    rw [List.take_zero]
    show lookE (dl1 a b a.length) s = d1F b (lookE a s)
    rw [h2, List.take_length]
  | k + 1, hk => by
    obtain ⟨i1, i2⟩ := dl2_look ha hb k (by omega)
    have hkl : k < b.length := by omega
    unfold dl2
    by_cases hp : posI a (eAt b k) < 0
    · rw [if_pos hp]
      have hn : lookE a (eAt b k) = none := by
        rcases posI_look a (eAt b k) with ⟨h1, _⟩ | ⟨e, _, h2, _⟩
        · exact h1
        · omega
      refine ⟨setL_srt i1 _ _, fun s => ?_⟩
      rw [setL_look i1, i2, look_step hkl]
      by_cases hs : samB (eAt b k) s = true
      · obtain ⟨e1, e2⟩ := (samB_iff _ _).1 hs
        rw [if_pos ⟨e1, e2⟩, if_pos (show kept _ true = true from rfl), look_fresh hb hkl hs, if_pos hs]
        have : lookE a s = none := by rw [← lookE_resp a (eAt b k) s e1 e2]; exact hn
        rw [this]
        rfl
      · rw [if_neg (fun e => hs ((samB_iff (eAt b k) s).2 e)), if_neg hs]
        cases lookE (b.take k) s <;> rfl
    · rw [if_neg hp]
      have hn : (lookE a (eAt b k)).isSome = true := by
        rcases posI_look a (eAt b k) with ⟨_, h2⟩ | ⟨e, h1, _, _⟩
        · omega
        · rw [h1]; rfl
      refine ⟨i1, fun s => ?_⟩
      rw [i2, look_step hkl]
      by_cases hs : samB (eAt b k) s = true
      · obtain ⟨e1, e2⟩ := (samB_iff _ _).1 hs
        rw [look_fresh hb hkl hs, if_pos hs]
        have : (lookE a s).isSome = true := by rw [← lookE_resp a (eAt b k) s e1 e2]; exact hn
        show _ = if (lookE a s).isSome = true then d1F b (lookE a s) else some (eAt b k)
        rw [if_pos this]
      · rw [if_neg hs]
        cases lookE (b.take k) s <;> rfl
theorem find_at {b : List Ent} {x s : Ent} (e1 : x.ty = s.ty) (e2 : x.key = s.key) : findB b x.ty x.key = match lookE b s with | some y => y.id | none => ⟨#[]⟩ := by
  rw [findB_look2]
  unfold eaV
  rw [lookE_resp b ⟨x.ty, x.key, ⟨#[]⟩⟩ s e1 e2]
  cases lookE b s <;> rfl
theorem dl_look {a b : List Ent} (ha : SrtE a) (hia : Ids a) (hb : SrtE b) : SrtE (dl2 a b b.length) ∧ ∀ s, lookE (dl2 a b b.length) s = deF a b s := by
  obtain ⟨h1, h2⟩ := dl2_look ha hb b.length (Nat.le_refl _)
  refine ⟨h1, fun s => ?_⟩
  rw [h2, List.take_length]
  unfold deF
  cases hla : lookE a s with
  | none => cases lookE b s <;> rfl
  | some x =>
    obtain ⟨hxm, hx1, hx2⟩ := lookE_some hla
    have hf := find_at (b := b) hx1 hx2
    cases hlb : lookE b s with
    | none =>
      rw [hlb] at hf
      show d1F b (some x) = some (wipe x)
      unfold d1F
      simp only [hf]
      have : ((⟨#[]⟩ : ByteArray).toList == x.id.toList) = false := by
        have q1 := hia x hxm
        rw [ByteArray.toList_eq]
        cases hq : x.id.toList with
        | nil => rw [hq] at q1; cases q1
        | cons _ _ => rfl
      rw [this]
      rfl
    | some y =>
      obtain ⟨_, hy1, hy2⟩ := lookE_some hlb
      rw [hlb] at hf
      show (if (some x).isSome = true then d1F b (some x) else some y) = if sidB y x = true then none else some y
      rw [if_pos (show (some x).isSome = true from rfl)]
      unfold d1F sidB
      simp only [hf]
      cases hq : (y.id.toList == x.id.toList)
      · simp only [Bool.false_eq_true, if_false]
        congr 1
        obtain ⟨y1, y2, y3⟩ := y
        simp only at hy1 hy2
        rw [hx1, hx2, ← hy1, ← hy2]
      · rfl
theorem deF_fit (a b : List Ent) (s e : Ent) (h : deF a b s = some e) : e.ty = s.ty ∧ e.key = s.key := by
  unfold deF at h
  cases hla : lookE a s with
  | none => rw [hla] at h; exact (lookE_some h).2
  | some x =>
    rw [hla] at h
    cases hlb : lookE b s with
    | none =>
      rw [hlb] at h
      injection h with h
      subst h
      exact (lookE_some hla).2
    | some y =>
      rw [hlb] at h
      simp only at h
      split at h
      · cases h
      · injection h with h
        subst h
        exact (lookE_some hlb).2
theorem deF_resp (a b : List Ent) (s t : Ent) (h1 : s.ty = t.ty) (h2 : s.key = t.key) : deF a b s = deF a b t := by
  unfold deF
  rw [lookE_resp a s t h1 h2, lookE_resp b s t h1 h2]
theorem de_mem {a b : List Ent} (ha : SrtE a) (hia : Ids a) (hb : SrtE b) (hao : AllOk a) (hbo : AllOk b) (x : Ent) : x ∈ dl2 a b b.length ↔ ∃ s : Ent, (s.ty.size ≤ maxLen ∧ s.key.size ≤ maxLen) ∧ deF a b s = some x := by
  obtain ⟨h1, h2⟩ := dl_look ha hia hb
  have hok := dl2_ok hao hbo b.length (Nat.le_refl _)
  constructor
  · intro hx
    have := lookE_mem h1 hx (s := x) ⟨rfl, rfl⟩
    rw [h2] at this
    exact ⟨x, ⟨(hok x hx).1, (hok x hx).2.1⟩, this⟩
  · rintro ⟨s, _, hs⟩
    rw [← h2] at hs
    exact (lookE_some hs).1
def wipeO (o : Option Ent) : Option Ent := o.map wipe
def de1 (a : List Ent) (k : Nat) : Ent → Option Ent := fun s => wipeO (lookE (a.take k) s)
def de2 (a b : List Ent) (k : Nat) : Ent → Option Ent := fun s => (lookE (b.take k) s).or (wipeO (lookE a s))
def de3 (a b : List Ent) (k : Nat) : Ent → Option Ent := fun s => match lookE (a.take k) s with
  | none => de2 a b b.length s
  | some _ => deF a b s
theorem de1_step {a : List Ent} (ha : SrtE a) {k : Nat} (hk : k < a.length) (s : Ent) : putF (de1 a k) (eAt a k) (wipe (eAt a k)) s = de1 a (k + 1) s := by
  unfold putF de1
  rw [look_step hk]
  by_cases hs : samB (eAt a k) s = true
  · rw [if_pos hs, if_pos hs, look_fresh ha hk hs]; rfl
  · rw [if_neg hs, if_neg hs]
    cases lookE (a.take k) s <;> rfl
theorem de2_zero (a b : List Ent) (s : Ent) : de1 a a.length s = de2 a b 0 s := by
  unfold de1 de2
  rw [List.take_length, List.take_zero]; rfl
theorem de2_step {a b : List Ent} (hb : SrtE b) {k : Nat} (hk : k < b.length) (s : Ent) : putF (de2 a b k) (eAt b k) (eAt b k) s = de2 a b (k + 1) s := by
  unfold putF de2
  rw [look_step hk]
  by_cases hs : samB (eAt b k) s = true
  · rw [if_pos hs, if_pos hs, look_fresh hb hk hs]; rfl
  · rw [if_neg hs, if_neg hs]
    cases lookE (b.take k) s <;> rfl
theorem de3_zero (a b : List Ent) (s : Ent) : de2 a b b.length s = de3 a b 0 s := by
  unfold de3
  rw [List.take_zero]; rfl
def eqB (x y : Ent) : Bool := (x.ty.toList == y.ty.toList) && ((x.key.toList == y.key.toList) && (x.id.toList == y.id.toList))
theorem de3_at {a b : List Ent} (ha : SrtE a) (hia : Ids a) {k : Nat} (hk : k < a.length) : ∃ u : Ent, de3 a b k (eAt a k) = some u ∧ (eqB u (eAt a k) = true → ∀ s, delF (de3 a b k) (eAt a k) s = de3 a b (k + 1) s) ∧ (eqB u (eAt a k) = false → ∀ s, de3 a b k s = de3 a b (k + 1) s) := by
  have hx := eAt_mem a k hk
  have hla : lookE a (eAt a k) = some (eAt a k) := lookE_mem ha hx ⟨rfl, rfl⟩
  have hfr : ∀ s, samB (eAt a k) s = true → lookE (a.take k) s = none := fun s hs => look_fresh ha hk hs
  have hself : samB (eAt a k) (eAt a k) = true := (samB_iff _ _).2 ⟨rfl, rfl⟩
  have hlas : ∀ s, samB (eAt a k) s = true → lookE a s = some (eAt a k) := fun s hs => by
    obtain ⟨e1, e2⟩ := (samB_iff _ _).1 hs
    rw [← lookE_resp a (eAt a k) s e1 e2]; exact hla
  have hstep : ∀ s, lookE (a.take (k + 1)) s = if samB (eAt a k) s = true then some (eAt a k) else lookE (a.take k) s := fun s => by
    rw [look_step hk]
    by_cases hs : samB (eAt a k) s = true
    · rw [if_pos hs, if_pos hs, hfr s hs]; rfl
    · rw [if_neg hs, if_neg hs]; cases lookE (a.take k) s <;> rfl
  have hid := hia _ hx
  have h3 : ∀ s, samB (eAt a k) s = true → de3 a b k s = (lookE b s).or (some (wipe (eAt a k))) ∧ de3 a b (k + 1) s = deF a b s := fun s hs => by
    unfold de3
    rw [hfr s hs, hstep s, if_pos hs]
    refine ⟨?_, rfl⟩
    show de2 a b b.length s = _
    unfold de2
    rw [List.take_length, hlas s hs]
    rfl
  have hoth : ∀ s, ¬ samB (eAt a k) s = true → de3 a b k s = de3 a b (k + 1) s := fun s hs => by
    unfold de3
    rw [hstep s, if_neg hs]
  cases hlb : lookE b (eAt a k) with
  | none =>
    have hlbs : ∀ s, samB (eAt a k) s = true → lookE b s = none := fun s hs => by
      obtain ⟨e1, e2⟩ := (samB_iff _ _).1 hs
      rw [← lookE_resp b (eAt a k) s e1 e2]; exact hlb
    have hne : eqB (wipe (eAt a k)) (eAt a k) = false := by
      unfold eqB wipe
      have : ((⟨#[]⟩ : ByteArray).toList == (eAt a k).id.toList) = false := by
        rw [ByteArray.toList_eq]
        cases hq : (eAt a k).id.toList with
        | nil => rw [hq] at hid; cases hid
        | cons _ _ => rfl
      simp only [this, Bool.and_false]
    refine ⟨wipe (eAt a k), by rw [(h3 _ hself).1, hlb]; rfl, fun h => (by rw [hne] at h; cases h), fun _ s => ?_⟩
    by_cases hs : samB (eAt a k) s = true
    · rw [(h3 s hs).1, (h3 s hs).2]
      unfold deF
      rw [hlas s hs, hlbs s hs]
      rfl
    · exact hoth s hs
  | some y =>
    have hlbs : ∀ s, samB (eAt a k) s = true → lookE b s = some y := fun s hs => by
      obtain ⟨e1, e2⟩ := (samB_iff _ _).1 hs
      rw [← lookE_resp b (eAt a k) s e1 e2]; exact hlb
    obtain ⟨_, hy1, hy2⟩ := lookE_some hlb
    have heq : eqB y (eAt a k) = sidB y (eAt a k) := by
      unfold eqB sidB
      rw [hy1, hy2]
      simp
    refine ⟨y, by rw [(h3 _ hself).1, hlb]; rfl, fun h s => ?_, fun h s => ?_⟩
    · unfold delF
      by_cases hs : samB (eAt a k) s = true
      · rw [if_pos hs, (h3 s hs).2]
        unfold deF
        rw [hlas s hs, hlbs s hs]
        rw [heq] at h
        simp [h]
      · rw [if_neg hs]; exact hoth s hs
    · by_cases hs : samB (eAt a k) s = true
      · rw [(h3 s hs).1, (h3 s hs).2]
        unfold deF
        rw [hlas s hs, hlbs s hs]
        rw [heq] at h
        simp [h]
      · exact hoth s hs
theorem de3_end {a b : List Ent} (s : Ent) : de3 a b a.length s = deF a b s := by
  unfold de3
  rw [List.take_length]
  cases hla : lookE a s with
  | none =>
    show de2 a b b.length s = deF a b s
    unfold de2 deF
    rw [List.take_length, hla]
    cases lookE b s <;> rfl
  | some x => rfl
end Go.Proofs.Ytgocjlpbokhoeaa
