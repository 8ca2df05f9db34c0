/-
  Needed: plain functions.
-/
import Derived.Test.YtjfeloagimljoaaRm
import Derived.Test.YtjfeloagimljoaaCmpP
import Derived.Test.YtjfeloagimljoaaOwnL
namespace Go.Proofs.Ytjfeloagimljoaa
open Go.RowKit

def slC : Ent := ⟨⟨#[99, 114, 101, 97, 116, 101]⟩, ⟨#[]⟩, ByteArray.empty⟩
def slJ : Ent := ⟨⟨#[106, 111, 105, 110, 95, 114, 117, 108, 101, 115]⟩, ⟨#[]⟩, ByteArray.empty⟩
def slM (u : ByteArray) : Ent := ⟨⟨#[109, 101, 109, 98, 101, 114]⟩, u, ByteArray.empty⟩
def slP : Ent := ⟨⟨#[112, 111, 119, 101, 114]⟩, ⟨#[]⟩, ByteArray.empty⟩
def isCr (e : Ev) : Bool := e.ty.toList == [99, 114, 101, 97, 116, 101]
def isMb (e : Ev) : Bool := e.ty.toList == [109, 101, 109, 98, 101, 114]
def isJn (e : Ev) : Bool := e.val.toList == [106, 111, 105, 110]

/-- the users that are looked at, sorted, each once. -/
def uq (e : Ev) : List ByteArray := if isMb e = false ∨ e.sd = e.key then [e.sd] else if e.sd.data.toList < e.key.data.toList then [e.sd, e.key] else [e.key, e.sd]
/-- the same, as often as they are put in. -/
def us (e : Ev) : List ByteArray := if isMb e = false then [e.sd] else if e.sd = e.key then [e.sd, e.sd] else if e.sd.data.toList < e.key.data.toList then [e.sd, e.key] else [e.key, e.sd]
def ndX (e : Ev) : List Ent := if isMb e then [slM e.key] else []
def ndY (e : Ev) : List Ent := if isMb e && isJn e then [slJ] else []
/-- as the program puts them in. -/
def ndA (e : Ev) : List Ent := [slC, slP, slM e.sd] ++ ndX e ++ ndY e
/-- in order. -/
def ndS (e : Ev) : List Ent := slC :: (ndY e ++ (us e).map slM ++ [slP])
/-- in order, each once. -/
def ndL (e : Ev) : List Ent := if e.code = 0 then (if isCr e then [slC] else slC :: (ndY e ++ (uq e).map slM ++ [slP])) else []

theorem lt_or_gt {a b : ByteArray} (h : a ≠ b) (h2 : ¬ a.data.toList < b.data.toList) : b.data.toList < a.data.toList := by
  rcases cmp_cases a.data.toList b.data.toList with ⟨h3, _⟩ | ⟨h3, _⟩ | ⟨h3, _⟩
  · exact absurd h3 h2
  · exact absurd (ba_eq h3) h
  · exact h3
theorem uq_srt (e : Ev) : Srt (uq e) := by
  unfold uq
  split
  · exact List.pairwise_singleton _ _
  · rename_i h
    rw [not_or] at h
    split
    · rename_i h2
      exact List.pairwise_cons.2 ⟨fun b hb => by rw [List.mem_singleton] at hb; subst hb; exact h2, List.pairwise_singleton _ _⟩
    · rename_i h2
      exact List.pairwise_cons.2 ⟨fun b hb => by rw [List.mem_singleton] at hb; subst hb; exact lt_or_gt h.2 h2, List.pairwise_singleton _ _⟩
theorem uq_mem (e : Ev) (s : ByteArray) : s ∈ uq e ↔ s = e.sd ∨ (isMb e = true ∧ s = e.key) := by
  unfold uq
  split
  · rename_i h
    rw [List.mem_singleton]
    constructor
    · exact Or.inl
    · rintro (h1 | ⟨h1, h2⟩)
      · exact h1
      · rcases h with h | h
        · rw [h] at h1; cases h1
        · rw [h]; exact h2
  · rename_i h
    rw [not_or] at h
    have hm : isMb e = true := by
      cases hq : isMb e
      · exact absurd hq h.1
      · rfl
    split <;> simp [hm, or_comm]
theorem us_perm (e : Ev) : ((us e).map slM).Perm (slM e.sd :: ndX e) := by
  unfold us ndX
  by_cases hm : isMb e = false
  · rw [if_pos hm, hm]; exact List.Perm.refl _
  · have hm' : isMb e = true := by
      cases hq : isMb e
      · exact absurd hq hm
      · rfl
    rw [if_neg hm, hm', if_pos rfl]
    by_cases h1 : e.sd = e.key
    · rw [if_pos h1, ← h1]; exact List.Perm.refl _
    · rw [if_neg h1]
      split
      · exact List.Perm.refl _
      · exact List.Perm.swap _ _ _
theorem nd_perm (e : Ev) : (ndS e).Perm (ndA e) := by
  unfold ndS ndA
  refine List.Perm.cons _ ?_
  have h1 : (ndY e ++ (us e).map slM ++ [slP]).Perm ([slP] ++ (ndY e ++ (us e).map slM)) := List.perm_append_comm
  refine h1.trans (List.Perm.cons _ ?_)
  show (ndY e ++ (us e).map slM).Perm ((slM e.sd :: ndX e) ++ ndY e)
  have h2 : (ndY e ++ (us e).map slM).Perm ((us e).map slM ++ ndY e) := List.perm_append_comm
  exact h2.trans ((us_perm e).append_right _)

theorem slC_lt_J : Lt slC slJ := Or.inl (by decide)
theorem slC_lt_M (u : ByteArray) : Lt slC (slM u) := Or.inl (by show _ < ([109, 101, 109, 98, 101, 114] : List UInt8); decide)
theorem slC_lt_P : Lt slC slP := Or.inl (by decide)
theorem slJ_lt_M (u : ByteArray) : Lt slJ (slM u) := Or.inl (by show _ < ([109, 101, 109, 98, 101, 114] : List UInt8); decide)
theorem slJ_lt_P : Lt slJ slP := Or.inl (by decide)
theorem slM_lt_P (u : ByteArray) : Lt (slM u) slP := Or.inl (by show ([109, 101, 109, 98, 101, 114] : List UInt8) < _; decide)
theorem slM_lt {u v : ByteArray} (h : u.data.toList < v.data.toList) : Lt (slM u) (slM v) := Or.inr ⟨rfl, h⟩

/-- in order whatever the list of users is, if that is. -/
theorem nd_order {R : Ent → Ent → Prop} (hR : ∀ a b, Lt a b → R a b) (e : Ev) {U : List ByteArray} (hU : (U.map slM).Pairwise R) : (slC :: (ndY e ++ U.map slM ++ [slP])).Pairwise R := by
  have hY : ∀ x ∈ ndY e, x = slJ := fun x hx => by
    unfold ndY at hx
    split at hx
    · exact List.mem_singleton.1 hx
    · cases hx
  have hYp : (ndY e).Pairwise R := by
    unfold ndY
    split
    · exact List.pairwise_singleton _ _
    · exact List.Pairwise.nil
  refine List.pairwise_cons.2 ⟨fun x hx => ?_, List.pairwise_append.2 ⟨List.pairwise_append.2 ⟨hYp, hU, fun a ha b hb => ?_⟩, List.pairwise_singleton _ _, fun a ha b hb => ?_⟩⟩
  · rw [List.mem_append, List.mem_append, List.mem_singleton, List.mem_map] at hx
    rcases hx with (hx | ⟨u, _, rfl⟩) | rfl
    · rw [hY x hx]; exact hR _ _ slC_lt_J
    · exact hR _ _ (slC_lt_M u)
    · exact hR _ _ slC_lt_P
  · rw [List.mem_map] at hb
    obtain ⟨u, _, rfl⟩ := hb
    rw [hY a ha]
    exact hR _ _ (slJ_lt_M u)
  · rw [List.mem_singleton] at hb
    subst hb
    rw [List.mem_append, List.mem_map] at ha
    rcases ha with ha | ⟨u, _, rfl⟩
    · rw [hY a ha]; exact hR _ _ slJ_lt_P
    · exact hR _ _ (slM_lt_P u)
theorem us_order (e : Ev) : ((us e).map slM).Pairwise fun a b => ¬ Lt b a := by
  unfold us
  split
  · exact List.pairwise_singleton _ _
  · split
    · exact List.pairwise_cons.2 ⟨fun b hb => by rw [List.mem_singleton.1 hb]; exact Lt.irrefl _, List.pairwise_singleton _ _⟩
    · rename_i h
      split
      · rename_i h2
        exact List.pairwise_cons.2 ⟨fun b hb => by rw [List.mem_singleton.1 hb]; exact (slM_lt h2).asymm, List.pairwise_singleton _ _⟩
      · rename_i h2
        exact List.pairwise_cons.2 ⟨fun b hb => by rw [List.mem_singleton.1 hb]; exact (slM_lt (lt_or_gt h h2)).asymm, List.pairwise_singleton _ _⟩
theorem ndS_order (e : Ev) : (ndS e).Pairwise fun a b => ¬ Lt b a := nd_order (fun _ _ h => h.asymm) e (us_order e)
theorem ndL_strict (e : Ev) : (slC :: (ndY e ++ (uq e).map slM ++ [slP])).Pairwise Lt := nd_order (fun _ _ h => h) e (List.pairwise_map.2 ((uq_srt e).imp fun h => slM_lt h))
theorem ndS_id (e : Ev) : ∀ x ∈ ndS e, x.id = ByteArray.empty := fun x hx => by
  unfold ndS at hx
  rw [List.mem_cons, List.mem_append, List.mem_append, List.mem_map, List.mem_singleton] at hx
  rcases hx with rfl | (hx | ⟨u, _, rfl⟩) | rfl
  · rfl
  · unfold ndY at hx
    split at hx
    · rw [List.mem_singleton.1 hx]; rfl
    · cases hx
  · rfl
  · rfl
/-- what the sort leaves. -/
theorem nd_sorted {e : Ev} {l : List Ent} (hp : l.Perm (ndA e)) (ho : l.Pairwise fun a b => ¬ Lt b a) : l = ndS e := by
  have hp2 : l.Perm (ndS e) := hp.trans (nd_perm e).symm
  refine List.Perm.eq_of_pairwise (le := fun a b => ¬ Lt b a) (fun a b ha hb hab hba => ?_) ho (ndS_order e) hp2
  have ia := ndS_id e a (hp2.mem_iff.1 ha)
  have ib := ndS_id e b hb
  rcases tri a b with ⟨h, _⟩ | ⟨h, _⟩ | ⟨h, _⟩
  · exact absurd h hba
  · obtain ⟨t1, k1, i1⟩ := a
    obtain ⟨t2, k2, i2⟩ := b
    simp only at h ia ib
    rw [h.1, h.2, ia, ib]
  · exact absurd h hab

theorem strict_ne {l : List Ent} (h : l.Pairwise Lt) : ∀ i, i + 1 < l.length → ¬ ((eAt l (i + 1)).ty = (eAt l i).ty ∧ (eAt l (i + 1)).key = (eAt l i).key) := fun i hi e => by
  rw [eAt_get l (i + 1) hi, eAt_get l i (by omega)] at e
  have := List.pairwise_iff_getElem.1 h i (i + 1) (by omega) hi (Nat.lt_succ_self i)
  exact this.ne ⟨e.1.symm, e.2.symm⟩
end Go.Proofs.Ytjfeloagimljoaa
