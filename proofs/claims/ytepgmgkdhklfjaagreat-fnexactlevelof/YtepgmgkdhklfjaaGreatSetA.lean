import Derived.Test.YtepgmgkdhklfjaaGreatProg
import Derived.Test.YtepgmgkdhklfjaaGreatEnt
import Derived.Test.YtepgmgkdhklfjaaGreatLawE
import Derived.Test.YtepgmgkdhklfjaaGreatStS
import Derived.Deep.DeepCutAuto
import Derived.Deep.CutBlock
import Derived.Sort.Walk0
/-
  Rows of entries that a call owns.
-/
namespace Go.Proofs.YtepgmgkdhklfjaaGreat
open Go.RowKit

def encE (e : Ent) : List Value := [.string e.ty, .string e.key, .string e.id]
def encL (l : List Ent) : List Value := l.flatMap encE
theorem encL_len (l : List Ent) : (encL l).length = l.length * 3 := by
  induction l with
  | nil => rfl
  | cons x l ih => simp only [encL, List.flatMap_cons, List.length_append, List.length_cons] at ih ⊢; rw [ih]; simp [encE]; omega
theorem encL_snoc (l : List Ent) (e : Ent) : encL l ++ encE e = encL (l ++ [e]) := by simp [encL]
theorem encL_get (l : List Ent) (i : Nat) (h : i < l.length) : (encL l)[i * 3]? = some (.string (eAt l i).ty) ∧ (encL l)[i * 3 + 1]? = some (.string (eAt l i).key) ∧ (encL l)[i * 3 + 2]? = some (.string (eAt l i).id) := by
  induction l generalizing i with
  | nil => exact absurd h (Nat.not_lt_zero _)
  | cons x l ih =>
    cases i with
    | zero => simp [encL, encE, eAt]
    | succ i =>
      have := ih i (by simpa using h)
      have e1 : encL (x :: l) = .string x.ty :: .string x.key :: .string x.id :: encL l := by simp [encL, encE]
      have e2 : eAt (x :: l) (i + 1) = eAt l i := by simp [eAt]
      rw [e1, e2, show (i + 1) * 3 = i * 3 + 3 by omega]
      simpa using this

/-- the value v owns the entries l, among the blocks from base on. -/
def OwnE (w : World) (base : Nat) (v : Value) (l : List Ent) : Prop := w.ownsRow base 45 3 v l.length (encL l)

theorem ownsRow_below {w w' : World} {base e size n : Nat} {v : Value} {xs : List Value} (h : w.ownsRow base e size v n xs) (hb : Below w.heap.size w w') : w'.ownsRow base e size v n xs := by
  obtain ⟨h1, h2⟩ := h
  refine ⟨h1, ?_⟩
  rcases h2 with h2 | ⟨g, cap, cur, hv, hg, hh, r⟩
  · exact Or.inl h2
  · have hlt : g < w.heap.size := by
      rcases Nat.lt_or_ge g w.heap.size with h' | h'
      · exact h'
      · rw [Array.getElem?_eq_none h'] at hh; cases hh
    exact Or.inr ⟨g, cap, cur, hv, hg, by rw [hb.block g hlt]; exact hh, r⟩

theorem OwnE.below {w w' : World} {base : Nat} {v : Value} {l : List Ent} (h : OwnE w base v l) (hb : Below w.heap.size w w') : OwnE w' base v l := ownsRow_below h hb

theorem OwnE.sl {w : World} {base : Nat} {v : Value} {l : List Ent} (h : OwnE w base v l) (hs : ∀ i, i < l.length → (eAt l i).ty.size ≤ maxLen ∧ (eAt l i).key.size ≤ maxLen ∧ (eAt l i).id.size ≤ maxLen) :
    ∃ a cap, v = .slice a l.length cap ∧ SlE w a cap l := by
  obtain ⟨h1, h2⟩ := h
  rcases h2 with ⟨rfl, h0⟩ | ⟨g, cap, cur, rfl, hg, hh, hn, hc, hcs, hx⟩
  · have : l = [] := List.eq_nil_of_length_eq_zero h0
    subst this
    exact ⟨none, 0, rfl, ⟨Nat.le_refl _, by decide, hs, Or.inl rfl⟩⟩
  · refine ⟨_, cap, rfl, ⟨hn, hc, hs, ?_⟩⟩
    by_cases h0 : l = []
    · exact Or.inl h0
    · have hlt : g < w.heap.size := by
        rcases Nat.lt_or_ge g w.heap.size with h' | h'
        · exact h'
        · rw [Array.getElem?_eq_none h'] at hh; cases hh
      have hcell : ∀ j, j < l.length * 3 → w.cell? ⟨g, 0 + j, none⟩ = (encL l)[j]? := by
        intro j hj
        rw [← hx, List.getElem?_take, if_pos hj, Nat.zero_add]
        simp [World.cell?, hh]
      exact Or.inr ⟨g, 0, rfl, hlt, fun i hi => by rw [hcell _ (by omega)]; exact (encL_get l i hi).1, fun i hi => by rw [Nat.add_assoc, hcell _ (by omega)]; exact (encL_get l i hi).2.1, fun i hi => by rw [Nat.add_assoc, hcell _ (by omega)]; exact (encL_get l i hi).2.2⟩
end Go.Proofs.YtepgmgkdhklfjaaGreat
namespace Go.Proofs.YtepgmgkdhklfjaaGreat
open Go.RowKit

/-- entries with e put into its slot (l4Set). -/
def setL (l : List Ent) (e : Ent) (keep : Bool) : List Ent :=
  (l.takeWhile fun x => befB x e) ++ ((if keep || !e.id.toList.isEmpty then [e] else []) ++ l.filter fun x => befB e x)

theorem takeWhile_at (l : List Ent) (p : Ent → Bool) (k : Nat) (hk : k ≤ l.length) (h0 : ∀ i, i < k → p (eAt l i) = true) (h1 : k = l.length ∨ p (eAt l k) = false) : l.takeWhile p = l.take k := by
  induction l generalizing k with
  | nil => simp
  | cons x l ih =>
    cases k with
    | zero =>
      rcases h1 with h1 | h1
      · simp at h1
      · have : p x = false := by simpa [eAt] using h1
        simp [this]
    | succ k =>
      have hx : p x = true := by simpa [eAt] using h0 0 (by omega)
      have := ih k (by simpa using hk) (fun i hi => by simpa [eAt] using h0 (i + 1) (by omega)) (by
        rcases h1 with h1 | h1
        · exact Or.inl (by simpa using h1)
        · exact Or.inr (by simpa [eAt] using h1))
      simp [hx, this]

theorem take_snocE (l : List Ent) (k : Nat) (h : k < l.length) : l.take (k + 1) = l.take k ++ [eAt l k] := by
  rw [List.take_succ_eq_append_getElem h, eAt_get l k h]

theorem filter_snocE (l : List Ent) (p : Ent → Bool) (k : Nat) (h : k < l.length) : (l.take (k + 1)).filter p = (l.take k).filter p ++ (if p (eAt l k) then [eAt l k] else []) := by
  rw [take_snocE l k h, List.filter_append]; cases hp : p (eAt l k) <;> simp [hp]

theorem heap_alloc_new2 (w : World) (o o2 : Obj) : ((w.alloc o).alloc o2).heap[w.heap.size + 1]? = some o2 := by
  show ((w.heap.push o).push o2)[w.heap.size + 1]? = _
  rw [Array.getElem?_push, if_pos (by simp)]

theorem encE_cells (w1 : World) (x : Ent) (t : TypeId) (j : Nat) (u : Value) (h : (encE x)[j]? = some u) : (w1.alloc (.cells #[.string x.ty, .string x.key, .string x.id] t)).cell? ((⟨w1.heap.size, 0, none⟩ : Addr).add j) = some u := by
  have hj : j < 3 := by
    rcases Nat.lt_or_ge j 3 with h' | h'
    · exact h'
    · rw [List.getElem?_eq_none (by simpa [encE] using h')] at h; cases h
  match j, hj, h with
  | 0, _, h => rw [show (⟨w1.heap.size, 0, none⟩ : Addr).add 0 = ⟨w1.heap.size, 0, none⟩ from rfl, World.cell?_alloc_at _ _ _ _ rfl]; exact h
  | 1, _, h => rw [show (⟨w1.heap.size, 0, none⟩ : Addr).add 1 = ⟨w1.heap.size, 1, none⟩ from rfl, World.cell?_alloc_at _ _ _ _ rfl]; exact h
  | 2, _, h => rw [show (⟨w1.heap.size, 0, none⟩ : Addr).add 2 = ⟨w1.heap.size, 2, none⟩ from rfl, World.cell?_alloc_at _ _ _ _ rfl]; exact h
theorem encE_one (x : Ent) (u : Value) (h : u ∈ encE x) : u.oneCell' = true := by
  simp only [encE, List.mem_cons, List.not_mem_nil, or_false] at h
  rcases h with rfl | rfl | rfl <;> rfl
theorem OwnE.row {w : World} {base : Nat} {v : Value} {l : List Ent} (h : OwnE w base v l) (k : Nat) (hk : v.ownBlock = some k) : base ≤ k := by
  rcases h.2 with ⟨rfl, _⟩ | ⟨g, cap, cur, rfl, hg, _⟩
  · cases hk
  · cases hk; exact hg
theorem OwnE.snoc {w : World} {base n : Nat} {v : Value} {l : List Ent} {x : Ent} (h : w.ownsRow base 45 3 v n (encL l ++ encE x)) (hn : n = l.length + 1) : OwnE w base v (l ++ [x]) := by
  subst hn
  rw [encL_snoc] at h
  unfold OwnE
  rw [List.length_append]
  exact h

theorem setHead_len (l : List Ent) (e0 : Ent) (keep : Bool) (k : Nat) : (((l.takeWhile fun x => befB x e0) ++ (if (keep || !e0.id.toList.isEmpty) then [e0] else [])) ++ (l.take k).filter fun x => befB e0 x).length ≤ l.length + (1 + l.length) := by
  rw [List.length_append, List.length_append]
  have h1 : (l.takeWhile fun x => befB x e0).length ≤ l.length := (List.takeWhile_sublist _).length_le
  have h2 : ((l.take k).filter fun x => befB e0 x).length ≤ l.length := Nat.le_trans (List.length_filter_le _ _) (by rw [List.length_take]; omega)
  split
  · rw [List.length_cons, List.length_nil]; omega
  · rw [List.length_nil]; omega
theorem OwnE.base_le {w : World} {base base' : Nat} {v : Value} {l : List Ent} (h : OwnE w base v l) (hb : base' ≤ base) : OwnE w base' v l := by
  obtain ⟨h1, h2⟩ := h
  refine ⟨h1, ?_⟩
  rcases h2 with h2 | ⟨g, cap, cur, hv, hg, r⟩
  · exact Or.inl h2
  · exact Or.inr ⟨g, cap, cur, hv, Nat.le_trans hb hg, r⟩

end Go.Proofs.YtepgmgkdhklfjaaGreat
namespace Go.Proofs.YtepgmgkdhklfjaaGreat
open Go.RowKit
end Go.Proofs.YtepgmgkdhklfjaaGreat
/-
  Entries by their lists: plain facts of setL.
-/
namespace Go.Proofs.YtepgmgkdhklfjaaGreat
open Go.RowKit

/-! ### setL -/

theorem befB_asym {x e : Ent} (h : befB x e = true) : befB e x = false := by
  unfold befB at h ⊢
  rw [ByteArray.toList_eq, ByteArray.toList_eq, ByteArray.toList_eq, ByteArray.toList_eq] at *
  by_cases ht : x.ty.data.toList = e.ty.data.toList
  · rw [ht] at h ⊢
    simp only [beq_self_eq_true, if_true, bytesLess_eq, decide_eq_true_eq, decide_eq_false_iff_not] at h ⊢
    exact List.lt_asymm h
  · have h1 : (x.ty.data.toList == e.ty.data.toList) = false := by simpa using ht
    have h2 : (e.ty.data.toList == x.ty.data.toList) = false := by
      cases hb : (e.ty.data.toList == x.ty.data.toList)
      · rfl
      · exact absurd (eq_of_beq hb).symm ht
    rw [h1] at h
    rw [h2]
    simp only [Bool.false_eq_true, if_false, bytesLess_eq, decide_eq_true_eq, decide_eq_false_iff_not] at h ⊢
    exact List.lt_asymm h
theorem split_len {l : List Ent} {p q : Ent → Bool} (h : ∀ x, p x = true → q x = false) : (l.takeWhile p).length + (l.filter q).length ≤ l.length := by
  induction l with
  | nil => simp
  | cons a l ih =>
    have hf : (l.filter q).length ≤ l.length := List.length_filter_le _ _
    cases hp : p a
    · rw [List.takeWhile_cons_of_neg (by simp [hp])]
      have : ((a :: l).filter q).length ≤ (a :: l).length := List.length_filter_le _ _
      simpa using this
    · rw [List.takeWhile_cons_of_pos hp, List.filter_cons_of_neg (by simp [h a hp])]
      simp only [List.length_cons]
      omega
theorem setL_len (l : List Ent) (e : Ent) (keep : Bool) : (setL l e keep).length ≤ l.length + 1 := by
  have := split_len (l := l) (p := fun x => befB x e) (q := fun x => befB e x) (fun x hx => befB_asym hx)
  unfold setL
  rw [List.length_append, List.length_append]
  split
  · simp only [List.length_singleton]; omega
  · simp only [List.length_nil]; omega
theorem setL_mem {l : List Ent} {e x : Ent} {keep : Bool} (h : x ∈ setL l e keep) : x ∈ l ∨ x = e := by
  unfold setL at h
  rw [List.mem_append, List.mem_append] at h
  rcases h with h | h | h
  · exact Or.inl ((List.takeWhile_sublist _).subset h)
  · split at h
    · exact Or.inr (by simpa using h)
    · cases h
  · exact Or.inl (List.mem_filter.1 h).1

/-- all texts of these entries are of a size that a text can have. -/
def AllOk (l : List Ent) : Prop := ∀ x ∈ l, x.ty.size ≤ maxLen ∧ x.key.size ≤ maxLen ∧ x.id.size ≤ maxLen
theorem AllOk.at {l : List Ent} (h : AllOk l) (i : Nat) (hi : i < l.length) : (eAt l i).ty.size ≤ maxLen ∧ (eAt l i).key.size ≤ maxLen ∧ (eAt l i).id.size ≤ maxLen := h _ (eAt_mem l i hi)
theorem SlE.ok {w : World} {a : Option Addr} {cap : Nat} {l : List Ent} (h : SlE w a cap l) : AllOk l := fun x hx => by
  obtain ⟨i, hi, e⟩ := List.mem_iff_getElem.1 hx
  rw [← e, ← eAt_get l i hi]
  exact h.size i hi
theorem AllOk.set {l : List Ent} {e : Ent} {keep : Bool} (h : AllOk l) (he : e.ty.size ≤ maxLen ∧ e.key.size ≤ maxLen ∧ e.id.size ≤ maxLen) : AllOk (setL l e keep) := fun x hx => (setL_mem hx).elim (h x) fun e' => e' ▸ he

theorem st_len {l : List Ent} (h : stB l = true) : l.length ≤ 300 := by
  unfold stB at h
  rw [Bool.and_eq_true, Bool.and_eq_true] at h
  exact of_decide_eq_true h.2.1
theorem ch_len {l : List Ent} (h : chB l = true) : l.length ≤ 600 := by
  unfold chB at h
  rw [Bool.and_eq_true] at h
  exact of_decide_eq_true h.1
end Go.Proofs.YtepgmgkdhklfjaaGreat
