import Derived.Test.YtnkpikknkooblaaGreatEntA
import Derived.Test.YtnkpikknkooblaaGreatLawEA
import Derived.Deep.DeepCutAuto
import Derived.Deep.CutBlock
import Derived.Sort.Walk0
import Derived.Deep.AppendSrc
namespace Go.Proofs.YtnkpikknkooblaaGreat
open Go.RowKit

/-- entries with e put into its slot (l4Set). -/
def setL (l : List Ent) (e : Ent) (keep : Bool) : List Ent :=
  (l.takeWhile fun x => befB x e) ++ ((if keep || !e.id.toList.isEmpty then [e] else []) ++ l.filter fun x => befB e x)

theorem takeWhile_at (l : List Ent) (p : Ent → Bool) (k : Nat) (hk : k ≤ l.length) (h0 : ∀ i, i < k → p (eAt l i) = true) (h1 : k = l.length ∨ p (eAt l k) = false) : l.takeWhile p = l.take k := by
  induction l generalizing k with
  | nil => simp
  | cons x l ih =>
    cases k with
    | zero =>
      rcases h1 with h1 | h1
      · simp at h1
      · have : p x = false := by simpa [eAt] using h1
        simp [this]
    | succ k =>
      have hx : p x = true := by simpa [eAt] using h0 0 (by omega)
      have := ih k (by simpa using hk) (fun i hi => by simpa [eAt] using h0 (i + 1) (by omega)) (by
        rcases h1 with h1 | h1
        · exact Or.inl (by simpa using h1)
        · exact Or.inr (by simpa [eAt] using h1))
      simp [hx, this]

theorem take_snocE (l : List Ent) (k : Nat) (h : k < l.length) : l.take (k + 1) = l.take k ++ [eAt l k] := by
  rw [List.take_succ_eq_append_getElem h, eAt_get l k h]

theorem filter_snocE (l : List Ent) (p : Ent → Bool) (k : Nat) (h : k < l.length) : (l.take (k + 1)).filter p = (l.take k).filter p ++ (if p (eAt l k) then [eAt l k] else []) := by
  rw [take_snocE l k h, List.filter_append]; cases hp : p (eAt l k) <;> simp [hp]

theorem heap_alloc_new2 (w : World) (o o2 : Obj) : ((w.alloc o).alloc o2).heap[w.heap.size + 1]? = some o2 := by
  show ((w.heap.push o).push o2)[w.heap.size + 1]? = _
  rw [Array.getElem?_push, if_pos (by simp)]

theorem encE_cells (w1 : World) (x : Ent) (t : TypeId) (j : Nat) (u : Value) (h : (encE x)[j]? = some u) : (w1.alloc (.cells #[.string x.ty, .string x.key, .string x.id] t)).cell? ((⟨w1.heap.size, 0, none⟩ : Addr).add j) = some u := by
  have hj : j < 3 := by
    rcases Nat.lt_or_ge j 3 with h' | h'
    · exact h'
    · rw [List.getElem?_eq_none (by simpa [encE] using h')] at h; cases h
  match j, hj, h with
  | 0, _, h => rw [show (⟨w1.heap.size, 0, none⟩ : Addr).add 0 = ⟨w1.heap.size, 0, none⟩ from rfl, World.cell?_alloc_at _ _ _ _ rfl]; exact h
  | 1, _, h => rw [show (⟨w1.heap.size, 0, none⟩ : Addr).add 1 = ⟨w1.heap.size, 1, none⟩ from rfl, World.cell?_alloc_at _ _ _ _ rfl]; exact h
  | 2, _, h => rw [show (⟨w1.heap.size, 0, none⟩ : Addr).add 2 = ⟨w1.heap.size, 2, none⟩ from rfl, World.cell?_alloc_at _ _ _ _ rfl]; exact h
theorem encE_one (x : Ent) (u : Value) (h : u ∈ encE x) : u.oneCell' = true := by
  simp only [encE, List.mem_cons, List.not_mem_nil, or_false] at h
  rcases h with rfl | rfl | rfl <;> rfl
theorem OwnE.row {w : World} {base : Nat} {v : Value} {l : List Ent} (h : OwnE w base v l) (k : Nat) (hk : v.ownBlock = some k) : base ≤ k := by
  rcases h.2 with ⟨rfl, _⟩ | ⟨g, cap, cur, rfl, hg, _⟩
  · cases hk
  · cases hk; exact hg
theorem OwnE.snoc {w : World} {base n : Nat} {v : Value} {l : List Ent} {x : Ent} (h : w.ownsRow base 58 3 v n (encL l ++ encE x)) (hn : n = l.length + 1) : OwnE w base v (l ++ [x]) := by
  subst hn
  rw [encL_snoc] at h
  unfold OwnE
  rw [List.length_append]
  exact h

theorem setHead_len (l : List Ent) (e0 : Ent) (keep : Bool) (k : Nat) : (((l.takeWhile fun x => befB x e0) ++ (if (keep || !e0.id.toList.isEmpty) then [e0] else [])) ++ (l.take k).filter fun x => befB e0 x).length ≤ l.length + (1 + l.length) := by
  rw [List.length_append, List.length_append]
  have h1 : (l.takeWhile fun x => befB x e0).length ≤ l.length := (List.takeWhile_sublist _).length_le
  have h2 : ((l.take k).filter fun x => befB e0 x).length ≤ l.length := Nat.le_trans (List.length_filter_le _ _) (by rw [List.length_take]; omega)
  split
  · rw [List.length_cons, List.length_nil]; omega
  · rw [List.length_nil]; omega
theorem OwnE.base_le {w : World} {base base' : Nat} {v : Value} {l : List Ent} (h : OwnE w base v l) (hb : base' ≤ base) : OwnE w base' v l := by
  obtain ⟨h1, h2⟩ := h
  refine ⟨h1, ?_⟩
  rcases h2 with h2 | ⟨g, cap, cur, hv, hg, r⟩
  · exact Or.inl h2
  · exact Or.inr ⟨g, cap, cur, hv, Nat.le_trans hb hg, r⟩

end Go.Proofs.YtnkpikknkooblaaGreat
namespace Go.Proofs.YtnkpikknkooblaaGreat
open Go.RowKit
end Go.Proofs.YtnkpikknkooblaaGreat
/-
  Entries by their lists: plain facts of setL.
-/
namespace Go.Proofs.YtnkpikknkooblaaGreat
open Go.RowKit

/-! ### setL -/

theorem befB_asym {x e : Ent} (h : befB x e = true) : befB e x = false := by
  unfold befB at h ⊢
  rw [ByteArray.toList_eq, ByteArray.toList_eq, ByteArray.toList_eq, ByteArray.toList_eq] at *
  by_cases ht : x.ty.data.toList = e.ty.data.toList
  · rw [ht] at h ⊢
    simp only [beq_self_eq_true, if_true, bytesLess_eq, decide_eq_true_eq, decide_eq_false_iff_not] at h ⊢
    exact List.lt_asymm h
  · have h1 : (x.ty.data.toList == e.ty.data.toList) = false := by simpa using ht
    have h2 : (e.ty.data.toList == x.ty.data.toList) = false := by
      cases hb : (e.ty.data.toList == x.ty.data.toList)
      · rfl
      · exact absurd (eq_of_beq hb).symm ht
    rw [h1] at h
    rw [h2]
    simp only [Bool.false_eq_true, if_false, bytesLess_eq, decide_eq_true_eq, decide_eq_false_iff_not] at h ⊢
    exact List.lt_asymm h
theorem split_len {l : List Ent} {p q : Ent → Bool} (h : ∀ x, p x = true → q x = false) : (l.takeWhile p).length + (l.filter q).length ≤ l.length := by
  induction l with
  | nil => simp
  | cons a l ih =>
    have hf : (l.filter q).length ≤ l.length := List.length_filter_le _ _
    cases hp : p a
    · rw [List.takeWhile_cons_of_neg (by simp [hp])]
      have : ((a :: l).filter q).length ≤ (a :: l).length := List.length_filter_le _ _
      simpa using this
    · rw [List.takeWhile_cons_of_pos hp, List.filter_cons_of_neg (by simp [h a hp])]
      simp only [List.length_cons]
      omega
theorem setL_len (l : List Ent) (e : Ent) (keep : Bool) : (setL l e keep).length ≤ l.length + 1 := by
  have := split_len (l := l) (p := fun x => befB x e) (q := fun x => befB e x) (fun x hx => befB_asym hx)
  unfold setL
  rw [List.length_append, List.length_append]
  split
  · simp only [List.length_singleton]; omega
  · simp only [List.length_nil]; omega
theorem setL_mem {l : List Ent} {e x : Ent} {keep : Bool} (h : x ∈ setL l e keep) : x ∈ l ∨ x = e := by
  unfold setL at h
  rw [List.mem_append, List.mem_append] at h
  rcases h with h | h | h
  · exact Or.inl ((List.takeWhile_sublist _).subset h)
  · split at h
    · exact Or.inr (by simpa using h)
    · cases h
  · exact Or.inl (List.mem_filter.1 h).1

/-- all texts of these entries are of a size that a text can have. -/
def AllOk (l : List Ent) : Prop := ∀ x ∈ l, x.ty.size ≤ maxLen ∧ x.key.size ≤ maxLen ∧ x.id.size ≤ maxLen
theorem AllOk.at {l : List Ent} (h : AllOk l) (i : Nat) (hi : i < l.length) : (eAt l i).ty.size ≤ maxLen ∧ (eAt l i).key.size ≤ maxLen ∧ (eAt l i).id.size ≤ maxLen := h _ (eAt_mem l i hi)
theorem SlE.ok {w : World} {a : Option Addr} {cap : Nat} {l : List Ent} (h : SlE w a cap l) : AllOk l := fun x hx => by
  obtain ⟨i, hi, e⟩ := List.mem_iff_getElem.1 hx
  rw [← e, ← eAt_get l i hi]
  exact h.size i hi
theorem AllOk.set {l : List Ent} {e : Ent} {keep : Bool} (h : AllOk l) (he : e.ty.size ≤ maxLen ∧ e.key.size ≤ maxLen ∧ e.id.size ≤ maxLen) : AllOk (setL l e keep) := fun x hx => (setL_mem hx).elim (h x) fun e' => e' ▸ he

theorem st_len {l : List Ent} (h : stB l = true) : l.length ≤ 300 := by
  unfold stB at h
  rw [Bool.and_eq_true, Bool.and_eq_true] at h
  exact of_decide_eq_true h.2.1
theorem ch_len {l : List Ent} (h : chB l = true) : l.length ≤ 600 := by
  unfold chB at h
  rw [Bool.and_eq_true] at h
  exact of_decide_eq_true h.1
end Go.Proofs.YtnkpikknkooblaaGreat
namespace Go.Proofs.YtnkpikknkooblaaGreat
open Go.RowKit

theorem encL_one (l : List Ent) (u : Value) (h : u ∈ encL l) : u.oneCell' = true := by
  obtain ⟨x, _, hx⟩ := List.mem_flatMap.1 h
  exact encE_one x u hx

theorem encL_at (l : List Ent) (w : World) (b off : Nat)
    (c1 : ∀ i, i < l.length → w.cell? ⟨b, off + i * 3, none⟩ = some (.string (eAt l i).ty)) (c2 : ∀ i, i < l.length → w.cell? ⟨b, off + i * 3 + 1, none⟩ = some (.string (eAt l i).key)) (c3 : ∀ i, i < l.length → w.cell? ⟨b, off + i * 3 + 2, none⟩ = some (.string (eAt l i).id))
    (j : Nat) (u : Value) (h : (encL l)[j]? = some u) : w.cell? ((⟨b, off, none⟩ : Addr).add j) = some u := by
  have hj : j < l.length * 3 := by
    rcases Nat.lt_or_ge j (l.length * 3) with h' | h'
    · exact h'
    · rw [List.getElem?_eq_none (by rw [encL_len]; exact h')] at h; cases h
  have hadd : (⟨b, off, none⟩ : Addr).add j = ⟨b, off + j, none⟩ := by unfold Addr.add; split <;> simp_all
  rw [hadd]
  have hi : j / 3 < l.length := by omega
  have hg := encL_get l (j / 3) hi
  rcases (by omega : j = j / 3 * 3 ∨ j = j / 3 * 3 + 1 ∨ j = j / 3 * 3 + 2) with e | e | e
  · rw [e] at h ⊢
    rw [hg.1] at h; cases h
    exact c1 _ hi
  · rw [e] at h ⊢
    rw [hg.2.1] at h; cases h
    rw [← Nat.add_assoc]; exact c2 _ hi
  · rw [e] at h ⊢
    rw [hg.2.2] at h; cases h
    rw [← Nat.add_assoc]; exact c3 _ hi

end Go.Proofs.YtnkpikknkooblaaGreat
/-
  spec.l4Patch.
-/
namespace Go.Proofs.YtnkpikknkooblaaGreat
open Go.RowKit

/-! ### Patch -/

/-- a state behind the first k changes. -/
def patL (l ch : List Ent) : Nat → List Ent
  | 0 => l
  | k + 1 => setL (patL l ch k) (eAt ch k) false
theorem patL_len (l ch : List Ent) : ∀ k, (patL l ch k).length ≤ l.length + k
  | 0 => Nat.le_refl _
  | k + 1 => by have := patL_len l ch k; have := setL_len (patL l ch k) (eAt ch k) false; unfold patL; omega
theorem patL_ok {l ch : List Ent} (h : AllOk l) (hc : AllOk ch) : ∀ k, k ≤ ch.length → AllOk (patL l ch k)
  | 0, _ => h
  | k + 1, hk => (patL_ok h hc k (by omega)).set (hc.at k (by omega))

end Go.Proofs.YtnkpikknkooblaaGreat
