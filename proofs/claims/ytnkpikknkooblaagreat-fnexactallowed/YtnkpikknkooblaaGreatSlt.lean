/-
  Rows of slots (the Id of an Ent is idle): as they lie in memory; what the laws do with them.
-/
import Derived.Test.YtnkpikknkooblaaGreatCsA
import Derived.Test.YtnkpikknkooblaaGreatMkA
import Derived.OwnWalk
import Derived.Deep.DeepFit
namespace Go.Proofs.YtnkpikknkooblaaGreat
open Go.RowKit

def encO (e : Ent) : List Value := [.string e.ty, .string e.key]
def encOL (l : List Ent) : List Value := l.flatMap encO
theorem encOL_len (l : List Ent) : (encOL l).length = l.length * 2 := by
  induction l with
  | nil => rfl
  | cons x l ih => simp only [encOL, List.flatMap_cons, List.length_append, List.length_cons] at ih ⊢; rw [ih]; simp [encO]; omega
theorem encOL_snoc (l : List Ent) (e : Ent) : encOL l ++ encO e = encOL (l ++ [e]) := by simp [encOL]
theorem encOL_app (l k : List Ent) : encOL l ++ encOL k = encOL (l ++ k) := by simp [encOL]
theorem encOL_get (l : List Ent) (i : Nat) (h : i < l.length) : (encOL l)[i * 2]? = some (.string (eAt l i).ty) ∧ (encOL l)[i * 2 + 1]? = some (.string (eAt l i).key) := by
  induction l generalizing i with
  | nil => exact absurd h (Nat.not_lt_zero _)
  | cons x l ih =>
    cases i with
    | zero => simp [encOL, encO, eAt]
    | succ i =>
      have := ih i (by simpa using h)
      have e1 : encOL (x :: l) = .string x.ty :: .string x.key :: encOL l := by simp [encOL, encO]
      have e2 : eAt (x :: l) (i + 1) = eAt l i := by simp [eAt]
      rw [e1, e2, show (i + 1) * 2 = i * 2 + 2 by omega]
      simpa using this

/-- the slice (a, length of l, cap) holds the slots l. -/
structure SlO (w : World) (a : Option Addr) (cap : Nat) (l : List Ent) : Prop where
  le : l.length ≤ cap
  max : cap ≤ maxLen
  cells : l = [] ∨ ∃ b off, a = some ⟨b, off, none⟩ ∧ b < w.heap.size ∧
    (∀ i, i < l.length → w.cell? ⟨b, off + i * 2, none⟩ = some (.string (eAt l i).ty)) ∧ (∀ i, i < l.length → w.cell? ⟨b, off + i * 2 + 1, none⟩ = some (.string (eAt l i).key))
theorem SlO.below {w w' : World} {a : Option Addr} {cap : Nat} {l : List Ent} (h : SlO w a cap l) (hb : Below w.heap.size w w') : SlO w' a cap l := by
  refine ⟨h.le, h.max, ?_⟩
  rcases h.cells with h0 | ⟨b, off, e, hlt, h1, h2⟩
  · exact Or.inl h0
  · exact Or.inr ⟨b, off, e, Nat.lt_of_lt_of_le hlt hb.size, fun i hi => (hb.cell (by exact hlt)).trans (h1 i hi), fun i hi => (hb.cell (by exact hlt)).trans (h2 i hi)⟩

/-- the value v owns the slots l, among the blocks from base on. -/
def OwnO (w : World) (base : Nat) (v : Value) (l : List Ent) : Prop := w.ownsRow base 121 2 v l.length (encOL l)
theorem OwnO.below {w w' : World} {base : Nat} {v : Value} {l : List Ent} (h : OwnO w base v l) (hb : Below w.heap.size w w') : OwnO w' base v l := by
  obtain ⟨h1, h2⟩ := h
  refine ⟨h1, ?_⟩
  rcases h2 with h2 | ⟨g, cap, cur, hv, hg, hh, r⟩
  · exact Or.inl h2
  · have hlt : g < w.heap.size := (Array.getElem?_eq_some_iff.1 hh).1
    exact Or.inr ⟨g, cap, cur, hv, hg, by rw [hb.block g hlt]; exact hh, r⟩
theorem OwnO.mono {w : World} {base base' : Nat} {v : Value} {l : List Ent} (h : OwnO w base v l) (hb : base' ≤ base) : OwnO w base' v l := by
  obtain ⟨h1, h2⟩ := h
  exact ⟨h1, h2.imp id fun ⟨g, cap, cur, e, hg, r⟩ => ⟨g, cap, cur, e, Nat.le_trans hb hg, r⟩⟩
theorem OwnO.new (w : World) (base : Nat) (hb : base ≤ w.heap.size) : OwnO (w.alloc (.cells #[] 121)) base (.slice (some ⟨w.heap.size, 0, none⟩) 0 0) [] :=
  ⟨rfl, Or.inr ⟨w.heap.size, 0, #[], rfl, hb, by show (w.heap.push _)[w.heap.size]? = _; simp, Nat.le_refl _, by decide, rfl, rfl⟩⟩
theorem OwnO.one (w : World) (base : Nat) (hb : base ≤ w.heap.size) (x : Ent) : OwnO (w.alloc (.cells #[.string x.ty, .string x.key] 121)) base (.slice (some ⟨w.heap.size, 0, none⟩) 1 1) [x] :=
  ⟨rfl, Or.inr ⟨w.heap.size, 1, #[.string x.ty, .string x.key], rfl, hb, by show (w.heap.push _)[w.heap.size]? = _; simp, Nat.le_refl _, by decide, rfl, rfl⟩⟩
theorem OwnO.sl {w : World} {base : Nat} {v : Value} {l : List Ent} (h : OwnO w base v l) : ∃ a cap, v = .slice a l.length cap ∧ SlO w a cap l := by
  obtain ⟨h1, h2⟩ := h
  rcases h2 with ⟨rfl, h0⟩ | ⟨g, cap, cur, rfl, hg, hh, hn, hc, hcs, hx⟩
  · have : l = [] := List.eq_nil_of_length_eq_zero h0
    subst this
    exact ⟨none, 0, rfl, ⟨Nat.le_refl _, by decide, Or.inl rfl⟩⟩
  · refine ⟨_, cap, rfl, ⟨hn, hc, ?_⟩⟩
    by_cases h0 : l = []
    · exact Or.inl h0
    · have hlt : g < w.heap.size := (Array.getElem?_eq_some_iff.1 hh).1
      have hcell : ∀ j, j < l.length * 2 → w.cell? ⟨g, 0 + j, none⟩ = (encOL l)[j]? := by
        intro j hj
        rw [← hx, List.getElem?_take, if_pos hj, Nat.zero_add]
        simp [World.cell?, hh]
      exact Or.inr ⟨g, 0, rfl, hlt, fun i hi => by rw [hcell _ (by omega)]; exact (encOL_get l i hi).1, fun i hi => by rw [Nat.add_assoc, hcell _ (by omega)]; exact (encOL_get l i hi).2⟩
theorem Tryz.infoSlot : (Tryz.prog.info? 121).map (fun i => (i.zero, i.size, i.bytes)) = some (some (.agg #[.string ByteArray.empty, .string ByteArray.empty]), 2, 32) := by kernel_rfl
theorem encO_cells (W : World) (x : Ent) (t : TypeId) (j : Nat) (u : Value) (h : (encO x)[j]? = some u) : (W.alloc (.cells #[.string x.ty, .string x.key] t)).cell? ((⟨W.heap.size, 0, none⟩ : Addr).add j) = some u := by
  have hj : j < 2 := by
    rcases Nat.lt_or_ge j 2 with h' | h'
    · exact h'
    · rw [List.getElem?_eq_none (by simpa [encO] using h')] at h; cases h
  match j, hj, h with
  | 0, _, h => rw [show (⟨W.heap.size, 0, none⟩ : Addr).add 0 = ⟨W.heap.size, 0, none⟩ from rfl, World.cell?_alloc_at _ _ _ _ rfl]; exact h
  | 1, _, h => rw [show (⟨W.heap.size, 0, none⟩ : Addr).add 1 = ⟨W.heap.size, 1, none⟩ from rfl, World.cell?_alloc_at _ _ _ _ rfl]; exact h
theorem encO_one (x : Ent) (u : Value) (h : u ∈ encO x) : u.oneCell' = true := by
  simp only [encO, List.mem_cons, List.not_mem_nil, or_false] at h
  rcases h with rfl | rfl <;> rfl
theorem OwnO.wr0 {w : World} {base : Nat} {v : Value} {l : List Ent} (h : OwnO w base v l) {a : Option Addr} {n cap : Nat} (e : v = .slice a n cap) : Wr0 w base a (l.length * 2) := by
  subst e
  obtain ⟨h1, h2⟩ := h
  rcases h2 with ⟨e, h0⟩ | ⟨g, cap', cur, e, hg, hh, hn, hc, hcs, hx⟩
  · exact Or.inl (by omega)
  · injection e with e1 _ _
    have hlt : g < w.heap.size := (Array.getElem?_eq_some_iff.1 hh).1
    refine Or.inr ⟨g, 0, e1, hg, hlt, fun i hi => ⟨⟨cur[i]'(by omega), ?_⟩, by simp [World.frozen?, hh]⟩⟩
    simp [World.cell?, hh, show i < cur.size by omega]
theorem SlO.low {w : World} {a : Option Addr} {cap base : Nat} {l : List Ent} (h : SlO w a cap l) (hb : w.heap.size ≤ base) : LowS a l.length base :=
  h.cells.imp (fun e => by rw [e]; rfl) fun ⟨b, off, e, hlt, _⟩ => ⟨b, off, e, by omega⟩
theorem Wr0.farO {w : World} {a : Option Addr} {n base lo hi : Nat} (h : Wr0 w base a (n * 2)) (hb : hi ≤ base) : FarS a n lo hi :=
  h.imp (fun e => by omega) fun ⟨b, off, e, hlt, _⟩ => ⟨b, off, e, Or.inr (by omega)⟩
theorem SlO.mkd {w w' : World} {a : Option Addr} {cap lo hi : Nat} {l : List Ent} (h : SlO w a cap l) (hm : Mkd lo hi w w') (hf : FarS a l.length lo hi) : SlO w' a cap l := by
  refine ⟨h.le, h.max, ?_⟩
  rcases h.cells with h0 | ⟨b, off, rfl, hlt, c1, c2⟩
  · exact Or.inl h0
  · rcases hf with h0 | ⟨b', off', e, hf⟩
    · exact Or.inl (List.eq_nil_of_length_eq_zero h0)
    · injection e with e; injection e with e1 e2 _
      subst e1 e2
      exact Or.inr ⟨b, off, rfl, Nat.lt_of_lt_of_le hlt hm.size, fun i hi => by rw [hm.cell hlt hf]; exact c1 i hi, fun i hi => by rw [hm.cell hlt hf]; exact c2 i hi⟩

/-- n entries that bear marks from k0 on. -/
def mkO (k0 n : Nat) : List Ent := (List.range n).map fun i => ⟨mkT (k0 + i * 2), mkT (k0 + i * 2 + 1), ByteArray.empty⟩
theorem mkO_len (k0 n : Nat) : (mkO k0 n).length = n := by simp [mkO]
theorem mkO_at {k0 n i : Nat} (h : i < n) : eAt (mkO k0 n) i = ⟨mkT (k0 + i * 2), mkT (k0 + i * 2 + 1), ByteArray.empty⟩ := by
  rw [eAt_get _ _ (by rw [mkO_len]; exact h)]
  simp [mkO]

/-- behind a call and a store, what was done stands. -/
theorem doneO_set {w w1 : World} {b off d : Nat} {F : Nat → Value} (hb : b < w.heap.size) (hB : Below w.heap.size w w1) (h : ∀ i, i < d → w.cell? ⟨b, off + i, none⟩ = some (F i)) (hv : ∃ v, w1.cell? ⟨b, off + d, none⟩ = some v) :
    ∀ i, i < d + 1 → (w1.setCell ⟨b, off + d, none⟩ (F d)).cell? ⟨b, off + i, none⟩ = some (F i) := fun i hi => by
  by_cases e : i = d
  · subst e; exact set_same hv
  · rw [set_far (by omega)]; exact (hB.cell (by exact hb)).trans (h i (by omega))

theorem flat_slO {w : World} {b off n cap k0 : Nat} (hb : b < w.heap.size) (hle : n ≤ cap) (hmax : cap ≤ maxLen) (h : ∀ i, i < n * 2 → w.cell? ⟨b, off + i, none⟩ = some (.string (mkT (k0 + i)))) : SlO w (some ⟨b, off, none⟩) cap (mkO k0 n) := by
  refine ⟨by rw [mkO_len]; exact hle, hmax, Or.inr ⟨b, off, rfl, hb, fun i hi => ?_, fun i hi => ?_⟩⟩
  all_goals rw [mkO_len] at hi
  · rw [mkO_at hi, h _ (by omega)]
  · rw [mkO_at hi, Nat.add_assoc off, h _ (by omega)]; rfl

/-! ### heldOntryS -/
theorem flatO_of {w : World} {b off n cap k0 : Nat} (h : SlO w (some ⟨b, off, none⟩) cap (mkO k0 n)) (hn : n ≠ 0) : b < w.heap.size ∧ ∀ i, i < n * 2 → w.cell? ⟨b, off + i, none⟩ = some (.string (mkT (k0 + i))) := by
  rcases h.cells with h0 | ⟨b', off', e, hb, h1, h2⟩
  · have := mkO_len k0 n
    rw [h0] at this
    exact absurd this.symm hn
  · injection e with e; injection e with e1 e2 _
    subst e1 e2
    refine ⟨hb, fun i hi => ?_⟩
    obtain ⟨q, c, hc, rfl⟩ : ∃ q c, c < 2 ∧ i = q * 2 + c := ⟨i / 2, i % 2, by omega, by omega⟩
    have hq : q < n := by omega
    have hq' : q < (mkO k0 n).length := by rw [mkO_len]; exact hq
    match c, hc with
    | 0, _ => have := h1 q hq'; rw [mkO_at hq] at this; exact this
    | 1, _ => have := h2 q hq'; rw [mkO_at hq] at this; exact this

end Go.Proofs.YtnkpikknkooblaaGreat
