/-
  Rows of events that a call owns.
-/
import Derived.Test.YtpdnocfefmobjaaMkX
import Derived.Deep.AppendLies
namespace Go.Proofs.Ytpdnocfefmobjaa
open Go.RowKit

/-- an event's ten cells. -/
def evL (e : Ev) (t : Ls) : List Value := [.string e.id, .string e.sd, .string e.ty, .bool e.st, .string e.key, .int .i64 e.tm, .slice t.pa e.np t.cp, .slice t.aa e.na t.ca, .string e.val, .slice t.ga e.ng t.cg]
def encV (E : Nat → Ev) (T : Nat → Ls) (n : Nat) : List Value := (List.range n).flatMap fun i => evL (E i) (T i)
theorem encV_snoc (E : Nat → Ev) (T : Nat → Ls) (n : Nat) : encV E T n ++ evL (E n) (T n) = encV E T (n + 1) := by simp [encV, List.range_succ]
theorem encV_len (E : Nat → Ev) (T : Nat → Ls) (n : Nat) : (encV E T n).length = n * 10 := by
  induction n with
  | zero => rfl
  | succ n ih => rw [← encV_snoc, List.length_append, ih]; simp [evL]; omega
theorem encV_get (E : Nat → Ev) (T : Nat → Ls) : ∀ n i r, i < n → r < 10 → (encV E T n)[i * 10 + r]? = (evL (E i) (T i))[r]?
  | 0, _, _, h, _ => absurd h (Nat.not_lt_zero _)
  | n + 1, i, r, h, hr => by
    rw [← encV_snoc]
    by_cases e : i = n
    · subst e
      rw [List.getElem?_append_right (by rw [encV_len]; omega), encV_len]
      congr 1
      omega
    · rw [List.getElem?_append_left (by rw [encV_len]; omega)]
      exact encV_get E T n i r (by omega) hr
theorem encV_congr {E : Nat → Ev} {T T' : Nat → Ls} : ∀ {n}, (∀ i, i < n → T i = T' i) → encV E T n = encV E T' n
  | 0, _ => rfl
  | n + 1, h => by rw [← encV_snoc, ← encV_snoc, encV_congr (fun i hi => h i (by omega)), h n (by omega)]
theorem evL_one (e : Ev) (t : Ls) (u : Value) (h : u ∈ evL e t) : u.oneCell' = true := by
  unfold evL at h
  simp only [List.mem_cons, List.not_mem_nil, or_false] at h
  rcases h with rfl | rfl | rfl | rfl | rfl | rfl | rfl | rfl | rfl | rfl <;> rfl
theorem evL_cells (W : World) (e : Ev) (t : Ls) (ty : TypeId) (j : Nat) (u : Value) (h : (evL e t)[j]? = some u) : (W.alloc (.cells #[.string e.id, .string e.sd, .string e.ty, .bool e.st, .string e.key, .int .i64 e.tm, .slice t.pa e.np t.cp, .slice t.aa e.na t.ca, .string e.val, .slice t.ga e.ng t.cg] ty)).cell? ((⟨W.heap.size, 0, none⟩ : Addr).add j) = some u := by
  rw [Addr.add_lit, Nat.zero_add, World.cell?_alloc_at _ _ _ _ rfl]
  rw [← h]
  unfold evL
  rw [List.getElem?_toArray]

/-- what is asked of the lists of an event. -/
structure QC (Q : World → Ev → Ls → Prop) : Prop where
  below : ∀ {w w' : World} {e : Ev} {t : Ls}, Q w e t → Below w.heap.size w w' → Q w' e t
  grown : ∀ {w w' : World} {e : Ev} {t : Ls} {row : Option Nat}, Q w e t → w.grownBy w' row → (∀ b, row = some b → b < t.lo ∨ t.hi ≤ b) → Q w' e t
  ok : ∀ {w : World} {e : Ev} {t : Ls}, Q w e t → EvOk w e t.pa t.cp t.aa t.ca t.ga t.cg
  hi : ∀ {w : World} {e : Ev} {t : Ls}, Q w e t → t.lo ≤ t.hi ∧ t.hi ≤ w.heap.size
def QI (w : World) (e : Ev) (t : Ls) : Prop := EvIv w e t.pa t.cp t.aa t.ca t.ga t.cg t.lo t.m1 t.m2 t.hi
theorem qcI : QC QI := ⟨fun h hb => h.below hb, fun h hg hr => h.grownI hg hr, fun h => h.ok, fun h => ⟨Nat.le_trans h.hh.1 (Nat.le_trans h.hh.2.1 h.hh.2.2.1), h.hh.2.2.2⟩⟩
/-- the lists lie between two blocks. -/
structure QJ (w : World) (e : Ev) (t : Ls) : Prop where
  ok : EvOk w e t.pa t.cp t.aa t.ca t.ga t.cg
  ip : Iv t.pa e.np t.lo t.hi
  ia : Iv t.aa e.na t.lo t.hi
  ig : Iv t.ga e.ng t.lo t.hi
  hh : t.lo ≤ t.hi ∧ t.hi ≤ w.heap.size
theorem qcJ : QC QJ := ⟨fun h hb => ⟨h.ok.below hb, h.ip, h.ia, h.ig, h.hh.1, Nat.le_trans h.hh.2 hb.size⟩,
  fun h hg hr => ⟨⟨h.ok.hid, h.ok.hsd, h.ok.hty, h.ok.hkey, h.ok.hval, h.ok.hp.grownI hg h.ip hr, h.ok.ha.grownI hg h.ia hr, h.ok.hg.grownI hg h.ig hr⟩, h.ip, h.ia, h.ig, h.hh.1, Nat.le_trans h.hh.2 hg.size⟩, fun h => h.ok, fun h => h.hh⟩

/-- the value v owns the events, the lists apart from the row. -/
structure RowV (Q : World → Ev → Ls → Prop) (w : World) (base : Nat) (v : Value) (n : Nat) (E : Nat → Ev) (T : Nat → Ls) : Prop where
  own : w.ownsRow base 39 10 v n (encV E T n)
  q : ∀ i, i < n → Q w (E i) (T i)
  low : ∀ i, i < n → base ≤ (T i).lo
  ord : ∀ i j, i < j → j < n → (T i).hi ≤ (T j).lo
  apart : ∀ g, v.ownBlock = some g → ∀ i, i < n → g < (T i).lo ∨ (T i).hi ≤ g
theorem RowV.below {Q : World → Ev → Ls → Prop} (c : QC Q) {w w' : World} {base n : Nat} {v : Value} {E : Nat → Ev} {T : Nat → Ls} (h : RowV Q w base v n E T) (hb : Below w.heap.size w w') : RowV Q w' base v n E T :=
  ⟨ownsRow_blw h.own hb, fun i hi => c.below (h.q i hi) hb, h.low, h.ord, h.apart⟩
theorem RowV.new {Q : World → Ev → Ls → Prop} (w : World) (base : Nat) (hb : base ≤ w.heap.size) (E : Nat → Ev) (T : Nat → Ls) : RowV Q (w.alloc (.cells #[] 39)) base (.slice (some ⟨w.heap.size, 0, none⟩) 0 0) 0 E T :=
  ⟨⟨rfl, Or.inr ⟨w.heap.size, 0, #[], rfl, hb, by show (w.heap.push _)[w.heap.size]? = _; simp, Nat.le_refl _, by decide, rfl, rfl⟩⟩, fun i hi => absurd hi (Nat.not_lt_zero _), fun i hi => absurd hi (Nat.not_lt_zero _), fun i j _ hj => absurd hj (Nat.not_lt_zero _), fun g _ i hi => absurd hi (Nat.not_lt_zero _)⟩
def extT (T : Nat → Ls) (n : Nat) (t : Ls) : Nat → Ls := fun i => if i = n then t else T i
theorem RowV.snoc {Q : World → Ev → Ls → Prop} (c : QC Q) {w w' : World} {base n g cap : Nat} {v : Value} {E : Nat → Ev} {T : Nat → Ls} {t : Ls} (h : RowV Q w base v n E T) (ht : Q w (E n) t) (h1 : base ≤ t.lo) (h2 : ∀ i, i < n → (T i).hi ≤ t.lo) (h3 : ∀ g, v.ownBlock = some g → g < t.lo ∨ t.hi ≤ g)
    (hown : w'.ownsRow base 39 10 (.slice (some ⟨g, 0, none⟩) (n + 1) cap) (n + 1) (encV E T n ++ evL (E n) t)) (hgr : w.grownBy w' v.ownBlock) (hg : v.ownBlock = some g ∨ w.heap.size ≤ g) : RowV Q w' base (.slice (some ⟨g, 0, none⟩) (n + 1) cap) (n + 1) E (extT T n t) := by
  have e1 : extT T n t n = t := if_pos rfl
  have e2 : ∀ i, i < n → extT T n t i = T i := fun i hi => if_neg (by omega)
  have e3 : encV E T n = encV E (extT T n t) n := encV_congr fun i hi => (e2 i hi).symm
  have hrow : ∀ i, i < n → ∀ b, v.ownBlock = some b → b < (T i).lo ∨ (T i).hi ≤ b := fun i hi b hb => h.apart b hb i hi
  have hgi : ∀ i, i < n → g < (T i).lo ∨ (T i).hi ≤ g := fun i hi => by
    rcases hg with q | q
    · exact h.apart g q i hi
    · exact Or.inr (Nat.le_trans (c.hi (h.q i hi)).2 q)
  have hgt : g < t.lo ∨ t.hi ≤ g := by
    rcases hg with q | q
    · exact h3 g q
    · exact Or.inr (Nat.le_trans (c.hi ht).2 q)
  refine ⟨?_, fun i hi => ?_, fun i hi => ?_, fun i j hij hj => ?_, fun g' hg' i hi => ?_⟩
  · rw [← encV_snoc, e1, ← e3]; exact hown
  · by_cases e : i = n
    · subst e; rw [e1]; exact c.grown ht hgr h3
    · rw [e2 i (by omega)]; exact c.grown (h.q i (by omega)) hgr (hrow i (by omega))
  · by_cases e : i = n
    · subst e; rw [e1]; exact h1
    · rw [e2 i (by omega)]; exact h.low i (by omega)
  · by_cases e : j = n
    · subst e; rw [e1, e2 i hij]; exact h2 i hij
    · rw [e2 i (by omega), e2 j (by omega)]; exact h.ord i j hij (by omega)
  · have hgg : g = g' := by
      have : some g = some g' := hg'
      injection this
    subst hgg
    by_cases e : i = n
    · subst e; rw [e1]; exact hgt
    · rw [e2 i (by omega)]; exact hgi i (by omega)
/-- the row as it lies. -/
theorem RowV.cells {Q : World → Ev → Ls → Prop} {w : World} {base n : Nat} {v : Value} {E : Nat → Ev} {T : Nat → Ls} (h : RowV Q w base v n E T) :
    (v = .slice none 0 0 ∧ n = 0) ∨ ∃ g cap, v = .slice (some ⟨g, 0, none⟩) n cap ∧ base ≤ g ∧ g < w.heap.size ∧ n ≤ cap ∧ cap ≤ maxLen ∧ (∀ i, i < n → EvCells w g (i * 10) (E i) (T i).pa (T i).cp (T i).aa (T i).ca (T i).ga (T i).cg) ∧ ∀ o, w.frozen? ⟨g, o, none⟩ = false := by
  rcases row_cells h.own with h0 | ⟨g, cap, hv, hg, hlt, hn, hc, hx, hf⟩
  · exact Or.inl h0
  · refine Or.inr ⟨g, cap, hv, hg, hlt, hn, hc, fun i hi => ?_, hf⟩
    have hr : ∀ r, r < 10 → w.cell? ⟨g, i * 10 + r, none⟩ = (evL (E i) (T i))[r]? := fun r hr => by
      have := hx (i * 10 + r) (by omega)
      rw [Nat.zero_add] at this
      rw [this]
      exact encV_get E T n i r hi hr
    exact ⟨hr 0 (by decide), hr 1 (by decide), hr 2 (by decide), hr 3 (by decide), hr 4 (by decide), hr 5 (by decide), hr 6 (by decide), hr 7 (by decide), hr 8 (by decide), hr 9 (by decide)⟩
theorem RowV.slv {Q : World → Ev → Ls → Prop} (c : QC Q) {w : World} {base n : Nat} {v : Value} {E : Nat → Ev} {T : Nat → Ls} (h : RowV Q w base v n E T) : ∃ a cap, v = .slice a n cap ∧ SlV w a n cap E := by
  rcases h.cells with ⟨rfl, rfl⟩ | ⟨g, cap, rfl, hg, hlt, hn, hc, hx, hf⟩
  · exact ⟨none, 0, rfl, ⟨Nat.le_refl _, by decide, Or.inl rfl⟩⟩
  · exact ⟨_, cap, rfl, ⟨hn, hc, Or.inr ⟨g, 0, rfl, hlt, fun i hi => by rw [Nat.zero_add]; exact ⟨_, _, _, _, _, _, hx i hi, c.ok (h.q i hi)⟩⟩⟩⟩
end Go.Proofs.Ytpdnocfefmobjaa
