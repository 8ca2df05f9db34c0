import Derived.Test.YtjfeloagimljoaaToW
namespace Go.Proofs.Ytjfeloagimljoaa
open Go.RowKit

theorem put10_wr0 {w : World} {B o : Nat} {e : Ev} {pa aa ga : Option Addr} {cp ca cg lo n : Nat} {a : Option Addr} (h : Wr0 w lo a n) : Wr0 (put10 w B o e pa cp aa ca ga cg) lo a n :=
  (((((((((h.set _).set _).set _).set _).set _).set _).set _).set _).set _).set _

/-- event e lies at (B, o), its lists in blocks above B; they may be written. -/
def EvNewW (w : World) (B o : Nat) (e : Ev) : Prop := ∃ bp ba bg, B < bp ∧ B < ba ∧ B < bg ∧ EvCells w B o e (some ⟨bp, 0, none⟩) e.np (some ⟨ba, 0, none⟩) e.na (some ⟨bg, 0, none⟩) e.ng ∧ EvOk w e (some ⟨bp, 0, none⟩) e.np (some ⟨ba, 0, none⟩) e.na (some ⟨bg, 0, none⟩) e.ng ∧
  Wr0 w (B + 1) (some ⟨bp, 0, none⟩) e.np ∧ Wr0 w (B + 1) (some ⟨ba, 0, none⟩) e.na ∧ Wr0 w (B + 1) (some ⟨bg, 0, none⟩) (e.ng * 2)
theorem EvNewW.plain {w : World} {B o : Nat} {e : Ev} (h : EvNewW w B o e) : EvNew w B o e := by
  obtain ⟨bp, ba, bg, h1, h2, h3, h4, h5, _⟩ := h
  exact ⟨bp, ba, bg, h1, h2, h3, h4, h5⟩
theorem EvNewW.below {w w' : World} {B o : Nat} {e : Ev} (h : EvNewW w B o e) (hb : Below w.heap.size w w') (hlt : B < w.heap.size) : EvNewW w' B o e := by
  obtain ⟨bp, ba, bg, h1, h2, h3, h4, h5, h6, h7, h8⟩ := h
  exact ⟨bp, ba, bg, h1, h2, h3, h4.below hb hlt, h5.below hb, h6.below hb, h7.below hb, h8.below hb⟩
theorem EvNewW.put {w : World} {B o o' : Nat} {e e' : Ev} {pa aa ga : Option Addr} {cp ca cg : Nat} (h : EvNewW w B o e) (ho : o + 10 ≤ o') : EvNewW (put10 w B o' e' pa cp aa ca ga cg) B o e := by
  obtain ⟨bp, ba, bg, h1, h2, h3, h4, h5, h6, h7, h8⟩ := h
  refine ⟨bp, ba, bg, h1, h2, h3, ?_, ⟨h5.hid, h5.hsd, h5.hty, h5.hkey, h5.hval, put10_slS _ _ _ _ _ _ _ _ _ _ h5.hp (by omega), put10_slS _ _ _ _ _ _ _ _ _ _ h5.ha (by omega), put10_slG _ _ _ _ _ _ _ _ _ _ h5.hg (by omega)⟩, put10_wr0 h6, put10_wr0 h7, put10_wr0 h8⟩
  exact ⟨(put10_far _ _ _ _ _ _ _ _ _ _ _ (by omega)).trans h4.c0, (put10_far _ _ _ _ _ _ _ _ _ _ _ (by omega)).trans h4.c1, (put10_far _ _ _ _ _ _ _ _ _ _ _ (by omega)).trans h4.c2, (put10_far _ _ _ _ _ _ _ _ _ _ _ (by omega)).trans h4.c3, (put10_far _ _ _ _ _ _ _ _ _ _ _ (by omega)).trans h4.c4, (put10_far _ _ _ _ _ _ _ _ _ _ _ (by omega)).trans h4.c5, (put10_far _ _ _ _ _ _ _ _ _ _ _ (by omega)).trans h4.c6, (put10_far _ _ _ _ _ _ _ _ _ _ _ (by omega)).trans h4.c7, (put10_far _ _ _ _ _ _ _ _ _ _ _ (by omega)).trans h4.c8, (put10_far _ _ _ _ _ _ _ _ _ _ _ (by omega)).trans h4.c9⟩
theorem EvNewW.set {w : World} {b o C j : Nat} {e : Ev} (h : EvNewW w b o e) (hC : C < b) (x : Value) : EvNewW (w.setCell ⟨C, j, none⟩ x) b o e := by
  obtain ⟨bp, ba, bg, h1, h2, h3, h4, h5, h6, h7, h8⟩ := h
  refine ⟨bp, ba, bg, h1, h2, h3, ⟨?_, ?_, ?_, ?_, ?_, ?_, ?_, ?_, ?_, ?_⟩, ⟨h5.hid, h5.hsd, h5.hty, h5.hkey, h5.hval, h5.hp.set (by omega) _, h5.ha.set (by omega) _, h5.hg.set (by omega) _⟩, h6.set _, h7.set _, h8.set _⟩
  · rw [far_block (by omega)]; exact h4.c0
  · rw [far_block (by omega)]; exact h4.c1
  · rw [far_block (by omega)]; exact h4.c2
  · rw [far_block (by omega)]; exact h4.c3
  · rw [far_block (by omega)]; exact h4.c4
  · rw [far_block (by omega)]; exact h4.c5
  · rw [far_block (by omega)]; exact h4.c6
  · rw [far_block (by omega)]; exact h4.c7
  · rw [far_block (by omega)]; exact h4.c8
  · rw [far_block (by omega)]; exact h4.c9

/-! ### markRoom -/

/-- how many marks the first n events take. -/
def esum (E : Nat → Ev) : Nat → Nat
  | 0 => 0
  | n + 1 => esum E n + (7 + (E n).np + (E n).na + (E n).ng * 2)

theorem lsum_congr {T T' : Nat → Lst} : ∀ n, (∀ i, i < n → (T i).num = (T' i).num) → lsum T n = lsum T' n
  | 0, _ => rfl
  | n + 1, h => by unfold lsum; rw [lsum_congr n (fun i hi => h i (by omega)), h n (by omega)]

/-- the lists of events that were copied, told by index. -/
theorem lists_of {w : World} {B n : Nat} {E : Nat → Ev} (h : ∀ i, i < n → EvNewW w B (i * 10) (E i)) :
    ∃ T : Nat → Lst, (∀ i, i < n → LstAt w B (0 + i * 10) (T i)) ∧ (∀ i, i < n → LstW w B w.heap.size (T i)) ∧ lsum T n = esum E n := by
  have each : ∀ i, i < n → ∃ l : Lst, LstAt w B (0 + i * 10) l ∧ LstW w B w.heap.size l ∧ l.num = 7 + (E i).np + (E i).na + (E i).ng * 2 := fun i hi => by
    obtain ⟨bp, ba, bg, _, _, _, h4, _, h6, h7, h8⟩ := h i hi
    refine ⟨⟨some ⟨bp, 0, none⟩, (E i).np, (E i).np, some ⟨ba, 0, none⟩, (E i).na, (E i).na, some ⟨bg, 0, none⟩, (E i).ng, (E i).ng⟩, ⟨?_, ?_, ?_⟩, ⟨h6.wr, h7.wr, h8.wr⟩, rfl⟩
    · rw [Nat.zero_add]; exact h4.c6
    · rw [Nat.zero_add]; exact h4.c7
    · rw [Nat.zero_add]; exact h4.c9
  obtain ⟨T, hT⟩ : ∃ T : Nat → Lst, ∀ i, i < n → LstAt w B (0 + i * 10) (T i) ∧ LstW w B w.heap.size (T i) ∧ (T i).num = 7 + (E i).np + (E i).na + (E i).ng * 2 :=
    ⟨fun i => if h : i < n then (each i h).choose else ⟨none, 0, 0, none, 0, 0, none, 0, 0⟩, fun i hi => by simp only [dif_pos hi]; exact (each i hi).choose_spec⟩
  refine ⟨T, fun i hi => (hT i hi).1, fun i hi => (hT i hi).2.1, ?_⟩
  have key : ∀ k, k ≤ n → lsum T k = esum E k := fun k => by
    induction k with
    | zero => intro _; rfl
    | succ k ih => intro hk; unfold lsum esum; rw [ih (by omega), (hT k (by omega)).2.2]
  exact key n (Nat.le_refl _)

end Go.Proofs.Ytjfeloagimljoaa
