/-
  impl.MakeCover's state.
-/
import Derived.Test.YtlopjfhdhkonbaaMcQ
namespace Go.Proofs.Ytlopjfhdhkonbaa
open Go.RowKit

/-- the cover's box (the first block behind w2) with its rows, and the row of the chains' ends. -/
structure St (w2 wr : World) (sv : Value) (i : Nat) (rv : Value) (j : Nat) (ev : Value) (ch : Nat) (F : Nat → Nat) (f : Nat → Sp) (rn : Nat → Nat) (X : Nat → Nat → Int) (T : Nat → Lr) : Prop where
  b0 : wr.cell? ⟨w2.heap.size, 0, none⟩ = some sv
  b1 : wr.cell? ⟨w2.heap.size, 1, none⟩ = some rv
  z0 : wr.frozen? ⟨w2.heap.size, 0, none⟩ = false
  z1 : wr.frozen? ⟨w2.heap.size, 1, none⟩ = false
  co : CovO wr (w2.heap.size + 1) sv i rv j f rn X T
  en : OwnI wr (w2.heap.size + 1) ev ch (fun c => ((F c : Nat) : Int))
  ap : ∀ g, ev.ownBlock = some g → ∀ p, p < j → g < (T p).lo ∨ (T p).hi ≤ g
  bel : Below w2.heap.size w2 wr
  sz : w2.heap.size < wr.heap.size
section
variable {w2 wr X0 w' : World} {i j ch : Nat} {sv rv ev : Value} {F G : Nat → Nat} {f : Nat → Sp} {rn : Nat → Nat} {X : Nat → Nat → Int} {T : Nat → Lr}
theorem St.below (h : St w2 wr sv i rv j ev ch F f rn X T) (hb : Below wr.heap.size wr w') : St w2 w' sv i rv j ev ch F f rn X T :=
  ⟨(hb.cell (by exact h.sz)).trans h.b0, (hb.cell (by exact h.sz)).trans h.b1, (hb.frozen (by exact h.sz)).trans h.z0, (hb.frozen (by exact h.sz)).trans h.z1, h.co.below hb, h.en.below hb, h.ap, h.bel.trans (hb.mono h.bel.size), Nat.lt_of_lt_of_le h.sz hb.size⟩
theorem St.neE (h : St w2 wr sv i rv j ev ch F f rn X T) : (∀ g, sv.ownBlock = some g → some g ≠ ev.ownBlock) ∧ (∀ g, rv.ownBlock = some g → some g ≠ ev.ownBlock) :=
  ⟨fun g hg e => typApart h.co.s h.en (by decide) g hg e.symm, fun g hg e => typApart h.co.r.own h.en (by decide) g hg e.symm⟩
/-- what a row that has grown leaves alone. -/
theorem St.far (h : St w2 wr sv i rv j ev ch F f rn X T) (hb : Below wr.heap.size wr X0) {row : Option Nat} (hgr : X0.grownBy w' row) (hrow : ∀ q, row = some q → w2.heap.size + 1 ≤ q) :
    w'.cell? ⟨w2.heap.size, 0, none⟩ = some sv ∧ w'.cell? ⟨w2.heap.size, 1, none⟩ = some rv ∧ w'.frozen? ⟨w2.heap.size, 0, none⟩ = false ∧ w'.frozen? ⟨w2.heap.size, 1, none⟩ = false ∧ Below w2.heap.size w2 w' ∧ w2.heap.size < w'.heap.size := by
  have hX := h.below hb
  have hne : some w2.heap.size ≠ row := fun e => by have := hrow _ e.symm; omega
  exact ⟨(hgr.cell_far _ (by exact hX.sz) hne).trans hX.b0, (hgr.cell_far _ (by exact hX.sz) hne).trans hX.b1, (hgr.frozen_far _ (by exact hX.sz) hne).trans hX.z0, (hgr.frozen_far _ (by exact hX.sz) hne).trans hX.z1, hX.bel.grown hgr (by have := hX.bel.size; omega) (fun q hq => by have := hrow q hq; omega), Nat.lt_of_lt_of_le hX.sz hgr.size⟩
theorem St.pushE {gg cc : Nat} (h : St w2 wr sv i rv j ev ch F f rn X T) (hb : Below wr.heap.size wr X0) (hown : w'.ownsRow (w2.heap.size + 1) 3 1 (.slice (some ⟨gg, 0, none⟩) (ch + 1) cc) (ch + 1) (ints (fun c => ((F c : Nat) : Int)) ch ++ [.int .i64 0])) (hgr : X0.grownBy w' ev.ownBlock) (hgg : ev.ownBlock = some gg ∨ X0.heap.size ≤ gg) (hF : F ch = 0) : St w2 w' sv i rv j (.slice (some ⟨gg, 0, none⟩) (ch + 1) cc) (ch + 1) F f rn X T := by
  have hX := h.below hb
  obtain ⟨q0, q1, q2, q3, q4, q5⟩ := h.far hb hgr (fun q hq => (rowGt h.en q hq).1)
  have hne := hX.neE
  refine ⟨q0, q1, q2, q3, hX.co.grownX hgr hne.1 hne.2 (fun p hp b hb' => hX.ap b hb' p hp), OwnI.snoc hown (by show (0 : Int) = ((F ch : Nat) : Int); rw [hF]; rfl), fun g hg p hp => ?_, q4, q5⟩
  have := ownInj hg
  subst this
  rcases hgg with q | q
  · exact hX.ap _ q p hp
  · exact Or.inr (Nat.le_trans (hX.co.r.q p hp).hh.2 q)
theorem St.putE {g cc c y : Nat} (h : St w2 wr sv i rv j (.slice (some ⟨g, 0, none⟩) ch cc) ch F f rn X T) (hG : ∀ i, i < ch → G i = if i = c then y else F i) : St w2 (wr.setCell ⟨g, c, none⟩ (.int .i64 ((y : Nat) : Int))) sv i rv j (.slice (some ⟨g, 0, none⟩) ch cc) ch G f rn X T := by
  have hgr : wr.grownBy (wr.setCell ⟨g, c, none⟩ (.int .i64 ((y : Nat) : Int))) (some g) := (World.ownsRow.stored h.en c (.int .i64 ((y : Nat) : Int))).2
  obtain ⟨q0, q1, q2, q3, q4, q5⟩ := h.far (Below.refl _ _) hgr (fun q hq => (rowGt h.en q hq).1)
  have hne := h.neE
  refine ⟨q0, q1, q2, q3, h.co.grownX hgr hne.1 hne.2 (fun p hp b hb' => h.ap b hb' p hp), h.en.putY fun i hi => ?_, h.ap, q4, q5⟩
  show ((G i : Nat) : Int) = _
  rw [hG i hi]
  by_cases e : i = c
  · rw [if_pos e, if_pos e]
  · rw [if_neg e, if_neg e]
theorem St.cellE {g cc c : Nat} (h : St w2 wr sv i rv j (.slice (some ⟨g, 0, none⟩) ch cc) ch F f rn X T) (hc : c < ch) : (∃ v, wr.cell? ⟨g, c, none⟩ = some v) ∧ wr.frozen? ⟨g, c, none⟩ = false := by
  rcases rowCells h.en with ⟨q, _⟩ | ⟨g', cap', q, _, _, _, _, hx, hf⟩
  · cases q
  · have : g = g' := by injection q with q; injection q with q; injection q
    subst this
    have := hx c (by omega)
    rw [Nat.zero_add, ints_get _ _ c hc] at this
    exact ⟨⟨_, this⟩, hf c⟩
theorem St.pushS {gg cc : Nat} (h : St w2 wr sv i rv j ev ch F f rn X T) (hb : Below wr.heap.size wr X0) (hown : w'.ownsRow (w2.heap.size + 1) 44 2 (.slice (some ⟨gg, 0, none⟩) (i + 1) cc) (i + 1) (encS f i ++ spV (f i))) (hgr : X0.grownBy w' sv.ownBlock) (hgg : sv.ownBlock = some gg ∨ X0.heap.size ≤ gg) :
    w'.cell? ⟨w2.heap.size, 0, none⟩ = some sv ∧ w'.frozen? ⟨w2.heap.size, 0, none⟩ = false ∧ St w2 (w'.setCell ⟨w2.heap.size, 0, none⟩ (.slice (some ⟨gg, 0, none⟩) (i + 1) cc)) (.slice (some ⟨gg, 0, none⟩) (i + 1) cc) (i + 1) rv j ev ch F f rn X T := by
  have hX := h.below hb
  obtain ⟨q0, q1, q2, q3, q4, q5⟩ := h.far hb hgr (fun q hq => (rowGt h.co.s q hq).1)
  have hco := hX.co.pushS hown hgr hgg
  have hen : OwnI w' (w2.heap.size + 1) ev ch (fun c => ((F c : Nat) : Int)) := rowKept hX.en (fun g hg => hgr.block g (rowGt hX.en g hg).2 (fun e => hX.neE.1 g e.symm hg.symm))
  exact ⟨q0, q2, set_same ⟨_, q0⟩, by rw [set_far (by omega)]; exact q1, by rw [World.frozen?_setCell]; exact q2, by rw [World.frozen?_setCell]; exact q3, hco.setB (Nat.lt_succ_self _), rowKept hen (fun g hg => Below.heap_setCell _ _ _ _ (by show g ≠ w2.heap.size; have := rowGt hen g hg; omega)), h.ap, q4.setCell (Nat.le_refl _) _, by simpa [World.setCell] using q5⟩
theorem St.pushR {t : Lr} {gg cc : Nat} (h : St w2 wr sv i rv j ev ch F f rn X T) (hb : Below wr.heap.size wr X0) (ht : QR X0 (rn j) (X j) t) (hlo : wr.heap.size ≤ t.lo) (hown : w'.ownsRow (w2.heap.size + 1) 52 1 (.slice (some ⟨gg, 0, none⟩) (j + 1) cc) (j + 1) (encR rn T j ++ [.slice t.a (rn j) t.c])) (hgr : X0.grownBy w' rv.ownBlock) (hgg : rv.ownBlock = some gg ∨ X0.heap.size ≤ gg) :
    w'.cell? ⟨w2.heap.size, 1, none⟩ = some rv ∧ w'.frozen? ⟨w2.heap.size, 1, none⟩ = false ∧ St w2 (w'.setCell ⟨w2.heap.size, 1, none⟩ (.slice (some ⟨gg, 0, none⟩) (j + 1) cc)) sv i (.slice (some ⟨gg, 0, none⟩) (j + 1) cc) (j + 1) ev ch F f rn X (extR T j t) := by
  have hX := h.below hb
  obtain ⟨q0, q1, q2, q3, q4, q5⟩ := h.far hb hgr (fun q hq => (rowGt h.co.r.own q hq).1)
  have hco := h.co.pushR hb (by have := h.sz; omega) ht hlo hown hgr hgg
  have hen : OwnI w' (w2.heap.size + 1) ev ch (fun c => ((F c : Nat) : Int)) := rowKept hX.en (fun g hg => hgr.block g (rowGt hX.en g hg).2 (fun e => hX.neE.2 g e.symm hg.symm))
  refine ⟨q1, q3, by rw [set_far (by omega)]; exact q0, set_same ⟨_, q1⟩, by rw [World.frozen?_setCell]; exact q2, by rw [World.frozen?_setCell]; exact q3, hco.setB (Nat.lt_succ_self _), rowKept hen (fun g hg => Below.heap_setCell _ _ _ _ (by show g ≠ w2.heap.size; have := rowGt hen g hg; omega)), fun g hg p hp => ?_, q4.setCell (Nat.le_refl _) _, by simpa [World.setCell] using q5⟩
  unfold extR
  by_cases e : p = j
  · rw [if_pos e]; exact Or.inl (by have := rowGt h.en g hg; omega)
  · rw [if_neg e]; exact h.ap g hg p (by omega)
theorem St.shapes (h : St w2 wr sv i rv j ev ch F f rn X T) : (∃ a c, sv = .slice a i c ∧ SlP wr a i c (spC f) (spQ f)) ∧ (∃ a c, rv = .slice a j c ∧ SlL wr a j c rn X) ∧ ∃ a c, ev = .slice a ch c ∧ SlI wr a ch c (fun c => ((F c : Nat) : Int)) := ⟨h.co.s.sl, h.co.r.sl, h.en.sl⟩
end
end Go.Proofs.Ytlopjfhdhkonbaa
