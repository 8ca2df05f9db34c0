/-
  spec.MakeCover's state.
-/
import Derived.Test.YtlopjfhdhkonbaaMcQ
import Derived.Test.YtlopjfhdhkonbaaSptS
namespace Go.Proofs.Ytlopjfhdhkonbaa
open Go.RowKit

/-- spec.MakeCover's boxes: the room at w's size, the answer, the cover (the fourth behind it), and the cover's rows. -/
structure Sx (w wr : World) (a : Option Addr) (n cap : Nat) (sv : Value) (i : Nat) (rv : Value) (j : Nat) (f : Nat → Sp) (rn : Nat → Nat) (X : Nat → Nat → Int) (T : Nat → Lr) : Prop where
  x0 : wr.cell? ⟨w.heap.size, 0, none⟩ = some (.slice a n cap)
  a0 : wr.cell? ⟨w.heap.size + 1, 0, none⟩ = some (.slice none 0 0)
  a1 : wr.cell? ⟨w.heap.size + 1, 1, none⟩ = some (.slice none 0 0)
  y0 : wr.frozen? ⟨w.heap.size + 1, 0, none⟩ = false
  y1 : wr.frozen? ⟨w.heap.size + 1, 1, none⟩ = false
  b0 : wr.cell? ⟨w.heap.size + 4, 0, none⟩ = some sv
  b1 : wr.cell? ⟨w.heap.size + 4, 1, none⟩ = some rv
  z0 : wr.frozen? ⟨w.heap.size + 4, 0, none⟩ = false
  z1 : wr.frozen? ⟨w.heap.size + 4, 1, none⟩ = false
  co : CovO wr (w.heap.size + 2) sv i rv j f rn X T
  ns : ∀ g, sv.ownBlock = some g → g ≠ w.heap.size + 4
  nr : ∀ g, rv.ownBlock = some g → g ≠ w.heap.size + 4
  nt : ∀ p, p < j → w.heap.size + 4 < (T p).lo
  bel : Below w.heap.size w wr
  sz : w.heap.size + 4 < wr.heap.size
section
variable {w wr X0 w' : World} {a : Option Addr} {n cap i j : Nat} {sv rv : Value} {f : Nat → Sp} {rn : Nat → Nat} {X : Nat → Nat → Int} {T : Nat → Lr}
theorem Sx.below (h : Sx w wr a n cap sv i rv j f rn X T) (hb : Below wr.heap.size wr w') : Sx w w' a n cap sv i rv j f rn X T := by
  have hs := h.sz
  have c : ∀ C o, C < wr.heap.size → w'.cell? ⟨C, o, none⟩ = wr.cell? ⟨C, o, none⟩ := fun C o hC => hb.cell (by exact hC)
  have z : ∀ C o, C < wr.heap.size → w'.frozen? ⟨C, o, none⟩ = wr.frozen? ⟨C, o, none⟩ := fun C o hC => hb.frozen (by exact hC)
  exact ⟨(c _ _ (by omega)).trans h.x0, (c _ _ (by omega)).trans h.a0, (c _ _ (by omega)).trans h.a1, (z _ _ (by omega)).trans h.y0, (z _ _ (by omega)).trans h.y1, (c _ _ hs).trans h.b0, (c _ _ hs).trans h.b1, (z _ _ hs).trans h.z0, (z _ _ hs).trans h.z1, h.co.below hb, h.ns, h.nr, h.nt, h.bel.trans (hb.mono h.bel.size), Nat.lt_of_lt_of_le hs hb.size⟩
/-- what a row that has grown leaves alone. -/
theorem Sx.far (h : Sx w wr a n cap sv i rv j f rn X T) (hb : Below wr.heap.size wr X0) {row : Option Nat} (hgr : X0.grownBy w' row) (hrow : ∀ q, row = some q → w.heap.size + 2 ≤ q ∧ q ≠ w.heap.size + 4) :
    (∀ C o, (C = w.heap.size ∨ C = w.heap.size + 1 ∨ C = w.heap.size + 4) → w'.cell? ⟨C, o, none⟩ = wr.cell? ⟨C, o, none⟩ ∧ w'.frozen? ⟨C, o, none⟩ = wr.frozen? ⟨C, o, none⟩) ∧ Below w.heap.size w w' ∧ w.heap.size + 4 < w'.heap.size := by
  have hX := h.below hb
  have hs := h.sz
  have hsX := hX.sz
  refine ⟨fun C o hC => ?_, hX.bel.grown hgr (by have := hX.bel.size; omega) (fun q hq => by have := hrow q hq; omega), Nat.lt_of_lt_of_le hX.sz hgr.size⟩
  have hne : some C ≠ row := fun e => by have := hrow _ e.symm; omega
  exact ⟨(hgr.cell_far _ (by show C < X0.heap.size; omega) hne).trans (hb.cell (by show C < wr.heap.size; omega)), (hgr.frozen_far _ (by show C < X0.heap.size; omega) hne).trans (hb.frozen (by show C < wr.heap.size; omega))⟩
theorem CovO.setC {wx : World} {base C o : Nat} {x : Value} (h : CovO wx base sv i rv j f rn X T) (h1 : ∀ g, sv.ownBlock = some g → g ≠ C) (h2 : ∀ g, rv.ownBlock = some g → g ≠ C) (h3 : ∀ p, p < j → C < (T p).lo) : CovO (wx.setCell ⟨C, o, none⟩ x) base sv i rv j f rn X T :=
  ⟨rowKept h.s (fun g hg => Below.heap_setCell _ _ _ _ (by exact h1 g hg)), h.r.setB h2 (fun p hp => Or.inl (h3 p hp)), h.ap⟩
theorem Sx.pushS {gg cc : Nat} (h : Sx w wr a n cap sv i rv j f rn X T) (hb : Below wr.heap.size wr X0) (hown : w'.ownsRow (w.heap.size + 2) 44 2 (.slice (some ⟨gg, 0, none⟩) (i + 1) cc) (i + 1) (encS f i ++ spV (f i))) (hgr : X0.grownBy w' sv.ownBlock) (hgg : sv.ownBlock = some gg ∨ X0.heap.size ≤ gg) :
    w'.cell? ⟨w.heap.size + 4, 0, none⟩ = some sv ∧ w'.frozen? ⟨w.heap.size + 4, 0, none⟩ = false ∧ Sx w (w'.setCell ⟨w.heap.size + 4, 0, none⟩ (.slice (some ⟨gg, 0, none⟩) (i + 1) cc)) a n cap (.slice (some ⟨gg, 0, none⟩) (i + 1) cc) (i + 1) rv j f rn X T := by
  have hX := h.below hb
  obtain ⟨far, q4, q5⟩ := h.far hb hgr (fun q hq => ⟨(rowGt h.co.s q hq).1, h.ns q hq⟩)
  have e0 := (far (w.heap.size + 4) 0 (by omega)).1.trans h.b0
  have e0z := (far (w.heap.size + 4) 0 (by omega)).2.trans h.z0
  have hns : ∀ g, (Value.slice (some ⟨gg, 0, none⟩) (i + 1) cc).ownBlock = some g → g ≠ w.heap.size + 4 := fun g hg => by
    have := ownInj hg
    subst this
    rcases hgg with q | q
    · exact h.ns _ q
    · have := hX.sz; omega
  exact ⟨e0, e0z, by rw [far_block (by omega)]; exact (far w.heap.size 0 (by omega)).1.trans h.x0, by rw [far_block (by omega)]; exact (far (w.heap.size + 1) 0 (by omega)).1.trans h.a0, by rw [far_block (by omega)]; exact (far (w.heap.size + 1) 1 (by omega)).1.trans h.a1, by rw [World.frozen?_setCell]; exact (far (w.heap.size + 1) 0 (by omega)).2.trans h.y0, by rw [World.frozen?_setCell]; exact (far (w.heap.size + 1) 1 (by omega)).2.trans h.y1, set_same ⟨_, e0⟩, by rw [set_far (by omega)]; exact (far (w.heap.size + 4) 1 (by omega)).1.trans h.b1, by rw [World.frozen?_setCell]; exact e0z, by rw [World.frozen?_setCell]; exact (far (w.heap.size + 4) 1 (by omega)).2.trans h.z1, (hX.co.pushS hown hgr hgg).setC hns h.nr h.nt, hns, h.nr, h.nt, q4.setCell (by show w.heap.size ≤ w.heap.size + 4; omega) _, by simpa [World.setCell] using q5⟩
theorem Sx.pushR {t : Lr} {gg cc : Nat} (h : Sx w wr a n cap sv i rv j f rn X T) (hb : Below wr.heap.size wr X0) (ht : QR X0 (rn j) (X j) t) (hlo : wr.heap.size ≤ t.lo) (hown : w'.ownsRow (w.heap.size + 2) 52 1 (.slice (some ⟨gg, 0, none⟩) (j + 1) cc) (j + 1) (encR rn T j ++ [.slice t.a (rn j) t.c])) (hgr : X0.grownBy w' rv.ownBlock) (hgg : rv.ownBlock = some gg ∨ X0.heap.size ≤ gg) :
    w'.cell? ⟨w.heap.size + 4, 1, none⟩ = some rv ∧ w'.frozen? ⟨w.heap.size + 4, 1, none⟩ = false ∧ Sx w (w'.setCell ⟨w.heap.size + 4, 1, none⟩ (.slice (some ⟨gg, 0, none⟩) (j + 1) cc)) a n cap sv i (.slice (some ⟨gg, 0, none⟩) (j + 1) cc) (j + 1) f rn X (extR T j t) := by
  have hX := h.below hb
  have hs := h.sz
  obtain ⟨far, q4, q5⟩ := h.far hb hgr (fun q hq => ⟨(rowGt h.co.r.own q hq).1, h.nr q hq⟩)
  have e0 := (far (w.heap.size + 4) 1 (by omega)).1.trans h.b1
  have e0z := (far (w.heap.size + 4) 1 (by omega)).2.trans h.z1
  have hnr : ∀ g, (Value.slice (some ⟨gg, 0, none⟩) (j + 1) cc).ownBlock = some g → g ≠ w.heap.size + 4 := fun g hg => by
    have := ownInj hg
    subst this
    rcases hgg with q | q
    · exact h.nr _ q
    · have := hX.sz; omega
  have hnt : ∀ p, p < j + 1 → w.heap.size + 4 < (extR T j t p).lo := fun p hp => by
    unfold extR
    by_cases e : p = j
    · rw [if_pos e]; omega
    · rw [if_neg e]; exact h.nt p (by omega)
  exact ⟨e0, e0z, by rw [far_block (by omega)]; exact (far w.heap.size 0 (by omega)).1.trans h.x0, by rw [far_block (by omega)]; exact (far (w.heap.size + 1) 0 (by omega)).1.trans h.a0, by rw [far_block (by omega)]; exact (far (w.heap.size + 1) 1 (by omega)).1.trans h.a1, by rw [World.frozen?_setCell]; exact (far (w.heap.size + 1) 0 (by omega)).2.trans h.y0, by rw [World.frozen?_setCell]; exact (far (w.heap.size + 1) 1 (by omega)).2.trans h.y1, by rw [set_far (by omega)]; exact (far (w.heap.size + 4) 0 (by omega)).1.trans h.b0, set_same ⟨_, e0⟩, by rw [World.frozen?_setCell]; exact (far (w.heap.size + 4) 0 (by omega)).2.trans h.z0, by rw [World.frozen?_setCell]; exact e0z, (h.co.pushR hb (by omega) ht hlo hown hgr hgg).setC h.ns hnr hnt, h.ns, hnr, hnt, q4.setCell (by show w.heap.size ≤ w.heap.size + 4; omega) _, by simpa [World.setCell] using q5⟩
end
end Go.Proofs.Ytlopjfhdhkonbaa
