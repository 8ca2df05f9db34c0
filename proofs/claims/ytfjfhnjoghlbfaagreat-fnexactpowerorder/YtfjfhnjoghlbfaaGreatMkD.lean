/-
  Worlds in which marks have been written.
-/
import Derived.Test.YtfjfhnjoghlbfaaGreatBase
import Derived.OwnWalk
namespace Go.Proofs.YtfjfhnjoghlbfaaGreat
open Go.RowKit

/-- from w to w' no block outside of lo .. hi has turned. -/
structure Mkd (lo hi : Nat) (w w' : World) : Prop where
  os : w'.os = w.os
  tape : w'.tape = w.tape
  output : w'.output = w.output
  size : w.heap.size ≤ w'.heap.size
  block : ∀ k, k < w.heap.size → (k < lo ∨ hi ≤ k) → w'.heap[k]? = w.heap[k]?
  frz : ∀ a, a.block < w.heap.size → w'.frozen? a = w.frozen? a
  there : ∀ a, a.block < w.heap.size → (∃ v, w.cell? a = some v) → ∃ v, w'.cell? a = some v
theorem Mkd.refl (lo hi : Nat) (w : World) : Mkd lo hi w w := ⟨rfl, rfl, rfl, Nat.le_refl _, fun _ _ _ => rfl, fun _ _ => rfl, fun _ _ h => h⟩
theorem Mkd.trans {lo hi : Nat} {w w1 w2 : World} (h : Mkd lo hi w w1) (h' : Mkd lo hi w1 w2) : Mkd lo hi w w2 :=
  ⟨h'.os.trans h.os, h'.tape.trans h.tape, h'.output.trans h.output, Nat.le_trans h.size h'.size, fun k hk ho => (h'.block k (Nat.lt_of_lt_of_le hk h.size) ho).trans (h.block k hk ho),
    fun a ha => (h'.frz a (Nat.lt_of_lt_of_le ha h.size)).trans (h.frz a ha), fun a ha hv => h'.there a (Nat.lt_of_lt_of_le ha h.size) (h.there a ha hv)⟩
theorem Mkd.below {lo hi : Nat} {w w' : World} (h : Mkd lo hi w w') (hl : lo ≤ w.heap.size) : Below lo w w' :=
  ⟨h.os, h.tape, h.output, h.size, fun k hk => h.block k (Nat.lt_of_lt_of_le hk hl) (Or.inl hk)⟩
theorem Mkd.set {lo hi : Nat} {w w1 : World} (h : Mkd lo hi w w1) {b j : Nat} {x : Value} (hl : lo ≤ b) (hh : b < hi) (hv : ∃ v, w1.cell? ⟨b, j, none⟩ = some v) : Mkd lo hi w (w1.setCell ⟨b, j, none⟩ x) := by
  refine ⟨by rw [← h.os]; rfl, by rw [← h.tape]; rfl, by rw [← h.output]; rfl, by simpa [World.setCell] using h.size, fun k hk ho => ?_, fun a ha => by rw [World.frozen?_setCell]; exact h.frz a ha, fun a ha hva => ?_⟩
  · rw [← h.block k hk ho]
    exact Below.heap_setCell _ _ _ _ (by show k ≠ b; omega)
  · by_cases e : a = ⟨b, j, none⟩
    · subst e; exact ⟨x, set_same hv⟩
    · rw [World.cell?_setCell_other _ _ _ _ (fun e' => e e'.symm)]; exact h.there a ha hva

/-- n cells at a, in a block from lo to hi, may be written. -/
def Wr (w : World) (lo hi : Nat) (a : Option Addr) (n : Nat) : Prop :=
  n = 0 ∨ ∃ b off, a = some ⟨b, off, none⟩ ∧ lo ≤ b ∧ b < hi ∧ b < w.heap.size ∧ ∀ i, i < n → (∃ v, w.cell? ⟨b, off + i, none⟩ = some v) ∧ w.frozen? ⟨b, off + i, none⟩ = false
theorem Wr.mkd {w w' : World} {lo hi lo' hi' : Nat} {a : Option Addr} {n : Nat} (h : Wr w lo hi a n) (hm : Mkd lo' hi' w w') : Wr w' lo hi a n :=
  h.imp id fun ⟨b, off, e, h1, h2, h3, hc⟩ => ⟨b, off, e, h1, h2, Nat.lt_of_lt_of_le h3 hm.size, fun i hi => ⟨hm.there _ h3 (hc i hi).1, (hm.frz _ h3).trans (hc i hi).2⟩⟩
theorem Wr.below {w w' : World} {lo hi : Nat} {a : Option Addr} {n : Nat} (h : Wr w lo hi a n) (hb : Below w.heap.size w w') : Wr w' lo hi a n :=
  h.imp id fun ⟨b, off, e, h1, h2, h3, hc⟩ => ⟨b, off, e, h1, h2, Nat.lt_of_lt_of_le h3 hb.size, fun i hi => ⟨(hc i hi).1.imp fun _ hv => (hb.cell (by exact h3)).trans hv, (hb.frozen (by exact h3)).trans (hc i hi).2⟩⟩
theorem Wr.wide {w : World} {lo hi lo' hi' : Nat} {a : Option Addr} {n : Nat} (h : Wr w lo hi a n) (h1 : lo' ≤ lo) (h2 : hi ≤ hi') : Wr w lo' hi' a n :=
  h.imp id fun ⟨b, off, e, q1, q2, q3, hc⟩ => ⟨b, off, e, by omega, by omega, q3, hc⟩

theorem Mkd.wide {lo hi lo' hi' : Nat} {w w' : World} (h : Mkd lo hi w w') (h1 : lo' ≤ lo) (h2 : hi ≤ hi') : Mkd lo' hi' w w' :=
  ⟨h.os, h.tape, h.output, h.size, fun k hk ho => h.block k hk (by omega), h.frz, h.there⟩
theorem Mkd.alloc {lo hi : Nat} {w w1 : World} (h : Mkd lo hi w w1) (o : Obj) : Mkd lo hi w (w1.alloc o) :=
  have hb : Below w1.heap.size w1 (w1.alloc o) := (Below.refl _ _).alloc (Nat.le_refl _) _
  ⟨h.os, h.tape, h.output, Nat.le_trans h.size hb.size, fun k hk ho => (hb.block k (Nat.lt_of_lt_of_le hk h.size)).trans (h.block k hk ho),
    fun a ha => (hb.frozen (Nat.lt_of_lt_of_le ha h.size)).trans (h.frz a ha), fun a ha hv => (h.there a ha hv).imp fun _ hv' => (hb.cell (Nat.lt_of_lt_of_le ha h.size)).trans hv'⟩

theorem Mkd.blw {lo hi : Nat} {w w1 w2 : World} (h : Mkd lo hi w w1) (hb : Below w1.heap.size w1 w2) : Mkd lo hi w w2 :=
  ⟨hb.os.trans h.os, hb.tape.trans h.tape, hb.output.trans h.output, Nat.le_trans h.size hb.size, fun k hk ho => (hb.block k (Nat.lt_of_lt_of_le hk h.size)).trans (h.block k hk ho),
    fun a ha => (hb.frozen (Nat.lt_of_lt_of_le ha h.size)).trans (h.frz a ha), fun a ha hv => (h.there a ha hv).imp fun _ hv' => (hb.cell (Nat.lt_of_lt_of_le ha h.size)).trans hv'⟩
theorem Mkd.cell {lo hi : Nat} {w w' : World} (h : Mkd lo hi w w') {b o : Nat} (hb : b < w.heap.size) (ho : b < lo ∨ hi ≤ b) : w'.cell? ⟨b, o, none⟩ = w.cell? ⟨b, o, none⟩ := World.cell?_of_block (a := ⟨b, o, none⟩) (h.block b hb ho)
/-- n cells at a, in a block from lo on, may be written. -/
def Wr0 (w : World) (lo : Nat) (a : Option Addr) (n : Nat) : Prop :=
  n = 0 ∨ ∃ b off, a = some ⟨b, off, none⟩ ∧ lo ≤ b ∧ b < w.heap.size ∧ ∀ i, i < n → (∃ v, w.cell? ⟨b, off + i, none⟩ = some v) ∧ w.frozen? ⟨b, off + i, none⟩ = false
theorem Wr0.low {w : World} {lo lo' n : Nat} {a : Option Addr} (h : Wr0 w lo a n) (hl : lo' ≤ lo) : Wr0 w lo' a n :=
  h.imp id fun ⟨b, off, e, q1, q3, hc⟩ => ⟨b, off, e, by omega, q3, hc⟩
theorem Wr0.below {w w' : World} {lo n : Nat} {a : Option Addr} (h : Wr0 w lo a n) (hb : Below w.heap.size w w') : Wr0 w' lo a n :=
  h.imp id fun ⟨b, off, e, h1, h3, hc⟩ => ⟨b, off, e, h1, Nat.lt_of_lt_of_le h3 hb.size, fun i hi => ⟨(hc i hi).1.imp fun _ hv => (hb.cell (by exact h3)).trans hv, (hb.frozen (by exact h3)).trans (hc i hi).2⟩⟩
theorem Wr0.set {w : World} {lo n C j : Nat} {a : Option Addr} (h : Wr0 w lo a n) (x : Value) : Wr0 (w.setCell ⟨C, j, none⟩ x) lo a n :=
  h.imp id fun ⟨b, off, e, h1, h3, hc⟩ => ⟨b, off, e, h1, by simpa [World.setCell] using h3, fun i hi => ⟨by
    by_cases e2 : (⟨b, off + i, none⟩ : Addr) = ⟨C, j, none⟩
    · rw [e2]; exact ⟨x, set_same (by rw [← e2]; exact (hc i hi).1)⟩
    · rw [World.cell?_setCell_other _ _ _ _ (fun e' => e2 e'.symm)]; exact (hc i hi).1, by rw [World.frozen?_setCell]; exact (hc i hi).2⟩⟩
theorem Wr0.wr {w : World} {lo n : Nat} {a : Option Addr} (h : Wr0 w lo a n) : Wr w lo w.heap.size a n :=
  h.imp id fun ⟨b, off, e, h1, h3, hc⟩ => ⟨b, off, e, h1, h3, h3, hc⟩
end Go.Proofs.YtfjfhnjoghlbfaaGreat
