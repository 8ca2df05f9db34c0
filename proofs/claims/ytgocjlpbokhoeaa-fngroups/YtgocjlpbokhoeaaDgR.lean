import Derived.Test.YtgocjlpbokhoeaaAnEM
import Derived.Test.YtgocjlpbokhoeaaStS
import Derived.Maps.RangeWalk
import Derived.Deep.AppendLies
import Derived.Lib.BufferWrite
namespace Go.Proofs.Ytgocjlpbokhoeaa
open Go.RowKit
theorem blwG {w w' : World} (h : Below w.heap.size w w') (row : Option Nat) : w.grownBy w' row := ⟨h.os, h.tape, h.output, h.size, fun i hi _ => h.block i hi⟩
def nxB (bs : Nat → Nat) (m q : Nat) : Nat := if q < m then bs q else 0
def nxQ (m q : Nat) : Nat := if q < m then q + 1 else q
def BytesF (w : World) (p : Nat) (a : Option Addr) (m : Nat) (bs : Nat → Nat) : Prop :=
  m = 0 ∨ ∃ b off, a = some ⟨b, off, none⟩ ∧ b < p ∧ ∀ i, i < m → w.cell? ⟨b, off + i, none⟩ = some (.int .u8 (bs i : Int))
structure RdF (w : World) (p : Nat) (bs : Nat → Nat) (m q : Nat) : Prop where
  lt : p < w.heap.size
  m1 : m ≤ 1000
  q1 : q ≤ 2000
  b1 : ∀ i, i < m → bs i < 256
  cells : ∃ a cap, w.cell? ⟨p, 0, none⟩ = some (.slice a m cap) ∧ w.cell? ⟨p, 1, none⟩ = some (.int .i64 ((q : Nat) : Int)) ∧ BytesF w p a m bs
  frz : w.frozen? ⟨p, 1, none⟩ = false
theorem RdF.nx {w : World} {p : Nat} {bs : Nat → Nat} {m q : Nat} (h : RdF w p bs m q) : nxB bs m q < 256 := by
  unfold nxB
  split
  · rename_i hq; exact h.b1 q hq
  · decide
theorem RdF.below {w w' : World} {p : Nat} {bs : Nat → Nat} {m q : Nat} (h : RdF w p bs m q) (hb : Below w.heap.size w w') : RdF w' p bs m q := by
  obtain ⟨hlt, h1, h2, h3, ⟨a, cap, c0, c1, hB⟩, hf⟩ := h
  refine ⟨Nat.lt_of_lt_of_le hlt hb.size, h1, h2, h3, ⟨a, cap, (hb.cell (by exact hlt)).trans c0, (hb.cell (by exact hlt)).trans c1, ?_⟩, (hb.frozen (by exact hlt)).trans hf⟩
  exact hB.imp id fun ⟨b, off, e, hne, hx⟩ => ⟨b, off, e, hne, fun i hi => (hb.cell (by exact Nat.lt_trans hne hlt)).trans (hx i hi)⟩
theorem RdF.grown {w w' : World} {p : Nat} {bs : Nat → Nat} {m q : Nat} {row : Option Nat} (h : RdF w p bs m q) (hg : w.grownBy w' row) (hr : ∀ b, row = some b → p < b) : RdF w' p bs m q := by
  obtain ⟨hlt, h1, h2, h3, ⟨a, cap, c0, c1, hB⟩, hf⟩ := h
  have hk : ∀ b, b ≤ p → w'.heap[b]? = w.heap[b]? := fun b hb => hg.block b (by omega) (fun e => by have := hr b e.symm; omega)
  have hc : ∀ b o, b ≤ p → w'.cell? ⟨b, o, none⟩ = w.cell? ⟨b, o, none⟩ := fun b o hb => World.cell?_of_block (a := ⟨b, o, none⟩) (hk b hb)
  have hz : w'.frozen? ⟨p, 1, none⟩ = w.frozen? ⟨p, 1, none⟩ := hg.frozen_far ⟨p, 1, none⟩ hlt (fun e => by have := hr p e.symm; omega)
  refine ⟨Nat.lt_of_lt_of_le hlt hg.size, h1, h2, h3, ⟨a, cap, (hc p 0 (Nat.le_refl _)).trans c0, (hc p 1 (Nat.le_refl _)).trans c1, ?_⟩, hz.trans hf⟩
  exact hB.imp id fun ⟨b, off, e, hne, hx⟩ => ⟨b, off, e, hne, fun i hi => (hc b _ (by omega)).trans (hx i hi)⟩
def DwF (p : Nat) (w w' : World) (bs : Nat → Nat) (m q : Nat) : Prop := RdF w' p bs m q ∧ w.grownBy w' (some p)
section
variable {p : Nat} {w w1 w2 : World} {bs : Nat → Nat} {m q q' : Nat}
theorem DwF.below (h : DwF p w w1 bs m q) (hb : Below w1.heap.size w1 w2) : DwF p w w2 bs m q := ⟨h.1.below hb, h.2.andThen (blwG hb none) (fun j hj => by cases hj)⟩
theorem DwF.trans (h : DwF p w w1 bs m q) (h' : DwF p w1 w2 bs m q') : DwF p w w2 bs m q' := ⟨h'.1, h.2.andThen h'.2 (fun _ hj => Or.inr hj)⟩
theorem DwF.refl (h : RdF w p bs m q) : DwF p w w bs m q := ⟨h, World.grownBy.refl _ _⟩
theorem DwF.size (h : DwF p w w1 bs m q) : w.heap.size ≤ w1.heap.size := h.2.size
theorem DwF.grow {row : Option Nat} (h : DwF p w w1 bs m q) (hg : w1.grownBy w2 row) (hr : ∀ b, row = some b → w.heap.size ≤ b) (hp : p < w.heap.size) : DwF p w w2 bs m q :=
  ⟨h.1.grown hg (fun b hb => Nat.lt_of_lt_of_le hp (hr b hb)), h.2.andThen hg (fun j hj => Or.inl (hr j hj))⟩
theorem DwF.own (h : DwF p w w1 bs m q) {b : Nat} (hb : w.heap.size ≤ b) (hp : p < w.heap.size) (j : Nat) (x : Value) : DwF p w (w1.setCell ⟨b, j, none⟩ x) bs m q :=
  h.grow (Lib.grownBy_setCell w1 b j x) (fun q hq => by injection hq with hq; omega) hp
theorem DwF.of_below (hw : RdF w p bs m q) (hb : Below w.heap.size w w1) (h : DwF p w1 w2 bs m q') : DwF p w w2 bs m q' := (DwF.refl hw).below hb |>.trans h
end
def NxF (p : Nat) (w : World) (bs : Nat → Nat) (m q : Nat) (e : Ending) (w' : World) : Prop := e = .returned (.int .i64 ((nxB bs m q : Nat) : Int)) ∧ DwF p w w' bs m (nxQ m q)
set_option maxRecDepth 100000 in
set_option maxHeartbeats 1000000 in
theorem nextF (p : Nat) {bs : Nat → Nat} {m q : Nat} (w : World) (h : RdF w p bs m q) : Calls Try.prog 13 #[.pointer (some ⟨p, 0, none⟩)] w (NxF p w bs m q) := by
  have HR : Hid (RdF w p bs m q) := h
  obtain ⟨hlt, hm1, hq1, hb1, ⟨a, cap, c0, c1, hB⟩, hf⟩ := h
  by_cases hqm : q < m
  · rcases hB with h0 | ⟨b, off, rfl, hne, hx⟩
    · omega
    have hcx := hx q hqm
    have hx2 := hb1 q hqm
    have Hfin : Hid (∀ W, Below w.heap.size w W → DwF p w (W.setCell ⟨p, 1, none⟩ (.int .i64 ((q : Int) + 1))) bs m (q + 1)) := fun W hW => by
      refine ⟨⟨by have := Nat.lt_of_lt_of_le hlt hW.size; simpa [World.setCell] using this, hm1, by omega, hb1, ⟨some ⟨b, off, none⟩, cap, by rw [set_far (by omega)]; exact (hW.cell (by exact hlt)).trans c0, set_same ⟨_, (hW.cell (by exact hlt)).trans c1⟩, Or.inr ⟨b, off, rfl, hne, fun i hi => ?_⟩⟩, by rw [World.frozen?_setCell]; exact (hW.frozen (by exact hlt)).trans hf⟩, (blwG hW (some p)).andThen (Lib.grownBy_setCell W p 1 _) (fun j hj => Or.inr hj)⟩
      rw [far_block (by omega)]
      exact (hW.cell (by exact Nat.lt_trans hne hlt)).trans (hx i hi)
    have HX : Hid (nxB bs m q = bs q ∧ nxQ m q = q + 1) := ⟨if_pos hqm, if_pos hqm⟩
    clear hx hb1
    unfold NxF
    rw [HX.out.1, HX.out.2]
    generalize bs q = x at *
    go_enter Try.func13, Try.ntmps13
    go_wp2
    go_region
    go_wp2
    go_region
    go_wp2
    go_ret
    exact ⟨rfl, (Hfin.out w (Below.refl _ _)).below (by first | exact (Below.refl _ _).drew | exact (Below.refl _ _).drew.drew)⟩
  · have HX : Hid (nxB bs m q = 0 ∧ nxQ m q = q) := ⟨if_neg hqm, if_neg hqm⟩
    unfold NxF
    rw [HX.out.1, HX.out.2]
    go_enter Try.func13, Try.ntmps13
    go_wp2
    go_region
    go_wp2
    go_ret
    exact ⟨rfl, (DwF.refl HR.out).below (Below.refl _ _).drew⟩
def BytesV (w : World) (a : Option Addr) (n : Nat) (bs : Nat → Nat) : Prop :=
  n = 0 ∨ ∃ b off, a = some ⟨b, off, none⟩ ∧ b < w.heap.size ∧ ∀ i, i < n → w.cell? ⟨b, off + i, none⟩ = some (.int .u8 (bs i : Int))
def rdN (n : Nat) : Nat := if 1000 < n then 1000 else n
def OpF (w : World) (bs : Nat → Nat) (n : Nat) (e : Ending) (w' : World) : Prop := ∃ p, e = .returned (.pointer (some ⟨p, 0, none⟩)) ∧ RdF w' p bs (rdN n) 0 ∧ w.heap.size ≤ p ∧ Below w.heap.size w w'
theorem bytesF_new {w : World} {a : Option Addr} {n m cap : Nat} {bs : Nat → Nat} {t : TypeId} (h : BytesV w a n bs) (hb : ∀ i, i < n → bs i < 256) (hm : m ≤ 1000) (hn : m ≤ n) : RdF (w.alloc (.cells #[.slice a m cap, .int .i64 0] t)) w.heap.size bs m 0 := by
  refine ⟨by simp, hm, Nat.zero_le _, fun i hi => hb i (by omega), ⟨a, cap, World.cell?_alloc_at _ _ _ _ rfl, World.cell?_alloc_at _ _ _ _ rfl, ?_⟩, World.frozen?_alloc_at _ _ _ _ rfl⟩
  have hb : Below w.heap.size w (w.alloc (.cells #[.slice a m cap, .int .i64 0] t)) := (Below.refl _ _).alloc (Nat.le_refl _) _
  rcases h with h0 | ⟨b, off, e, hbl, hx⟩
  · exact Or.inl (by omega)
  · exact Or.inr ⟨b, off, e, hbl, fun i hi => (hb.cell (by exact hbl)).trans (hx i (by omega))⟩
set_option maxRecDepth 100000 in
set_option maxHeartbeats 1000000 in
theorem openF {a : Option Addr} {n cap : Nat} {bs : Nat → Nat} (w : World) (hle : n ≤ cap) (hmax : cap ≤ maxLen) (h : BytesV w a n bs) (hb1 : ∀ i, i < n → bs i < 256) : Calls Try.prog 12 #[.slice a n cap] w (OpF w bs n) := by
  have hb : ∀ o, Below w.heap.size w (w.alloc o) := fun o => (Below.refl _ _).alloc (Nat.le_refl _) _
  unfold maxLen at hmax
  by_cases hn : 1000 < n
  · have Hn : Hid (RdF (w.alloc (.cells #[.slice a 1000 cap, .int .i64 0] 71)) w.heap.size bs (rdN n) 0) := by unfold Hid rdN; rw [if_pos hn]; exact bytesF_new h hb1 (Nat.le_refl _) (by omega)
    clear h hb1
    go_enter Try.func12, Try.ntmps12
    go_wp2
    go_ret
    exact ⟨_, rfl, Hn.out, Nat.le_refl _, hb _⟩
  · have Hn : Hid (RdF (w.alloc (.cells #[.slice a n cap, .int .i64 0] 71)) w.heap.size bs (rdN n) 0) := by unfold Hid rdN; rw [if_neg hn]; exact bytesF_new h hb1 (by omega) (Nat.le_refl _)
    clear h hb1
    go_enter Try.func12, Try.ntmps12
    go_wp2
    go_ret
    exact ⟨_, rfl, Hn.out, Nat.le_refl _, hb _⟩
end Go.Proofs.Ytgocjlpbokhoeaa
