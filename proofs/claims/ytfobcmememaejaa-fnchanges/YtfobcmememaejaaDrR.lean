/-
  The reader of drawn bytes.
-/
import Derived.Test.YtfobcmememaejaaMkD
import Derived.Test.YtfobcmememaejaaStS
import Derived.Maps.RangeWalk
import Derived.Deep.AppendLies
import Derived.Lib.BufferWrite
namespace Go.Proofs.Ytfobcmememaejaa
open Go.RowKit

theorem blw_grown {w w' : World} (h : Below w.heap.size w w') : w.grownBy w' none := ⟨h.os, h.tape, h.output, h.size, fun i hi _ => h.block i hi⟩
/-- m bytes at a, in a block below p. -/
def BytesAt (w : World) (p : Nat) (a : Option Addr) (m : Nat) : Prop :=
  m = 0 ∨ ∃ b off, a = some ⟨b, off, none⟩ ∧ b < p ∧ ∀ i, i < m → ∃ x : Nat, x < 256 ∧ w.cell? ⟨b, off + i, none⟩ = some (.int .u8 (x : Int))
/-- block p is a reader. -/
structure Rdr (w : World) (p : Nat) : Prop where
  lt : p < w.heap.size
  cells : ∃ a m cap q, m ≤ 1000 ∧ w.cell? ⟨p, 0, none⟩ = some (.slice a m cap) ∧ w.cell? ⟨p, 1, none⟩ = some (.int .i64 ((q : Nat) : Int)) ∧ q ≤ m ∧ BytesAt w p a m
  frz : w.frozen? ⟨p, 1, none⟩ = false
theorem Rdr.below {w w' : World} {p : Nat} (h : Rdr w p) (hb : Below w.heap.size w w') : Rdr w' p := by
  obtain ⟨hlt, ⟨a, m, cap, q, hm, c0, c1, hq, hB⟩, hf⟩ := h
  refine ⟨Nat.lt_of_lt_of_le hlt hb.size, ⟨a, m, cap, q, hm, (hb.cell (by exact hlt)).trans c0, (hb.cell (by exact hlt)).trans c1, hq, ?_⟩, (hb.frozen (by exact hlt)).trans hf⟩
  exact hB.imp id fun ⟨b, off, e, hne, hx⟩ => ⟨b, off, e, hne, fun i hi => (hx i hi).imp fun x ⟨h1, h2⟩ => ⟨h1, (hb.cell (by exact Nat.lt_trans hne hlt)).trans h2⟩⟩
theorem Rdr.grown {w w' : World} {p : Nat} {row : Option Nat} (h : Rdr w p) (hg : w.grownBy w' row) (hr : ∀ b, row = some b → p < b) : Rdr w' p := by
  obtain ⟨hlt, ⟨a, m, cap, q, hm, c0, c1, hq, hB⟩, hf⟩ := h
  have hk : ∀ b, b ≤ p → w'.heap[b]? = w.heap[b]? := fun b hb => hg.block b (by omega) (fun e => by have := hr b e.symm; omega)
  have hc : ∀ b o, b ≤ p → w'.cell? ⟨b, o, none⟩ = w.cell? ⟨b, o, none⟩ := fun b o hb => World.cell?_of_block (a := ⟨b, o, none⟩) (hk b hb)
  have hz : w'.frozen? ⟨p, 1, none⟩ = w.frozen? ⟨p, 1, none⟩ := hg.frozen_far ⟨p, 1, none⟩ hlt (fun e => by have := hr p e.symm; omega)
  refine ⟨Nat.lt_of_lt_of_le hlt hg.size, ⟨a, m, cap, q, hm, (hc p 0 (Nat.le_refl _)).trans c0, (hc p 1 (Nat.le_refl _)).trans c1, hq, ?_⟩, hz.trans hf⟩
  exact hB.imp id fun ⟨b, off, e, hne, hx⟩ => ⟨b, off, e, hne, fun i hi => (hx i hi).imp fun x ⟨h1, h2⟩ => ⟨h1, (hc b _ (by omega)).trans h2⟩⟩
/-- a draw: the reader goes on, and all else stays. -/
def Drw (p : Nat) (w w' : World) : Prop := Rdr w' p ∧ w.grownBy w' (some p)
theorem Drw.below {p : Nat} {w w1 w2 : World} (h : Drw p w w1) (hb : Below w1.heap.size w1 w2) : Drw p w w2 := ⟨h.1.below hb, h.2.andThen (blw_grown hb) (fun j hj => by cases hj)⟩
theorem Drw.trans {p : Nat} {w w1 w2 : World} (h : Drw p w w1) (h' : Drw p w1 w2) : Drw p w w2 := ⟨h'.1, h.2.andThen h'.2 (fun _ hj => Or.inr hj)⟩
theorem Drw.refl {p : Nat} {w : World} (h : Rdr w p) : Drw p w w := ⟨h, World.grownBy.refl _ _⟩
theorem Drw.grow {p : Nat} {w0 w1 w2 : World} {row : Option Nat} (h : Drw p w0 w1) (hg : w1.grownBy w2 row) (hr : ∀ b, row = some b → w0.heap.size ≤ b) (hp : p < w0.heap.size) : Drw p w0 w2 :=
  ⟨h.1.grown hg (fun b hb => Nat.lt_of_lt_of_le hp (hr b hb)), h.2.andThen hg (fun j hj => Or.inl (hr j hj))⟩
theorem Drw.own {p : Nat} {w0 w : World} (h : Drw p w0 w) {b : Nat} (hb : w0.heap.size ≤ b) (hp : p < w0.heap.size) (j : Nat) (x : Value) : Drw p w0 (w.setCell ⟨b, j, none⟩ x) :=
  h.grow (Lib.grownBy_setCell w b j x) (fun q hq => by injection hq with hq; omega) hp
theorem Drw.size {p : Nat} {w w' : World} (h : Drw p w w') : w.heap.size ≤ w'.heap.size := h.2.size

/-- a byte is read. -/
def NxPost (p : Nat) (w : World) (e : Ending) (w' : World) : Prop := ∃ x : Nat, x < 256 ∧ e = .returned (.int .i64 (x : Int)) ∧ Drw p w w'

set_option maxRecDepth 100000 in
set_option maxHeartbeats 1000000 in
theorem next_any (p : Nat) (w : World) (h : Rdr w p) : Calls Try.prog 28 #[.pointer (some ⟨p, 0, none⟩)] w (NxPost p w) := by
  have HR : Hid (Rdr w p) := h
  obtain ⟨hlt, ⟨a, m, cap, q, hm, c0, c1, hq, hB⟩, hf⟩ := h
  by_cases hqm : q < m
  · rcases hB with h0 | ⟨b, off, rfl, hne, hx⟩
    · omega
    obtain ⟨x, hx2, hcx⟩ := hx q hqm
    have Hfin : Hid (∀ W, Below w.heap.size w W → Drw p w (W.setCell ⟨p, 1, none⟩ (.int .i64 ((q : Int) + 1)))) := fun W hW => by
      refine ⟨⟨by have := Nat.lt_of_lt_of_le hlt hW.size; simpa [World.setCell] using this, ⟨some ⟨b, off, none⟩, m, cap, q + 1, hm, by rw [set_far (by omega)]; exact (hW.cell (by exact hlt)).trans c0, set_same ⟨_, (hW.cell (by exact hlt)).trans c1⟩, hqm, Or.inr ⟨b, off, rfl, hne, fun i hi => ?_⟩⟩, by rw [World.frozen?_setCell]; exact (hW.frozen (by exact hlt)).trans hf⟩, (blw_grown hW).but (some p) |>.andThen (Lib.grownBy_setCell W p 1 _) (fun j hj => Or.inr hj)⟩
      obtain ⟨y, hy, hcy⟩ := hx i hi
      exact ⟨y, hy, by rw [far_block (by omega)]; exact (hW.cell (by exact Nat.lt_trans hne hlt)).trans hcy⟩
    clear hx
    go_enter Try.func28, Try.ntmps28
    go_wp2
    go_region
    go_wp2
    go_region
    go_wp2
    go_ret
    exact ⟨x, hx2, rfl, (Hfin.out w (Below.refl _ _)).below (by first | exact (Below.refl _ _).drew | exact (Below.refl _ _).drew.drew)⟩
  · go_enter Try.func28, Try.ntmps28
    go_wp2
    go_region
    go_wp2
    go_ret
    exact ⟨0, by omega, rfl, (Drw.refl HR.out).below (Below.refl _ _).drew⟩

/-- a slot is drawn. -/
def SlotPost (p : Nat) (w : World) (e : Ending) (w' : World) : Prop := ∃ en : Ent, (en.ty.size ≤ maxLen ∧ en.key.size ≤ maxLen ∧ en.id.size ≤ maxLen) ∧ e = .returned (entV en) ∧ Drw p w w'
/-- what l4Slot does. -/
def SlotC : Prop := ∀ (p : Nat) (w : World), Rdr w p → Calls Try.prog 32 #[.pointer (some ⟨p, 0, none⟩)] w (SlotPost p w)

/-- the bytes that are given. -/
def BytesIn (w : World) (a : Option Addr) (n : Nat) : Prop :=
  n = 0 ∨ ∃ b off, a = some ⟨b, off, none⟩ ∧ b < w.heap.size ∧ ∀ i, i < n → ∃ x : Nat, x < 256 ∧ w.cell? ⟨b, off + i, none⟩ = some (.int .u8 (x : Int))
/-- a reader in a new block. -/
def OpPost (w : World) (e : Ending) (w' : World) : Prop := ∃ p, e = .returned (.pointer (some ⟨p, 0, none⟩)) ∧ Rdr w' p ∧ w.heap.size ≤ p ∧ Below w.heap.size w w'

theorem bytes_new {w : World} {a : Option Addr} {n m cap : Nat} {t : TypeId} (h : BytesIn w a n) (hm : m ≤ 1000) (hn : m ≤ n) : Rdr (w.alloc (.cells #[.slice a m cap, .int .i64 0] t)) w.heap.size := by
  refine ⟨by simp, ⟨a, m, cap, 0, hm, World.cell?_alloc_at _ _ _ _ rfl, World.cell?_alloc_at _ _ _ _ rfl, Nat.zero_le _, ?_⟩, World.frozen?_alloc_at _ _ _ _ rfl⟩
  have hb : Below w.heap.size w (w.alloc (.cells #[.slice a m cap, .int .i64 0] t)) := (Below.refl _ _).alloc (Nat.le_refl _) _
  rcases h with h0 | ⟨b, off, e, hbl, hx⟩
  · exact Or.inl (by omega)
  · exact Or.inr ⟨b, off, e, hbl, fun i hi => (hx i (by omega)).imp fun x ⟨h1, h2⟩ => ⟨h1, (hb.cell (by exact hbl)).trans h2⟩⟩

set_option maxRecDepth 100000 in
set_option maxHeartbeats 1000000 in
theorem open_any {a : Option Addr} {n cap : Nat} (w : World) (hle : n ≤ cap) (hmax : cap ≤ maxLen) (h : BytesIn w a n) : Calls Try.prog 14 #[.slice a n cap] w (OpPost w) := by
  have hb : ∀ o, Below w.heap.size w (w.alloc o) := fun o => (Below.refl _ _).alloc (Nat.le_refl _) _
  unfold maxLen at hmax
  by_cases hn : 1000 < n
  · have Hn : Hid (Rdr (w.alloc (.cells #[.slice a 1000 cap, .int .i64 0] 60)) w.heap.size) := bytes_new h (Nat.le_refl _) (by omega)
    clear h
    go_enter Try.func14, Try.ntmps14
    go_wp2
    go_ret
    exact ⟨_, rfl, Hn.out, Nat.le_refl _, hb _⟩
  · have Hn : Hid (Rdr (w.alloc (.cells #[.slice a n cap, .int .i64 0] 60)) w.heap.size) := bytes_new h (by omega) (Nat.le_refl _)
    clear h
    go_enter Try.func14, Try.ntmps14
    go_wp2
    go_ret
    exact ⟨_, rfl, Hn.out, Nat.le_refl _, hb _⟩
end Go.Proofs.Ytfobcmememaejaa
