/-
  Answers that are entries and a Bool; such rows under marks.
-/
import Derived.Test.YtbpcdpeidhhjdaaMkE
import Derived.Test.YtbpcdpeidhhjdaaMkA
import Derived.Test.YtbpcdpeidhhjdaaSetA
namespace Go.Proofs.Ytbpcdpeidhhjdaa
open Go.RowKit

theorem OwnE.wr0 {w : World} {base : Nat} {v : Value} {l : List Ent} (h : OwnE w base v l) {a : Option Addr} {n cap : Nat} (e : v = .slice a n cap) : Wr0 w base a (l.length * 3) := by
  subst e
  obtain ⟨h1, h2⟩ := h
  rcases h2 with ⟨e, h0⟩ | ⟨g, cap', cur, e, hg, hh, hn, hc, hcs, hx⟩
  · exact Or.inl (by omega)
  · injection e with e1 _ _
    have hlt : g < w.heap.size := (Array.getElem?_eq_some_iff.1 hh).1
    refine Or.inr ⟨g, 0, e1, hg, hlt, fun i hi => ⟨⟨cur[i]'(by omega), ?_⟩, by simp [World.frozen?, hh]⟩⟩
    simp [World.cell?, hh, show i < cur.size by omega]

/-- the answer is the entries L, in a row of the call's own, and q. -/
def AnsE (L : List Ent) (q : Bool) (w : World) (e : Ending) (w' : World) : Prop := Below w.heap.size w w' ∧
  ∃ a cap, e = .returned (.tuple #[.slice a L.length cap, .bool q]) ∧ SlE w' a cap L ∧ Wr0 w' w.heap.size a (L.length * 3)
theorem ansE_of {w w' : World} {v : Value} {L : List Ent} (q : Bool) (hb : Below w.heap.size w w') (ho : OwnE w' w.heap.size v L) (hs : AllOk L) : AnsE L q w (.returned (.tuple #[v, .bool q])) w' := by
  obtain ⟨a, cap, rfl, h1⟩ := ho.sl hs.at
  exact ⟨hb, a, cap, rfl, h1, ho.wr0 rfl⟩

theorem SlE.low {w : World} {a : Option Addr} {cap base : Nat} {l : List Ent} (h : SlE w a cap l) (hb : w.heap.size ≤ base) : LowS a l.length base :=
  h.cells.imp (fun e => by rw [e]; rfl) fun ⟨b, off, e, hlt, _⟩ => ⟨b, off, e, by omega⟩
theorem Wr0.farE {w : World} {a : Option Addr} {n base lo hi : Nat} (h : Wr0 w base a (n * 3)) (hb : hi ≤ base) : FarS a n lo hi :=
  h.imp (fun e => by omega) fun ⟨b, off, e, hlt, _⟩ => ⟨b, off, e, Or.inr (by omega)⟩
theorem SlE.mkd {w w' : World} {a : Option Addr} {cap lo hi : Nat} {l : List Ent} (h : SlE w a cap l) (hm : Mkd lo hi w w') (hf : FarS a l.length lo hi) : SlE w' a cap l := by
  refine ⟨h.le, h.max, h.size, ?_⟩
  rcases h.cells with h0 | ⟨b, off, rfl, hlt, c1, c2, c3⟩
  · exact Or.inl h0
  · rcases hf with h0 | ⟨b', off', e, hf⟩
    · exact Or.inl (List.eq_nil_of_length_eq_zero h0)
    · injection e with e; injection e with e1 e2 _
      subst e1 e2
      exact Or.inr ⟨b, off, rfl, Nat.lt_of_lt_of_le hlt hm.size, fun i hi => by rw [hm.cell hlt hf]; exact c1 i hi, fun i hi => by rw [hm.cell hlt hf]; exact c2 i hi, fun i hi => by rw [hm.cell hlt hf]; exact c3 i hi⟩
end Go.Proofs.Ytbpcdpeidhhjdaa
