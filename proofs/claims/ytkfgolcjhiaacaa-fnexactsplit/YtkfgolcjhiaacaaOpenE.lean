import Derived.Test.YtkfgolcjhiaacaaProg
import Derived.Test.YtkfgolcjhiaacaaEnt
import Derived.ProofKit
import Derived.SizedLaws
import Derived.Deep.Strs
namespace Go.Proofs.Ytkfgolcjhiaacaa
open Go.ChangeShapes Go.WideShapes Go.ChangeAt Go.RowKit Go.Deep

theorem Try.cellsStrE : Try.prog.cellsOf 9 = 1 := by kernel_rfl
theorem Try.cellsLE : Try.prog.cellsOf 52 = 3 := by kernel_rfl
theorem Try.bytesLE : Try.prog.bytesOf 52 = 48 := by kernel_rfl

section
variable {H : Type} {enc : TypeId × Value → H} {W : World}

/- An Entry that came in: its three cells. -/
set_option maxRecDepth 100000 in
theorem in_entry {fuel : Nat} {cs : List Value} {x : DataW H × List MemPlace} (h : DataW.trod enc Try.prog W 0 (fun _ => true) true fuel 52 cs = some x) :
    ∃ e : Ent, cs = [.string e.ty, .string e.key, .string e.id] ∧ e.ty.size ≤ maxLen ∧ e.key.size ≤ maxLen ∧ e.id.size ≤ maxLen := by
  obtain ⟨y0, y1, y2, n, _, hlen, t0, t1, t2⟩ := trod_struct3 Try.underlying52 h
  rw [Try.cellsLE] at hlen
  match cs, hlen with
  | [c0, c1, c2], _ =>
    simp only [Try.cellsStrE, List.drop_zero, List.drop_succ_cons, List.take_succ_cons, List.take_zero] at t0 t1 t2
    obtain ⟨s0, e0, _, h0⟩ := DataW.trod_string Try.underlying9 t0
    obtain ⟨s1, e1, _, h1⟩ := DataW.trod_string Try.underlying9 t1
    obtain ⟨s2, e2, _, h2⟩ := DataW.trod_string Try.underlying9 t2
    simp only [List.cons.injEq, and_true] at e0 e1 e2
    subst e0 e1 e2
    exact ⟨⟨s0, s1, s2⟩, rfl, h0, h1, h2⟩

/- A []Entry that came in. -/
set_option maxRecDepth 100000 in
theorem in_entries {fuel : Nat} {cs : List Value} {x : DataW H × List MemPlace} (h : DataW.trod enc Try.prog W 0 (fun _ => true) true fuel 38 cs = some x)
    (hlt : ∀ q ∈ x.2, q.block < W.heap.size) (hw : ∀ z ∈ DataW.weights Try.prog 38 x.1, z ≤ reachBytes) :
    ∃ a cap l, cs = [.slice a l.length cap] ∧ SlE W a cap l ∧ l.length * 48 ≤ 140737488351232 := by
  rcases open_slice Try.underlying38 h with ⟨rfl, rfl⟩ | ⟨a, len, cap, m, nf, D, Pl, rfl, _, hl, hm, hmm, rfl, hx⟩
  · exact ⟨none, 0, [], rfl, ⟨Nat.le_refl _, by decide, fun i hi => absurd hi (Nat.not_lt_zero _), Or.inl rfl⟩, by decide⟩
  · simp only [if_true] at hmm
    subst hmm
    have each : ∀ i, i < m → ∃ e : ByteArray × ByteArray × ByteArray, W.cell? (a.add (i * 3)) = some (.string e.1) ∧ W.cell? ((a.add (i * 3)).add 1) = some (.string e.2.1) ∧ W.cell? ((a.add (i * 3)).add 2) = some (.string e.2.2) ∧ e.1.size ≤ maxLen ∧ e.2.1.size ≤ maxLen ∧ e.2.2.size ≤ maxLen := by
      intro i hi
      obtain ⟨cs', h1, h2⟩ := hx i hi
      rw [Try.cellsLE] at h1
      obtain ⟨e, rfl, s0, s1, s2⟩ := in_entry h2
      have hc := World.cells?_some h1
      have q0 := hc.2.2 0 (by decide)
      have q1 := hc.2.2 1 (by decide)
      have q2 := hc.2.2 2 (by decide)
      exact ⟨(e.ty, e.key, e.id), by simpa [Addr.add] using q0, by simpa using q1, by simpa using q2, s0, s1, s2⟩
    obtain ⟨Y, hY⟩ := choose_lt each
    have hget : ∀ i, i < len → eAt ((List.range len).map fun i => (⟨(Y i).1, (Y i).2.1, (Y i).2.2⟩ : Ent)) i = ⟨(Y i).1, (Y i).2.1, (Y i).2.2⟩ := fun i hi => by
      rw [eAt_get _ _ (by simpa using hi)]; simp
    refine ⟨some a, m, (List.range len).map fun i => ⟨(Y i).1, (Y i).2.1, (Y i).2.2⟩, by simp, ⟨by simpa using hl, hm, fun i hi => ?_, ?_⟩, ?_⟩
    · have hi' : i < len := by simpa using hi
      rw [hget i hi']
      exact (hY i (by omega)).2.2.2
    · by_cases h0 : len = 0
      · exact Or.inl (by simp [h0])
      · right
        obtain ⟨b, off, spot⟩ := a
        have hspot : spot = none := by simpa [Addr.add] using World.cell?_spot (hY 0 (by omega)).1
        subst hspot
        refine ⟨b, off, rfl, hlt (.cell b off) (List.mem_append_left _ (MemPlace.mem_row.2 ⟨0, by rw [Try.cellsLE]; omega, by simp⟩)), fun i hi => ?_, fun i hi => ?_, fun i hi => ?_⟩
        · have hi' : i < len := by simpa using hi
          rw [hget i hi', ← add_plain]; exact (hY i (by omega)).1
        · have hi' : i < len := by simpa using hi
          rw [hget i hi', ← add_plain, ← add_plain]; exact (hY i (by omega)).2.1
        · have hi' : i < len := by simpa using hi
          rw [hget i hi', ← add_plain, ← add_plain]; exact (hY i (by omega)).2.2.1
    · have := hw ((len + (m - len)) * 48) (by simp [DataW.weights, Try.underlying38, Try.bytesLE])
      simp only [reachBytes] at this
      rw [List.length_map, List.length_range]
      omega
end
end Go.Proofs.Ytkfgolcjhiaacaa
