import Derived.Test.YtjmhdjjkfglbgabSl
import Derived.Test.YtjmhdjjkfglbgabProg
import Derived.ProofKit
import Derived.SizedLaws
import Derived.Deep.Strs
namespace Go.Proofs.Ytjmhdjjkfglbgab
open Go.ChangeShapes Go.WideShapes Go.ChangeAt Go.RowKit Go.Deep

theorem Try.cellsStr : Try.prog.cellsOf 9 = 1 := by kernel_rfl
theorem Try.bytesStr : Try.prog.bytesOf 9 = 16 := by kernel_rfl
theorem Try.cellsLG : Try.prog.cellsOf 80 = 2 := by kernel_rfl
theorem Try.bytesLG : Try.prog.bytesOf 80 = 24 := by kernel_rfl
theorem Try.cellsInt : Try.prog.cellsOf 3 = 1 := by kernel_rfl

section
variable {H : Type} {enc : TypeId × Value → H} {W : World}

/-- A []string that came in. -/
theorem in_strs {fuel : Nat} {cs : List Value} {x : DataW H × List MemPlace} (h : DataW.trod enc Try.prog W 0 (fun _ => true) true fuel 22 cs = some x)
    (hlt : ∀ q ∈ x.2, q.block < W.heap.size) (hw : ∀ z ∈ DataW.weights Try.prog 22 x.1, z ≤ reachBytes) :
    ∃ a n cap S, cs = [.slice a n cap] ∧ SlS W a n cap S ∧ n * 16 ≤ 140737488351232 := by
  rcases open_strs Try.underlying22 Try.underlying9 Try.cellsStr h with ⟨rfl, rfl⟩ | ⟨a, len, cap, m, S, rfl, _, hl, hm, hmm, rfl, hcell⟩
  · exact ⟨none, 0, 0, fun _ => ByteArray.empty, rfl, ⟨Nat.le_refl _, by decide, fun i hi => absurd hi (Nat.not_lt_zero _), Or.inl rfl⟩, by decide⟩
  · simp only [if_true] at hmm
    subst hmm
    refine ⟨some a, len, m, S, rfl, ⟨hl, hm, fun i hi => (hcell i (by omega)).2, ?_⟩, ?_⟩
    · by_cases h0 : len = 0
      · exact Or.inl h0
      · right
        obtain ⟨b, off, spot⟩ := a
        have hspot : spot = none := by simpa [Addr.add] using World.cell?_spot (hcell 0 (by omega)).1
        subst hspot
        exact ⟨b, off, rfl, hlt (.cell b off) (MemPlace.mem_row.2 ⟨0, by omega, by simp⟩), fun i hi => by rw [← add_plain]; exact (hcell i (by omega)).1⟩
    · have := hw ((len + (m - len)) * 16) (by simp [DataW.weights, Try.underlying22, Try.bytesStr])
      simp only [reachBytes] at this
      omega

set_option maxRecDepth 10000 in
/-- A []laws.Grant that came in. -/
theorem in_grants {fuel : Nat} {cs : List Value} {x : DataW H × List MemPlace} (h : DataW.trod enc Try.prog W 0 (fun _ => true) true fuel 23 cs = some x)
    (hlt : ∀ q ∈ x.2, q.block < W.heap.size) (hw : ∀ z ∈ DataW.weights Try.prog 23 x.1, z ≤ reachBytes) :
    ∃ a n cap M L, cs = [.slice a n cap] ∧ SlG W a n cap M L ∧ n * 24 ≤ 140737488351232 := by
  rcases open_slice Try.underlying23 h with ⟨rfl, rfl⟩ | ⟨a, len, cap, m, nf, D, Pl, rfl, _, hl, hm, hmm, rfl, hx⟩
  · exact ⟨none, 0, 0, fun _ => ByteArray.empty, fun _ => 0, rfl, ⟨Nat.le_refl _, by decide, fun i hi => absurd hi (Nat.not_lt_zero _), Or.inl rfl⟩, by decide⟩
  · simp only [if_true] at hmm
    subst hmm
    have each : ∀ i, i < m → ∃ y : ByteArray × Int, W.cell? (a.add (i * 2)) = some (.string y.1) ∧ W.cell? ((a.add (i * 2)).add 1) = some (.int .i64 y.2) ∧ y.1.size ≤ maxLen := by
      intro i hi
      obtain ⟨cs', h1, h2⟩ := hx i hi
      rw [Try.cellsLG] at h1
      obtain ⟨y0, y1, n', hxx, hlen, t0, t1⟩ := trod_struct2 Try.underlying80 h2
      have hc := World.cells?_some h1
      match cs', hc.2.1 with
      | [c0, c1], _ =>
        simp only [Try.cellsStr, Try.cellsInt, List.drop_zero, List.drop_succ_cons, List.take_succ_cons, List.take_zero] at t0 t1
        obtain ⟨s, e0, _, hs⟩ := DataW.trod_string Try.underlying9 t0
        obtain ⟨z, e1, _, _⟩ := DataW.trod_int Try.underlying3 t1
        simp only [List.cons.injEq, and_true] at e0 e1
        subst e0 e1
        have q0 := hc.2.2 0 (by decide)
        have q1 := hc.2.2 1 (by decide)
        exact ⟨(s, z), by simpa [Addr.add] using q0, by simpa using q1, hs⟩
    obtain ⟨Y, hY⟩ := choose_lt each
    refine ⟨some a, len, m, fun i => (Y i).1, fun i => (Y i).2, rfl, ⟨hl, hm, fun i hi => (hY i (by omega)).2.2, ?_⟩, ?_⟩
    · by_cases h0 : len = 0
      · exact Or.inl h0
      · right
        obtain ⟨b, off, spot⟩ := a
        have hspot : spot = none := by simpa [Addr.add] using World.cell?_spot (hY 0 (by omega)).1
        subst hspot
        refine ⟨b, off, rfl, hlt (.cell b off) (List.mem_append_left _ (MemPlace.mem_row.2 ⟨0, by rw [Try.cellsLG]; omega, by simp⟩)), fun i hi => ?_, fun i hi => ?_⟩
        · rw [← add_plain]; exact (hY i (by omega)).1
        · rw [← add_plain, ← add_plain]; exact (hY i (by omega)).2.1
    · have := hw ((len + (m - len)) * 24) (by simp [DataW.weights, Try.underlying23, Try.bytesLG])
      simp only [reachBytes] at this
      omega
end
end Go.Proofs.Ytjmhdjjkfglbgab
