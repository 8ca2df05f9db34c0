import Derived.Test.YtjmhdjjkfglbgabCov
import Derived.Test.YtjmhdjjkfglbgabProg
import Derived.ProofKit
import Derived.SizedLaws
import Derived.Deep.Strs
import Derived.Deep.Slices
namespace Go.Proofs.Ytjmhdjjkfglbgab
open Go.ChangeShapes Go.WideShapes Go.ChangeAt Go.RowKit Go.Deep

theorem Try.cellsInt : Try.prog.cellsOf 3 = 1 := by kernel_rfl
theorem Try.bytesInt : Try.prog.bytesOf 3 = 8 := by kernel_rfl
theorem Try.cellsInts : Try.prog.cellsOf 40 = 1 := by kernel_rfl
theorem Try.bytesInts : Try.prog.bytesOf 40 = 24 := by kernel_rfl
theorem Try.cellsIntss : Try.prog.cellsOf 35 = 1 := by kernel_rfl
theorem Try.cellsLSpot : Try.prog.cellsOf 98 = 2 := by kernel_rfl
theorem Try.bytesLSpot : Try.prog.bytesOf 98 = 16 := by kernel_rfl
theorem Try.cellsLSpots : Try.prog.cellsOf 34 = 1 := by kernel_rfl
theorem Try.cellsLCover : Try.prog.cellsOf 37 = 2 := by kernel_rfl

section
variable {H : Type} {enc : TypeId × Value → H} {W : World}

theorem weights_all_in {P : Program} {e : TypeId} : ∀ {l : List (DataW H)} {d : DataW H}, d ∈ l → ∀ n ∈ d.weights P e, n ∈ DataW.weightsAll P e l
  | [], _, h, _, _ => absurd h List.not_mem_nil
  | x :: r, d, h, n, hn => by
    unfold DataW.weightsAll
    rcases List.mem_cons.1 h with rfl | h
    · exact List.mem_append_left _ hn
    · exact List.mem_append_right _ (weights_all_in h n hn)

/-- A []int that came in. -/
theorem in_ints {fuel : Nat} {cs : List Value} {x : DataW H × List MemPlace} (h : DataW.trod enc Try.prog W 0 (fun _ => true) true fuel 40 cs = some x)
    (hlt : ∀ q ∈ x.2, q.block < W.heap.size) (hw : ∀ z ∈ DataW.weights Try.prog 40 x.1, z ≤ reachBytes) :
    ∃ a n cap X, cs = [.slice a n cap] ∧ SlI W a n cap X ∧ n * 8 ≤ 140737488351232 := by
  rcases open_ints Try.underlying40 Try.underlying3 Try.cellsInt h with ⟨rfl, rfl⟩ | ⟨a, len, cap, zs, rfl, _, hl, hm, hmm, rfl, hcell, _⟩
  · exact ⟨none, 0, 0, fun _ => 0, rfl, ⟨Nat.le_refl _, by decide, Or.inl rfl⟩, by decide⟩
  · simp only [if_true] at hmm
    refine ⟨some a, len, cap, fun i => zs.getD i 0, rfl, ⟨hl, hm, ?_⟩, ?_⟩
    · by_cases h0 : len = 0
      · exact Or.inl h0
      · right
        obtain ⟨b, off, spot⟩ := a
        have hspot : spot = none := by simpa [Addr.add] using World.cell?_spot (hcell 0 (by omega))
        subst hspot
        exact ⟨b, off, rfl, hlt (.cell b off) (MemPlace.mem_row.2 ⟨0, by omega, by simp⟩), fun i hi => by rw [← add_plain]; exact hcell i (by omega)⟩
    · have := hw ((len + (cap - len)) * 8) (by simp [DataW.weights, Try.underlying40, Try.bytesInt, hmm, lits]; left; omega)
      simp only [reachBytes] at this
      omega

set_option maxRecDepth 10000 in
/-- A []laws.Spot that came in. -/
theorem in_spots {fuel : Nat} {cs : List Value} {x : DataW H × List MemPlace} (h : DataW.trod enc Try.prog W 0 (fun _ => true) true fuel 34 cs = some x)
    (hlt : ∀ q ∈ x.2, q.block < W.heap.size) (hw : ∀ z ∈ DataW.weights Try.prog 34 x.1, z ≤ reachBytes) :
    ∃ a n cap C Q, cs = [.slice a n cap] ∧ SlP W a n cap C Q ∧ n * 16 ≤ 140737488351232 := by
  rcases open_slice Try.underlying34 h with ⟨rfl, rfl⟩ | ⟨a, len, cap, m, nf, D, Pl, rfl, _, hl, hm, hmm, rfl, hx⟩
  · exact ⟨none, 0, 0, fun _ => 0, fun _ => 0, rfl, ⟨Nat.le_refl _, by decide, Or.inl rfl⟩, by decide⟩
  · simp only [if_true] at hmm
    subst hmm
    have each : ∀ i, i < m → ∃ y : Int × Int, W.cell? (a.add (i * 2)) = some (.int .i64 y.1) ∧ W.cell? ((a.add (i * 2)).add 1) = some (.int .i64 y.2) := by
      intro i hi
      obtain ⟨cs', h1, h2⟩ := hx i hi
      rw [Try.cellsLSpot] at h1
      obtain ⟨y0, y1, n', hxx, hlen, t0, t1⟩ := trod_struct2 Try.underlying98 h2
      have hc := World.cells?_some h1
      match cs', hc.2.1 with
      | [c0, c1], _ =>
        simp only [Try.cellsInt, List.drop_zero, List.drop_succ_cons, List.take_succ_cons, List.take_zero] at t0 t1
        obtain ⟨s, e0, _, _⟩ := DataW.trod_int Try.underlying3 t0
        obtain ⟨z, e1, _, _⟩ := DataW.trod_int Try.underlying3 t1
        simp only [List.cons.injEq, and_true] at e0 e1
        subst e0 e1
        have q0 := hc.2.2 0 (by decide)
        have q1 := hc.2.2 1 (by decide)
        exact ⟨(s, z), by simpa [Addr.add] using q0, by simpa using q1⟩
    obtain ⟨Y, hY⟩ := choose_lt each
    refine ⟨some a, len, m, fun i => (Y i).1, fun i => (Y i).2, rfl, ⟨hl, hm, ?_⟩, ?_⟩
    · by_cases h0 : len = 0
      · exact Or.inl h0
      · right
        obtain ⟨b, off, spot⟩ := a
        have hspot : spot = none := by simpa [Addr.add] using World.cell?_spot (hY 0 (by omega)).1
        subst hspot
        refine ⟨b, off, rfl, hlt (.cell b off) (List.mem_append_left _ (MemPlace.mem_row.2 ⟨0, by rw [Try.cellsLSpot]; omega, by simp⟩)), fun i hi => ?_, fun i hi => ?_⟩
        · rw [← add_plain]; exact (hY i (by omega)).1
        · rw [← add_plain, ← add_plain]; exact (hY i (by omega)).2
    · have := hw ((len + (m - len)) * 16) (by simp [DataW.weights, Try.underlying34, Try.bytesLSpot])
      simp only [reachBytes] at this
      omega

set_option maxRecDepth 10000 in
/-- A [][]int that came in. -/
theorem in_intss {fuel : Nat} {cs : List Value} {x : DataW H × List MemPlace} (h : DataW.trod enc Try.prog W 0 (fun _ => true) true fuel 35 cs = some x)
    (hlt : ∀ q ∈ x.2, q.block < W.heap.size) (hw : ∀ z ∈ DataW.weights Try.prog 35 x.1, z ≤ reachBytes) :
    ∃ a n cap rn X, cs = [.slice a n cap] ∧ SlL W a n cap rn X ∧ n * 24 ≤ 140737488351232 ∧ ∀ i, i < n → rn i * 8 ≤ 140737488351232 := by
  rcases open_slice1 Try.underlying35 Try.cellsInts h with ⟨rfl, rfl⟩ | ⟨a, len, cap, m, nf, V, D, Pl, rfl, _, hl, hm, hmm, rfl, hx⟩
  · exact ⟨none, 0, 0, fun _ => 0, fun _ _ => 0, rfl, ⟨Nat.le_refl _, by decide, Or.inl rfl⟩, by decide, fun i hi => absurd hi (Nat.not_lt_zero _)⟩
  · simp only [if_true] at hmm
    subst hmm
    have hwt : DataW.weights Try.prog 35 (DataW.slice ((List.range len).map D) ((List.range (m - len)).map fun j => D (len + j))) = (len + (m - len)) * 24 :: (DataW.weightsAll Try.prog 40 ((List.range len).map D) ++ DataW.weightsAll Try.prog 40 ((List.range (m - len)).map fun j => D (len + j))) := by
      simp [DataW.weights, Try.underlying35, Try.bytesInts]
    rw [hwt] at hw
    have each : ∀ i, i < len → ∃ y : Nat × (Nat → Int), (∃ ra rc, W.cell? (a.add i) = some (.slice ra y.1 rc) ∧ SlI W ra y.1 rc y.2) ∧ y.1 * 8 ≤ 140737488351232 := by
      intro i hi
      obtain ⟨h1, h2⟩ := hx i (by omega)
      obtain ⟨ra, n, rc, X, e, hs, hr⟩ := in_ints h2
        (fun q hq => hlt q (List.mem_append_right _ (List.mem_flatMap.2 ⟨i, List.mem_range.2 (by omega), hq⟩)))
        (fun z hz => hw z (List.mem_cons_of_mem _ (List.mem_append_left _ (weights_all_in (List.mem_map.2 ⟨i, List.mem_range.2 hi, rfl⟩) z hz))))
      simp only [List.cons.injEq, and_true] at e
      exact ⟨(n, X), ⟨ra, rc, by rw [h1, e], hs⟩, hr⟩
    obtain ⟨Y, hY⟩ := choose_lt each
    refine ⟨some a, len, m, fun i => (Y i).1, fun i => (Y i).2, rfl, ⟨hl, hm, ?_⟩, ?_, fun i hi => (hY i hi).2⟩
    · by_cases h0 : len = 0
      · exact Or.inl h0
      · right
        obtain ⟨b, off, spot⟩ := a
        have hspot : spot = none := by
          obtain ⟨⟨ra, rc, hc, _⟩, _⟩ := hY 0 (by omega)
          simpa [Addr.add] using World.cell?_spot hc
        subst hspot
        refine ⟨b, off, rfl, hlt (.cell b off) (List.mem_append_left _ (MemPlace.mem_row.2 ⟨0, by omega, by simp⟩)), fun i hi => ?_⟩
        obtain ⟨⟨ra, rc, hc, hs⟩, _⟩ := hY i hi
        exact ⟨ra, rc, by rw [← add_plain]; exact hc, hs⟩
    · have := hw ((len + (m - len)) * 24) (List.mem_cons_self ..)
      simp only [reachBytes] at this
      omega

set_option maxRecDepth 10000 in
/-- A laws.Cover that came in. -/
theorem in_cover {fuel : Nat} {cs : List Value} {x : DataW H × List MemPlace} (h : DataW.trod enc Try.prog W 0 (fun _ => true) true fuel 37 cs = some x)
    (hlt : ∀ q ∈ x.2, q.block < W.heap.size) (hw : ∀ z ∈ DataW.weights Try.prog 37 x.1, z ≤ reachBytes) :
    ∃ sa ns cs' C Q ra nr cr rn X, cs = [.slice sa ns cs', .slice ra nr cr] ∧ SlP W sa ns cs' C Q ∧ ns * 16 ≤ 140737488351232 ∧ SlL W ra nr cr rn X ∧ nr * 24 ≤ 140737488351232 ∧ ∀ i, i < nr → rn i * 8 ≤ 140737488351232 := by
  obtain ⟨y0, y1, n, rfl, hl, t0, t1⟩ := trod_struct2 Try.underlying37 h
  rw [Try.cellsLCover] at hl
  match cs, hl with
  | [c0, c1], _ =>
    simp only [Try.cellsLSpots, Try.cellsIntss, List.drop_zero, List.drop_succ_cons, List.take_succ_cons, List.take_zero] at t0 t1
    have hwe : ∀ (j : Nat) (t : TypeId) (d : DataW H), [34, 35][j]? = some t → [y0.1, y1.1][j]? = some d → ∀ z ∈ d.weights Try.prog t, z ≤ reachBytes := by
      intro j t d ht hd z hz
      refine hw z ?_
      simp only [DataW.weights, Try.underlying37, List.map_cons, List.map_nil]
      exact DataW.weights_mem_each ht hd z hz
    obtain ⟨sa, ns, cs', C, Q, e0, hp, r0⟩ := in_spots t0 (fun q hq => hlt q (List.mem_append_left _ hq)) (hwe 0 _ _ rfl rfl)
    obtain ⟨ra, nr, cr, rn, X, e1, hs, r1, r2⟩ := in_intss t1 (fun q hq => hlt q (List.mem_append_right _ hq)) (hwe 1 _ _ rfl rfl)
    simp only [List.cons.injEq, and_true] at e0 e1
    subst e0 e1
    exact ⟨sa, ns, cs', C, Q, ra, nr, cr, rn, X, rfl, hp, r0, hs, r1, r2⟩
end
end Go.Proofs.Ytjmhdjjkfglbgab
