/-
  A laws.Store that came in.
-/
import Derived.Test.YtbenfmcnmiedpabOpenE
import Derived.Test.YtbenfmcnmiedpabSto
namespace Go.Proofs.Ytbenfmcnmiedpab
open Go.ChangeShapes Go.WideShapes Go.ChangeAt Go.RowKit Go.Deep

theorem Try.cellsLGrp : Try.prog.cellsOf 83 = 2 := by kernel_rfl
theorem Try.bytesLGrp : Try.prog.bytesOf 83 = 32 := by kernel_rfl
theorem Try.cellsLGrps : Try.prog.cellsOf 22 = 1 := by kernel_rfl
theorem Try.cellsLEs : Try.prog.cellsOf 41 = 1 := by kernel_rfl
theorem Try.cellsIntT : Try.prog.cellsOf 3 = 1 := by kernel_rfl
theorem Try.cellsLSto : Try.prog.cellsOf 24 = 1 := by kernel_rfl
instance : Inhabited Grp := ⟨⟨0, []⟩⟩

section
variable {H : Type} {enc : TypeId × Value → H} {W : World}

theorem weightsT_mem {P : Program} {e : TypeId} : ∀ {l : List (DataW H)} {d : DataW H}, d ∈ l → ∀ n ∈ d.weights P e, n ∈ DataW.weightsAll P e l
  | [], _, h, _, _ => absurd h List.not_mem_nil
  | x :: r, d, h, n, hn => by
    unfold DataW.weightsAll
    rcases List.mem_cons.1 h with rfl | h
    · exact List.mem_append_left _ hn
    · exact List.mem_append_right _ (weightsT_mem h n hn)

set_option maxRecDepth 100000 in
theorem in_group {fuel : Nat} {cs : List Value} {x : DataW H × List MemPlace} (h : DataW.trod enc Try.prog W 0 (fun _ => true) true fuel 83 cs = some x)
    (hlt : ∀ q ∈ x.2, q.block < W.heap.size) (hw : ∀ z ∈ DataW.weights Try.prog 83 x.1, z ≤ reachBytes) :
    ∃ (g : Grp) (sa : Option Addr) (sc : Nat), cs = [.int .i64 g.par, .slice sa g.sets.length sc] ∧ SlE W sa sc g.sets ∧ g.sets.length * 48 ≤ 140737488351232 := by
  obtain ⟨y0, y1, n, rfl, hl, t0, t1⟩ := trod_struct2 Try.underlying83 h
  rw [Try.cellsLGrp] at hl
  match cs, hl with
  | [c0, c1], _ =>
    simp only [Try.cellsIntT, Try.cellsLEs, List.drop_zero, List.drop_succ_cons, List.take_succ_cons, List.take_zero] at t0 t1
    have hwe : ∀ (j : Nat) (t : TypeId) (d : DataW H), [3, 41][j]? = some t → [y0.1, y1.1][j]? = some d → ∀ z ∈ d.weights Try.prog t, z ≤ reachBytes := by
      intro j t d ht hd z hz
      refine hw z ?_
      simp only [DataW.weights, Try.underlying83, List.map_cons, List.map_nil]
      exact DataW.weights_mem_each ht hd z hz
    obtain ⟨z, e0, _, _⟩ := DataW.trod_int Try.underlying3 t0
    obtain ⟨sa, sc, l, e1, hs, r1⟩ := in_entries t1 (fun q hq => hlt q (List.mem_append_right _ hq)) (hwe 1 _ _ rfl rfl)
    simp only [List.cons.injEq, and_true] at e0 e1
    subst e0 e1
    exact ⟨⟨z, l⟩, sa, sc, rfl, hs, r1⟩

set_option maxRecDepth 100000 in
theorem in_groups {fuel : Nat} {cs : List Value} {x : DataW H × List MemPlace} (h : DataW.trod enc Try.prog W 0 (fun _ => true) true fuel 22 cs = some x)
    (hlt : ∀ q ∈ x.2, q.block < W.heap.size) (hw : ∀ z ∈ DataW.weights Try.prog 22 x.1, z ≤ reachBytes) :
    ∃ a n cap G, cs = [.slice a n cap] ∧ SlT W a n cap G ∧ n * 32 ≤ 140737488351232 ∧ ∀ i, i < n → (G i).sets.length * 48 ≤ 140737488351232 := by
  rcases open_slice Try.underlying22 h with ⟨rfl, rfl⟩ | ⟨a, len, cap, m, nf, D, Pl, rfl, _, hl, hm, hmm, rfl, hx⟩
  · exact ⟨none, 0, 0, fun _ => default, rfl, ⟨Nat.le_refl _, by decide, Or.inl rfl⟩, by decide, fun i hi => absurd hi (Nat.not_lt_zero _)⟩
  · simp only [if_true] at hmm
    subst hmm
    have hwt : DataW.weights Try.prog 22 (DataW.slice ((List.range len).map D) ((List.range (m - len)).map fun j => D (len + j))) = (len + (m - len)) * 32 :: (DataW.weightsAll Try.prog 83 ((List.range len).map D) ++ DataW.weightsAll Try.prog 83 ((List.range (m - len)).map fun j => D (len + j))) := by
      simp [DataW.weights, Try.underlying22, Try.bytesLGrp]
    rw [hwt] at hw
    have each : ∀ i, i < len → ∃ g : Grp, (∃ sa sc, W.cells? 0 (a.add (i * 2)) 2 = some [.int .i64 g.par, .slice sa g.sets.length sc] ∧ SlE W sa sc g.sets) ∧ g.sets.length * 48 ≤ 140737488351232 := by
      intro i hi
      obtain ⟨cs', h1, h2⟩ := hx i (by omega)
      rw [Try.cellsLGrp] at h1
      obtain ⟨g, sa, sc, rfl, hs, r⟩ := in_group h2
        (fun q hq => hlt q (List.mem_append_right _ (List.mem_flatMap.2 ⟨i, List.mem_range.2 (by omega), hq⟩)))
        (fun z hz => hw z (List.mem_cons_of_mem _ (List.mem_append_left _ (weightsT_mem (List.mem_map.2 ⟨i, List.mem_range.2 hi, rfl⟩) z hz))))
      exact ⟨g, ⟨sa, sc, h1, hs⟩, r⟩
    obtain ⟨G, hG⟩ := choose_lt each
    refine ⟨some a, len, m, G, rfl, ⟨hl, hm, ?_⟩, ?_, fun i hi => (hG i hi).2⟩
    · by_cases h0 : len = 0
      · exact Or.inl h0
      · right
        obtain ⟨b, off, spot⟩ := a
        have hspot : spot = none := by
          obtain ⟨⟨_, _, hc, _⟩, _⟩ := hG 0 (by omega)
          have q0 := (World.cells?_some hc).2.2 0 (by decide)
          simpa [Addr.add] using World.cell?_spot q0
        subst hspot
        refine ⟨b, off, rfl, hlt (.cell b off) (List.mem_append_left _ (MemPlace.mem_row.2 ⟨0, by rw [Try.cellsLGrp]; omega, by simp⟩)), fun i hi => ?_⟩
        obtain ⟨⟨sa, sc, hc, hs⟩, _⟩ := hG i hi
        rw [add_plain] at hc
        have hq := (World.cells?_some hc).2.2
        refine ⟨sa, sc, ?_, ?_, hs⟩
        · simpa [Addr.add] using hq 0 (by decide)
        · simpa [Addr.add, Nat.add_assoc] using hq 1 (by decide)
    · have := hw ((len + (m - len)) * 32) (List.mem_cons_self ..)
      simp only [reachBytes] at this
      omega

set_option maxRecDepth 100000 in
theorem in_store {fuel : Nat} {cs : List Value} {x : DataW H × List MemPlace} (h : DataW.trod enc Try.prog W 0 (fun _ => true) true fuel 24 cs = some x)
    (hlt : ∀ q ∈ x.2, q.block < W.heap.size) (hw : ∀ z ∈ DataW.weights Try.prog 24 x.1, z ≤ reachBytes) :
    ∃ a n cap G, cs = [.slice a n cap] ∧ SlT W a n cap G ∧ n * 32 ≤ 140737488351232 ∧ ∀ i, i < n → (G i).sets.length * 48 ≤ 140737488351232 := by
  obtain ⟨y0, n, rfl, hl, t0⟩ := trod_struct1 Try.underlying24 h
  rw [Try.cellsLSto] at hl
  match cs, hl with
  | [c0], _ =>
    simp only [Try.cellsLGrps, List.drop_zero, List.take_succ_cons, List.take_zero] at t0
    refine in_groups t0 hlt (fun z hz => hw z ?_)
    simp only [DataW.weights, Try.underlying24, List.map_cons, List.map_nil]
    exact DataW.weights_mem_each (j := 0) rfl rfl z hz
end
end Go.Proofs.Ytbenfmcnmiedpab
