/-
  A [][]Entry that came in.
-/
import Derived.Test.YtkfgolcjhiaacaaOpenE
import Derived.Test.YtkfgolcjhiaacaaEeS
import Derived.Deep.Slices
namespace Go.Proofs.Ytkfgolcjhiaacaa
open Go.ChangeShapes Go.WideShapes Go.ChangeAt Go.RowKit Go.Deep

theorem Try.cellsLEsE : Try.prog.cellsOf 38 = 1 := by kernel_rfl
theorem Try.bytesLEsE : Try.prog.bytesOf 38 = 24 := by kernel_rfl

section
variable {H : Type} {enc : TypeId × Value → H} {W : World}

theorem weightsE_mem {P : Program} {e : TypeId} : ∀ {l : List (DataW H)} {d : DataW H}, d ∈ l → ∀ n ∈ d.weights P e, n ∈ DataW.weightsAll P e l
  | [], _, h, _, _ => absurd h List.not_mem_nil
  | x :: r, d, h, n, hn => by
    unfold DataW.weightsAll
    rcases List.mem_cons.1 h with rfl | h
    · exact List.mem_append_left _ hn
    · exact List.mem_append_right _ (weightsE_mem h n hn)

set_option maxRecDepth 100000 in
theorem in_states {fuel : Nat} {cs : List Value} {x : DataW H × List MemPlace} (h : DataW.trod enc Try.prog W 0 (fun _ => true) true fuel 22 cs = some x)
    (hlt : ∀ q ∈ x.2, q.block < W.heap.size) (hw : ∀ z ∈ DataW.weights Try.prog 22 x.1, z ≤ reachBytes) :
    ∃ a n cap L, cs = [.slice a n cap] ∧ SlEE W a n cap L ∧ n * 24 ≤ 140737488351232 ∧ ∀ i, i < n → (L i).length * 48 ≤ 140737488351232 := by
  rcases open_slice1 Try.underlying22 Try.cellsLEsE h with ⟨rfl, rfl⟩ | ⟨a, len, cap, m, nf, V, D, Pl, rfl, _, hl, hm, hmm, rfl, hx⟩
  · exact ⟨none, 0, 0, fun _ => [], rfl, ⟨Nat.le_refl _, by decide, Or.inl rfl⟩, by decide, fun i hi => absurd hi (Nat.not_lt_zero _)⟩
  · simp only [if_true] at hmm
    subst hmm
    have hwt : DataW.weights Try.prog 22 (DataW.slice ((List.range len).map D) ((List.range (m - len)).map fun j => D (len + j))) = (len + (m - len)) * 24 :: (DataW.weightsAll Try.prog 38 ((List.range len).map D) ++ DataW.weightsAll Try.prog 38 ((List.range (m - len)).map fun j => D (len + j))) := by
      simp [DataW.weights, Try.underlying22, Try.bytesLEsE]
    rw [hwt] at hw
    have each : ∀ i, i < len → ∃ y : List Ent, (∃ ra rc, W.cell? (a.add i) = some (.slice ra y.length rc) ∧ SlE W ra rc y) ∧ y.length * 48 ≤ 140737488351232 := by
      intro i hi
      obtain ⟨h1, h2⟩ := hx i (by omega)
      obtain ⟨ra, rc, l, e, hs, hr⟩ := in_entries h2
        (fun q hq => hlt q (List.mem_append_right _ (List.mem_flatMap.2 ⟨i, List.mem_range.2 (by omega), hq⟩)))
        (fun z hz => hw z (List.mem_cons_of_mem _ (List.mem_append_left _ (weightsE_mem (List.mem_map.2 ⟨i, List.mem_range.2 hi, rfl⟩) z hz))))
      simp only [List.cons.injEq, and_true] at e
      exact ⟨l, ⟨ra, rc, by rw [h1, e], hs⟩, hr⟩
    obtain ⟨Y, hY⟩ := choose_lt each
    refine ⟨some a, len, m, Y, rfl, ⟨hl, hm, ?_⟩, ?_, fun i hi => (hY i hi).2⟩
    · by_cases h0 : len = 0
      · exact Or.inl h0
      · right
        obtain ⟨b, off, spot⟩ := a
        have hspot : spot = none := by
          obtain ⟨⟨ra, rc, hc, _⟩, _⟩ := hY 0 (by omega)
          simpa [Addr.add] using World.cell?_spot hc
        subst hspot
        refine ⟨b, off, rfl, hlt (.cell b off) (List.mem_append_left _ (MemPlace.mem_row.2 ⟨0, by omega, by simp⟩)), fun i hi => ?_⟩
        obtain ⟨⟨ra, rc, hc, hs⟩, _⟩ := hY i hi
        exact ⟨ra, rc, by rw [← add_plain]; exact hc, hs⟩
    · have := hw ((len + (m - len)) * 24) (List.mem_cons_self ..)
      simp only [reachBytes] at this
      omega
end
end Go.Proofs.Ytkfgolcjhiaacaa
