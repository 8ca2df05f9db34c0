import Derived.Test.YtbpcdpeidhhjdaaProg
import Derived.Test.YtbpcdpeidhhjdaaEntA
import Derived.ProofKit
import Derived.SizedLaws
import Derived.Deep.Strs
import Derived.Test.YtbpcdpeidhhjdaaSto
namespace Go.Proofs.Ytbpcdpeidhhjdaa
open Go.ChangeShapes Go.WideShapes Go.ChangeAt Go.RowKit Go.Deep

theorem Try.cellsStrE : Try.prog.cellsOf 9 = 1 := by kernel_rfl
theorem Try.cellsLE : Try.prog.cellsOf 44 = 3 := by kernel_rfl
theorem Try.bytesLE : Try.prog.bytesOf 44 = 48 := by kernel_rfl

section
variable {H : Type} {enc : TypeId × Value → H} {W : World}

/- An Entry that came in: its three cells. -/
set_option maxRecDepth 100000 in
theorem in_entry {fuel : Nat} {cs : List Value} {x : DataW H × List MemPlace} (h : DataW.trod enc Try.prog W 0 (fun _ => true) true fuel 44 cs = some x) :
    ∃ e : Ent, cs = [.string e.ty, .string e.key, .string e.id] ∧ e.ty.size ≤ maxLen ∧ e.key.size ≤ maxLen ∧ e.id.size ≤ maxLen := by
  obtain ⟨y0, y1, y2, n, _, hlen, t0, t1, t2⟩ := trod_struct3 Try.underlying44 h
  rw [Try.cellsLE] at hlen
  match cs, hlen with
  | [c0, c1, c2], _ =>
    simp only [Try.cellsStrE, List.drop_zero, List.drop_succ_cons, List.take_succ_cons, List.take_zero] at t0 t1 t2
    obtain ⟨s0, e0, _, h0⟩ := DataW.trod_string Try.underlying9 t0
    obtain ⟨s1, e1, _, h1⟩ := DataW.trod_string Try.underlying9 t1
    obtain ⟨s2, e2, _, h2⟩ := DataW.trod_string Try.underlying9 t2
    simp only [List.cons.injEq, and_true] at e0 e1 e2
    subst e0 e1 e2
    exact ⟨⟨s0, s1, s2⟩, rfl, h0, h1, h2⟩

/- A []Entry that came in. -/
set_option maxRecDepth 100000 in
theorem in_entries {fuel : Nat} {cs : List Value} {x : DataW H × List MemPlace} (h : DataW.trod enc Try.prog W 0 (fun _ => true) true fuel 25 cs = some x)
    (hlt : ∀ q ∈ x.2, q.block < W.heap.size) (hw : ∀ z ∈ DataW.weights Try.prog 25 x.1, z ≤ reachBytes) :
    ∃ a cap l, cs = [.slice a l.length cap] ∧ SlE W a cap l ∧ l.length * 48 ≤ 140737488351232 := by
  rcases open_slice Try.underlying25 h with ⟨rfl, rfl⟩ | ⟨a, len, cap, m, nf, D, Pl, rfl, _, hl, hm, hmm, rfl, hx⟩
  · exact ⟨none, 0, [], rfl, ⟨Nat.le_refl _, by decide, fun i hi => absurd hi (Nat.not_lt_zero _), Or.inl rfl⟩, by decide⟩
  · simp only [if_true] at hmm
    subst hmm
    have each : ∀ i, i < m → ∃ e : ByteArray × ByteArray × ByteArray, W.cell? (a.add (i * 3)) = some (.string e.1) ∧ W.cell? ((a.add (i * 3)).add 1) = some (.string e.2.1) ∧ W.cell? ((a.add (i * 3)).add 2) = some (.string e.2.2) ∧ e.1.size ≤ maxLen ∧ e.2.1.size ≤ maxLen ∧ e.2.2.size ≤ maxLen := by
      intro i hi
      obtain ⟨cs', h1, h2⟩ := hx i hi
      rw [Try.cellsLE] at h1
      obtain ⟨e, rfl, s0, s1, s2⟩ := in_entry h2
      have hc := World.cells?_some h1
      have q0 := hc.2.2 0 (by decide)
      have q1 := hc.2.2 1 (by decide)
      have q2 := hc.2.2 2 (by decide)
      exact ⟨(e.ty, e.key, e.id), by simpa [Addr.add] using q0, by simpa using q1, by simpa using q2, s0, s1, s2⟩
    obtain ⟨Y, hY⟩ := choose_lt each
    have hget : ∀ i, i < len → eAt ((List.range len).map fun i => (⟨(Y i).1, (Y i).2.1, (Y i).2.2⟩ : Ent)) i = ⟨(Y i).1, (Y i).2.1, (Y i).2.2⟩ := fun i hi => by
      rw [eAt_get _ _ (by simpa using hi)]; simp
    refine ⟨some a, m, (List.range len).map fun i => ⟨(Y i).1, (Y i).2.1, (Y i).2.2⟩, by simp, ⟨by simpa using hl, hm, fun i hi => ?_, ?_⟩, ?_⟩
    · have hi' : i < len := by simpa using hi
      rw [hget i hi']
      exact (hY i (by omega)).2.2.2
    · by_cases h0 : len = 0
      · exact Or.inl (by simp [h0])
      · right
        obtain ⟨b, off, spot⟩ := a
        have hspot : spot = none := by simpa [Addr.add] using World.cell?_spot (hY 0 (by omega)).1
        subst hspot
        refine ⟨b, off, rfl, hlt (.cell b off) (List.mem_append_left _ (MemPlace.mem_row.2 ⟨0, by rw [Try.cellsLE]; omega, by simp⟩)), fun i hi => ?_, fun i hi => ?_, fun i hi => ?_⟩
        · have hi' : i < len := by simpa using hi
          rw [hget i hi', ← add_plain]; exact (hY i (by omega)).1
        · have hi' : i < len := by simpa using hi
          rw [hget i hi', ← add_plain, ← add_plain]; exact (hY i (by omega)).2.1
        · have hi' : i < len := by simpa using hi
          rw [hget i hi', ← add_plain, ← add_plain]; exact (hY i (by omega)).2.2.1
    · have := hw ((len + (m - len)) * 48) (by simp [DataW.weights, Try.underlying25, Try.bytesLE])
      simp only [reachBytes] at this
      rw [List.length_map, List.length_range]
      omega
end
end Go.Proofs.Ytbpcdpeidhhjdaa
/-
  A laws.Store that came in.
-/
namespace Go.Proofs.Ytbpcdpeidhhjdaa
open Go.ChangeShapes Go.WideShapes Go.ChangeAt Go.RowKit Go.Deep

theorem Try.cellsLGrp : Try.prog.cellsOf 69 = 2 := by kernel_rfl
theorem Try.bytesLGrp : Try.prog.bytesOf 69 = 32 := by kernel_rfl
theorem Try.cellsLGrps : Try.prog.cellsOf 22 = 1 := by kernel_rfl
theorem Try.cellsLEs : Try.prog.cellsOf 25 = 1 := by kernel_rfl
theorem Try.cellsIntT : Try.prog.cellsOf 3 = 1 := by kernel_rfl
theorem Try.cellsLSto : Try.prog.cellsOf 24 = 1 := by kernel_rfl
instance : Inhabited Grp := ⟨⟨0, []⟩⟩

section
variable {H : Type} {enc : TypeId × Value → H} {W : World}

theorem weightsT_mem {P : Program} {e : TypeId} : ∀ {l : List (DataW H)} {d : DataW H}, d ∈ l → ∀ n ∈ d.weights P e, n ∈ DataW.weightsAll P e l
  | [], _, h, _, _ => absurd h List.not_mem_nil
  | x :: r, d, h, n, hn => by
    unfold DataW.weightsAll
    rcases List.mem_cons.1 h with rfl | h
    · exact List.mem_append_left _ hn
    · exact List.mem_append_right _ (weightsT_mem h n hn)

set_option maxRecDepth 100000 in
theorem in_group {fuel : Nat} {cs : List Value} {x : DataW H × List MemPlace} (h : DataW.trod enc Try.prog W 0 (fun _ => true) true fuel 69 cs = some x)
    (hlt : ∀ q ∈ x.2, q.block < W.heap.size) (hw : ∀ z ∈ DataW.weights Try.prog 69 x.1, z ≤ reachBytes) :
    ∃ (g : Grp) (sa : Option Addr) (sc : Nat), cs = [.int .i64 g.par, .slice sa g.sets.length sc] ∧ SlE W sa sc g.sets ∧ g.sets.length * 48 ≤ 140737488351232 := by
  obtain ⟨y0, y1, n, rfl, hl, t0, t1⟩ := trod_struct2 Try.underlying69 h
  rw [Try.cellsLGrp] at hl
  match cs, hl with
  | [c0, c1], _ =>
    simp only [Try.cellsIntT, Try.cellsLEs, List.drop_zero, List.drop_succ_cons, List.take_succ_cons, List.take_zero] at t0 t1
    have hwe : ∀ (j : Nat) (t : TypeId) (d : DataW H), [3, 25][j]? = some t → [y0.1, y1.1][j]? = some d → ∀ z ∈ d.weights Try.prog t, z ≤ reachBytes := by
      intro j t d ht hd z hz
      refine hw z ?_
      simp only [DataW.weights, Try.underlying69, List.map_cons, List.map_nil]
      exact DataW.weights_mem_each ht hd z hz
    obtain ⟨z, e0, _, _⟩ := DataW.trod_int Try.underlying3 t0
    obtain ⟨sa, sc, l, e1, hs, r1⟩ := in_entries t1 (fun q hq => hlt q (List.mem_append_right _ hq)) (hwe 1 _ _ rfl rfl)
    simp only [List.cons.injEq, and_true] at e0 e1
    subst e0 e1
    exact ⟨⟨z, l⟩, sa, sc, rfl, hs, r1⟩

set_option maxRecDepth 100000 in
theorem in_groups {fuel : Nat} {cs : List Value} {x : DataW H × List MemPlace} (h : DataW.trod enc Try.prog W 0 (fun _ => true) true fuel 22 cs = some x)
    (hlt : ∀ q ∈ x.2, q.block < W.heap.size) (hw : ∀ z ∈ DataW.weights Try.prog 22 x.1, z ≤ reachBytes) :
    ∃ a n cap G, cs = [.slice a n cap] ∧ SlT W a n cap G ∧ n * 32 ≤ 140737488351232 ∧ ∀ i, i < n → (G i).sets.length * 48 ≤ 140737488351232 := by
  rcases open_slice Try.underlying22 h with ⟨rfl, rfl⟩ | ⟨a, len, cap, m, nf, D, Pl, rfl, _, hl, hm, hmm, rfl, hx⟩
  · exact ⟨none, 0, 0, fun _ => default, rfl, ⟨Nat.le_refl _, by decide, Or.inl rfl⟩, by decide, fun i hi => absurd hi (Nat.not_lt_zero _)⟩
  · simp only [if_true] at hmm
    subst hmm
    have hwt : DataW.weights Try.prog 22 (DataW.slice ((List.range len).map D) ((List.range (m - len)).map fun j => D (len + j))) = (len + (m - len)) * 32 :: (DataW.weightsAll Try.prog 69 ((List.range len).map D) ++ DataW.weightsAll Try.prog 69 ((List.range (m - len)).map fun j => D (len + j))) := by
      simp [DataW.weights, Try.underlying22, Try.bytesLGrp]
    rw [hwt] at hw
    have each : ∀ i, i < len → ∃ g : Grp, (∃ sa sc, W.cells? 0 (a.add (i * 2)) 2 = some [.int .i64 g.par, .slice sa g.sets.length sc] ∧ SlE W sa sc g.sets) ∧ g.sets.length * 48 ≤ 140737488351232 := by
      intro i hi
      obtain ⟨cs', h1, h2⟩ := hx i (by omega)
      rw [Try.cellsLGrp] at h1
      obtain ⟨g, sa, sc, rfl, hs, r⟩ := in_group h2
        (fun q hq => hlt q (List.mem_append_right _ (List.mem_flatMap.2 ⟨i, List.mem_range.2 (by omega), hq⟩)))
        (fun z hz => hw z (List.mem_cons_of_mem _ (List.mem_append_left _ (weightsT_mem (List.mem_map.2 ⟨i, List.mem_range.2 hi, rfl⟩) z hz))))
      exact ⟨g, ⟨sa, sc, h1, hs⟩, r⟩
    obtain ⟨G, hG⟩ := choose_lt each
    refine ⟨some a, len, m, G, rfl, ⟨hl, hm, ?_⟩, ?_, fun i hi => (hG i hi).2⟩
    · by_cases h0 : len = 0
      · exact Or.inl h0
      · right
        obtain ⟨b, off, spot⟩ := a
        have hspot : spot = none := by
          obtain ⟨⟨_, _, hc, _⟩, _⟩ := hG 0 (by omega)
          have q0 := (World.cells?_some hc).2.2 0 (by decide)
          simpa [Addr.add] using World.cell?_spot q0
        subst hspot
        refine ⟨b, off, rfl, hlt (.cell b off) (List.mem_append_left _ (MemPlace.mem_row.2 ⟨0, by rw [Try.cellsLGrp]; omega, by simp⟩)), fun i hi => ?_⟩
        obtain ⟨⟨sa, sc, hc, hs⟩, _⟩ := hG i hi
        rw [add_plain] at hc
        have hq := (World.cells?_some hc).2.2
        refine ⟨sa, sc, ?_, ?_, hs⟩
        · simpa [Addr.add] using hq 0 (by decide)
        · simpa [Addr.add, Nat.add_assoc] using hq 1 (by decide)
    · have := hw ((len + (m - len)) * 32) (List.mem_cons_self ..)
      simp only [reachBytes] at this
      omega

set_option maxRecDepth 100000 in
theorem in_store {fuel : Nat} {cs : List Value} {x : DataW H × List MemPlace} (h : DataW.trod enc Try.prog W 0 (fun _ => true) true fuel 24 cs = some x)
    (hlt : ∀ q ∈ x.2, q.block < W.heap.size) (hw : ∀ z ∈ DataW.weights Try.prog 24 x.1, z ≤ reachBytes) :
    ∃ a n cap G, cs = [.slice a n cap] ∧ SlT W a n cap G ∧ n * 32 ≤ 140737488351232 ∧ ∀ i, i < n → (G i).sets.length * 48 ≤ 140737488351232 := by
  obtain ⟨y0, n, rfl, hl, t0⟩ := trod_struct1 Try.underlying24 h
  rw [Try.cellsLSto] at hl
  match cs, hl with
  | [c0], _ =>
    simp only [Try.cellsLGrps, List.drop_zero, List.take_succ_cons, List.take_zero] at t0
    refine in_groups t0 hlt (fun z hz => hw z ?_)
    simp only [DataW.weights, Try.underlying24, List.map_cons, List.map_nil]
    exact DataW.weights_mem_each (j := 0) rfl rfl z hz
end
end Go.Proofs.Ytbpcdpeidhhjdaa
