import Derived.Test.YtjmhdjjkfglbgacOpenEv
import Derived.Test.YtjmhdjjkfglbgacToR
namespace Go.Proofs.Ytjmhdjjkfglbgac
open Go.ChangeShapes Go.WideShapes Go.ChangeAt Go.RowKit Go.Deep

theorem Try.bytesEv : Try.prog.bytesOf 90 = 168 := by kernel_rfl
theorem Try.cellsEvs : Try.prog.cellsOf 34 = 1 := by kernel_rfl
theorem Try.cellsRoom : Try.prog.cellsOf 36 = 1 := by kernel_rfl

instance : Inhabited Ev := ⟨⟨ByteArray.empty, ByteArray.empty, ByteArray.empty, ByteArray.empty, ByteArray.empty, false, 0, 0, 0, 0, fun _ => ByteArray.empty, fun _ => ByteArray.empty, fun _ => ByteArray.empty, fun _ => 0⟩⟩

section
variable {H : Type} {enc : TypeId × Value → H} {W : World}

theorem weights_all_mem {P : Program} {e : TypeId} : ∀ {l : List (DataW H)} {d : DataW H}, d ∈ l → ∀ n ∈ d.weights P e, n ∈ DataW.weightsAll P e l
  | [], _, h, _, _ => absurd h List.not_mem_nil
  | x :: r, d, h, n, hn => by
    unfold DataW.weightsAll
    rcases List.mem_cons.1 h with rfl | h
    · exact List.mem_append_left _ hn
    · exact List.mem_append_right _ (weights_all_mem h n hn)

/-- A []laws.Event that came in. -/
theorem in_evs {fuel : Nat} {cs : List Value} {x : DataW H × List MemPlace} (h : DataW.trod enc Try.prog W 0 (fun _ => true) true fuel 34 cs = some x)
    (hlt : ∀ q ∈ x.2, q.block < W.heap.size) (hw : ∀ z ∈ DataW.weights Try.prog 34 x.1, z ≤ reachBytes) :
    ∃ a n cap E, cs = [.slice a n cap] ∧ SlV W a n cap E ∧ n * 168 ≤ 140737488351232 ∧ ∀ i, i < n → EvReach (E i) := by
  rcases open_slice Try.underlying34 h with ⟨rfl, rfl⟩ | ⟨a, len, cap, m, nf, D, Pl, rfl, _, hl, hm, hmm, rfl, hx⟩
  · exact ⟨none, 0, 0, fun _ => default, rfl, ⟨Nat.le_refl _, by decide, Or.inl rfl⟩, by decide, fun i hi => absurd hi (Nat.not_lt_zero _)⟩
  · simp only [if_true] at hmm
    subst hmm
    have hwt : DataW.weights Try.prog 34 (DataW.slice ((List.range len).map D) ((List.range (m - len)).map fun j => D (len + j))) = (len + (m - len)) * 168 :: (DataW.weightsAll Try.prog 90 ((List.range len).map D) ++ DataW.weightsAll Try.prog 90 ((List.range (m - len)).map fun j => D (len + j))) := by
      simp [DataW.weights, Try.underlying34, Try.bytesEv]
    rw [hwt] at hw
    have each : ∀ i, i < len → ∃ e : Ev, (∃ pa cp aa ca ga cg, W.cells? 0 (a.add (i * 10)) 10 = some [.string e.id, .string e.sd, .string e.ty, .bool e.st, .string e.key, .int .i64 e.tm, .slice pa e.np cp, .slice aa e.na ca, .string e.val, .slice ga e.ng cg] ∧ EvOk W e pa cp aa ca ga cg) ∧ EvReach e := by
      intro i hi
      obtain ⟨cs', h1, h2⟩ := hx i (by omega)
      rw [Try.cellsEv] at h1
      obtain ⟨id, sd, ty, key, val, st, tm, pa, np, cp, aa, na, ca, ga, ng, cg, Pv, Av, M, L, hE⟩ := in_event h2
        (fun q hq => hlt q (List.mem_append_right _ (List.mem_flatMap.2 ⟨i, List.mem_range.2 (by omega), hq⟩)))
        (fun z hz => hw z (List.mem_cons_of_mem _ (List.mem_append_left _ (weights_all_mem (List.mem_map.2 ⟨i, List.mem_range.2 hi, rfl⟩) z hz))))
      have heq := hE.eq
      subst heq
      exact ⟨⟨id, sd, ty, key, val, st, tm, np, na, ng, Pv, Av, M, L⟩, ⟨pa, cp, aa, ca, ga, cg, h1, ⟨hE.hid, hE.hsd, hE.hty, hE.hkey, hE.hval, hE.hp, hE.ha, hE.hg⟩⟩, ⟨hE.rp, hE.ra, hE.rg⟩⟩
    obtain ⟨E, hE⟩ := choose_lt each
    refine ⟨some a, len, m, E, rfl, ⟨hl, hm, ?_⟩, ?_, fun i hi => (hE i hi).2⟩
    · by_cases h0 : len = 0
      · exact Or.inl h0
      · right
        obtain ⟨b, off, spot⟩ := a
        have hspot : spot = none := by
          obtain ⟨⟨_, _, _, _, _, _, hc, _⟩, _⟩ := hE 0 (by omega)
          have q0 := (World.cells?_some hc).2.2 0 (by decide)
          simpa [Addr.add] using World.cell?_spot q0
        subst hspot
        refine ⟨b, off, rfl, hlt (.cell b off) (List.mem_append_left _ (MemPlace.mem_row.2 ⟨0, by rw [Try.cellsEv]; omega, by simp⟩)), fun i hi => ?_⟩
        obtain ⟨⟨pa, cp, aa, ca, ga, cg, hc, hok⟩, _⟩ := hE i hi
        rw [add_plain] at hc
        have hq := (World.cells?_some hc).2.2
        refine ⟨pa, cp, aa, ca, ga, cg, ⟨?_, ?_, ?_, ?_, ?_, ?_, ?_, ?_, ?_, ?_⟩, hok⟩
        · simpa [Addr.add] using hq 0 (by decide)
        · simpa [Addr.add, Nat.add_assoc] using hq 1 (by decide)
        · simpa [Addr.add, Nat.add_assoc] using hq 2 (by decide)
        · simpa [Addr.add, Nat.add_assoc] using hq 3 (by decide)
        · simpa [Addr.add, Nat.add_assoc] using hq 4 (by decide)
        · simpa [Addr.add, Nat.add_assoc] using hq 5 (by decide)
        · simpa [Addr.add, Nat.add_assoc] using hq 6 (by decide)
        · simpa [Addr.add, Nat.add_assoc] using hq 7 (by decide)
        · simpa [Addr.add, Nat.add_assoc] using hq 8 (by decide)
        · simpa [Addr.add, Nat.add_assoc] using hq 9 (by decide)
    · have := hw ((len + (m - len)) * 168) (List.mem_cons_self ..)
      simp only [reachBytes] at this
      omega

set_option maxRecDepth 10000 in
/-- A laws.Room that came in. -/
theorem in_room {fuel : Nat} {cs : List Value} {x : DataW H × List MemPlace} (h : DataW.trod enc Try.prog W 0 (fun _ => true) true fuel 36 cs = some x)
    (hlt : ∀ q ∈ x.2, q.block < W.heap.size) (hw : ∀ z ∈ DataW.weights Try.prog 36 x.1, z ≤ reachBytes) :
    ∃ a n cap E, cs = [.slice a n cap] ∧ SlV W a n cap E ∧ n * 168 ≤ 140737488351232 ∧ ∀ i, i < n → EvReach (E i) := by
  obtain ⟨y0, n, rfl, hl, t0⟩ := trod_struct1 Try.underlying36 h
  rw [Try.cellsRoom] at hl
  match cs, hl with
  | [c0], _ =>
    simp only [Try.cellsEvs, List.drop_zero, List.take_succ_cons, List.take_zero] at t0
    refine in_evs t0 hlt (fun z hz => hw z ?_)
    simp only [DataW.weights, Try.underlying36, List.map_cons, List.map_nil]
    exact DataW.weights_mem_each (j := 0) rfl rfl z hz
end
end Go.Proofs.Ytjmhdjjkfglbgac
