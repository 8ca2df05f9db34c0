import Derived.Test.YtfjfhnjoghlbfaaGreatSl
import Derived.Test.YtfjfhnjoghlbfaaGreatProg
import Derived.ProofKit
import Derived.SizedLaws
import Derived.Deep.Strs
import Derived.Test.YtfjfhnjoghlbfaaGreatToR
namespace Go.Proofs.YtfjfhnjoghlbfaaGreat
open Go.ChangeShapes Go.WideShapes Go.ChangeAt Go.RowKit Go.Deep

theorem Tryz.cellsStr : Tryz.prog.cellsOf 9 = 1 := by kernel_rfl
theorem Tryz.bytesStr : Tryz.prog.bytesOf 9 = 16 := by kernel_rfl
theorem Tryz.cellsLG : Tryz.prog.cellsOf 113 = 2 := by kernel_rfl
theorem Tryz.bytesLG : Tryz.prog.bytesOf 113 = 24 := by kernel_rfl
theorem Tryz.cellsInt : Tryz.prog.cellsOf 3 = 1 := by kernel_rfl

section
variable {H : Type} {enc : TypeId × Value → H} {W : World}

/-- A []string that came in. -/
theorem in_strs {fuel : Nat} {cs : List Value} {x : DataW H × List MemPlace} (h : DataW.trod enc Tryz.prog W 0 (fun _ => true) true fuel 25 cs = some x)
    (hlt : ∀ q ∈ x.2, q.block < W.heap.size) (hw : ∀ z ∈ DataW.weights Tryz.prog 25 x.1, z ≤ reachBytes) :
    ∃ a n cap S, cs = [.slice a n cap] ∧ SlS W a n cap S ∧ n * 16 ≤ 140737488351232 := by
  rcases open_strs Tryz.underlying25 Tryz.underlying9 Tryz.cellsStr h with ⟨rfl, rfl⟩ | ⟨a, len, cap, m, S, rfl, _, hl, hm, hmm, rfl, hcell⟩
  · exact ⟨none, 0, 0, fun _ => ByteArray.empty, rfl, ⟨Nat.le_refl _, by decide, fun i hi => absurd hi (Nat.not_lt_zero _), Or.inl rfl⟩, by decide⟩
  · simp only [if_true] at hmm
    subst hmm
    refine ⟨some a, len, m, S, rfl, ⟨hl, hm, fun i hi => (hcell i (by omega)).2, ?_⟩, ?_⟩
    · by_cases h0 : len = 0
      · exact Or.inl h0
      · right
        obtain ⟨b, off, spot⟩ := a
        have hspot : spot = none := by simpa [Addr.add] using World.cell?_spot (hcell 0 (by omega)).1
        subst hspot
        exact ⟨b, off, rfl, hlt (.cell b off) (MemPlace.mem_row.2 ⟨0, by omega, by simp⟩), fun i hi => by rw [← add_plain]; exact (hcell i (by omega)).1⟩
    · have := hw ((len + (m - len)) * 16) (by simp [DataW.weights, Tryz.underlying25, Tryz.bytesStr])
      simp only [reachBytes] at this
      omega

set_option maxRecDepth 10000 in
/-- A []laws.Grant that came in. -/
theorem in_grants {fuel : Nat} {cs : List Value} {x : DataW H × List MemPlace} (h : DataW.trod enc Tryz.prog W 0 (fun _ => true) true fuel 62 cs = some x)
    (hlt : ∀ q ∈ x.2, q.block < W.heap.size) (hw : ∀ z ∈ DataW.weights Tryz.prog 62 x.1, z ≤ reachBytes) :
    ∃ a n cap M L, cs = [.slice a n cap] ∧ SlG W a n cap M L ∧ n * 24 ≤ 140737488351232 := by
  rcases open_slice Tryz.underlying62 h with ⟨rfl, rfl⟩ | ⟨a, len, cap, m, nf, D, Pl, rfl, _, hl, hm, hmm, rfl, hx⟩
  · exact ⟨none, 0, 0, fun _ => ByteArray.empty, fun _ => 0, rfl, ⟨Nat.le_refl _, by decide, fun i hi => absurd hi (Nat.not_lt_zero _), Or.inl rfl⟩, by decide⟩
  · simp only [if_true] at hmm
    subst hmm
    have each : ∀ i, i < m → ∃ y : ByteArray × Int, W.cell? (a.add (i * 2)) = some (.string y.1) ∧ W.cell? ((a.add (i * 2)).add 1) = some (.int .i64 y.2) ∧ y.1.size ≤ maxLen := by
      intro i hi
      obtain ⟨cs', h1, h2⟩ := hx i hi
      rw [Tryz.cellsLG] at h1
      obtain ⟨y0, y1, n', hxx, hlen, t0, t1⟩ := trod_struct2 Tryz.underlying113 h2
      have hc := World.cells?_some h1
      match cs', hc.2.1 with
      | [c0, c1], _ =>
        simp only [Tryz.cellsStr, Tryz.cellsInt, List.drop_zero, List.drop_succ_cons, List.take_succ_cons, List.take_zero] at t0 t1
        obtain ⟨s, e0, _, hs⟩ := DataW.trod_string Tryz.underlying9 t0
        obtain ⟨z, e1, _, _⟩ := DataW.trod_int Tryz.underlying3 t1
        simp only [List.cons.injEq, and_true] at e0 e1
        subst e0 e1
        have q0 := hc.2.2 0 (by decide)
        have q1 := hc.2.2 1 (by decide)
        exact ⟨(s, z), by simpa [Addr.add] using q0, by simpa using q1, hs⟩
    obtain ⟨Y, hY⟩ := choose_lt each
    refine ⟨some a, len, m, fun i => (Y i).1, fun i => (Y i).2, rfl, ⟨hl, hm, fun i hi => (hY i (by omega)).2.2, ?_⟩, ?_⟩
    · by_cases h0 : len = 0
      · exact Or.inl h0
      · right
        obtain ⟨b, off, spot⟩ := a
        have hspot : spot = none := by simpa [Addr.add] using World.cell?_spot (hY 0 (by omega)).1
        subst hspot
        refine ⟨b, off, rfl, hlt (.cell b off) (List.mem_append_left _ (MemPlace.mem_row.2 ⟨0, by rw [Tryz.cellsLG]; omega, by simp⟩)), fun i hi => ?_, fun i hi => ?_⟩
        · rw [← add_plain]; exact (hY i (by omega)).1
        · rw [← add_plain, ← add_plain]; exact (hY i (by omega)).2.1
    · have := hw ((len + (m - len)) * 24) (by simp [DataW.weights, Tryz.underlying62, Tryz.bytesLG])
      simp only [reachBytes] at this
      omega
end
end Go.Proofs.YtfjfhnjoghlbfaaGreat
namespace Go.Proofs.YtfjfhnjoghlbfaaGreat
open Go.ChangeShapes Go.WideShapes Go.ChangeAt Go.RowKit Go.Deep

theorem Tryz.cellsEv : Tryz.prog.cellsOf 64 = 10 := by kernel_rfl
theorem Tryz.cellsBool : Tryz.prog.cellsOf 4 = 1 := by kernel_rfl
theorem Tryz.cellsStrs : Tryz.prog.cellsOf 25 = 1 := by kernel_rfl
theorem Tryz.cellsLGs : Tryz.prog.cellsOf 62 = 1 := by kernel_rfl

section
variable {H : Type} {enc : TypeId × Value → H} {W : World}

/-- what is known of an event that came in. -/
structure EvIn (W : World) (cs : List Value) (id sd ty key val : ByteArray) (st : Bool) (tm : Int) (pa : Option Addr) (np cp : Nat) (aa : Option Addr) (na ca : Nat) (ga : Option Addr) (ng cg : Nat) (Pv Av M : Nat → ByteArray) (L : Nat → Int) : Prop where
  eq : cs = [.string id, .string sd, .string ty, .bool st, .string key, .int .i64 tm, .slice pa np cp, .slice aa na ca, .string val, .slice ga ng cg]
  hid : id.size ≤ maxLen
  hsd : sd.size ≤ maxLen
  hty : ty.size ≤ maxLen
  hkey : key.size ≤ maxLen
  hval : val.size ≤ maxLen
  hp : SlS W pa np cp Pv
  ha : SlS W aa na ca Av
  hg : SlG W ga ng cg M L
  rp : np * 16 ≤ 140737488351232
  ra : na * 16 ≤ 140737488351232
  rg : ng * 24 ≤ 140737488351232

set_option maxRecDepth 10000 in
theorem in_event {fuel : Nat} {cs : List Value} {x : DataW H × List MemPlace} (h : DataW.trod enc Tryz.prog W 0 (fun _ => true) true fuel 64 cs = some x)
    (hlt : ∀ q ∈ x.2, q.block < W.heap.size) (hw : ∀ z ∈ DataW.weights Tryz.prog 64 x.1, z ≤ reachBytes) :
    ∃ id sd ty key val st tm pa np cp aa na ca ga ng cg Pv Av M L, EvIn W cs id sd ty key val st tm pa np cp aa na ca ga ng cg Pv Av M L := by
  obtain ⟨xs, n, _, rfl, hl, hlen, hf⟩ := DataW.trod_struct Tryz.underlying64 h
  rw [Tryz.cellsEv] at hl
  match xs, hlen with
  | [y0, y1, y2, y3, y4, y5, y6, y7, y8, y9], _ =>
    match cs, hl with
    | [c0, c1, c2, c3, c4, c5, c6, c7, c8, c9], _ =>
      have hwe : ∀ (j : Nat) (t : TypeId) (d : DataW H), [9, 9, 9, 4, 9, 3, 25, 25, 9, 62][j]? = some t → [y0.1, y1.1, y2.1, y3.1, y4.1, y5.1, y6.1, y7.1, y8.1, y9.1][j]? = some d → ∀ z ∈ d.weights Tryz.prog t, z ≤ reachBytes := by
        intro j t d ht hd z hz
        refine hw z ?_
        simp only [DataW.weights, Tryz.underlying64, List.map_cons, List.map_nil]
        exact DataW.weights_mem_each ht hd z hz
      have hlt' : ∀ y ∈ [y0, y1, y2, y3, y4, y5, y6, y7, y8, y9], ∀ q ∈ y.2, q.block < W.heap.size := fun y hy q hq => hlt q (List.mem_flatMap.2 ⟨y, hy, hq⟩)
      obtain ⟨id, e0, _, hid⟩ := DataW.trod_string Tryz.underlying9 (by simpa [Tryz.cellsStr] using hf 0 _ rfl : DataW.trod enc Tryz.prog W 0 (fun _ => true) true n 9 [c0] = some y0)
      obtain ⟨sd, e1, _, hsd⟩ := DataW.trod_string Tryz.underlying9 (by simpa [Tryz.cellsStr] using hf 1 _ rfl : DataW.trod enc Tryz.prog W 0 (fun _ => true) true n 9 [c1] = some y1)
      obtain ⟨ty, e2, _, hty⟩ := DataW.trod_string Tryz.underlying9 (by simpa [Tryz.cellsStr] using hf 2 _ rfl : DataW.trod enc Tryz.prog W 0 (fun _ => true) true n 9 [c2] = some y2)
      obtain ⟨st, e3, _⟩ := DataW.trod_bool Tryz.underlying4 (by simpa [Tryz.cellsBool] using hf 3 _ rfl : DataW.trod enc Tryz.prog W 0 (fun _ => true) true n 4 [c3] = some y3)
      obtain ⟨key, e4, _, hkey⟩ := DataW.trod_string Tryz.underlying9 (by simpa [Tryz.cellsStr] using hf 4 _ rfl : DataW.trod enc Tryz.prog W 0 (fun _ => true) true n 9 [c4] = some y4)
      obtain ⟨tm, e5, _, _⟩ := DataW.trod_int Tryz.underlying3 (by simpa [Tryz.cellsInt] using hf 5 _ rfl : DataW.trod enc Tryz.prog W 0 (fun _ => true) true n 3 [c5] = some y5)
      obtain ⟨pa, np, cp, Pv, e6, hp, rp⟩ := in_strs (by simpa [Tryz.cellsStrs] using hf 6 _ rfl : DataW.trod enc Tryz.prog W 0 (fun _ => true) true n 25 [c6] = some y6) (hlt' y6 (by simp)) (hwe 6 _ _ rfl rfl)
      obtain ⟨aa, na, ca, Av, e7, ha, ra⟩ := in_strs (by simpa [Tryz.cellsStrs] using hf 7 _ rfl : DataW.trod enc Tryz.prog W 0 (fun _ => true) true n 25 [c7] = some y7) (hlt' y7 (by simp)) (hwe 7 _ _ rfl rfl)
      obtain ⟨val, e8, _, hval⟩ := DataW.trod_string Tryz.underlying9 (by simpa [Tryz.cellsStr] using hf 8 _ rfl : DataW.trod enc Tryz.prog W 0 (fun _ => true) true n 9 [c8] = some y8)
      obtain ⟨ga, ng, cg, M, L, e9, hg, rg⟩ := in_grants (by simpa [Tryz.cellsLGs] using hf 9 _ rfl : DataW.trod enc Tryz.prog W 0 (fun _ => true) true n 62 [c9] = some y9) (hlt' y9 (by simp)) (hwe 9 _ _ rfl rfl)
      simp only [List.cons.injEq, and_true] at e0 e1 e2 e3 e4 e5 e6 e7 e8 e9
      subst e0 e1 e2 e3 e4 e5 e6 e7 e8 e9
      exact ⟨id, sd, ty, key, val, st, tm, pa, np, cp, aa, na, ca, ga, ng, cg, Pv, Av, M, L, ⟨rfl, hid, hsd, hty, hkey, hval, hp, ha, hg, rp, ra, rg⟩⟩
end
end Go.Proofs.YtfjfhnjoghlbfaaGreat
namespace Go.Proofs.YtfjfhnjoghlbfaaGreat
open Go.ChangeShapes Go.WideShapes Go.ChangeAt Go.RowKit Go.Deep

theorem Tryz.bytesEv : Tryz.prog.bytesOf 64 = 168 := by kernel_rfl
theorem Tryz.cellsEvs : Tryz.prog.cellsOf 22 = 1 := by kernel_rfl
theorem Tryz.cellsRoom : Tryz.prog.cellsOf 24 = 1 := by kernel_rfl

instance : Inhabited Ev := ⟨⟨ByteArray.empty, ByteArray.empty, ByteArray.empty, ByteArray.empty, ByteArray.empty, false, 0, 0, 0, 0, fun _ => ByteArray.empty, fun _ => ByteArray.empty, fun _ => ByteArray.empty, fun _ => 0⟩⟩

section
variable {H : Type} {enc : TypeId × Value → H} {W : World}

theorem weights_all_mem {P : Program} {e : TypeId} : ∀ {l : List (DataW H)} {d : DataW H}, d ∈ l → ∀ n ∈ d.weights P e, n ∈ DataW.weightsAll P e l
  | [], _, h, _, _ => absurd h List.not_mem_nil
  | x :: r, d, h, n, hn => by
    unfold DataW.weightsAll
    rcases List.mem_cons.1 h with rfl | h
    · exact List.mem_append_left _ hn
    · exact List.mem_append_right _ (weights_all_mem h n hn)

/-- A []laws.Event that came in. -/
theorem in_evs {fuel : Nat} {cs : List Value} {x : DataW H × List MemPlace} (h : DataW.trod enc Tryz.prog W 0 (fun _ => true) true fuel 22 cs = some x)
    (hlt : ∀ q ∈ x.2, q.block < W.heap.size) (hw : ∀ z ∈ DataW.weights Tryz.prog 22 x.1, z ≤ reachBytes) :
    ∃ a n cap E, cs = [.slice a n cap] ∧ SlV W a n cap E ∧ n * 168 ≤ 140737488351232 ∧ ∀ i, i < n → EvReach (E i) := by
  rcases open_slice Tryz.underlying22 h with ⟨rfl, rfl⟩ | ⟨a, len, cap, m, nf, D, Pl, rfl, _, hl, hm, hmm, rfl, hx⟩
  · exact ⟨none, 0, 0, fun _ => default, rfl, ⟨Nat.le_refl _, by decide, Or.inl rfl⟩, by decide, fun i hi => absurd hi (Nat.not_lt_zero _)⟩
  · simp only [if_true] at hmm
    subst hmm
    have hwt : DataW.weights Tryz.prog 22 (DataW.slice ((List.range len).map D) ((List.range (m - len)).map fun j => D (len + j))) = (len + (m - len)) * 168 :: (DataW.weightsAll Tryz.prog 64 ((List.range len).map D) ++ DataW.weightsAll Tryz.prog 64 ((List.range (m - len)).map fun j => D (len + j))) := by
      simp [DataW.weights, Tryz.underlying22, Tryz.bytesEv]
    rw [hwt] at hw
    have each : ∀ i, i < len → ∃ e : Ev, (∃ pa cp aa ca ga cg, W.cells? 0 (a.add (i * 10)) 10 = some [.string e.id, .string e.sd, .string e.ty, .bool e.st, .string e.key, .int .i64 e.tm, .slice pa e.np cp, .slice aa e.na ca, .string e.val, .slice ga e.ng cg] ∧ EvOk W e pa cp aa ca ga cg) ∧ EvReach e := by
      intro i hi
      obtain ⟨cs', h1, h2⟩ := hx i (by omega)
      rw [Tryz.cellsEv] at h1
      obtain ⟨id, sd, ty, key, val, st, tm, pa, np, cp, aa, na, ca, ga, ng, cg, Pv, Av, M, L, hE⟩ := in_event h2
        (fun q hq => hlt q (List.mem_append_right _ (List.mem_flatMap.2 ⟨i, List.mem_range.2 (by omega), hq⟩)))
        (fun z hz => hw z (List.mem_cons_of_mem _ (List.mem_append_left _ (weights_all_mem (List.mem_map.2 ⟨i, List.mem_range.2 hi, rfl⟩) z hz))))
      have heq := hE.eq
      subst heq
      exact ⟨⟨id, sd, ty, key, val, st, tm, np, na, ng, Pv, Av, M, L⟩, ⟨pa, cp, aa, ca, ga, cg, h1, ⟨hE.hid, hE.hsd, hE.hty, hE.hkey, hE.hval, hE.hp, hE.ha, hE.hg⟩⟩, ⟨hE.rp, hE.ra, hE.rg⟩⟩
    obtain ⟨E, hE⟩ := choose_lt each
    refine ⟨some a, len, m, E, rfl, ⟨hl, hm, ?_⟩, ?_, fun i hi => (hE i hi).2⟩
    · by_cases h0 : len = 0
      · exact Or.inl h0
      · right
        obtain ⟨b, off, spot⟩ := a
        have hspot : spot = none := by
          obtain ⟨⟨_, _, _, _, _, _, hc, _⟩, _⟩ := hE 0 (by omega)
          have q0 := (World.cells?_some hc).2.2 0 (by decide)
          simpa [Addr.add] using World.cell?_spot q0
        subst hspot
        refine ⟨b, off, rfl, hlt (.cell b off) (List.mem_append_left _ (MemPlace.mem_row.2 ⟨0, by rw [Tryz.cellsEv]; omega, by simp⟩)), fun i hi => ?_⟩
        obtain ⟨⟨pa, cp, aa, ca, ga, cg, hc, hok⟩, _⟩ := hE i hi
        rw [add_plain] at hc
        have hq := (World.cells?_some hc).2.2
        refine ⟨pa, cp, aa, ca, ga, cg, ⟨?_, ?_, ?_, ?_, ?_, ?_, ?_, ?_, ?_, ?_⟩, hok⟩
        · simpa [Addr.add] using hq 0 (by decide)
        · simpa [Addr.add, Nat.add_assoc] using hq 1 (by decide)
        · simpa [Addr.add, Nat.add_assoc] using hq 2 (by decide)
        · simpa [Addr.add, Nat.add_assoc] using hq 3 (by decide)
        · simpa [Addr.add, Nat.add_assoc] using hq 4 (by decide)
        · simpa [Addr.add, Nat.add_assoc] using hq 5 (by decide)
        · simpa [Addr.add, Nat.add_assoc] using hq 6 (by decide)
        · simpa [Addr.add, Nat.add_assoc] using hq 7 (by decide)
        · simpa [Addr.add, Nat.add_assoc] using hq 8 (by decide)
        · simpa [Addr.add, Nat.add_assoc] using hq 9 (by decide)
    · have := hw ((len + (m - len)) * 168) (List.mem_cons_self ..)
      simp only [reachBytes] at this
      omega

set_option maxRecDepth 10000 in
/-- A laws.Room that came in. -/
theorem in_room {fuel : Nat} {cs : List Value} {x : DataW H × List MemPlace} (h : DataW.trod enc Tryz.prog W 0 (fun _ => true) true fuel 24 cs = some x)
    (hlt : ∀ q ∈ x.2, q.block < W.heap.size) (hw : ∀ z ∈ DataW.weights Tryz.prog 24 x.1, z ≤ reachBytes) :
    ∃ a n cap E, cs = [.slice a n cap] ∧ SlV W a n cap E ∧ n * 168 ≤ 140737488351232 ∧ ∀ i, i < n → EvReach (E i) := by
  obtain ⟨y0, n, rfl, hl, t0⟩ := trod_struct1 Tryz.underlying24 h
  rw [Tryz.cellsRoom] at hl
  match cs, hl with
  | [c0], _ =>
    simp only [Tryz.cellsEvs, List.drop_zero, List.take_succ_cons, List.take_zero] at t0
    refine in_evs t0 hlt (fun z hz => hw z ?_)
    simp only [DataW.weights, Tryz.underlying24, List.map_cons, List.map_nil]
    exact DataW.weights_mem_each (j := 0) rfl rfl z hz
end
end Go.Proofs.YtfjfhnjoghlbfaaGreat
