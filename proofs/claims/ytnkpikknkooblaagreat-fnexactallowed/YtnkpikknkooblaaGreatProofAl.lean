import Derived.Test.YtnkpikknkooblaaGreatRows
import Derived.Test.YtnkpikknkooblaaGreatLawAl
import Derived.Test.YtnkpikknkooblaaGreatOpenA
namespace Go.Proofs.YtnkpikknkooblaaGreat
open Go.ChangeShapes Go.WideShapes Go.ChangeAt Go.RowKit

theorem Tryz.own : ownKnob Tryz.prog.godebug = none := by kernel_rfl
theorem Tryz.laidOut : laidOutB Tryz.prog = true := by kernel_rfl

set_option maxRecDepth 100000 in
theorem fnExactAllowed_lifted (os : Os) (started : os.Started) (H : Type) (enc : TypeId × Value → H) :
    ReturnsInHanded {} Tryz.checked os 3 .any (Rows.fnExactAllowedSpec.pre6 enc Tryz.prog Tryz.f3 Rows.fnExactAllowedRow.domain false) (Rows.fnExactAllowedSpec.post enc Tryz.prog Tryz.f3 false true false false) := by
  refine returnsInHanded_of_change_sized (C := Tryz.checked) Tryz.own started (by kernel_rfl) Tryz.func3
    (ChangeSpec.witness6 (enc := enc) (C := Tryz.checked) false ⟨#[], #[.agg #[.slice none 0 0], .slice none 0 0, .agg #[.string ByteArray.empty, .string ByteArray.empty, .string ByteArray.empty, .bool false, .string ByteArray.empty, .int .i64 0, .slice none 0 0, .slice none 0 0, .string ByteArray.empty, .slice none 0 0]], []⟩ 8 (by kernel_rfl) (by kernel_rfl) (by kernel_rfl) (by kernel_rfl)) ?_
  intro W base args ds gs before hval0 hW _ hsz0 _
  have hsz : (DataW.weightsEach Tryz.prog (Tryz.f3.params.toList ++ Rows.fnExactAllowedSpec.plain.varTypes Tryz.prog) (ds ++ gs)).all (· ≤ reachBytes) = true := hsz0
  clear hsz0
  have hval : ∀ (j : Nat) t v, Tryz.f3.params[j]? = some t → args[j]? = some v → Value.okWide Tryz.prog W .any base t v := hval0
  have hW' := hW
  obtain ⟨p, q, hA0, hV, rfl, _, _⟩ := hW
  have hA : DataW.TrodAll enc Tryz.prog W 0 (fun _ => true) true Tryz.f3.params.toList args.toList ds p := hA0
  rw [Tryz.params3] at hA hval hsz
  obtain ⟨v0, v1, v2, d0, d1, d2, p0, p1, p2, rfl, rfl, rfl, h0, h1, h2⟩ := trodAll_three hA
  obtain ⟨rfl, rfl⟩ := trodVars_none hV
  obtain ⟨cs0, rfl, hcs0⟩ := okWide_struct Tryz.underlying24 (hval 0 24 v0 rfl rfl)
  obtain ⟨ya1, yn1, yc1, rfl⟩ := okWide_slice Tryz.underlying25 (hval 1 25 v1 rfl rfl)
  obtain ⟨cs2, rfl, hcs2⟩ := okWide_struct Tryz.underlying29 (hval 2 29 v2 rfl rfl)
  have h0k := h0
  obtain ⟨fuel0, hf0⟩ := h0
  have h1k := h1
  obtain ⟨fuel1, hf1⟩ := h1
  have h2k := h2
  obtain ⟨fuel2, hf2⟩ := h2
  clear hA0 hval0
  simp only [List.append_nil] at hW'
  have hlt0 : ∀ x ∈ p0, x.block < W.heap.size := fun x hx => by have := hW'.lt x (by simp [hx]); simpa using this
  have hlt1 : ∀ x ∈ p1, x.block < W.heap.size := fun x hx => by have := hW'.lt x (by simp [hx]); simpa using this
  have hlt2 : ∀ x ∈ p2, x.block < W.heap.size := fun x hx => by have := hW'.lt x (by simp [hx]); simpa using this
  obtain ⟨a0, n0, c0, E0, heq0, s0, r0, R0⟩ := in_room hf0 hlt0 (fun z hz => by
    have := List.all_eq_true.1 hsz z (DataW.weights_mem_each (j := 0) (t := 24) rfl rfl z hz)
    simpa using this)
  have hagg0 : cs0 = #[.slice a0 n0 c0] := by
    simp only [Value.cells] at heq0
    exact Array.toList_inj.1 heq0
  subst hagg0
  obtain ⟨a1, c1, l1, heq1, s1, r1⟩ := in_entries hf1 hlt1 (fun z hz => by
    have := List.all_eq_true.1 hsz z (DataW.weights_mem_each (j := 1) (t := 25) rfl rfl z hz)
    simpa using this)
  simp only [Value.cells, List.cons.injEq, and_true] at heq1
  injection heq1 with e1 e2 e3
  subst e1 e2 e3
  obtain ⟨id2, sd2, ty2, key2, val2, st2, tm2, pa2, np2, cp2, aa2, na2, ca2, ga2, ng2, cg2, Pv2, Av2, M2, L2, hin2⟩ := in_event hf2 hlt2 (fun z hz => by
    have := List.all_eq_true.1 hsz z (DataW.weights_mem_each (j := 2) (t := 29) rfl rfl z hz)
    simpa using this)
  have hagg2 : cs2 = #[.string id2, .string sd2, .string ty2, .bool st2, .string key2, .int .i64 tm2, .slice pa2 np2 cp2, .slice aa2 na2 ca2, .string val2, .slice ga2 ng2 cg2] := by
    have := hin2.eq
    simp only [Value.cells] at this
    exact Array.toList_inj.1 this
  subst hagg2
  refine (lawAl_any ⟨id2, sd2, ty2, key2, val2, st2, tm2, np2, na2, ng2, Pv2, Av2, M2, L2⟩ W r0 R0 r1 hin2.rp hin2.ra hin2.rg s0 s1 ⟨hin2.hid, hin2.hsd, hin2.hty, hin2.hkey, hin2.hval, hin2.hp, hin2.ha, hin2.hg⟩).mono fun e W' ⟨he, hnx⟩ => ?_
  subst he
  refine ⟨_, rfl, _, _, _, [], p0 ++ p1 ++ p2, [], hW', ?_, ?_, rfl, hnx.frame _, fun h => by cases h⟩
  · exact trodAll_mk1 (shut_bool Tryz.underlying4 true)
  · have := trodAll_mk3 (Below.trod Tryz.laidOut (by kernel_rfl) (of_decide_eq_true (by kernel_rfl)) h0k hnx hlt0) (Below.trod Tryz.laidOut (by kernel_rfl) (of_decide_eq_true (by kernel_rfl)) h1k hnx hlt1) (Below.trod Tryz.laidOut (by kernel_rfl) (of_decide_eq_true (by kernel_rfl)) h2k hnx hlt2)
    try simp only [List.append_nil] at this
    rw [← List.append_assoc] at this
    exact this

theorem fnExactAllowed_holds : Rows.FnExactAllowedSaid :=
  OpenClaim.holds_of_wide 3 Tryz.f3 rfl rfl rfl rfl rfl rfl rfl ⟨rfl, rfl, rfl, rfl, rfl⟩ rfl rfl rfl rfl rfl (by kernel_rfl) Tryz.func3 (by kernel_rfl)
    (of_decide_eq_true (by kernel_rfl)) (by unfold Func.isWrapper; first | (rw [if_pos (by decide +kernel)]; kernel_rfl) | (rw [if_neg (by decide +kernel)]; exact ⟨rfl, rfl⟩))
    (fun os started H enc _ => fnExactAllowed_lifted os started H enc)
#print axioms fnExactAllowed_holds
end Go.Proofs.YtnkpikknkooblaaGreat
