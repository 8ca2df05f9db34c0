import Derived.Test.YtpdnocfefmobjaaRows
import Derived.Test.YtpdnocfefmobjaaLawIn
import Derived.Test.YtpdnocfefmobjaaOpenA
namespace Go.Proofs.Ytpdnocfefmobjaa
open Go.ChangeShapes Go.WideShapes Go.ChangeAt Go.RowKit

theorem Try.own : ownKnob Try.prog.godebug = none := by kernel_rfl
theorem Try.laidOut : laidOutB Try.prog = true := by kernel_rfl

set_option maxRecDepth 100000 in
theorem fnExactInsert_lifted (os : Os) (started : os.Started) (H : Type) (enc : TypeId × Value → H) :
    ReturnsInHanded {} Try.checked os 3 .any (Rows.fnExactInsertSpec.pre6 enc Try.prog Try.f3 Rows.fnExactInsertRow.domain false) (Rows.fnExactInsertSpec.post enc Try.prog Try.f3 false true false false) := by
  refine returnsInHanded_of_change_sized (C := Try.checked) Try.own started (by kernel_rfl) Try.func3
    (ChangeSpec.witness6 (enc := enc) (C := Try.checked) false ⟨#[], #[.agg #[.slice none 0 0], .agg #[.string ByteArray.empty, .string ByteArray.empty, .string ByteArray.empty, .bool false, .string ByteArray.empty, .int .i64 0, .slice none 0 0, .slice none 0 0, .string ByteArray.empty, .slice none 0 0]], []⟩ 8 (by kernel_rfl) (by kernel_rfl) (by kernel_rfl) (by kernel_rfl)) ?_
  intro W base args ds gs before hval0 hW _ hsz0 _
  have hsz : (DataW.weightsEach Try.prog (Try.f3.params.toList ++ Rows.fnExactInsertSpec.plain.varTypes Try.prog) (ds ++ gs)).all (· ≤ reachBytes) = true := hsz0
  clear hsz0
  have hval : ∀ (j : Nat) t v, Try.f3.params[j]? = some t → args[j]? = some v → Value.okWide Try.prog W .any base t v := hval0
  have hW' := hW
  obtain ⟨p, q, hA0, hV, rfl, _, _⟩ := hW
  have hA : DataW.TrodAll enc Try.prog W 0 (fun _ => true) true Try.f3.params.toList args.toList ds p := hA0
  rw [Try.params3] at hA hval hsz
  obtain ⟨v0, v1, d0, d1, p0, p1, rfl, rfl, rfl, h0, h1⟩ := trodAll_two hA
  obtain ⟨rfl, rfl⟩ := trodVars_none hV
  obtain ⟨cs0, rfl, hcs0⟩ := okWide_struct Try.underlying24 (hval 0 24 v0 rfl rfl)
  obtain ⟨cs1, rfl, hcs1⟩ := okWide_struct Try.underlying28 (hval 1 28 v1 rfl rfl)
  have h0k := h0
  obtain ⟨fuel0, hf0⟩ := h0
  have h1k := h1
  obtain ⟨fuel1, hf1⟩ := h1
  clear hA0 hval0
  simp only [List.append_nil] at hW'
  have hlt0 : ∀ x ∈ p0, x.block < W.heap.size := fun x hx => by have := hW'.lt x (List.mem_append_left _ hx); simpa using this
  have hlt1 : ∀ x ∈ p1, x.block < W.heap.size := fun x hx => by have := hW'.lt x (List.mem_append_right _ hx); simpa using this
  obtain ⟨a0, n0, c0, E0, heq0, s0, r0, R0⟩ := in_room hf0 hlt0 (fun z hz => by
    have := List.all_eq_true.1 hsz z (DataW.weights_mem_each (j := 0) (t := 24) rfl rfl z hz)
    simpa using this)
  have hagg0 : cs0 = #[.slice a0 n0 c0] := by
    simp only [Value.cells] at heq0
    exact Array.toList_inj.1 heq0
  subst hagg0
  obtain ⟨id1, sd1, ty1, key1, val1, st1, tm1, pa1, np1, cp1, aa1, na1, ca1, ga1, ng1, cg1, Pv1, Av1, M1, L1, hin1⟩ := in_event hf1 hlt1 (fun z hz => by
    have := List.all_eq_true.1 hsz z (DataW.weights_mem_each (j := 1) (t := 28) rfl rfl z hz)
    simpa using this)
  have hagg1 : cs1 = #[.string id1, .string sd1, .string ty1, .bool st1, .string key1, .int .i64 tm1, .slice pa1 np1 cp1, .slice aa1 na1 ca1, .string val1, .slice ga1 ng1 cg1] := by
    have := hin1.eq
    simp only [Value.cells] at this
    exact Array.toList_inj.1 this
  subst hagg1
  refine (lawIn_any ⟨id1, sd1, ty1, key1, val1, st1, tm1, np1, na1, ng1, Pv1, Av1, M1, L1⟩ W r0 R0 ⟨hin1.rp, hin1.ra, hin1.rg⟩ s0 ⟨hin1.hid, hin1.hsd, hin1.hty, hin1.hkey, hin1.hval, hin1.hp, hin1.ha, hin1.hg⟩).mono fun e W' ⟨he, hnx⟩ => ?_
  subst he
  refine ⟨_, rfl, _, _, _, [], p0 ++ p1, [], hW', ?_, ?_, rfl, hnx.frame _, fun h => by cases h⟩
  · exact trodAll_mk1 (shut_bool Try.underlying4 true)
  · have := trodAll_mk2 (Below.trod Try.laidOut (by kernel_rfl) (of_decide_eq_true (by kernel_rfl)) h0k hnx hlt0) (Below.trod Try.laidOut (by kernel_rfl) (of_decide_eq_true (by kernel_rfl)) h1k hnx hlt1)
    try simp only [List.append_nil] at this
    exact this

theorem fnExactInsert_holds : Rows.FnExactInsertSaid :=
  OpenClaim.holds_of_wide 3 Try.f3 rfl rfl rfl rfl rfl rfl rfl ⟨rfl, rfl, rfl, rfl, rfl⟩ rfl rfl rfl rfl rfl (by kernel_rfl) Try.func3 (by kernel_rfl)
    (of_decide_eq_true (by kernel_rfl)) (by unfold Func.isWrapper; first | (rw [if_pos (by decide +kernel)]; kernel_rfl) | (rw [if_neg (by decide +kernel)]; exact ⟨rfl, rfl⟩))
    (fun os started H enc _ => fnExactInsert_lifted os started H enc)
#print axioms fnExactInsert_holds
end Go.Proofs.Ytpdnocfefmobjaa
