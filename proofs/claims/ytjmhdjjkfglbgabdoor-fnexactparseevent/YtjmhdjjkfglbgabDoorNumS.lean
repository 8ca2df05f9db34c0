import Derived.Test.YtjmhdjjkfglbgabDoorCutS
import Derived.Test.YtjmhdjjkfglbgabDoorDecS
import Derived.Test.YtjmhdjjkfglbgabDoorPureA
namespace Go.Proofs.YtjmhdjjkfglbgabDoor
open Go.RowKit

/-- what l1Num answers. -/
def NumR (l : List UInt8) (v : Int) (ok : Bool) : Prop := (∀ z, numV l = some z → v = z ∧ ok = true) ∧ (numV l = none → ok = false)

/-- the digits among the first j bytes. -/
def body (l : List UInt8) (j : Nat) : List UInt8 := if l.head? = some 45 then (l.take j).drop 1 else l.take j
def bodyAll (l : List UInt8) : List UInt8 := if l.head? = some 45 then l.drop 1 else l
theorem body_all (l : List UInt8) : body l l.length = bodyAll l := by unfold body bodyAll; rw [List.take_length]
theorem body_zero (l : List UInt8) : body l 0 = [] := by unfold body; simp
theorem body_one {l : List UInt8} (h : l.head? = some 45) : body l 1 = [] := by
  unfold body; rw [if_pos h]
  cases l with
  | nil => rfl
  | cons a l => simp
theorem body_snoc {l : List UInt8} {j : Nat} (hj : j < l.length) (h : l.head? = some 45 → 0 < j) : body l (j + 1) = body l j ++ [l[j]] := by
  unfold body
  rw [List.take_succ_eq_append_getElem hj]
  split
  · rename_i h45
    rw [List.drop_append_of_le_length (by rw [List.length_take]; have := h h45; omega)]
  · rfl
theorem body_prefix (l : List UInt8) (j : Nat) : ∃ r, bodyAll l = body l j ++ r := by
  unfold body bodyAll
  split
  · exact ⟨(l.drop 1).drop (j - 1), by
      cases j with
      | zero => simp
      | succ j => rw [show (l.take (j + 1)).drop 1 = (l.drop 1).take j by rw [List.drop_take]; simp, Nat.add_sub_cancel, List.take_append_drop]⟩
  · exact ⟨l.drop j, (List.take_append_drop j l).symm⟩
/-- a value: the digits are plain, at most 13, and the text is the decimal. -/
theorem numV_body {l : List UInt8} {z : Int} (h : numV l = some z) : plain (bodyAll l) ∧ (bodyAll l).length ≤ 13 ∧ Lib.itoa z = l ∧ z = (if l.head? = some 45 then -(valL (bodyAll l) : Int) else valL (bodyAll l)) := by
  obtain ⟨h1, h2⟩ := numV_itoa h
  rcases h2 with ⟨h45, hz, hp, hl⟩ | ⟨r, rfl, hz, hp, hl⟩
  · unfold bodyAll; rw [if_neg h45, if_neg h45]; exact ⟨hp, hl, h1, hz⟩
  · have : (45 :: r).head? = some 45 := rfl
    unfold bodyAll; rw [if_pos this, if_pos this]; exact ⟨hp, hl, h1, hz⟩
theorem num_bad {l : List UInt8} {j : Nat} (hj : j < l.length) (hd : dig l[j] = false ∨ (body l j).length = 13) (h : 0 < j ∨ l[j] ≠ 45) : numV l = none := by
  cases hn : numV l with
  | none => rfl
  | some z =>
    exfalso
    obtain ⟨hp, hl, _, _⟩ := numV_body hn
    have h45 : l.head? = some 45 → 0 < j := fun e => by
      rcases Nat.eq_zero_or_pos j with rfl | h'
      · rcases h with h | h
        · exact absurd h (Nat.lt_irrefl _)
        · rw [List.head?_eq_getElem?, List.getElem?_eq_getElem hj] at e
          exact absurd (Option.some.inj e) h
      · exact h'
    obtain ⟨r, hr⟩ := body_prefix l (j + 1)
    rw [body_snoc hj h45] at hr
    rcases hd with hd | hd
    · have := hp.2.1 l[j] (by rw [hr]; simp)
      rw [hd] at this; cases this
    · rw [hr] at hl
      simp only [List.length_append, List.length_cons, List.length_nil] at hl
      omega
theorem num_empty {l : List UInt8} (h : bodyAll l = []) : numV l = none := by
  cases hn : numV l with
  | none => rfl
  | some z => exact absurd h (numV_body hn).1.1
/-- the end of the loop: v is the value with its sign. -/
theorem num_end {l : List UInt8} {v : Int} (hl : (bodyAll l).length ≤ 13) (hv : v = (if l.head? = some 45 then -(valL (bodyAll l) : Int) else valL (bodyAll l))) : NumR l v (decide (Lib.itoa v = l)) := by
  refine ⟨fun z hz => ?_, fun hn => ?_⟩
  · obtain ⟨_, _, h1, h2⟩ := numV_body hz
    have : v = z := by rw [hv, h2]
    subst this
    exact ⟨rfl, by simpa using h1⟩
  · rw [decide_eq_false_iff_not]
    intro he
    by_cases h45 : l.head? = some 45
    · rw [if_pos h45] at hv
      cases l with
      | nil => cases h45
      | cons c r =>
        simp only [List.head?_cons, Option.some.injEq] at h45
        subst h45
        have hb : bodyAll (45 :: r) = r := if_pos (by rfl)
        rw [hb] at hv hl
        rw [numV_neg hl (by rw [← hv]; exact he)] at hn; cases hn
    · rw [if_neg h45] at hv
      have hb : bodyAll l = l := by unfold bodyAll; rw [if_neg h45]
      rw [hb] at hv hl
      rw [numV_pos h45 hl (by rw [← hv]; exact he)] at hn; cases hn

def NumPost (s : ByteArray) (w : World) (e : Ending) (w' : World) : Prop := ∃ v ok, e = .returned (.tuple #[.int .i64 v, .bool ok]) ∧ NumR s.data.toList v ok ∧ Below w.heap.size w w'

set_option maxRecDepth 100000 in
set_option maxHeartbeats 1600000 in
theorem numS_any (s : ByteArray) (w : World) (hs : s.size ≤ 1048576) :
    Calls Tryd.prog 48 #[.string s] w (NumPost s w) := by
  go_enter Tryd.func48, Tryd.ntmps48
  go_wp2_with fail
  go_loopw [4, 5, 6] (fun v d i wr => ∃ j : Nat, j ≤ s.size ∧ i = .int .i64 j ∧ d = .int .i64 ((body s.data.toList j).length : Nat) ∧ v = .int .i64 (valL (body s.data.toList j) : Nat) ∧ Hid ((∀ c ∈ body s.data.toList j, dig c = true) ∧ (body s.data.toList j).length ≤ 13) ∧ wr = w) (fun _ _ i _ => s.size - (intOf i).toNat)
  case atStart => exact ⟨0, Nat.zero_le _, rfl, by rw [body_zero]; rfl, by rw [body_zero]; rfl, by unfold Hid; rw [body_zero]; exact ⟨fun c hc => by (cases hc), by decide⟩, rfl⟩
  case round =>
    obtain ⟨j, hj, rfl, rfl, rfl, hst, rfl⟩ := hrel
    have hv := valL_lt _ hst.out.1
    have hv2 : valL (body s.data.toList j) < 10000000000000 := Nat.lt_of_lt_of_le hv (Nat.pow_le_pow_right (by decide) hst.out.2)
    clear hv
    by_cases hlt : j < s.size
    · have hget : s.data.toList[j]'(by simpa using hlt) = s[j] := rfl
      by_cases hA : (dig s[j] = true ∧ (body s.data.toList j).length < 13)
      · have hz : s.data.toList.head? = some 45 → 0 < j := fun e => by
          rcases Nat.eq_zero_or_pos j with rfl | h'
          · rw [List.head?_eq_getElem?, List.getElem?_eq_getElem (by simpa using hlt), hget] at e
            have e2 := Option.some.inj e
            rw [e2] at hA; exact absurd hA.1 (by decide)
          · exact h'
        have hbn : body s.data.toList (j + 1) = body s.data.toList j ++ [s[j]] := by rw [body_snoc (by simpa using hlt) hz, hget]
        have hd := dig_iff.1 hA.1
        have Hd : Hid (dig s[j] = true) := hA.1
        have hA2 := hA.2
        have Hbn : Hid (body s.data.toList (j + 1) = body s.data.toList j ++ [s[j]]) := hbn
        clear hbn hz hA
        generalize hX : body s.data.toList j = X at *
        obtain ⟨d, hdd⟩ : ∃ d : Nat, s[j].toNat = 48 + d := ⟨s[j].toNat - 48, by omega⟩
        have hd9 : d ≤ 9 := by omega
        have e1 : ((s[j].toNat : Nat) : Int) = 48 + (d : Int) := by omega
        clear hX
        go_wp2
        go_roundw
        case rel =>
          refine ⟨j + 1, hlt, by go_num, ?_, ?_, ?_, trivial⟩
          · rw [Hbn.out, List.length_append]; rfl
          · rw [Hbn.out, valL_snoc, hdd]; congr 1; omega
          · unfold Hid; rw [Hbn.out]
            refine ⟨fun c hc => ?_, by rw [List.length_append, List.length_singleton]; omega⟩
            rcases List.mem_append.1 hc with h | h
            · exact hst.out.1 c h
            · simp only [List.mem_singleton] at h; rw [h]; exact Hd.out
        case measure => simp [intOf]; omega
      · by_cases hC : j = 0 ∧ s[j] = 45
        · obtain ⟨rfl, hc⟩ := hC
          have h45 : s.data.toList.head? = some 45 := by rw [List.head?_eq_getElem?, List.getElem?_eq_getElem (by simpa using hlt), hget, hc]
          have Hb1 : Hid (body s.data.toList 1 = []) := body_one h45
          have hb0 := body_zero s.data.toList
          have e1 : ((s[0].toNat : Nat) : Int) = 45 := by rw [hc]; rfl
          have Hc : Hid (s[0] = 45) := hc
          clear hA hget h45 hc
          rw [hb0] at hv2
          simp only [hb0, valL_nil, List.length_nil]
          clear hb0
          go_wp2
          go_roundw
          case rel =>
            exact ⟨1, hlt, by go_num, by rw [Hb1.out]; rfl, by rw [Hb1.out]; rfl, by unfold Hid; rw [Hb1.out]; exact ⟨fun c hc => by (cases hc), by decide⟩, trivial⟩
          case measure => simp [intOf]; omega
        · have hcase : s[j].toNat < 48 ∨ 57 < s[j].toNat ∨ ((48 ≤ s[j].toNat ∧ s[j].toNat ≤ 57) ∧ (body s.data.toList j).length = 13) := by
            by_cases h1 : s[j].toNat < 48
            · exact Or.inl h1
            by_cases h2 : 57 < s[j].toNat
            · exact Or.inr (Or.inl h2)
            · refine Or.inr (Or.inr ⟨by omega, ?_⟩)
              have := hst.out.2
              have h3 : ¬ (body s.data.toList j).length < 13 := fun h => hA ⟨dig_iff.2 (by omega), h⟩
              omega
          have hpos : 0 < j ∨ s[j] ≠ 45 := by
            rcases Nat.eq_zero_or_pos j with h | h
            · exact Or.inr (fun e => hC ⟨h, e⟩)
            · exact Or.inl h
          have Hbad : Hid (numV s.data.toList = none) := num_bad (by simpa using hlt) (by
            rw [hget]
            rcases hcase with h | h | h
            · left; rw [← Bool.not_eq_true, dig_iff]; omega
            · left; rw [← Bool.not_eq_true, dig_iff]; omega
            · exact Or.inr h.2) (by rw [hget]; exact hpos)
          have hp2 : 0 < j ∨ (j = 0 ∧ ((s[j].toNat : Int) == 45) = false) := by
            rcases Nat.eq_zero_or_pos j with h | h
            · refine Or.inr ⟨h, ?_⟩
              rw [beq_eq_false_iff_ne]
              intro e
              have e2 : s[j].toNat = (45 : UInt8).toNat := by show _ = 45; omega
              exact hC ⟨h, UInt8.toNat_inj.1 e2⟩
            · exact Or.inl h
          clear hA hC hpos hget
          generalize hX : body s.data.toList j = X at *
          clear hX
          have Hfin : Hid (NumR s.data.toList 0 false) := ⟨fun z hz => absurd (Hbad.out.symm.trans hz) (by simp), fun _ => rfl⟩
          rcases hcase with h | h | ⟨⟨h, h'⟩, h''⟩ <;> rcases hp2 with hq | ⟨rfl, hq'⟩
          all_goals
            go_wp2
            go_ret2
            exact ⟨0, false, rfl, Hfin.out, Below.refl _ _⟩
    · have hje : j = s.size := by omega
      subst hje
      have hba : body s.data.toList s.size = bodyAll s.data.toList := body_all s.data.toList
      rw [hba] at hst hv2
      simp only [hba]
      clear hba hj hlt
      have Hd : Hid (∀ (v : Int) (W : World), -100000000000000 ≤ v → v ≤ 100000000000000 → Calls Tryd.prog 38 #[.int .i64 v] W fun e w' => e = .returned (.string (itoaB v)) ∧ Below W.heap.size W w') := fun v W h0 h1 => decS_any v W h0 h1
      have hl13 := hst.out.2
      have Hend : ∀ v : Int, v = (if s.data.toList.head? = some 45 then -(valL (bodyAll s.data.toList) : Int) else valL (bodyAll s.data.toList)) → NumR s.data.toList v (decide (Lib.itoa v = s.data.toList)) := fun v hv => num_end hl13 hv
      have Hemp : (bodyAll s.data.toList).length = 0 → ∀ v, NumR s.data.toList v false := fun h0 v => ⟨fun z hz => absurd ((num_empty (List.eq_nil_of_length_eq_zero h0)).symm.trans hz) (by simp), fun _ => rfl⟩
      have hcmp : ∀ v : Int, ((itoaB v).toList == s.toList) = decide (Lib.itoa v = s.data.toList) := fun v => by
        rw [Bool.eq_iff_iff, beq_iff_eq, decide_eq_true_iff, ByteArray.toList_eq, ByteArray.toList_eq]; rfl
      have Hcmp : Hid (∀ v : Int, ((itoaB v).toList == s.toList) = decide (Lib.itoa v = s.data.toList)) := hcmp
      have HEnd : Hid _ := Hend
      have HEmp : Hid _ := Hemp
      clear Hend Hemp hcmp hst
      generalize hX : bodyAll s.data.toList = X at *
      by_cases h45 : s.data.toList.head? = some 45
      · have hsz : 0 < s.size := by
          cases hl : s.data.toList with
          | nil => rw [hl] at h45; cases h45
          | cons a l => have : s.data.toList.length = l.length + 1 := by rw [hl]; rfl
                        have h2 : s.size = s.data.toList.length := rfl
                        omega
        have e0 : ((s[0].toNat : Nat) : Int) = 45 := by
          have : s.data.toList[0]? = some s[0] := by rw [List.getElem?_eq_getElem (by simpa using hsz)]; rfl
          rw [List.head?_eq_getElem?, this] at h45
          rw [Option.some.inj h45]; rfl
        by_cases h0 : X.length = 0
        · have h0' : ¬ 0 < X.length := by omega
          go_wp2_with fail
          go_ret2
          exact ⟨_, false, rfl, HEmp.out h0 _, Below.refl _ _⟩
        · have h0' : 0 < X.length := by omega
          go_wp2_with fail
          refine (Hd.out _ _ (by omega) (by omega)).mono ?_
          rintro e w1 ⟨rfl, hb1⟩
          have hc1 := Hcmp.out (-(valL X : Int))
          go_wp2
          go_ret2
          exact ⟨_, _, rfl, HEnd.out _ (by rw [if_pos h45]), hb1⟩
      · by_cases hsz : 0 < s.size
        · have e0 : ((s[0].toNat : Nat) : Int) ≠ 45 := fun e => by
            apply h45
            have : s.data.toList[0]? = some s[0] := by rw [List.getElem?_eq_getElem (by simpa using hsz)]; rfl
            rw [List.head?_eq_getElem?, this]
            have e2 : s[0].toNat = (45 : UInt8).toNat := by show _ = 45; omega
            rw [UInt8.toNat_inj.1 e2]
          have e1 : (((s[0].toNat : Nat) : Int) == 45) = false := by rw [beq_eq_false_iff_ne]; exact e0
          by_cases h0 : X.length = 0
          · have h0' : ¬ 0 < X.length := by omega
            go_wp2_with fail
            go_ret2
            exact ⟨_, false, rfl, HEmp.out h0 _, Below.refl _ _⟩
          · have h0' : 0 < X.length := by omega
            go_wp2_with fail
            refine (Hd.out _ _ (by omega) (by omega)).mono ?_
            rintro e w1 ⟨rfl, hb1⟩
            have hc1 := Hcmp.out (valL X : Int)
            go_wp2
            go_ret2
            exact ⟨_, _, rfl, HEnd.out _ (by rw [if_neg h45]), hb1⟩
        · have h0 : X.length = 0 := by
            rw [← hX]
            have : s.data.toList = [] := List.eq_nil_of_length_eq_zero (by have : s.data.toList.length = s.size := rfl
                                                                           omega)
            rw [this]; rfl
          have h0' : ¬ 0 < X.length := by omega
          go_wp2_with fail
          go_ret2
          exact ⟨_, false, rfl, HEmp.out h0 _, Below.refl _ _⟩
end Go.Proofs.YtjmhdjjkfglbgabDoor
