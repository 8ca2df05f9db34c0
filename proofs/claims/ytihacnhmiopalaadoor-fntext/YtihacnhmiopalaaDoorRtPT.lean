import Derived.Test.YtihacnhmiopalaaDoorPeT
namespace Go.Proofs.YtihacnhmiopalaaDoor
open Go.RowKit
theorem app_data (a b : ByteArray) : (a ++ b).data.toList = a.data.toList ++ b.data.toList := by
 rw [ByteArray.data_append, Array.toList_append]
theorem ext_one (s : ByteArray) : (s.extract 1 s.size).data.toList = s.data.toList.tail := by
 have h : s.size = s.data.toList.length := rfl
 rw [ByteArray.data_extract, Array.toList_extract, List.extract_eq_take_drop, h, List.drop_one, List.take_of_length_le (by simp)]
theorem isW_no {s : ByteArray} (h : isW s = true) {c : UInt8} (hc : wbB (c.toNat : Int) = false) : c ∉ s.data.toList := fun hm => by
 unfold isW at h
 rw [Bool.and_eq_true, Bool.and_eq_true] at h
 have := List.all_eq_true.1 h.1.1 (c.toNat : Int) (List.mem_map.2 ⟨c, hm, rfl⟩)
 rw [hc] at this
 cases this
theorem isW_ne {s : ByteArray} (h : isW s = true) : s.data.toList ≠ [] := fun e => by
 unfold isW at h
 rw [Bool.and_eq_true, Bool.and_eq_true] at h
 have h2 : 1 <= s.size := of_decide_eq_true h.1.2
 have h3 : s.size = s.data.toList.length := rfl
 rw [h3, e] at h2
 exact absurd h2 (by decide)
theorem joinB_no {c : UInt8} {S : Nat -> ByteArray} {sep : ByteArray} (hs : c ∉ sep.data.toList) : ∀ n, (∀ i, i < n -> c ∉ (S i).data.toList) -> c ∉ (joinB S sep n).data.toList
 | 0, _ => by unfold joinB; exact fun h => by cases h
 | n + 1, h => by
  have ih := joinB_no hs n (fun i hi => h i (by omega))
  unfold joinB
  split
  ·exact h 0 (by omega)
  ·rw [app_data, app_data]
   simp only [List.mem_append, not_or]
   exact ⟨⟨ih, hs⟩, h n (by omega)⟩
theorem joinB_ne {S : Nat -> ByteArray} {sep : ByteArray} {n : Nat} (hn : 0 < n) (h : ∀ i, i < n -> (S i).data.toList ≠ []) : (joinB S sep n).data.toList ≠ [] := by
 obtain ⟨k, rfl⟩ : ∃ k, n = k + 1 := ⟨n - 1, by omega⟩
 unfold joinB
 split
 ·exact h 0 (by omega)
 ·rw [app_data, app_data]
  intro e
  exact h k (by omega) (List.append_eq_nil_iff.1 e).2
theorem cut_tail {c : UInt8} : ∀ (r : List (List UInt8)) (x : List UInt8), c ∉ x -> (∀ y ∈ r, c ∉ y) -> cutL c (x ++ Lib.joinTail [c] r) = x :: r
 | [], x, hx, _ => by
  have e : x ++ Lib.joinTail [c] [] = x := by simp [Lib.joinTail]
  rw [e]
  exact cutL_one hx
 | y :: r, x, hx, h => by
  have e : x ++ Lib.joinTail [c] (y :: r) = x ++ c :: (y ++ Lib.joinTail [c] r) := by simp [Lib.joinTail]
  rw [e, cutL_first hx, cut_tail r y (h y (by simp)) (fun z hz => h z (by simp [hz]))]
section
variable {c : UInt8} {S : Nat -> ByteArray} {n : Nat} (hn : 0 < n) (h : ∀ i, i < n -> c ∉ (S i).data.toList)
include hn h
theorem cut_joinB : cutL c (joinB S ⟨#[c]⟩ n).data.toList = (List.range n).map fun i => (S i).data.toList := by
 rw [joinB_lib]
 show cutL c (Lib.join ((List.range n).map fun i => (S i).data.toList) [c]) = _
 obtain ⟨k, rfl⟩ : ∃ k, n = k + 1 := ⟨n - 1, by omega⟩
 rw [List.range_succ_eq_map, List.map_cons, Lib.join_cons]
 refine cut_tail _ _ (h 0 (by omega)) (fun y hy => ?_)
 rw [List.map_map, List.mem_map] at hy
 obtain ⟨i, hi, rfl⟩ := hy
 exact h (i + 1) (by have := List.mem_range.1 hi; omega)
theorem cN_join : cN c (joinB S ⟨#[c]⟩ n) = n := by
 unfold cN
 rw [cut_joinB hn h]
 simp
theorem cS_join {i : Nat} (hi : i < n) : cS c (joinB S ⟨#[c]⟩ n) i = S i := by
 unfold cS
 rw [cut_joinB hn h]
 refine ba_ext ?_
 simp [hi]
end
theorem numV_of {z : Int} (h1 : -10000000000000 < z) (h2 : z < 10000000000000) : numV (Lib.itoa z) = some z := by
 by_cases h : 0 <= z
 ·obtain ⟨n, rfl⟩ : ∃ n : Nat, z = n := ⟨z.toNat, by omega⟩
  have e : Lib.itoa (n : Int) = Lib.decDigits n := Lib.itoa_nonneg n
  have hv := dec_val n
  have h3 := numV_pos (l := Lib.decDigits n) (fun hh => by
   have := dec_dig n 45 (List.mem_of_mem_head? hh)
   exact absurd this (by decide)) (dec_len (by omega)) (by rw [hv]; exact e)
  rw [e, h3, hv]
 ·obtain ⟨n, rfl⟩ : ∃ n : Nat, z = -(n : Int) := ⟨(-z).toNat, by omega⟩
  have e : Lib.itoa (-(n : Int)) = 45 :: Lib.decDigits n := Lib.itoa_neg n (by omega)
  have h3 := numV_neg (r := Lib.decDigits n) (dec_len (by omega)) (by rw [dec_val]; exact e)
  rw [e, h3, dec_val]
theorem itoa_no {z : Int} {c : UInt8} (h1 : c ≠ 45) (h2 : dig c = false) : c ∉ (itoaB z).data.toList := fun hm => by
 have hm' : c ∈ Lib.itoa z := hm
 unfold Lib.itoa at hm'
 split at hm'
 ·rcases List.mem_cons.1 hm' with e | e
  ·exact h1 e
  ·rw [dec_dig _ c e] at h2; cases h2
 ·rw [dec_dig _ c hm'] at h2; cases h2
theorem itoa_ne (z : Int) : (itoaB z).data.toList ≠ [] := by
 show Lib.itoa z ≠ []
 unfold Lib.itoa
 split
 ·simp
 ·exact dec_ne _
theorem name_no {s : ByteArray} (h : nameB s = true) {c : UInt8} (hc : wbB (c.toNat : Int) = false) (h1 : c.toNat ≠ 42) (h2 : c.toNat ≠ 35) : c ∉ s.data.toList := by
 unfold nameB bareS at h
 split at h
 ·rename_i hs
  intro hm
  have hx := isW_no h hc
  rw [ext_one] at hx
  unfold starB bts at hs
  cases hd : s.data.toList with
  | nil => rw [hd] at hm; cases hm
  | cons x r =>
   rw [hd] at hm hx hs
   rcases List.mem_cons.1 hm with e | e
   ·subst e
    simp only [List.map_cons, List.head?_cons, Bool.or_eq_true, beq_iff_eq, Option.some.injEq] at hs
    omega
   ·exact hx e
 ·exact isW_no h hc
theorem emp_of {s : ByteArray} (h : s.toList.isEmpty = true) : s = ByteArray.empty := ba_ext (by rw [ByteArray.toList_eq] at h; exact List.isEmpty_iff.1 h)
theorem lit_of {s : ByteArray} {l : List UInt8} (h : (s.toList == l) = true) : s = ⟨l.toArray⟩ := ba_ext (by rw [ByteArray.toList_eq] at h; exact eq_of_beq h)
theorem memB_w {v : ByteArray} (h : memB v = true) : isW v = true := by
 unfold memB at h
 simp only [Bool.or_eq_true] at h
 rcases h with h | h | h | h <;> (rw [lit_of h]; decide)
theorem rulB_w {v : ByteArray} (h : rulB v = true) : isW v = true := by
 unfold rulB at h
 simp only [Bool.or_eq_true] at h
 rcases h with h | h <;> (rw [lit_of h]; decide)
theorem allW_at {S : Nat -> ByteArray} : ∀ {n : Nat}, allW S n = true -> ∀ i, i < n -> isW (S i) = true
 | 0, _, _, hi => absurd hi (Nat.not_lt_zero _)
 | n + 1, h, i, hi => by
  unfold allW at h
  rw [Bool.and_eq_true] at h
  by_cases e : i = n
  ·subst e; exact h.2
  ·exact allW_at h.1 i (by omega)
theorem refs_w {S : Nat -> ByteArray} {n : Nat} {id : ByteArray} (h : refsB S n id = true) : n <= 10 ∧ ∀ i, i < n -> isW (S i) = true := by
 unfold refsB at h
 rw [Bool.and_eq_true, refsTo_eq, Bool.and_eq_true] at h
 exact ⟨of_decide_eq_true h.1, allW_at h.2.1⟩
theorem grTo_name {M : Nat -> ByteArray} {L : Nat -> Int} : ∀ {n : Nat}, grTo M L n = true -> ∀ i, i < n -> nameB (M i) = true
 | 0, _, _, hi => absurd hi (Nat.not_lt_zero _)
 | n + 1, h, i, hi => by
  unfold grTo at h
  rw [Bool.and_eq_true, Bool.and_eq_true] at h
  by_cases e : i = n
  ·subst e; exact h.2.1
  ·exact grTo_name h.1 i (by omega)
theorem hasB_cong {S T : Nat -> ByteArray} {s : ByteArray} : ∀ {n : Nat}, (∀ i, i < n -> S i = T i) -> hasB S n s = hasB T n s
 | 0, _ => rfl
 | n + 1, h => by unfold hasB; rw [hasB_cong (fun i hi => h i (by omega)), h n (by omega)]
theorem refsTo_cong {S T : Nat -> ByteArray} {id : ByteArray} : ∀ {n : Nat}, (∀ i, i < n -> S i = T i) -> refsTo S id n = refsTo T id n
 | 0, _ => rfl
 | n + 1, h => by unfold refsTo; rw [refsTo_cong (fun i hi => h i (by omega)), h n (by omega), hasB_cong (fun i hi => h i (by omega))]
theorem grTo_cong {M M' : Nat -> ByteArray} {L L' : Nat -> Int} : ∀ {n : Nat}, (∀ i, i < n -> M i = M' i ∧ L i = L' i) -> grTo M L n = grTo M' L' n
 | 0, _ => rfl
 | n + 1, h => by
  unfold grTo
  rw [grTo_cong (fun i hi => h i (by omega)), (h n (by omega)).1, (h n (by omega)).2]
  by_cases e : n = 0
  ·subst e; rfl
  ·rw [(h (n - 1) (by omega)).1]
section
variable {id sd ty key val : ByteArray} {st : Bool} {tm : Int} {np na ng : Nat} {Pv Av M Pv' Av' M' : Nat -> ByteArray} {L L' : Nat -> Int}
theorem evCode_cong (h1 : ∀ i, i < np -> Pv i = Pv' i) (h2 : ∀ i, i < na -> Av i = Av' i) (h3 : ∀ i, i < ng -> M i = M' i ∧ L i = L' i) : evCode id sd ty key val st tm np na ng Pv Av M L = evCode id sd ty key val st tm np na ng Pv' Av' M' L' := by
 unfold evCode refsB ctB grB
 rw [refsTo_cong h1, refsTo_cong h2, grTo_cong h3]
theorem code_parts (h : evCode id sd ty key val st tm np na ng Pv Av M L = 0) : (isW id = true ∧ isW sd = true ∧ isW ty = true) ∧ (key.toList.isEmpty = true ∨ (st = true ∧ isW key = true)) ∧ (0 <= tm ∧ tm <= 1000000000000) ∧ (refsB Pv np id = true ∧ refsB Av na id = true) ∧ ctB ty key val st np na ng M L = true := by
 unfold evCode at h
 split at h
 ·exact absurd h (by decide)
 rename_i h1
 split at h
 ·exact absurd h (by decide)
 rename_i h2
 split at h
 ·exact absurd h (by decide)
 rename_i h3
 split at h
 ·exact absurd h (by decide)
 rename_i h4
 split at h
 ·exact absurd h (by decide)
 rename_i h5
 simp only [not_or, Bool.not_eq_false] at h1 h4 h5
 refine ⟨h1, ?_, by omega, h4, h5⟩
 cases hk : key.toList.isEmpty
 ·right
  cases hs : st
  ·exact absurd ⟨hk, Or.inl hs⟩ h2
  ·cases hw : isW key
   ·exact absurd ⟨hk, Or.inr hw⟩ h2
   ·exact ⟨rfl, rfl⟩
 ·exact Or.inl rfl
theorem ct_parts (h : ctB ty key val st np na ng M L = true) : (val.toList.isEmpty = true ∨ isW val = true) ∧ (ng = 0 ∨ (val.toList.isEmpty = true ∧ grB M L ng = true)) := by
 unfold ctB at h
 split at h
 ·simp only [Bool.and_eq_true, beq_iff_eq] at h
  exact ⟨Or.inl h.2, Or.inl h.1.1.1.2⟩
 split at h
 ·simp only [Bool.and_eq_true, beq_iff_eq] at h
  exact ⟨Or.inr (memB_w h.2), Or.inl h.1.2⟩
 split at h
 ·simp only [Bool.and_eq_true, beq_iff_eq] at h
  exact ⟨Or.inr (rulB_w h.2), Or.inl h.1.2⟩
 split at h
 ·simp only [Bool.and_eq_true] at h
  exact ⟨Or.inl h.1.2, Or.inr ⟨h.1.2, h.2⟩⟩
 ·simp only [Bool.and_eq_true, Bool.or_eq_true, beq_iff_eq] at h
  exact ⟨h.2, Or.inl h.1⟩
end
theorem dash_no {s : ByteArray} (h : (45 : UInt8) ∉ s.data.toList) : dashQ s = false := by
 unfold dashQ
 rw [ByteArray.toList_eq]
 cases hb : (s.data.toList == [45])
 ·rfl
 ·rw [eq_of_beq hb] at h
  exact absurd (List.mem_singleton.2 rfl) h
theorem dash_yes : dashQ dashB = true := by
 unfold dashQ
 rw [ByteArray.toList_eq]
 decide
theorem refs_back {S : Nat -> ByteArray} {n : Nat} (h : ∀ i, i < n -> isW (S i) = true) : rN (refsT S n) = n ∧ ∀ i, i < n -> cS 44 (refsT S n) i = S i := by
 unfold refsT
 by_cases h0 : n = 0
 ·subst h0
  rw [if_pos rfl]
  unfold rN
  rw [dash_yes]
  exact ⟨rfl, fun i hi => absurd hi (Nat.not_lt_zero _)⟩
 ·rw [if_neg h0]
  have h1 : ∀ i, i < n -> (44 : UInt8) ∉ (S i).data.toList := fun i hi => isW_no (h i hi) (by decide)
  unfold rN
  rw [dash_no (joinB_no (by decide) n (fun i hi => isW_no (h i hi) (by decide)))]
  exact ⟨cN_join (by omega) h1, fun i hi => cS_join (by omega) h1 hi⟩
theorem refs_no {S : Nat -> ByteArray} {n : Nat} (h : ∀ i, i < n -> isW (S i) = true) : (32 : UInt8) ∉ (refsT S n).data.toList ∧ (refsT S n).data.toList ≠ [] := by
 unfold refsT
 by_cases h0 : n = 0
 ·rw [if_pos h0]; exact ⟨by decide, by decide⟩
 ·rw [if_neg h0]
  exact ⟨joinB_no (by decide) n (fun i hi => isW_no (h i hi) (by decide)), joinB_ne (by omega) (fun i hi => isW_ne (h i hi))⟩
section
variable {M : Nat -> ByteArray} {L : Nat -> Int} {i : Nat} (h : nameB (M i) = true)
include h
theorem gr_no {c : UInt8} (hc : wbB (c.toNat : Int) = false) (h1 : c.toNat ≠ 42) (h2 : c.toNat ≠ 35) (h3 : c ≠ 45) (h4 : c ≠ 58) (h5 : dig c = false) : c ∉ (grT M L i).data.toList := by
 unfold grT
 rw [app_data, app_data]
 simp only [List.mem_append, not_or]
 exact ⟨⟨name_no h hc h1 h2, fun q => h4 (List.mem_singleton.1 q)⟩, itoa_no h3 h5⟩
theorem gr_cut : cutL 58 (grT M L i).data.toList = [(M i).data.toList, (itoaB (L i)).data.toList] := by
 unfold grT
 rw [app_data, app_data]
 have e : (M i).data.toList ++ (⟨#[58]⟩ : ByteArray).data.toList ++ (itoaB (L i)).data.toList = (M i).data.toList ++ 58 :: (itoaB (L i)).data.toList := by simp
 rw [e, cutL_first (name_no h (by decide) (by decide) (by decide)), cutL_one (itoa_no (by decide) (by decide))]
end
theorem val_back {val : ByteArray} {M : Nat -> ByteArray} {L : Nat -> Int} {ng : Nat} (h1 : val.toList.isEmpty = true ∨ isW val = true) (h2 : ng = 0 ∨ (val.toList.isEmpty = true ∧ grB M L ng = true)) :
  (32 : UInt8) ∉ (valT val M L ng).data.toList ∧ (valT val M L ng).data.toList ≠ [] ∧ (decide (1 < cN 58 (valT val M L ng)) = decide (0 < ng)) ∧ (ng = 0 -> (if dashQ (valT val M L ng) then ByteArray.empty else valT val M L ng) = val) ∧
   (0 < ng -> val = ByteArray.empty ∧ cN 44 (valT val M L ng) = ng ∧ gAp (valT val M L ng) = true ∧ ∀ i, i < ng -> gMp (valT val M L ng) i = M i ∧ gLp (valT val M L ng) i = L i) := by
 unfold valT
 by_cases h0 : ng = 0
 ·subst h0
  rw [if_pos rfl]
  have hc58 : ∀ s : ByteArray, (58 : UInt8) ∉ s.data.toList -> decide (1 < cN 58 s) = decide (0 < 0) := fun s hs => by
   unfold cN
   rw [cutL_one hs]
   rfl
  cases he : val.toList.isEmpty
  ·have hw : isW val = true := h1.resolve_left (by rw [he]; decide)
   refine ⟨isW_no hw (by decide), isW_ne hw, hc58 _ (isW_no hw (by decide)), fun _ => ?_, fun h => absurd h (Nat.lt_irrefl _)⟩
   simp only [if_neg (show ¬ (false = true) by decide)]
   rw [dash_no (isW_no hw (by decide))]
   rfl
  ·rw [if_pos rfl]
   refine ⟨by decide, by decide, hc58 _ (by decide), fun _ => ?_, fun h => absurd h (Nat.lt_irrefl _)⟩
   rw [dash_yes, emp_of he]
   rfl
 ·rw [if_neg h0]
  obtain ⟨he, hg⟩ := h2.resolve_left h0
  have hg' : grTo M L ng = true := by unfold grB at hg; rw [Bool.and_eq_true] at hg; exact hg.1
  have hnm := grTo_name hg'
  have hbd := grTo_size M L ng hg'
  have h44 : ∀ i, i < ng -> (44 : UInt8) ∉ (grT M L i).data.toList := fun i hi => gr_no (hnm i hi) (by decide) (by decide) (by decide) (by decide) (by decide) (by decide)
  have hN := cN_join (S := grT M L) (Nat.pos_of_ne_zero h0) h44
  have hS : ∀ i, i < ng -> cS 44 (joinB (grT M L) ⟨#[44]⟩ ng) i = grT M L i := fun i hi => cS_join (Nat.pos_of_ne_zero h0) h44 hi
  refine ⟨joinB_no (by decide) ng (fun i hi => gr_no (hnm i hi) (by decide) (by decide) (by decide) (by decide) (by decide) (by decide)), joinB_ne (Nat.pos_of_ne_zero h0) (fun i hi => ?_), ?_, fun h => absurd h h0, fun _ => ⟨emp_of he, hN, ?_, fun i hi => ?_⟩⟩
  ·unfold grT
   rw [app_data]
   exact fun q => itoa_ne _ (List.append_eq_nil_iff.1 q).2
  ·rw [decide_eq_true (Nat.pos_of_ne_zero h0)]
   refine decide_eq_true ?_
   unfold cN
   rw [cutL_count]
   have : (58 : UInt8) ∈ (joinB (grT M L) ⟨#[44]⟩ ng).data.toList := by
    by_cases q : (58 : UInt8) ∈ (joinB (grT M L) ⟨#[44]⟩ ng).data.toList
    ·exact q
    ·exfalso
     have hk : (58 : UInt8) ∈ (grT M L (ng - 1)).data.toList := by
      unfold grT
      rw [app_data, app_data]
      simp
     apply q
     obtain ⟨k, rfl⟩ : ∃ k, ng = k + 1 := ⟨ng - 1, by omega⟩
     unfold joinB
     split
     ·rename_i e; subst e; exact hk
     ·rw [app_data]; exact List.mem_append_right _ hk
   have := List.count_pos_iff.2 this
   omega
  ·unfold gAp
   rw [hN]
   have key : ∀ k, k <= ng -> gTp (joinB (grT M L) ⟨#[44]⟩ ng) k = true := fun k => by
    induction k with
    | zero => exact fun _ => rfl
    | succ k ih =>
     intro hk
     unfold gTp
     rw [ih (by omega)]
     unfold gOp
     rw [hS k (by omega)]
     have e1 : cN 58 (grT M L k) = 2 := by unfold cN; rw [gr_cut (hnm k (by omega))]; rfl
     have e2 : (cS 58 (grT M L k) 1).data.toList = Lib.itoa (L k) := by unfold cS; rw [gr_cut (hnm k (by omega))]; rfl
     have := hbd k (by omega)
     rw [e1, e2, numV_of (by omega) (by omega)]
     rfl
   exact key ng (Nat.le_refl _)
  ·have := hbd i hi
   unfold gMp gLp
   rw [hS i hi]
   constructor
   ·unfold cS
    rw [gr_cut (hnm i hi)]
    exact ba_ext rfl
   ·have e2 : (cS 58 (grT M L i) 1).data.toList = Lib.itoa (L i) := by unfold cS; rw [gr_cut (hnm i hi)]; rfl
    rw [e2, numV_of (by omega) (by omega)]
    rfl
theorem hasB_no {S : Nat -> ByteArray} : ∀ {n : Nat}, (∀ i, i < n -> (S i).data.toList ≠ []) -> hasB S n ByteArray.empty = false
 | 0, _ => rfl
 | n + 1, h => by
  unfold hasB
  rw [hasB_no (fun i hi => h i (by omega)), ByteArray.toList_eq, ByteArray.toList_eq]
  cases hb : ((S n).data.toList == ByteArray.empty.data.toList)
  ·rfl
  ·exact absurd (eq_of_beq hb) (h n (by omega))
section
variable {id sd ty key val : ByteArray} {st : Bool} {tm : Int} {np na ng : Nat} {Pv Av M : Nat -> ByteArray} {L : Nat -> Int}
structure Back (id sd ty key val : ByteArray) (st : Bool) (tm : Int) (np na ng : Nat) (Pv Av M : Nat -> ByteArray) (L : Nat -> Int) (l : ByteArray) : Prop where
 code : peCode l = 0
 i : cS 32 l 0 = id
 s : cS 32 l 1 = sd
 t : cS 32 l 2 = ty
 k : peKey l = key
 v : peVal l = val
 bst : peSt l = st
 btm : peTime l = tm
 bnp : rN (cS 32 l 5) = np
 bna : rN (cS 32 l 6) = na
 bng : peN l = ng
 p : ∀ i, i < np -> cS 44 (cS 32 l 5) i = Pv i
 a : ∀ i, i < na -> cS 44 (cS 32 l 6) i = Av i
 g : ∀ i, i < ng -> gMp (cS 32 l 7) i = M i ∧ gLp (cS 32 l 7) i = L i
theorem text_back (h : evCode id sd ty key val st tm np na ng Pv Av M L = 0) : Back id sd ty key val st tm np na ng Pv Av M L (evText id sd ty key val st tm np na ng Pv Av M L) := by
 obtain ⟨⟨w1, w2, w3⟩, hk, ht, ⟨hp, ha⟩, hct⟩ := code_parts h
 obtain ⟨hv1, hv2⟩ := ct_parts hct
 obtain ⟨v1, v2, v3, v4, v5⟩ := val_back hv1 hv2
 have hp1 := (refs_w hp).2
 have ha1 := (refs_w ha).2
 obtain ⟨p1, p2⟩ := refs_back hp1
 obtain ⟨a1, a2⟩ := refs_back ha1
 have hky : (32 : UInt8) ∉ (keyT st key).data.toList ∧ (keyT st key).data.toList ≠ [] := by
  unfold keyT
  cases hst : st
  ·rw [if_neg (by decide)]; exact ⟨by decide, by decide⟩
  ·rw [if_pos rfl, app_data]
   refine ⟨?_, by simp⟩
   simp only [List.mem_append, not_or]
   refine ⟨by decide, ?_⟩
   rcases hk with hk | hk
   ·rw [emp_of hk]; decide
   ·exact isW_no hk.2 (by decide)
 obtain ⟨E, hE⟩ : ∃ E, E = eight id sd ty (keyT st key) (itoaB tm) (refsT Pv np) (refsT Av na) (valT val M L ng) := ⟨_, rfl⟩
 have hEp : ∀ i, i < 8 -> (32 : UInt8) ∉ (E i).data.toList ∧ (E i).data.toList ≠ [] := fun i hi => by
  rw [hE]
  match i, hi with
  | 0, _ => exact ⟨isW_no w1 (by decide), isW_ne w1⟩
  | 1, _ => exact ⟨isW_no w2 (by decide), isW_ne w2⟩
  | 2, _ => exact ⟨isW_no w3 (by decide), isW_ne w3⟩
  | 3, _ => exact hky
  | 4, _ => exact ⟨itoa_no (by decide) (by decide), itoa_ne _⟩
  | 5, _ => exact refs_no hp1
  | 6, _ => exact refs_no ha1
  | 7, _ => exact ⟨v1, v2⟩
 obtain ⟨l, hl⟩ : ∃ l, l = evText id sd ty key val st tm np na ng Pv Av M L := ⟨_, rfl⟩
 have hl2 : l = joinB E ⟨#[32]⟩ 8 := by rw [hl, hE]; rfl
 have hN : cN 32 l = 8 := by rw [hl2]; exact cN_join (by decide) (fun i hi => (hEp i hi).1)
 have hS : ∀ i, i < 8 -> cS 32 l i = E i := fun i hi => by rw [hl2]; exact cS_join (by decide) (fun i hi => (hEp i hi).1) hi
 have e0 : cS 32 l 0 = id := by rw [hS 0 (by decide), hE]; rfl
 have e1 : cS 32 l 1 = sd := by rw [hS 1 (by decide), hE]; rfl
 have e2 : cS 32 l 2 = ty := by rw [hS 2 (by decide), hE]; rfl
 have e3 : cS 32 l 3 = keyT st key := by rw [hS 3 (by decide), hE]; rfl
 have e4 : cS 32 l 4 = itoaB tm := by rw [hS 4 (by decide), hE]; rfl
 have e5 : cS 32 l 5 = refsT Pv np := by rw [hS 5 (by decide), hE]; rfl
 have e6 : cS 32 l 6 = refsT Av na := by rw [hS 6 (by decide), hE]; rfl
 have e7 : cS 32 l 7 = valT val M L ng := by rw [hS 7 (by decide), hE]; rfl
 have hst : peSt l = st := by
  unfold peSt
  rw [e3]
  unfold keyT
  cases st
  ·rfl
  ·rw [if_pos rfl, app_data]; rfl
 have hkey : peKey l = key := by
  unfold peKey
  rw [hst, e3]
  cases hs : st
  ·rw [hs] at hk
   rw [emp_of (hk.resolve_right (fun q => by cases q.1))]
   rfl
  ·rw [if_pos rfl]
   refine ba_ext ?_
   rw [ext_one]
   unfold keyT
   rw [if_pos rfl, app_data]
   rfl
 have htm : peTm l = some tm := by
  unfold peTm
  rw [e4]
  have : (itoaB tm).data.toList = Lib.itoa tm := rfl
  rw [this, numV_of (by omega) (by omega)]
  show (if tm < 0 then none else some tm) = some tm
  rw [if_neg (by omega)]
 have htime : peTime l = tm := by unfold peTime; rw [htm]; rfl
 have hgr : peGr l = decide (0 < ng) := by unfold peGr; rw [e7]; exact v3
 have hpn : peN l = ng := by
  unfold peN
  rw [hgr, e7]
  by_cases h0 : 0 < ng
  ·rw [decide_eq_true h0, if_pos rfl]; exact (v5 h0).2.1
  ·rw [decide_eq_false h0, if_neg (by decide)]; omega
 have hval : peVal l = val := by
  unfold peVal
  rw [hgr, e7]
  by_cases h0 : 0 < ng
  ·rw [decide_eq_true h0, Bool.true_or, if_pos rfl]; exact (v5 h0).1.symm
  ·rw [decide_eq_false h0, Bool.false_or]; exact v4 (by omega)
 have hgg : ∀ i, i < ng -> gMp (cS 32 l 7) i = M i ∧ gLp (cS 32 l 7) i = L i := fun i hi => by rw [e7]; exact (v5 (by omega)).2.2.2 i hi
 have hform : peForm l = true := by
  unfold peForm peHead
  rw [hN, hasB_no (fun i hi => by rw [hS i hi]; exact (hEp i hi).2), htm, hgr, hst, e3, e7]
  have h1 : (st || dashQ (keyT st key)) = true := by
   cases st
   ·exact dash_yes
   ·rfl
  have h2 : (!decide (0 < ng) || gAp (valT val M L ng)) = true := by
   by_cases h0 : 0 < ng
   ·rw [(v5 h0).2.2.1, Bool.or_true]
   ·rw [decide_eq_false h0]; rfl
  rw [h1, h2]
  rfl
 have hev : peEv l = 0 := by
  unfold peEv
  rw [e0, e1, e2, hkey, hval, hst, htime, e5, e6, p1, a1, hpn, <- h]
  exact evCode_cong (fun i hi => p2 i hi) (fun i hi => a2 i hi) (fun i hi => hgg i hi)
 rw [<- hl]
 exact ⟨by unfold peCode; rw [hform, if_pos rfl, hev, if_pos rfl], e0, e1, e2, hkey, hval, hst, htime, by rw [e5]; exact p1, by rw [e6]; exact a1, hpn, fun i hi => by rw [e5]; exact p2 i hi, fun i hi => by rw [e6]; exact a2 i hi, hgg⟩
end
end Go.Proofs.YtihacnhmiopalaaDoor
