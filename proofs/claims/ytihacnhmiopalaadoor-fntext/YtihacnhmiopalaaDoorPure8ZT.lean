import Derived.Test.YtihacnhmiopalaaDoorPure7T
import Derived.Deep.RegionHeld3
import Derived.Test.YtihacnhmiopalaaDoorRmZT
import Derived.Test.YtihacnhmiopalaaDoorOwnGT
import Derived.Deep.DeepCutAuto
import Derived.Deep.CutBlock
namespace Go.Proofs.YtihacnhmiopalaaDoor
def glue (x : List UInt8) : List (List UInt8) -> List (List UInt8)
 | [] => [x]
 | y :: r => (x ++ y) :: r
def cutL (c : UInt8) : List UInt8 -> List (List UInt8)
 | [] => [[]]
 | b :: l => if b = c then [] :: cutL c l else glue [b] (cutL c l)
theorem cutL_ne (c : UInt8) (l : List UInt8) : cutL c l ≠ [] := by
  cases l with
  | nil => simp [cutL]
  | cons b l => unfold cutL; split; · simp
                cases cutL c l <;> simp [glue]
theorem cutL_hit (c : UInt8) (l : List UInt8) : cutL c (c :: l) = [] :: cutL c l := by rw [cutL, if_pos rfl]
theorem cutL_miss {b c : UInt8} (l : List UInt8) (h : b ≠ c) : cutL c (b :: l) = glue [b] (cutL c l) := by rw [cutL, if_neg h]
theorem cutL_len (c : UInt8) (l : List UInt8) : (cutL c l).length <= l.length + 1 := by
 induction l with
 | nil => simp [cutL]
 | cons b l ih =>
  unfold cutL; split
  ·simp only [List.length_cons]; omega
  ·cases h : cutL c l with
   | nil => simp [glue]
   | cons y r => rw [h] at ih; simp only [glue, List.length_cons] at ih ⊢; omega
theorem glue_head (x : List UInt8) (L : List (List UInt8)) : ∀ y ∈ glue x L, y ∈ L ∨ ∃ z, y = x ++ z ∧ (z ∈ L ∨ z = []) := by
 intro y hy
 cases L with
 | nil => simp only [glue, List.mem_singleton] at hy; exact Or.inr ⟨[], by simp [hy], Or.inr rfl⟩
 | cons a r =>
  simp only [glue, List.mem_cons] at hy
  rcases hy with h | h
  ·exact Or.inr ⟨a, h, Or.inl (by simp)⟩
  ·exact Or.inl (by simp [h])
theorem cutL_size (c : UInt8) (l : List UInt8) : ∀ y ∈ cutL c l, y.length <= l.length := by
 induction l with
 | nil => intro y hy; simp [cutL] at hy; simp [hy]
 | cons b l ih =>
  intro y hy
  unfold cutL at hy; split at hy
  ·rcases List.mem_cons.1 hy with h | h
   ·subst h; simp
   ·have := ih y h; simp only [List.length_cons]; omega
  ·rcases glue_head _ _ y hy with h | ⟨z, rfl, h | h⟩
   ·have := ih y h; simp only [List.length_cons]; omega
   ·have := ih z h; simp only [List.length_append, List.length_cons, List.length_nil]; omega
   ·subst h; simp
theorem cutL_one {c : UInt8} {l : List UInt8} (h : c ∉ l) : cutL c l = [l] := by
 induction l with
 | nil => rfl
 | cons b l ih =>
  rw [cutL_miss _ (fun e => h (by simp [e])), ih (fun e => h (by simp [e]))]; rfl
theorem cutL_first {c : UInt8} {x y : List UInt8} (h : c ∉ x) : cutL c (x ++ c :: y) = x :: cutL c y := by
 induction x with
 | nil => exact cutL_hit c y
 | cons b x ih =>
  rw [List.cons_append, cutL_miss _ (fun e => h (by simp [e])), ih (fun e => h (by simp [e]))]; rfl
theorem cutL_count (c : UInt8) (l : List UInt8) : (cutL c l).length = l.count c + 1 := by
 induction l with
 | nil => simp [cutL]
 | cons b l ih =>
  unfold cutL; split
  ·rename_i h; subst h; simp [ih]
  ·rename_i h
   rw [List.count_cons_of_ne (by simpa using h), <- ih]
   cases hc : cutL c l with
   | nil => exact absurd hc (cutL_ne c l)
   | cons y r => simp [glue]
theorem index_one (c : UInt8) : ∀ l : List UInt8, (c ∉ l -> Lib.index l [c] = -1) ∧ (∀ x y, l = x ++ c :: y -> c ∉ x -> Lib.index l [c] = x.length) := by
 intro l
 induction l with
 | nil => exact ⟨fun _ => by simp [Lib.index], fun x y h => by cases x <;> cases h⟩
 | cons b l ih =>
  refine ⟨fun h => ?_, fun x y h hx => ?_⟩
  ·have hb : b ≠ c := fun e => h (by simp [e])
   have hl := ih.1 (fun e => h (by simp [e]))
   simp [Lib.index, hl, List.isPrefixOf, Ne.symm hb]
  ·cases x with
   | nil =>
    simp only [List.nil_append, List.cons.injEq] at h
    obtain ⟨rfl, rfl⟩ := h
    simp [Lib.index, List.isPrefixOf]
   | cons d x =>
    simp only [List.cons_append, List.cons.injEq] at h
    obtain ⟨rfl, rfl⟩ := h
    have hb : b ≠ c := fun e => hx (by simp [e])
    have hl := ih.2 x y rfl (fun e => hx (by simp [e]))
    simp [Lib.index, hl, List.isPrefixOf, Ne.symm hb]
theorem split_first (c : UInt8) (l : List UInt8) : c ∉ l ∨ ∃ x y, l = x ++ c :: y ∧ c ∉ x := by
 induction l with
 | nil => exact Or.inl (by simp)
 | cons b l ih =>
  by_cases hb : b = c
  ·subst hb; exact Or.inr ⟨[], l, rfl, by simp⟩
  ·rcases ih with h | ⟨x, y, rfl, h⟩
   ·exact Or.inl (by simp [Ne.symm hb, h])
   ·exact Or.inr ⟨b :: x, y, rfl, by simp [Ne.symm hb, h]⟩
theorem splitK_cut (c : UInt8) : ∀ (k : Nat) (l : List UInt8), l.count c = k -> Lib.splitK [c] 0 k l = cutL c l := by
 intro k
 induction k with
 | zero =>
  intro l h
  rw [cutL_one (List.count_eq_zero.1 h)]
  rfl
 | succ k ih =>
  intro l h
  rcases split_first c l with hn | ⟨x, y, rfl, hx⟩
  ·rw [List.count_eq_zero.2 hn] at h; cases h
  ·have hi := (index_one c (x ++ c :: y)).2 x y rfl hx
   have hy : y.count c = k := by
    rw [List.count_append, List.count_eq_zero.2 hx, List.count_cons_self] at h; omega
   rw [cutL_first hx, <- ih y hy]
   simp only [Lib.splitK, hi]
   simp
def cutB (c : UInt8) (s : ByteArray) : List ByteArray := (cutL c s.data.toList).map fun l => ⟨l.toArray⟩
def cN (c : UInt8) (s : ByteArray) : Nat := (cutL c s.data.toList).length
def cS (c : UInt8) (s : ByteArray) (i : Nat) : ByteArray := ⟨((cutL c s.data.toList).getD i []).toArray⟩
theorem cutB_get (c : UInt8) (s : ByteArray) (i : Nat) (h : i < cN c s) : (cutB c s)[i]? = some (cS c s i) := by
 have h' : i < (cutL c s.data.toList).length := h
 simp [cutB, cS, List.getElem?_map, List.getElem?_eq_getElem h', List.getD, Option.getD]
theorem cN_le (c : UInt8) (s : ByteArray) : cN c s <= s.size + 1 := cutL_len c s.data.toList
theorem cN_pos (c : UInt8) (s : ByteArray) : 1 <= cN c s := by
 have := cutL_ne c s.data.toList
 unfold cN
 cases h : cutL c s.data.toList with
 | nil => exact absurd h this
 | cons => simp
theorem cS_size (c : UInt8) (s : ByteArray) (i : Nat) (h : i < cN c s) : (cS c s i).size <= s.size := by
 have h' : i < (cutL c s.data.toList).length := h
 have := cutL_size c s.data.toList _ (List.getElem_mem h')
 show (List.toArray _).size <= s.data.toList.length
 rw [List.size_toArray]
 simpa [List.getD, List.getElem?_eq_getElem h'] using this
theorem countB_one (c : UInt8) (s : ByteArray) : Lib.countB s ⟨#[c]⟩ = s.data.toList.count c := Lib.count_one c _
theorem cN_count (c : UInt8) (s : ByteArray) : Lib.countB s ⟨#[c]⟩ + 1 = cN c s := by
 rw [countB_one]; exact (cutL_count c _).symm
theorem ba_ext {a b : ByteArray} (h : a.data.toList = b.data.toList) : a = b := by
 cases a; cases b; simp only at h; rw [Array.toList_inj.1 h]
theorem map_data_inj : ∀ {a b : List ByteArray}, a.map (·.data.toList) = b.map (·.data.toList) -> a = b
 | [], [], _ => rfl
 | [], _ :: _, h => by cases h
 | _ :: _, [], h => by cases h
 | x :: a, y :: b, h => by
  simp only [List.map_cons, List.cons.injEq] at h
  rw [ba_ext h.1, map_data_inj h.2]
theorem splitB_cut (c : UInt8) (s : ByteArray) : Lib.splitB ⟨#[c]⟩ 0 (Lib.countB s ⟨#[c]⟩) s = cutB c s := by
 have h1 : (Lib.splitB ⟨#[c]⟩ 0 (Lib.countB s ⟨#[c]⟩) s).map (·.data.toList) = (cutB c s).map (·.data.toList) := by
  rw [Lib.splitB_data]
  have h2 : (cutB c s).map (·.data.toList) = cutL c s.data.toList := by simp [cutB, Function.comp_def]
  rw [h2]
  exact splitK_cut c _ _ (countB_one c s).symm
 exact map_data_inj h1
end Go.Proofs.YtihacnhmiopalaaDoor
namespace Go.Proofs.YtihacnhmiopalaaDoor
open Go.RowKit
theorem ext_list (s : ByteArray) (i j : Nat) : (s.extract i j).data.toList = (s.data.toList.drop i).take (j - i) := by
 simp [ByteArray.data_extract, List.extract]
def NumR (l : List UInt8) (v : Int) (ok : Bool) : Prop := (∀ z, numV l = some z -> v = z ∧ ok = true) ∧ (numV l = none -> ok = false)
def dashQ (s : ByteArray) : Bool := s.toList == [45]
def rN (s : ByteArray) : Nat := if dashQ s then 0 else cN 44 s
def gMp (s : ByteArray) (i : Nat) : ByteArray := cS 58 (cS 44 s i) 0
noncomputable def gLp (s : ByteArray) (i : Nat) : Int := (numV (cS 58 (cS 44 s i) 1).data.toList).getD 0
noncomputable def gOp (s : ByteArray) (i : Nat) : Bool := decide (cN 58 (cS 44 s i) = 2) && (numV (cS 58 (cS 44 s i) 1).data.toList).isSome
noncomputable def gTp (s : ByteArray) : Nat -> Bool
 | 0 => true
 | n + 1 => gTp s n && gOp s n
theorem gTp_le (s : ByteArray) : ∀ n k, k < n -> gOp s k = false -> gTp s n = false
 | 0, _, h, _ => absurd h (Nat.not_lt_zero _)
 | n + 1, k, h, e => by
  by_cases hk : k = n
  ·subst hk; unfold gTp; rw [e, Bool.and_false]
  ·unfold gTp; rw [gTp_le s n k (by omega) e]; rfl
noncomputable def gAp (s : ByteArray) : Bool := gTp s (cN 44 s)
end Go.Proofs.YtihacnhmiopalaaDoor
