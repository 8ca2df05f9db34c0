import Derived.Test.YtihacnhmiopalaaDoorDigIT
import Derived.Test.YtihacnhmiopalaaDoorPeT
namespace Go.Proofs.YtihacnhmiopalaaDoor
open Go.RowKit
theorem pre_one (c : UInt8) (l : List UInt8) : Lib.hasPrefix l [c] = (l.head? == some c) := by
 cases l with
 | nil => rfl
 | cons b l =>
  rw [Bool.eq_iff_iff]
  simp [Lib.hasPrefix, List.isPrefixOf]
  exact eq_comm
theorem trim_one (c : UInt8) (l : List UInt8) : Lib.trimPrefix l [c] = if l.head? = some c then l.tail else l := by
 unfold Lib.trimPrefix
 rw [pre_one]
 by_cases h : l.head? = some c
 ·rw [if_pos h, if_pos (by simpa using h)]; cases l <;> rfl
 ·rw [if_neg h, if_neg (by simpa using h)]
theorem trim_size (c : UInt8) (s : ByteArray) : (⟨(Lib.trimPrefix s.data.toList [c]).toArray⟩ : ByteArray).size <= s.size := by
 show (List.toArray _).size <= s.data.toList.length
 rw [List.size_toArray, trim_one]
 split
 ·rw [List.length_tail]; omega
 ·exact Nat.le_refl _
theorem lev_neg {l : List UInt8} {v : Int} {ok : Bool} (h45 : l.head? = some 45) (h : DigR l.tail v ok) : NumR l (-v) (ok && !(v == 0)) := by
 refine ⟨fun z hz => ?_, fun hz => ?_⟩
 ·rw [numV, if_pos h45] at hz
  cases hn : numN l.tail with
  | none => rw [hn] at hz; cases hz
  | some n =>
   rw [hn] at hz
   obtain ⟨rfl, rfl⟩ := h.1 n hn
   simp only at hz
   split at hz
   ·cases hz
   ·rename_i h0
    cases hz
    refine ⟨rfl, ?_⟩
    simp; omega
 ·rw [numV, if_pos h45] at hz
  cases hn : numN l.tail with
  | none => rw [h.2 hn]; rfl
  | some n =>
   rw [hn] at hz
   obtain ⟨rfl, rfl⟩ := h.1 n hn
   simp only at hz
   split at hz
   ·rename_i h0; subst h0; rfl
   ·cases hz
theorem lev_pos {l : List UInt8} {v : Int} {ok : Bool} (h45 : l.head? ≠ some 45) (h : DigR l v ok) : NumR l v ok := by
 refine ⟨fun z hz => ?_, fun hz => ?_⟩
 ·rw [numV, if_neg h45] at hz
  cases hn : numN l with
  | none => rw [hn] at hz; cases hz
  | some n => rw [hn] at hz; cases hz; exact h.1 n hn
 ·rw [numV, if_neg h45] at hz
  cases hn : numN l with
  | none => exact h.2 hn
  | some n => rw [hn] at hz; cases hz
def LevPost (s : ByteArray) (w : World) (e : Ending) (w' : World) : Prop := ∃ v ok, e = .returned (.tuple #[.int .i64 v, .bool ok]) ∧ NumR s.data.toList v ok ∧ w' = w
set_option maxRecDepth 100000 in
set_option maxHeartbeats 800000 in
theorem levI_any (s : ByteArray) (w : World) (hs : s.size <= 1048576) :
  Calls Tryd.prog 57 #[.string s] w (LevPost s w) := by
 have hts := Nat.le_trans (trim_size 45 s) hs
 have hcp : Hid (∀ W, Calls Tryd.prog 53 #[.string s, .string ⟨#[45]⟩] W fun e w' => e = .returned (.tuple #[.string ⟨(Lib.trimPrefix s.data.toList [45]).toArray⟩, .bool (Lib.hasPrefix s.data.toList [45])]) ∧ w' = W) := fun W => Tryd.strings_CutPrefix s ⟨#[45]⟩ W
 have hdg : Hid (∀ W, Calls Tryd.prog 42 #[.string ⟨(Lib.trimPrefix s.data.toList [45]).toArray⟩] W (DigPost ⟨(Lib.trimPrefix s.data.toList [45]).toArray⟩ W)) := fun W => digI_any _ W hts
 have htr := trim_one 45 s.data.toList
 have hpr := pre_one 45 s.data.toList
 by_cases h45 : s.data.toList.head? = some 45
 ·rw [if_pos h45] at htr
  have hpr2 : Lib.hasPrefix s.data.toList [45] = true := by rw [hpr]; simpa using h45
  rw [htr, hpr2] at hcp
  rw [htr] at hdg
  have H45 : Hid (s.data.toList.head? = some 45) := h45
  clear hpr hpr2 htr hts h45
  go_enter Tryd.func57, Tryd.ntmps57
  go_wp2_with fail
  refine (hcp.out _).mono ?_
  rintro e w' ⟨rfl, rfl⟩
  go_wp2_with fail
  refine (hdg.out _).mono ?_
  rintro e w'' ⟨v, ok, rfl, hr, ⟨n, rfl, hn⟩, rfl⟩
  have hf := lev_neg H45.out hr
  cases ok
  ·go_wp2
   go_ret2
   exact ⟨_, _, rfl, hf, rfl⟩
  ·go_wp2
   go_ret2
   exact ⟨_, _, rfl, hf, rfl⟩
 ·rw [if_neg h45] at htr
  have hpr2 : Lib.hasPrefix s.data.toList [45] = false := by rw [hpr]; simpa using h45
  rw [htr, hpr2] at hcp
  rw [htr] at hdg
  have H45 : Hid (s.data.toList.head? ≠ some 45) := h45
  clear hpr hpr2 htr hts h45
  go_enter Tryd.func57, Tryd.ntmps57
  go_wp2_with fail
  refine (hcp.out _).mono ?_
  rintro e w' ⟨rfl, rfl⟩
  go_wp2_with fail
  refine (hdg.out _).mono ?_
  rintro e w'' ⟨v, ok, rfl, hr, ⟨n, rfl, hn⟩, rfl⟩
  have hf := lev_pos H45.out hr
  go_wp2
  go_ret2
  exact ⟨_, _, rfl, hf, rfl⟩
set_option maxRecDepth 100000 in
theorem rdKey_any (s : ByteArray) (w : World) :
  Calls Tryd.prog 41 #[.string s] w fun e w' =>
   e = .returned (.tuple #[.bool (s.data.toList.head? == some 61), .string (if s.data.toList.head? == some 61 then s.extract 1 s.size else ByteArray.empty), .bool ((s.data.toList.head? == some 61) || dashQ s)]) ∧ w' = w := by
 have hcp : Hid (∀ W, Calls Tryd.prog 53 #[.string s, .string ⟨#[61]⟩] W fun e w' => e = .returned (.tuple #[.string ⟨(Lib.trimPrefix s.data.toList [61]).toArray⟩, .bool (Lib.hasPrefix s.data.toList [61])]) ∧ w' = W) := fun W => Tryd.strings_CutPrefix s ⟨#[61]⟩ W
 have htr := trim_one 61 s.data.toList
 have hpr := pre_one 61 s.data.toList
 cases hd : dashQ s
 ·have hd' : (s.toList == [45]) = false := hd
  cases hh : (s.data.toList.head? == some 61)
  ·rw [hpr, hh] at hcp
   clear hpr htr
   go_enter Tryd.func41, Tryd.ntmps41
   go_wp2_with fail
   refine (hcp.out _).mono ?_
   rintro e w' ⟨rfl, rfl⟩
   go_wp2
   refine bodyPost_ret (v := .tuple #[.bool false, .string ByteArray.empty, .bool false]) (by simp [results, Tryd.results41, go_sem]; rfl) rfl ⟨rfl, rfl⟩
  ·have hx : (⟨(Lib.trimPrefix s.data.toList [61]).toArray⟩ : ByteArray) = s.extract 1 s.size := by
    apply ba_ext
    rw [htr, if_pos (by simpa using hh), ext_list]
    have : s.size - 1 = (s.data.toList.drop 1).length := by rw [List.length_drop]; rfl
    rw [this, List.take_length]
    simp
   rw [hpr, hh, hx] at hcp
   clear hpr htr hx
   go_enter Tryd.func41, Tryd.ntmps41
   go_wp2_with fail
   refine (hcp.out _).mono ?_
   rintro e w' ⟨rfl, rfl⟩
   go_wp2
   refine bodyPost_ret (v := .tuple #[.bool true, .string (s.extract 1 s.size), .bool true]) (by simp [results, Tryd.results41, go_sem]) rfl ⟨rfl, rfl⟩
 ·have hd' : (s.toList == [45]) = true := hd
  have hh : (s.data.toList.head? == some 61) = false := by
   have : s.data.toList = [45] := by rw [<- ByteArray.toList_eq]; exact eq_of_beq hd'
   rw [this]; rfl
  rw [hh]
  clear hcp htr hpr
  go_enter Tryd.func41, Tryd.ntmps41
  go_wp2
  refine bodyPost_ret (v := .tuple #[.bool false, .string ByteArray.empty, .bool true]) (by simp [results, Tryd.results41, go_sem]; rfl) rfl ⟨rfl, rfl⟩
end Go.Proofs.YtihacnhmiopalaaDoor
