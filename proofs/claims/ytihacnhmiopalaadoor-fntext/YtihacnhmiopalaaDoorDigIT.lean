import Derived.Test.YtihacnhmiopalaaDoorShelfT
import Derived.Test.YtihacnhmiopalaaDoorPure8ZT
namespace Go.Proofs.YtihacnhmiopalaaDoor
open Go.RowKit
def DigR (l : List UInt8) (v : Int) (ok : Bool) : Prop := (∀ n : Nat, numN l = some n -> v = n ∧ ok = true) ∧ (numN l = none -> ok = false)
def DigPost (s : ByteArray) (w : World) (e : Ending) (w' : World) : Prop := ∃ v ok, e = .returned (.tuple #[.int .i64 v, .bool ok]) ∧ DigR s.data.toList v ok ∧ (∃ n : Nat, v = n ∧ n < 10000000000000) ∧ w' = w
theorem isDig_any (c : UInt8) (w : World) :
  Calls Tryd.prog 54 #[.int .u8 (c.toNat : Int)] w fun e w' => e = .returned (.bool (dig c)) ∧ w' = w := by
 go_enter Tryd.func54, Tryd.ntmps54
 go_wp2
 all_goals (go_ret; exact ⟨ret_bool (by rw [Bool.eq_iff_iff, dig_iff]; simp <;> omega), rfl⟩)
theorem dig_none {l : List UInt8} (h : numN l = none) (v : Int) : DigR l v false := ⟨fun n hn => absurd (h.symm.trans hn) (by simp), fun _ => rfl⟩
theorem numN_bad {l : List UInt8} {j : Nat} (hj : j < l.length) (hd : dig l[j] = false) : numN l = none := by
 refine numN_none fun hp => ?_
 have := hp.1.2.1 l[j] (List.getElem_mem hj)
 rw [hd] at this; cases this
set_option maxRecDepth 100000 in
set_option maxHeartbeats 800000 in
theorem digI_any (s : ByteArray) (w : World) (hs : s.size <= 1048576) :
  Calls Tryd.prog 42 #[.string s] w (DigPost s w) := by
 have hlen : s.data.toList.length = s.size := rfl
 by_cases h0 : s.size = 0
 ·have hbad : Hid (numN s.data.toList = none) := numN_none fun hp => hp.1.1 (List.eq_nil_of_length_eq_zero (by omega))
  have he : s.toList.isEmpty = true := by rw [ByteArray.toList_eq, List.eq_nil_of_length_eq_zero (l := s.data.toList) (by omega)]; rfl
  go_enter Tryd.func42, Tryd.ntmps42
  go_wp2
  go_ret2
  exact ⟨0, false, rfl, dig_none hbad.out 0, ⟨0, rfl, by decide⟩, rfl⟩
 have he : s.toList.isEmpty = false := by
  rw [ByteArray.toList_eq]
  cases hl : s.data.toList with
  | nil => rw [hl] at hlen; simp at hlen; omega
  | cons => rfl
 by_cases h13 : 13 < s.size
 ·have hbad : Hid (numN s.data.toList = none) := numN_none fun hp => by have := hp.2; omega
  go_enter Tryd.func42, Tryd.ntmps42
  go_wp2
  go_ret2
  exact ⟨0, false, rfl, dig_none hbad.out 0, ⟨0, rfl, by decide⟩, rfl⟩
 have hpos : 0 < s.size := by omega
 by_cases hz : s.data.toList.head? = some 48 ∧ s.data.toList ≠ [48]
 ·have hbad : Hid (numN s.data.toList = none) := numN_none fun hp => hz.2 (hp.1.2.2 hz.1)
  have e0 : ((s[0].toNat : Nat) : Int) = 48 := by
   have h1 : s.data.toList[0]? = some s[0] := by rw [List.getElem?_eq_getElem (by omega)]; rfl
   have h2 := hz.1
   rw [List.head?_eq_getElem?, h1] at h2
   rw [Option.some.inj h2]; rfl
  have e1 : (s.toList == [48]) = false := by rw [ByteArray.toList_eq, beq_eq_false_iff_ne]; exact hz.2
  clear hz
  go_enter Tryd.func42, Tryd.ntmps42
  go_wp2
  go_ret2
  exact ⟨0, false, rfl, dig_none hbad.out 0, ⟨0, rfl, by decide⟩, rfl⟩
 have hz' : ((((s[0].toNat : Nat) : Int) == 48) = false) ∨ (((s[0].toNat : Nat) : Int) = 48 ∧ (s.toList == [48]) = true) := by
  have h1 : s.data.toList[0]? = some s[0] := by rw [List.getElem?_eq_getElem (by omega)]; rfl
  by_cases h48 : s[0] = 48
  ·right
   refine ⟨by rw [h48]; rfl, ?_⟩
   rw [ByteArray.toList_eq, beq_iff_eq]
   rcases Classical.em (s.data.toList = [48]) with h | h
   ·exact h
   ·exact absurd ⟨by rw [List.head?_eq_getElem?, h1, h48], h⟩ hz
  ·left
   rw [beq_eq_false_iff_ne]
   intro e
   have e2 : s[0].toNat = (48 : UInt8).toNat := by show _ = 48; omega
   exact h48 (UInt8.toNat_inj.1 e2)
 have Hz : Hid (s.data.toList.head? = some 48 -> s.data.toList = [48]) := fun h => by
  rcases Classical.em (s.data.toList = [48]) with h' | h'
  ·exact h'
  ·exact absurd ⟨h, h'⟩ hz
 clear hz
 rcases hz' with e0 | ⟨e0, e1⟩
 ·go_enter Tryd.func42, Tryd.ntmps42
  go_wp2_with fail
  go_loopw [4, 5] (fun v i wr => ∃ j : Nat, j <= s.size ∧ i = .int .i64 j ∧ v = .int .i64 (valL (s.data.toList.take j) : Nat) ∧ Hid (∀ c ∈ s.data.toList.take j, dig c = true) ∧ wr = w) (fun _ i _ => s.size - (intOf i).toNat)
  case atStart => exact ⟨0, Nat.zero_le _, rfl, rfl, fun c hc => by simp at hc, rfl⟩
  case round =>
   obtain ⟨j, hj, rfl, rfl, hst, rfl⟩ := hrel
   have hv := valL_lt _ hst.out
   have hv2 : valL (s.data.toList.take j) < 10000000000000 := Nat.lt_of_lt_of_le hv (Nat.pow_le_pow_right (n := 10) (j := 13) (by decide) (by rw [List.length_take]; omega))
   clear hv
   by_cases hlt : j < s.size
   ·have hget : s.data.toList[j]'(by omega) = s[j] := rfl
    cases hd : dig s[j]
    ·have hbad : Hid (numN s.data.toList = none) := numN_bad (j := j) (by omega) (by rw [hget]; exact hd)
     clear hget
     go_wp2_with (go_at_call 54; refine (isDig_any _ _).mono ?_; rintro e w' ⟨rfl, rfl⟩)
     go_ret2
     exact ⟨0, false, rfl, dig_none hbad.out 0, ⟨0, rfl, by decide⟩, rfl⟩
    ·have htk : Hid (s.data.toList.take (j + 1) = s.data.toList.take j ++ [s[j]]) := by unfold Hid; rw [List.take_succ_eq_append_getElem (by omega), hget]
     have hdd := dig_iff.1 hd
     have Hd : Hid (dig s[j] = true) := hd
     clear hget
     generalize hX : s.data.toList.take j = X at *
     obtain ⟨d, hd2⟩ : ∃ d : Nat, s[j].toNat = 48 + d := ⟨s[j].toNat - 48, by omega⟩
     have hd9 : d <= 9 := by omega
     have E9 : Hid (((s[j].toNat : Nat) : Int) = 48 + (d : Int)) := by unfold Hid; omega
     have HD2 : Hid (s[j].toNat = 48 + d) := hd2
     clear hX hd2
     go_wp2_with fail
     go_fit (isDig_any s[j] _)
     rintro e w' ⟨rfl, rfl⟩
     have e9 := E9.out
     rw [hd]
     go_wp2
     go_roundw
     case rel =>
      refine ⟨j + 1, hlt, by go_num, ?_, ?_, trivial⟩
      ·rw [htk.out, valL_snoc, HD2.out]; congr 1; omega
      ·unfold Hid; rw [htk.out]
       intro c hc
       rcases List.mem_append.1 hc with h | h
       ·exact hst.out c h
       ·simp only [List.mem_singleton] at h; rw [h]; exact Hd.out
     case measure => simp [intOf]; omega
   ·have hje : j = s.size := by omega
    subst hje
    have htl : s.data.toList.take s.size = s.data.toList := List.take_length
    rw [htl] at hst hv2
    simp only [htl]
    have hgood : Hid (numN s.data.toList = some (valL s.data.toList)) := numN_some ⟨fun e => by rw [e] at hlen; simp at hlen; omega, hst.out, Hz.out⟩ (by omega)
    clear htl
    go_wp2
    go_ret2
    exact ⟨_, true, rfl, ⟨fun n hn => ⟨by rw [Option.some.inj (hgood.out.symm.trans hn)], rfl⟩, fun hn => absurd (hgood.out.symm.trans hn) (by simp)⟩, ⟨_, rfl, hv2⟩, rfl⟩
 ·go_enter Tryd.func42, Tryd.ntmps42
  go_wp2_with fail
  go_loopw [4, 5] (fun v i wr => ∃ j : Nat, j <= s.size ∧ i = .int .i64 j ∧ v = .int .i64 (valL (s.data.toList.take j) : Nat) ∧ Hid (∀ c ∈ s.data.toList.take j, dig c = true) ∧ wr = w) (fun _ i _ => s.size - (intOf i).toNat)
  case atStart => exact ⟨0, Nat.zero_le _, rfl, rfl, fun c hc => by simp at hc, rfl⟩
  case round =>
   obtain ⟨j, hj, rfl, rfl, hst, rfl⟩ := hrel
   have hv := valL_lt _ hst.out
   have hv2 : valL (s.data.toList.take j) < 10000000000000 := Nat.lt_of_lt_of_le hv (Nat.pow_le_pow_right (n := 10) (j := 13) (by decide) (by rw [List.length_take]; omega))
   clear hv
   by_cases hlt : j < s.size
   ·have hget : s.data.toList[j]'(by omega) = s[j] := rfl
    cases hd : dig s[j]
    ·have hbad : Hid (numN s.data.toList = none) := numN_bad (j := j) (by omega) (by rw [hget]; exact hd)
     clear hget
     go_wp2_with (go_at_call 54; refine (isDig_any _ _).mono ?_; rintro e w' ⟨rfl, rfl⟩)
     go_ret2
     exact ⟨0, false, rfl, dig_none hbad.out 0, ⟨0, rfl, by decide⟩, rfl⟩
    ·have htk : Hid (s.data.toList.take (j + 1) = s.data.toList.take j ++ [s[j]]) := by unfold Hid; rw [List.take_succ_eq_append_getElem (by omega), hget]
     have hdd := dig_iff.1 hd
     have Hd : Hid (dig s[j] = true) := hd
     clear hget
     generalize hX : s.data.toList.take j = X at *
     obtain ⟨d, hd2⟩ : ∃ d : Nat, s[j].toNat = 48 + d := ⟨s[j].toNat - 48, by omega⟩
     have hd9 : d <= 9 := by omega
     have E9 : Hid (((s[j].toNat : Nat) : Int) = 48 + (d : Int)) := by unfold Hid; omega
     have HD2 : Hid (s[j].toNat = 48 + d) := hd2
     clear hX hd2
     go_wp2_with fail
     go_fit (isDig_any s[j] _)
     rintro e w' ⟨rfl, rfl⟩
     have e9 := E9.out
     rw [hd]
     go_wp2
     go_roundw
     case rel =>
      refine ⟨j + 1, hlt, by go_num, ?_, ?_, trivial⟩
      ·rw [htk.out, valL_snoc, HD2.out]; congr 1; omega
      ·unfold Hid; rw [htk.out]
       intro c hc
       rcases List.mem_append.1 hc with h | h
       ·exact hst.out c h
       ·simp only [List.mem_singleton] at h; rw [h]; exact Hd.out
     case measure => simp [intOf]; omega
   ·have hje : j = s.size := by omega
    subst hje
    have htl : s.data.toList.take s.size = s.data.toList := List.take_length
    rw [htl] at hst hv2
    simp only [htl]
    have hgood : Hid (numN s.data.toList = some (valL s.data.toList)) := numN_some ⟨fun e => by rw [e] at hlen; simp at hlen; omega, hst.out, Hz.out⟩ (by omega)
    clear htl
    go_wp2
    go_ret2
    exact ⟨_, true, rfl, ⟨fun n hn => ⟨by rw [Option.some.inj (hgood.out.symm.trans hn)], rfl⟩, fun hn => absurd (hgood.out.symm.trans hn) (by simp)⟩, ⟨_, rfl, hv2⟩, rfl⟩
end Go.Proofs.YtihacnhmiopalaaDoor
