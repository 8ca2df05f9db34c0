import Derived.Test.YtihacnhmiopalaaDoorContSZT
namespace Go.Proofs.YtihacnhmiopalaaDoor
open Go.RowKit
theorem cntW_yes (S : Nat -> ByteArray) (k : Nat) (h : isW (S k) = true) : ((cntW S (k + 1) : Nat) : Int) = (cntW S k : Int) + 1 := by
 rw [cntW, h]; simp
theorem cntW_no (S : Nat -> ByteArray) (k : Nat) (h : isW (S k) = false) : cntW S (k + 1) = cntW S k := by
 rw [cntW, h]; simp
theorem isW_empty (s : ByteArray) (h : s.size = 0) : isW s = false := by simp [isW, h]
theorem isW_long (s : ByteArray) (h : 40 < s.size) : isW s = false := by simp [isW]; omega
theorem isW_bad (s : ByteArray) (h : s.toList.isEmpty = true ∨ (40 : Int) < (s.size : Int)) : isW s = false := by
 rcases h with h | h
 ·exact isW_empty _ (size_of_nil _ (List.isEmpty_iff.1 h))
 ·exact isW_long _ (by omega)
theorem size_yes (s : ByteArray) (h : s.toList.isEmpty = false ∧ (s.size : Int) <= 40) : (decide (1 <= s.size) && decide (s.size <= 40)) = true := by
 obtain ⟨h1, h2⟩ := h
 have h3 := size_yes_pos s h1
 simp; omega
set_option maxHeartbeats 1000000 in
theorem countWords_any (b off n cap : Nat) (S : Nat -> ByteArray) (w : World) (hn : n <= maxLen)
  (hs : ∀ i, i < n -> (S i).size <= maxLen)
  (hc : ∀ i, i < n -> w.cell? ⟨b, off + i, none⟩ = some (.string (S i))) :
  Calls Tryd.prog 38 #[.slice (some ⟨b, off, none⟩) n cap] w fun e w' => e = .returned (.int .i64 (cntW S n)) ∧ w' = w := by
 unfold maxLen at hn
 go_enter Tryd.func38, Tryd.ntmps38
 go_wp2
 go_step3
 go_wp2
 go_step3
 go_wp2
 go_loopg [3, 9] n (fun g s3 s9 wx => ∃ k : Nat, k + g = n ∧ s9 = .int .i64 k ∧ s3 = .int .i64 (cntW S k) ∧ wx = w)
 case atStart => exact ⟨0, by omega, rfl, rfl, rfl⟩
 case round =>
  obtain ⟨k, hkg, rfl, rfl, rfl⟩ := hrel
  have hcl := cntW_le S k
  by_cases hlt : k < n
  ·have hck := hc k hlt
   have hlen := hs k hlt
   unfold maxLen at hlen
   cases he : (S k).toList.isEmpty
   case true =>
    go_wp2
    go_roundg (n - (k + 1))
    case measure => omega
    case rel => exact ⟨k + 1, by omega, by go_num, by rw [cntW_no S k (isW_bad _ (Or.inl he))], rfl⟩
   by_cases h40 : (40 : Int) < ((S k).size : Int)
   ·go_wp2
    go_roundg (n - (k + 1))
    case measure => omega
    case rel => exact ⟨k + 1, by omega, by go_num, by rw [cntW_no S k (isW_bad _ (Or.inr h40))], rfl⟩
   ·have h40' : ((S k).size : Int) <= 40 := by omega
    have HA : Hid ((S k).toList.isEmpty = false ∧ ((S k).size : Int) <= 40) := ⟨he, h40'⟩
    go_wp2
    go_loopg [6] (S k).size (fun g s6 wx => ∃ j : Nat, j + g = (S k).size ∧ s6 = .int .i64 j ∧ Hid (((bts (S k)).take j).all wbB = true) ∧ wx = wr)
    case atStart => exact ⟨0, by omega, rfl, rfl, rfl⟩
    case round =>
     obtain ⟨j, hjg, rfl, hall, rfl⟩ := hrel
     by_cases hjl : j < (S k).size
     ·go_wp2_with (go_at_call 50; refine (inWord_any _ _).mono ?_; rintro e w' ⟨rfl, rfl⟩)
      ·have hb : (!wbB ((S k)[j].toNat : Int)) = true := by assumption
       go_roundg (n - (k + 1))
       case measure => omega
       case rel => exact ⟨k + 1, by omega, by go_num, by rw [cntW_no S k (isW_of_take _ j hjl (by simpa using hb))], rfl⟩
      ·have hb : (!wbB ((S k)[j].toNat : Int)) = false := by assumption
       go_roundg ((S k).size - (j + 1))
       case measure => omega
       case rel => exact ⟨j + 1, by omega, by go_num, by unfold Hid; rw [all_take_succ _ j hjl, hall.out]; simpa using hb, rfl⟩
     ·have hw : isW (S k) = true := by
       rw [isW_of_all _ (by rw [<- List.take_of_length_le (show (bts (S k)).length <= j by rw [bts_len]; omega)]; exact hall.out)]
       exact size_yes _ HA.out
      go_wp2
      go_roundg (n - (k + 1))
      case measure => omega
      case rel => exact ⟨k + 1, by omega, by go_num, by rw [cntW_yes S k hw], rfl⟩
  ·go_wp2
   rw [Exit.noGoto_ret]
   go_ret
   exact ⟨ret_int (by rw [show n = k by omega]), rfl⟩
set_option maxHeartbeats 400000 in
theorem allWords_any (b off n cap : Nat) (S : Nat -> ByteArray) (w : World) (hn : n <= maxLen)
  (hs : ∀ i, i < n -> (S i).size <= maxLen)
  (hc : ∀ i, i < n -> w.cell? ⟨b, off + i, none⟩ = some (.string (S i))) :
  Calls Tryd.prog 22 #[.slice (some ⟨b, off, none⟩) n cap] w fun e w' => e = .returned (.bool (allW S n)) ∧ w' = w := by
 go_enter Tryd.func22, Tryd.ntmps22
 go_wp2_with (go_at_call 38; refine (countWords_any b off n cap S _ hn hs hc).mono ?_; rintro e w' ⟨rfl, rfl⟩)
 go_ret
 exact ⟨ret_bool (cntW_all S n), rfl⟩
theorem allWords_one (blk : Nat) (s : ByteArray) (w : World) (hs : s.size <= maxLen) (hc : w.cell? ⟨blk, 0, none⟩ = some (.string s)) :
    Calls Tryd.prog 22 #[.slice (some ⟨blk, 0, none⟩) 1 1] w fun e w' => e = .returned (.bool (isW s)) ∧ w' = w := by
  have := allWords_any blk 0 1 1 (fun _ => s) w (by decide) (fun _ _ => hs) (fun i hi => by obtain rfl : i = 0 := by omega
                                                                                            exact hc)
  simpa [allW] using this
set_option maxHeartbeats 1000000 in
theorem refsI_any (b off n cap : Nat) (S : Nat -> ByteArray) (id : ByteArray) (w : World) (hn : n <= cap) (hcap : cap <= maxLen)
  (hs : ∀ i, i < n -> (S i).size <= maxLen)
  (hc : ∀ i, i < n -> w.cell? ⟨b, off + i, none⟩ = some (.string (S i))) :
  Calls Tryd.prog 24 #[.slice (some ⟨b, off, none⟩) n cap, .string id] w fun e w' => e = .returned (.bool (refsB S n id)) ∧ w' = w := by
 have hcap2 := hcap
 unfold maxLen at hcap2
 by_cases h10 : n <= 10
 ·cases hall : allW S n
  ·go_enter Tryd.func24, Tryd.ntmps24
   go_wp2_with (go_at_call 22; refine (allWords_any b off n cap S _ (by omega) hs hc).mono ?_; rintro e w' ⟨rfl, rfl⟩)
   go_ret
   exact ⟨ret_bool (by rw [refsB, refsTo_eq, hall]; simp), rfl⟩
  ·go_enter Tryd.func24, Tryd.ntmps24
   go_wp2_with (go_at_call 22; refine (allWords_any b off n cap S _ (by omega) hs hc).mono ?_; rintro e w' ⟨rfl, rfl⟩)
   go_loop [17] (fun i => ∃ k : Nat, k <= n ∧ i = .int .i64 k ∧ Hid (refs2To S id k = true)) (fun i => n - (intOf i).toNat)
   case atStart => exact ⟨0, Nat.zero_le _, rfl, rfl⟩
   case round =>
    obtain ⟨k, hk, rfl, hto⟩ := hrel
    by_cases hlt : k < n
    ·have hck := hc k hlt
     go_wp2_with (go_at_call 39; refine (contains_any b off k cap S _ _ (by omega) (fun i hi => hc i (by omega))).mono ?_; rintro e w' ⟨rfl, rfl⟩)
     ·have h1 : (S k).toList = id.toList := by assumption
      go_ret
      exact ⟨ret_bool (by rw [refsB, refsTo_eq, refs2To_le S id n k hlt (by rw [refs2To, h1]; simp)]; simp), rfl⟩
     ·have h1 : ((S k).toList == id.toList) = true ∨ hasB S k (S k) = true := by assumption
      go_ret
      exact ⟨ret_bool (by rw [refsB, refsTo_eq, refs2To_le S id n k hlt (by rw [refs2To]; rcases h1 with h1 | h1 <;> rw [h1] <;> simp)]; simp), rfl⟩
     ·have h1 : ((S k).toList == id.toList) = false ∧ hasB S k (S k) = false := by assumption
      go_round
      case rel => exact ⟨k + 1, by omega, by go_num, by unfold Hid refs2To; rw [hto.out, h1.1, h1.2]; rfl⟩
      case measure => simp [intOf]; omega
    ·go_wp2
     go_ret
     refine ⟨ret_bool ?_, rfl⟩
     rw [refsB, refsTo_eq, hall, show n = k by omega, hto.out]; simp; omega
 ·go_enter Tryd.func24, Tryd.ntmps24
  go_wp2
  go_ret
  exact ⟨ret_bool (by simp [refsB, h10]), rfl⟩
def keyB (st : Bool) (key : ByteArray) : Bool := key.toList.isEmpty || (st && isW key)
set_option maxHeartbeats 400000 in
theorem keyOk_any (st : Bool) (key : ByteArray) (w : World) (hk : key.size <= maxLen) :
  Calls Tryd.prog 23 #[.bool st, .string key] w fun e w' => e = .returned (.bool (keyB st key)) ∧ Below w.heap.size w w' := by
 cases he : key.toList.isEmpty
 case true =>
  go_enter Tryd.func23, Tryd.ntmps23
  go_wp2
  go_ret
  exact ⟨ret_bool (by simp [keyB, he]), Below.refl _ _⟩
 cases st
 case false =>
  go_enter Tryd.func23, Tryd.ntmps23
  go_wp2
  go_ret
  exact ⟨ret_bool (by simp [keyB, he]), Below.refl _ _⟩
 go_enter Tryd.func23, Tryd.ntmps23
 go_wp2_with fail
 refine (allWords_one w.heap.size key _ hk (World.cell?_alloc_at _ _ _ _ rfl)).mono ?_
 rintro e w' ⟨rfl, rfl⟩
 go_wp2
 go_ret
 exact ⟨ret_bool (by simp [keyB, he]), (Below.refl _ _).alloc (Nat.le_refl _) _⟩
end Go.Proofs.YtihacnhmiopalaaDoor
