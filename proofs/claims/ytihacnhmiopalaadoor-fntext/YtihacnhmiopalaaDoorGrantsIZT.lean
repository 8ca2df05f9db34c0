import Derived.Test.YtihacnhmiopalaaDoorRefsIT
namespace Go.Proofs.YtihacnhmiopalaaDoor
open Go.RowKit
set_option maxHeartbeats 400000 in
theorem bareName_any (s : ByteArray) (w : World) (hs : s.size <= maxLen) :
  Calls Tryd.prog 112 #[.string s] w fun e w' => e = .returned (.string (bareS s)) ∧ w' = w := by
 unfold maxLen at hs
 cases he : s.toList.isEmpty
 ·have h0 : 0 < s.size := by
   have := size_yes_pos s he
   omega
  go_enter Tryd.func112, Tryd.ntmps112
  go_wp2
  ·go_ret
   exact ⟨ret_str (bare_yes s h0 (Or.inl (by assumption))).symm, rfl⟩
  ·go_ret
   exact ⟨ret_str (bare_yes s h0 (Or.inr (by assumption))).symm, rfl⟩
  ·go_ret
   exact ⟨ret_str (bare_no s h0 (by assumption)).symm, rfl⟩
 ·go_enter Tryd.func112, Tryd.ntmps112
  go_wp2
  go_ret
  exact ⟨ret_str (bare_zero s (size_of_nil s (List.isEmpty_iff.1 he))).symm, rfl⟩
theorem bareS_size (s : ByteArray) (h : s.size <= maxLen) : (bareS s).size <= maxLen := by
 unfold bareS; split
 ·rw [ByteArray.size_extract]; unfold maxLen at *; omega
 ·exact h
set_option maxHeartbeats 1000000 in
theorem grI_any (b off n cap : Nat) (M : Nat -> ByteArray) (L : Nat -> Int) (w : World) (hn : n <= maxLen) (hb : b < w.heap.size)
  (hs : ∀ i, i < n -> (M i).size <= maxLen)
  (hc : ∀ i, i < n -> w.cell? ⟨b, off + i * 2, none⟩ = some (.string (M i)))
  (hl : ∀ i, i < n -> w.cell? ⟨b, off + i * 2 + 1, none⟩ = some (.int .i64 (L i))) :
  Calls Tryd.prog 111 #[.slice (some ⟨b, off, none⟩) n cap] w fun e w' => e = .returned (.bool (grB M L n)) ∧ Below w.heap.size w w' := by
 unfold maxLen at hn
 by_cases h50 : n <= 50
 ·go_enter Tryd.func111, Tryd.ntmps111
  go_wp2
  go_loopw [10] (fun i wr => ∃ k : Nat, k <= n ∧ i = .int .i64 k ∧ Hid (grTo M L k = true) ∧ Below w.heap.size w wr) (fun i _ => n - (intOf i).toNat)
  case atStart => exact ⟨0, Nat.zero_le _, rfl, rfl, Below.refl _ _⟩
  case round =>
   obtain ⟨k, hk, rfl, hto, hbel⟩ := hrel
   by_cases hlt : k < n
   ·have hck : wr.cell? ⟨b, off + k * 2, none⟩ = some (.string (M k)) := (hbel.cell (by exact hb)).trans (hc k hlt)
    have hlk : wr.cell? ⟨b, off + k * 2 + 1, none⟩ = some (.int .i64 (L k)) := (hbel.cell (by exact hb)).trans (hl k hlt)
    have hlen := hs k hlt
    have hbare := bareS_size _ hlen
    have hbw : b < wr.heap.size := Nat.lt_of_lt_of_le hb hbel.size
    by_cases h0 : k = 0
    ·have hk0 : decide (0 < k) = false := by simp; omega
     have H0 : Hid (k = 0) := h0
     clear h0
     go_wp2_with (go_at_call 112; refine (bareName_any _ _ hlen).mono ?_; rintro e w' ⟨rfl, rfl⟩)
     refine (allWords_one _ (bareS (M k)) _ hbare (by simp)).mono ?_
     rintro e w' ⟨rfl, rfl⟩
     have hcb : Below w.heap.size w ((wr.alloc (.cells #[.string (M k), .int .i64 (L k)] 57)).alloc (.cells #[.string (bareS (M k))] 9)) := (hbel.alloc hbel.size _).alloc (by simp; have := hbel.size; omega) _
     cases hnm : isW (bareS (M k))
     ·go_wp2
      go_ret
      exact ⟨ret_bool (by rw [grB, grTo_le M L n k hlt (by rw [grTo, nameB, hnm]; simp)]; simp), hcb⟩
     by_cases h1 : L k < -1000000
     ·go_wp2
      go_ret
      exact ⟨ret_bool (by rw [grB, grTo_le M L n k hlt (by rw [grTo]; simp [h1])]; simp), hcb⟩
     by_cases h2 : 1000000 < L k
     ·go_wp2
      go_ret
      exact ⟨ret_bool (by rw [grB, grTo_le M L n k hlt (by rw [grTo]; simp [h2])]; simp), hcb⟩
     go_wp2
     go_quiet (fail)
     go_wp2
     go_roundw
     case rel => exact ⟨k + 1, by omega, by go_num, by unfold Hid; rw [grTo, hto.out, nameB, hnm, H0.out]; simp; rw [H0.out] at h1 h2; omega, hcb.trans (Dr.below ⟨_, rfl⟩ _)⟩
     case measure => simp [intOf]; omega
    ·obtain ⟨j, rfl⟩ : ∃ j, k = j + 1 := ⟨k - 1, by omega⟩
     have hcp : wr.cell? ⟨b, off + j * 2, none⟩ = some (.string (M j)) := (hbel.cell (by exact hb)).trans (hc j (by omega))
     go_wp2_with (go_at_call 112; refine (bareName_any _ _ hlen).mono ?_; rintro e w' ⟨rfl, rfl⟩)
     refine (allWords_one _ (bareS (M (j + 1))) _ hbare (by simp)).mono ?_
     rintro e w' ⟨rfl, rfl⟩
     have hcb : Below w.heap.size w ((wr.alloc (.cells #[.string (M (j + 1)), .int .i64 (L (j + 1))] 57)).alloc (.cells #[.string (bareS (M (j + 1)))] 9)) := (hbel.alloc hbel.size _).alloc (by simp; have := hbel.size; omega) _
     cases hnm : isW (bareS (M (j + 1)))
     ·go_wp2
      go_ret
      exact ⟨ret_bool (by rw [grB, grTo_le M L n (j + 1) hlt (by rw [grTo, nameB, hnm]; simp)]; simp), hcb⟩
     by_cases h1 : L (j + 1) < -1000000
     ·go_wp2
      go_ret
      exact ⟨ret_bool (by rw [grB, grTo_le M L n (j + 1) hlt (by rw [grTo]; simp [h1])]; simp), hcb⟩
     by_cases h2 : 1000000 < L (j + 1)
     ·go_wp2
      go_ret
      exact ⟨ret_bool (by rw [grB, grTo_le M L n (j + 1) hlt (by rw [grTo]; simp [h2])]; simp), hcb⟩
     cases hL : Op.bytesLess (M j).toList (M (j + 1)).toList
     ·go_wp2
      go_quiet (fail)
      go_wp2
      go_ret
      exact ⟨ret_bool (by rw [grB, grTo_le M L n (j + 1) hlt (by rw [grTo, show j + 1 - 1 = j from rfl, hL]; simp)]; simp), hcb.trans (Dr.below ⟨_, rfl⟩ _)⟩
     ·go_wp2
      go_quiet (fail)
      go_wp2
      go_roundw
      case rel => exact ⟨j + 1 + 1, by omega, by go_num, by unfold Hid; rw [grTo, hto.out, nameB, hnm, show j + 1 - 1 = j from rfl, hL]; simp; omega, hcb.trans (Dr.below ⟨_, rfl⟩ _)⟩
      case measure => simp [intOf]; omega
   ·go_wp2
    go_ret
    refine ⟨ret_bool ?_, hbel⟩
    rw [grB, show n = k by omega, hto.out]
    simp; omega
 ·go_enter Tryd.func111, Tryd.ntmps111
  go_wp2
  go_ret
  exact ⟨ret_bool (by simp [grB, h50]), Below.refl _ _⟩
theorem countWords_zero (a : Option Addr) (cap : Nat) (w : World) :
  Calls Tryd.prog 38 #[.slice a 0 cap] w fun e w' => e = .returned (.int .i64 0) ∧ w' = w := by
 go_enter Tryd.func38, Tryd.ntmps38
 go_wp2
 go_step3
 go_wp2
 go_step3
 go_wp2
 refine wp_loop_rounds 1 ?_
 rw [rounds_succ]
 go_wp2
 rw [Exit.noGoto_ret]
 go_ret
 exact ⟨rfl, rfl⟩
theorem allWords_zero (a : Option Addr) (cap : Nat) (w : World) :
  Calls Tryd.prog 22 #[.slice a 0 cap] w fun e w' => e = .returned (.bool true) ∧ w' = w := by
 go_enter Tryd.func22, Tryd.ntmps22
 go_wp2_with (go_at_call 38; refine (countWords_zero a cap _).mono ?_; rintro e w' ⟨rfl, rfl⟩)
 go_ret
 exact ⟨rfl, rfl⟩
theorem refsI_zero (a : Option Addr) (cap : Nat) (id : ByteArray) (w : World) :
  Calls Tryd.prog 24 #[.slice a 0 cap, .string id] w fun e w' => e = .returned (.bool true) ∧ w' = w := by
 go_enter Tryd.func24, Tryd.ntmps24
 go_wp2_with (go_at_call 22; refine (allWords_zero a cap _).mono ?_; rintro e w' ⟨rfl, rfl⟩)
 refine wp_loop_rounds 1 ?_
 rw [rounds_succ]
 go_wp2
 go_ret
 exact ⟨rfl, rfl⟩
theorem grI_zero (a : Option Addr) (cap : Nat) (w : World) :
  Calls Tryd.prog 111 #[.slice a 0 cap] w fun e w' => e = .returned (.bool true) ∧ w' = w := by
 go_enter Tryd.func111, Tryd.ntmps111
 go_wp2
 refine wp_loop_rounds 1 ?_
 rw [rounds_succ]
 go_wp2
 go_ret
 exact ⟨rfl, rfl⟩
theorem refsI_sl {a : Option Addr} {n cap : Nat} {S : Nat -> ByteArray} (id : ByteArray) (w : World) (h : SlS w a n cap S) :
  Calls Tryd.prog 24 #[.slice a n cap, .string id] w fun e w' => e = .returned (.bool (refsB S n id)) ∧ w' = w := by
 rcases h.cells with rfl | ⟨b, off, rfl, hb, hc⟩
 ·exact refsI_zero a cap id w
 ·exact refsI_any b off n cap S id w h.le h.max h.size hc
theorem grI_sl {a : Option Addr} {n cap : Nat} {M : Nat -> ByteArray} {L : Nat -> Int} (w : World) (h : SlG w a n cap M L) :
  Calls Tryd.prog 111 #[.slice a n cap] w fun e w' => e = .returned (.bool (grB M L n)) ∧ Below w.heap.size w w' := by
 rcases h.cells with rfl | ⟨b, off, rfl, hb, hc, hl⟩
 ·refine (grI_zero a cap w).mono ?_
  rintro e w' ⟨rfl, rfl⟩
  exact ⟨rfl, Below.refl _ _⟩
 ·exact grI_any b off n cap M L w (Nat.le_trans h.le h.max) hb h.size hc hl
end Go.Proofs.YtihacnhmiopalaaDoor
