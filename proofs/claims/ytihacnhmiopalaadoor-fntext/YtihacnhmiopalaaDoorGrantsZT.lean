import Derived.Test.YtihacnhmiopalaaDoorWordZT
namespace Go.Proofs.YtihacnhmiopalaaDoor
open Go.RowKit
theorem bare_yes (s : ByteArray) (h : 0 < s.size) (h1 : (s[0].toNat : Int) = 42 ∨ ((s[0].toNat : Int) == 42) = true ∨ ((s[0].toNat : Int) == 35) = true) : bareS s = s.extract 1 s.size := by
 rw [bareS, starB_pos s h, if_pos]
 simp only [Bool.or_eq_true]
 rcases h1 with h1 | h1 | h1
 ·exact Or.inl (by simpa using h1)
 ·exact Or.inl h1
 ·exact Or.inr h1
theorem bare_no (s : ByteArray) (h : 0 < s.size) (h1 : ((s[0].toNat : Int) == 42) = false ∧ ((s[0].toNat : Int) == 35) = false) : bareS s = s := by
 rw [bareS, starB_pos s h, h1.1, h1.2]; simp
theorem bare_zero (s : ByteArray) (h : s.size = 0) : bareS s = s := by
 rw [bareS, starB_zero s h]; simp
set_option maxHeartbeats 400000 in
theorem nameS_any (s : ByteArray) (w : World) (hs : s.size <= maxLen) :
  Calls Tryd.prog 46 #[.string s] w fun e w' => e = .returned (.bool (nameB s)) ∧ w' = w := by
 have hs2 := hs
 unfold maxLen at hs2
 have hex : (s.extract 1 s.size).size <= maxLen := by rw [ByteArray.size_extract]; unfold maxLen; omega
 go_enter Tryd.func46, Tryd.ntmps46
 go_wp2_with fail
 ·refine (word_any _ _ hex).mono ?_
  rintro e w' ⟨rfl, rfl⟩
  go_wp2
  go_ret
  exact ⟨ret_bool (by rw [nameB, bare_yes s (by assumption) (Or.inl (by assumption))]), rfl⟩
 ·refine (word_any _ _ hex).mono ?_
  rintro e w' ⟨rfl, rfl⟩
  go_wp2
  go_ret
  exact ⟨ret_bool (by rw [nameB, bare_yes s (by assumption) (Or.inr (by assumption))]), rfl⟩
 ·refine (word_any _ _ hs).mono ?_
  rintro e w' ⟨rfl, rfl⟩
  go_wp2
  go_ret
  exact ⟨ret_bool (by rw [nameB, bare_no s (by assumption) (by assumption)]), rfl⟩
 ·refine (word_any _ _ hs).mono ?_
  rintro e w' ⟨rfl, rfl⟩
  have h0 : ¬ 0 < s.size := by assumption
  go_wp2
  go_ret
  exact ⟨ret_bool (by rw [nameB, bare_zero s (by omega)]), rfl⟩
set_option maxHeartbeats 1000000 in
theorem grS_any (b off n cap : Nat) (M : Nat -> ByteArray) (L : Nat -> Int) (w : World) (hn : n <= maxLen)
  (hs : ∀ i, i < n -> (M i).size <= maxLen)
  (hc : ∀ i, i < n -> w.cell? ⟨b, off + i * 2, none⟩ = some (.string (M i)))
  (hl : ∀ i, i < n -> w.cell? ⟨b, off + i * 2 + 1, none⟩ = some (.int .i64 (L i))) :
  Calls Tryd.prog 33 #[.slice (some ⟨b, off, none⟩) n cap] w fun e w' => e = .returned (.bool (grB M L n)) ∧ Dr w w' := by
 unfold maxLen at hn
 go_enter Tryd.func33, Tryd.ntmps33
 go_wp2
 go_loopw [3] (fun i wr => ∃ k : Nat, k <= n ∧ i = .int .i64 k ∧ Hid (grTo M L k = true) ∧ Dr w wr) (fun i _ => n - (intOf i).toNat)
 case atStart => exact ⟨0, Nat.zero_le _, rfl, rfl, Dr.refl _⟩
 case round =>
  obtain ⟨k, hk, rfl, hto, hdr⟩ := hrel
  by_cases hlt : k < n
  ·have hck : wr.cell? ⟨b, off + k * 2, none⟩ = some (.string (M k)) := (hdr.cell _).trans (hc k hlt)
   have hlk : wr.cell? ⟨b, off + k * 2 + 1, none⟩ = some (.int .i64 (L k)) := (hdr.cell _).trans (hl k hlt)
   have hlen := hs k hlt
   cases hnm : nameB (M k)
   ·go_wp2_with (go_at_call 46; refine (nameS_any _ _ hlen).mono ?_; rintro e w' ⟨rfl, rfl⟩)
    go_ret
    exact ⟨ret_bool (by rw [grB, grTo_le M L n k hlt (by rw [grTo, hnm]; simp)]; simp), hdr⟩
   by_cases h1 : L k < -1000000
   ·go_wp2_with (go_at_call 46; refine (nameS_any _ _ hlen).mono ?_; rintro e w' ⟨rfl, rfl⟩)
    go_ret
    exact ⟨ret_bool (by rw [grB, grTo_le M L n k hlt (by rw [grTo]; simp [h1])]; simp), hdr⟩
   by_cases h2 : 1000000 < L k
   ·go_wp2_with (go_at_call 46; refine (nameS_any _ _ hlen).mono ?_; rintro e w' ⟨rfl, rfl⟩)
    go_ret
    exact ⟨ret_bool (by rw [grB, grTo_le M L n k hlt (by rw [grTo]; simp [h2])]; simp), hdr⟩
   by_cases h0 : k = 0
   ·have hk0 : decide (0 < k) = false := by simp; omega
    have H0 : Hid (k = 0) := h0
    clear h0
    go_wp2_with (go_at_call 46; refine (nameS_any _ _ hlen).mono ?_; rintro e w' ⟨rfl, rfl⟩)
    go_quiet (fail)
    go_wp2
    go_roundw
    case rel => exact ⟨k + 1, by omega, by go_num, by unfold Hid; rw [grTo, hto.out, hnm, H0.out]; simp; rw [H0.out] at h1 h2; omega, hdr.drewN _⟩
    case measure => simp [intOf]; omega
   ·obtain ⟨j, rfl⟩ : ∃ j, k = j + 1 := ⟨k - 1, by omega⟩
    have hcp : wr.cell? ⟨b, off + j * 2, none⟩ = some (.string (M j)) := (hdr.cell _).trans (hc j (by omega))
    cases hL : Op.bytesLess (M j).toList (M (j + 1)).toList
    ·go_wp2_with (go_at_call 46; refine (nameS_any _ _ hlen).mono ?_; rintro e w' ⟨rfl, rfl⟩)
     go_quiet (fail)
     go_wp2
     go_ret
     exact ⟨ret_bool (by rw [grB, grTo_le M L n (j + 1) hlt (by rw [grTo, show j + 1 - 1 = j from rfl, hL]; simp)]; simp), hdr.drewN _⟩
    ·go_wp2_with (go_at_call 46; refine (nameS_any _ _ hlen).mono ?_; rintro e w' ⟨rfl, rfl⟩)
     go_quiet (fail)
     go_wp2
     go_roundw
     case rel => exact ⟨j + 1 + 1, by omega, by go_num, by unfold Hid; rw [grTo, hto.out, hnm, show j + 1 - 1 = j from rfl, hL]; simp; omega, hdr.drewN _⟩
     case measure => simp [intOf]; omega
  ·go_wp2
   go_ret
   refine ⟨ret_bool ?_, hdr⟩
   rw [grB, show n = k by omega, hto.out]
   simp only [Bool.true_and, decide_eq_decide]
   omega
theorem refsS_zero (a : Option Addr) (cap : Nat) (id : ByteArray) (w : World) :
  Calls Tryd.prog 15 #[.slice a 0 cap, .string id] w fun e w' => e = .returned (.bool true) ∧ w' = w := by
 go_enter Tryd.func15, Tryd.ntmps15
 go_wp2
 refine wp_loop_rounds 1 ?_
 rw [rounds_succ]
 go_wp2
 go_ret
 exact ⟨rfl, rfl⟩
theorem grS_zero (a : Option Addr) (cap : Nat) (w : World) :
  Calls Tryd.prog 33 #[.slice a 0 cap] w fun e w' => e = .returned (.bool true) ∧ w' = w := by
 go_enter Tryd.func33, Tryd.ntmps33
 go_wp2
 refine wp_loop_rounds 1 ?_
 rw [rounds_succ]
 go_wp2
 go_ret
 exact ⟨rfl, rfl⟩
theorem refsS_sl {a : Option Addr} {n cap : Nat} {S : Nat -> ByteArray} (id : ByteArray) (w : World) (h : SlS w a n cap S) :
  Calls Tryd.prog 15 #[.slice a n cap, .string id] w fun e w' => e = .returned (.bool (refsB S n id)) ∧ Dr w w' := by
 rcases h.cells with rfl | ⟨b, off, rfl, hb, hc⟩
 ·refine (refsS_zero a cap id w).mono ?_
  rintro e w' ⟨rfl, rfl⟩
  exact ⟨rfl, Dr.refl _⟩
 ·exact refsS_any b off n cap S id w h.le h.max h.size hc
theorem grS_sl {a : Option Addr} {n cap : Nat} {M : Nat -> ByteArray} {L : Nat -> Int} (w : World) (h : SlG w a n cap M L) :
  Calls Tryd.prog 33 #[.slice a n cap] w fun e w' => e = .returned (.bool (grB M L n)) ∧ Dr w w' := by
 rcases h.cells with rfl | ⟨b, off, rfl, hb, hc, hl⟩
 ·refine (grS_zero a cap w).mono ?_
  rintro e w' ⟨rfl, rfl⟩
  exact ⟨rfl, Dr.refl _⟩
 ·exact grS_any b off n cap M L w (Nat.le_trans h.le h.max) h.size hc hl
end Go.Proofs.YtihacnhmiopalaaDoor
