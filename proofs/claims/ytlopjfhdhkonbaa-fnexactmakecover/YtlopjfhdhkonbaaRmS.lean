import Derived.Test.YtlopjfhdhkonbaaProg
import Derived.Test.YtlopjfhdhkonbaaRm
import Derived.Test.YtlopjfhdhkonbaaEvA
namespace Go.Proofs.Ytlopjfhdhkonbaa
open Go.RowKit

theorem l2At_zero (a : Option Addr) (cap : Nat) (s : ByteArray) (w : World) :
    Calls Try.prog 17 #[.agg #[.slice a 0 cap], .string s] w fun e w' => e = .returned (.int .i64 (-1)) ∧ w' = w.alloc (.cells #[.slice a 0 cap] 34) := by
  go_enter Try.func17, Try.ntmps17
  go_wp2
  refine wp_loop_rounds 1 ?_
  rw [rounds_succ]
  go_wp2
  go_ret
  exact ⟨rfl, rfl⟩

set_option maxHeartbeats 1000000 in
theorem l2At_any (b off n cap : Nat) (E : Nat → Ev) (s : ByteArray) (w : World) (hn : n ≤ maxLen) (hb : b < w.heap.size) (hc : ∀ i, i < n → w.cell? ⟨b, off + i * 10, none⟩ = some (.string (E i).id)) :
    Calls Try.prog 17 #[.agg #[.slice (some ⟨b, off, none⟩) n cap], .string s] w fun e w' => e = .returned (.int .i64 (posV E n s)) ∧ w' = w.alloc (.cells #[.slice (some ⟨b, off, none⟩) n cap] 34) := by
  unfold maxLen at hn
  go_enter Try.func17, Try.ntmps17
  go_wp2
  go_loop [5] (fun i => ∃ k : Nat, k ≤ n ∧ i = .int .i64 k ∧ Hid (∀ i, i < k → ((E i).id.toList == s.toList) = false)) (fun i => n - (intOf i).toNat)
  case atStart => exact ⟨0, Nat.zero_le _, rfl, fun i hi => absurd hi (Nat.not_lt_zero _)⟩
  case round =>
    obtain ⟨k, hk, rfl, hto⟩ := hrel
    by_cases hlt : k < n
    · have hck := hc k hlt
      cases hB : ((E k).id.toList == s.toList)
      · go_wp2
        go_round
        case rel => exact ⟨k + 1, by omega, by go_num, fun i hi => by (by_cases e : i = k; (subst e; exact hB); exact hto.out i (by omega))⟩
        case measure => simp [intOf]; omega
      · go_wp2
        go_ret
        exact ⟨ret_int (posV_hit E s n k hlt hto.out hB).symm, rfl⟩
    · go_wp2
      go_ret
      exact ⟨ret_int (posV_miss E s n (fun i hi => hto.out i (by omega))).symm, rfl⟩

theorem SlV.ids {w : World} {a : Option Addr} {n cap : Nat} {E : Nat → Ev} (h : SlV w a n cap E) : n = 0 ∨ ∃ b off, a = some ⟨b, off, none⟩ ∧ b < w.heap.size ∧ ∀ i, i < n → w.cell? ⟨b, off + i * 10, none⟩ = some (.string (E i).id) := by
  rcases h.cells with h0 | ⟨b, off, e, hlt, hc⟩
  · exact Or.inl h0
  · exact Or.inr ⟨b, off, e, hlt, fun i hi => by obtain ⟨_, _, _, _, _, _, hc, _⟩ := hc i hi; exact hc.c0⟩

theorem l2At_sl {a : Option Addr} {n cap : Nat} {E : Nat → Ev} (s : ByteArray) (w : World) (h : SlV w a n cap E) :
    Calls Try.prog 17 #[.agg #[.slice a n cap], .string s] w fun e w' => e = .returned (.int .i64 (posV E n s)) ∧ w' = w.alloc (.cells #[.slice a n cap] 34) := by
  rcases h.ids with rfl | ⟨b, off, rfl, hb, hc⟩
  · exact l2At_zero a cap s w
  · exact l2At_any b off n cap E s w (Nat.le_trans h.le h.max) hb hc

theorem there_none {ar : Option Addr} {n cr : Nat} (a : Option Addr) (cap : Nat) (w : World) :
    Calls Try.prog 50 #[.agg #[.slice ar n cr], .slice a 0 cap] w fun e w' => e = .returned (.bool true) ∧ w' = w.alloc (.cells #[.slice ar n cr] 34) := by
  go_enter Try.func50, Try.ntmps50
  go_wp2
  refine wp_loop_rounds 1 ?_
  rw [rounds_succ]
  go_wp2
  go_ret
  exact ⟨rfl, rfl⟩

set_option maxHeartbeats 1000000 in
theorem there_any {ar : Option Addr} {n cr : Nat} {E : Nat → Ev} (b off m cap : Nat) (S : Nat → ByteArray) (w : World) (h : SlV w ar n cr E) (hm : m ≤ maxLen) (hb : b < w.heap.size)
    (hc : ∀ i, i < m → w.cell? ⟨b, off + i, none⟩ = some (.string (S i))) :
    Calls Try.prog 50 #[.agg #[.slice ar n cr], .slice (some ⟨b, off, none⟩) m cap] w fun e w' => e = .returned (.bool (thereB E n S m)) ∧ Below w.heap.size w w' := by
  unfold maxLen at hm
  have hb0 : ∀ o, Below w.heap.size w (w.alloc o) := fun o => (Below.refl _ _).alloc (Nat.le_refl _) _
  by_cases h3 : m ≤ 300
  · go_enter Try.func50, Try.ntmps50
    go_wp2
    go_loopw [5] (fun i wr => ∃ k : Nat, k ≤ m ∧ i = .int .i64 k ∧ Hid (thereTo E n S k = true) ∧ Below (w.heap.size + 1) (w.alloc (.cells #[.slice ar n cr] 34)) wr) (fun i _ => m - (intOf i).toNat)
    case atStart => exact ⟨0, Nat.zero_le _, rfl, rfl, Below.refl _ _⟩
    case round =>
      obtain ⟨k, hk, rfl, hto, hbel⟩ := hrel
      have hbw := (hb0 _).trans (hbel.mono (Nat.le_succ _))
      by_cases hlt : k < m
      · have hck : wr.cell? ⟨b, off + k, none⟩ = some (.string (S k)) := (hbw.cell (by exact hb)).trans (hc k hlt)
        have hbx : wr.cell? ⟨w.heap.size, 0, none⟩ = some (.slice ar n cr) := box_cells hbel 0
        have hr := h.below hbw
        have hpb := posV_bd E (S k) n
        go_wp2_with fail
        go_region_with (go_at_call 17; refine (l2At_sl (E := E) (S k) _ (hr.below (by first | exact Below.refl _ _ | exact (Below.refl _ _).drew | exact (Below.refl _ _).drew.drew))).mono ?_; rintro e w1 ⟨rfl, rfl⟩)
        all_goals
          by_cases hp : posV E n (S k) < 0
          · go_wp2
            go_ret
            refine ⟨ret_bool (by rw [thereB, thereTo_le E n S m k hlt (by rw [thereTo]; simp; intro _; omega)]; simp), ?_⟩
            exact (hbw.alloc (by exact hbw.size) _).drew
          · go_wp2
            go_roundw
            case rel => exact ⟨k + 1, by omega, by go_num, by unfold Hid; rw [thereTo, hto.out]; simp; omega, (hbel.alloc (by simpa using hbel.size) _).drew⟩
            case measure => simp [intOf]; omega
      · go_wp2
        go_ret
        exact ⟨ret_bool (by rw [thereB, show m = k by omega, hto.out]; simp; omega), hbw⟩
  · go_enter Try.func50, Try.ntmps50
    go_wp2
    go_ret
    exact ⟨ret_bool (by simp [thereB, h3]), hb0 _⟩

theorem there_sl {ar : Option Addr} {n cr : Nat} {E : Nat → Ev} {a : Option Addr} {m cap : Nat} {S : Nat → ByteArray} (w : World) (h : SlV w ar n cr E) (hs : SlS w a m cap S) :
    Calls Try.prog 50 #[.agg #[.slice ar n cr], .slice a m cap] w fun e w' => e = .returned (.bool (thereB E n S m)) ∧ Below w.heap.size w w' := by
  rcases hs.cells with rfl | ⟨b, off, rfl, hb, hc⟩
  · refine (there_none a cap w).mono ?_
    rintro e w' ⟨rfl, rfl⟩
    exact ⟨rfl, (Below.refl _ _).alloc (Nat.le_refl _) _⟩
  · exact there_any b off m cap S w h (Nat.le_trans hs.le hs.max) hb hc
end Go.Proofs.Ytlopjfhdhkonbaa
