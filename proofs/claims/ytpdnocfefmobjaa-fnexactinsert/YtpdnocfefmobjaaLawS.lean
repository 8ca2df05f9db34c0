import Derived.Test.YtpdnocfefmobjaaSl
import Derived.Test.YtpdnocfefmobjaaProg
namespace Go.Proofs.Ytpdnocfefmobjaa
open Go.RowKit

/-! ### szStringS -/

theorem szS_zero (a : Option Addr) (cap : Nat) (l : Int) (w : World) (h0 : 0 ≤ l) (h1 : l ≤ 1048576) :
    Calls Try.prog 16 #[.slice a 0 cap, .int .i64 l] w fun e w' => e = .returned (.int .i64 l) ∧ w' = w := by
  go_enter Try.func16, Try.ntmps16
  go_wp2
  refine wp_loop_rounds 1 ?_
  rw [rounds_succ]
  go_wp2
  go_ret
  exact ⟨rfl, rfl⟩

set_option maxHeartbeats 400000 in
theorem szS_any (b off n cap : Nat) (S : Nat → ByteArray) (l : Int) (w : World) (h0 : 0 ≤ l) (h1 : l ≤ 1048576) (hn : n ≤ maxLen)
    (hs : ∀ i, i < n → (S i).size ≤ maxLen)
    (hc : ∀ i, i < n → w.cell? ⟨b, off + i, none⟩ = some (.string (S i))) :
    Calls Try.prog 16 #[.slice (some ⟨b, off, none⟩) n cap, .int .i64 l] w fun e w' => ∃ r : Int, e = .returned (.int .i64 r) ∧ -1 ≤ r ∧ r ≤ l ∧ w' = w := by
  unfold maxLen at hn
  by_cases hneg : l - n < 0
  · go_enter Try.func16, Try.ntmps16
    go_wp2
    go_ret
    exact ⟨-1, rfl, by omega, by omega, rfl⟩
  · go_enter Try.func16, Try.ntmps16
    go_wp2
    go_loop [1, 5] (fun s1 i => ∃ (k : Nat) (r : Int), k ≤ n ∧ i = .int .i64 k ∧ s1 = .int .i64 r ∧ 0 ≤ r ∧ r ≤ l) (fun _ i => n - (intOf i).toNat)
    case atStart => exact ⟨0, _, Nat.zero_le _, rfl, rfl, by omega, by omega⟩
    case round =>
      obtain ⟨k, r, hk, rfl, rfl, hr0, hr1⟩ := hrel
      by_cases hlt : k < n
      · have hck := hc k hlt
        have hlen := hs k hlt
        unfold maxLen at hlen
        by_cases hn2 : r - ((S k).size : Int) < 0
        · go_wp2
          go_ret
          exact ⟨-1, rfl, by omega, by omega, rfl⟩
        · go_wp2
          go_round
          case rel => exact ⟨k + 1, _, by omega, by go_num, rfl, by omega, by omega⟩
          case measure => simp [intOf]; omega
      · go_wp2
        go_ret
        exact ⟨r, rfl, by omega, by omega, rfl⟩

theorem szS_sl {a : Option Addr} {n cap : Nat} {S : Nat → ByteArray} (l : Int) (w : World) (h0 : 0 ≤ l) (h1 : l ≤ 1048576) (h : SlS w a n cap S) :
    Calls Try.prog 16 #[.slice a n cap, .int .i64 l] w fun e w' => ∃ r : Int, e = .returned (.int .i64 r) ∧ -1 ≤ r ∧ r ≤ l ∧ w' = w := by
  rcases h.cells with rfl | ⟨b, off, rfl, hb, hc⟩
  · refine (szS_zero a cap l w h0 h1).mono ?_
    rintro e w' ⟨rfl, rfl⟩
    exact ⟨l, rfl, by omega, by omega, rfl⟩
  · exact szS_any b off n cap S l w h0 h1 (Nat.le_trans h.le h.max) h.size hc

/-! ### szGrantS -/

theorem szG1_any (s : ByteArray) (lv l : Int) (w : World) (h0 : 0 ≤ l) (h1 : l ≤ 1048576) (hs : s.size ≤ maxLen) :
    Calls Try.prog 33 #[.agg #[.string s, .int .i64 lv], .int .i64 l] w fun e w' => ∃ r : Int, e = .returned (.int .i64 r) ∧ -1 ≤ r ∧ r ≤ l ∧ w' = w.alloc (.cells #[.string s, .int .i64 lv] 65) := by
  unfold maxLen at hs
  by_cases hneg : l - s.size < 0
  · go_enter Try.func33, Try.ntmps33
    go_wp2
    go_ret
    exact ⟨-1, rfl, by omega, by omega, rfl⟩
  · go_enter Try.func33, Try.ntmps33
    go_wp2
    go_ret
    exact ⟨_, rfl, by omega, by omega, rfl⟩

theorem szG_zero (a : Option Addr) (cap : Nat) (l : Int) (w : World) (h0 : 0 ≤ l) (h1 : l ≤ 1048576) :
    Calls Try.prog 17 #[.slice a 0 cap, .int .i64 l] w fun e w' => e = .returned (.int .i64 l) ∧ w' = w := by
  go_enter Try.func17, Try.ntmps17
  go_wp2
  refine wp_loop_rounds 1 ?_
  rw [rounds_succ]
  go_wp2
  go_ret
  exact ⟨rfl, rfl⟩

set_option maxHeartbeats 400000 in
theorem szG_any (b off n cap : Nat) (M : Nat → ByteArray) (L : Nat → Int) (l : Int) (w : World) (h0 : 0 ≤ l) (h1 : l ≤ 1048576) (hn : n ≤ maxLen) (hb : b < w.heap.size)
    (hs : ∀ i, i < n → (M i).size ≤ maxLen)
    (hc : ∀ i, i < n → w.cell? ⟨b, off + i * 2, none⟩ = some (.string (M i)))
    (hl : ∀ i, i < n → w.cell? ⟨b, off + i * 2 + 1, none⟩ = some (.int .i64 (L i))) :
    Calls Try.prog 17 #[.slice (some ⟨b, off, none⟩) n cap, .int .i64 l] w fun e w' => ∃ r : Int, e = .returned (.int .i64 r) ∧ -1 ≤ r ∧ r ≤ l ∧ Below w.heap.size w w' := by
  unfold maxLen at hn
  by_cases hneg : l - n < 0
  · go_enter Try.func17, Try.ntmps17
    go_wp2
    go_ret
    exact ⟨-1, rfl, by omega, by omega, Below.refl _ _⟩
  · go_enter Try.func17, Try.ntmps17
    go_wp2
    go_loopw [1, 5] (fun s1 i wr => ∃ (k : Nat) (r : Int), k ≤ n ∧ i = .int .i64 k ∧ s1 = .int .i64 r ∧ 0 ≤ r ∧ r ≤ l ∧ Below w.heap.size w wr) (fun _ i _ => n - (intOf i).toNat)
    case atStart => exact ⟨0, _, Nat.zero_le _, rfl, rfl, by omega, by omega, Below.refl _ _⟩
    case round =>
      obtain ⟨k, r, hk, rfl, rfl, hr0, hr1, hbel⟩ := hrel
      by_cases hlt : k < n
      · have hck : wr.cell? ⟨b, off + k * 2, none⟩ = some (.string (M k)) := (hbel.cell (by exact hb)).trans (hc k hlt)
        have hlk : wr.cell? ⟨b, off + k * 2 + 1, none⟩ = some (.int .i64 (L k)) := (hbel.cell (by exact hb)).trans (hl k hlt)
        have hlen := hs k hlt
        go_wp2_with (go_at_call 33; refine (szG1_any _ _ _ _ (by assumption) (by omega) hlen).mono ?_; rintro e w' ⟨r', rfl, hr2, hr3, rfl⟩)
        · go_ret
          exact ⟨-1, rfl, by omega, by omega, hbel.alloc hbel.size _⟩
        · go_roundw
          case rel => exact ⟨k + 1, r', by omega, by go_num, rfl, by assumption, by omega, hbel.alloc hbel.size _⟩
          case measure => simp [intOf]; omega
      · go_wp2
        go_ret
        exact ⟨r, rfl, by omega, by omega, hbel⟩

theorem szG_sl {a : Option Addr} {n cap : Nat} {M : Nat → ByteArray} {L : Nat → Int} (l : Int) (w : World) (h0 : 0 ≤ l) (h1 : l ≤ 1048576) (h : SlG w a n cap M L) :
    Calls Try.prog 17 #[.slice a n cap, .int .i64 l] w fun e w' => ∃ r : Int, e = .returned (.int .i64 r) ∧ -1 ≤ r ∧ r ≤ l ∧ Below w.heap.size w w' := by
  rcases h.cells with rfl | ⟨b, off, rfl, hb, hc, hl⟩
  · refine (szG_zero a cap l w h0 h1).mono ?_
    rintro e w' ⟨rfl, rfl⟩
    exact ⟨l, rfl, by omega, by omega, Below.refl _ _⟩
  · exact szG_any b off n cap M L l w h0 h1 (Nat.le_trans h.le h.max) hb h.size hc hl
end Go.Proofs.Ytpdnocfefmobjaa
