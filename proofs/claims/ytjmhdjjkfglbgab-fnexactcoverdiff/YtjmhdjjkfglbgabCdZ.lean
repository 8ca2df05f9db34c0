import Derived.Test.YtjmhdjjkfglbgabCovZ
import Derived.Test.YtjmhdjjkfglbgabCovW
namespace Go.Proofs.Ytjmhdjjkfglbgab
open Go.RowKit

theorem szP2_any (a : Option Addr) (n cap : Nat) (l : Int) (w : World) (h0 : 0 ≤ l) (h1 : l ≤ 1048576) (hn : n ≤ maxLen) :
    Calls Try.prog 36 #[.slice a n cap, .int .i64 l] w fun e w' => ∃ r : Int, e = .returned (.int .i64 r) ∧ -1 ≤ r ∧ r ≤ l ∧ (0 ≤ r → r + n ≤ l) ∧ w' = w := by
  unfold maxLen at hn
  by_cases hneg : l - n < 0
  · go_enter Try.func36, Try.ntmps36
    go_wp2
    go_ret
    exact ⟨-1, rfl, by omega, by omega, by omega, rfl⟩
  · go_enter Try.func36, Try.ntmps36
    go_wp2
    go_ret
    exact ⟨_, rfl, by omega, by omega, by omega, rfl⟩

theorem szI2_any (a : Option Addr) (n cap : Nat) (l : Int) (w : World) (h0 : 0 ≤ l) (h1 : l ≤ 1048576) (hn : n ≤ maxLen) :
    Calls Try.prog 37 #[.slice a n cap, .int .i64 l] w fun e w' => ∃ r : Int, e = .returned (.int .i64 r) ∧ -1 ≤ r ∧ r ≤ l ∧ (0 ≤ r → r + n ≤ l) ∧ w' = w := by
  unfold maxLen at hn
  by_cases hneg : l - n < 0
  · go_enter Try.func37, Try.ntmps37
    go_wp2
    go_ret
    exact ⟨-1, rfl, by omega, by omega, by omega, rfl⟩
  · go_enter Try.func37, Try.ntmps37
    go_wp2
    go_ret
    exact ⟨_, rfl, by omega, by omega, by omega, rfl⟩

set_option maxHeartbeats 400000 in
theorem szL2_any (b off n cap : Nat) (rn : Nat → Nat) (X : Nat → Nat → Int) (l : Int) (w : World) (h0 : 0 ≤ l) (h1 : l ≤ 1048576) (hn : n ≤ maxLen)
    (hc : ∀ i, i < n → RowAt w b (off + i) (rn i) (X i)) :
    Calls Try.prog 11 #[.slice (some ⟨b, off, none⟩) n cap, .int .i64 l] w fun e w' => ∃ r : Int, e = .returned (.int .i64 r) ∧ -1 ≤ r ∧ r ≤ l ∧ (0 ≤ r → r + n + sumN rn n ≤ l) ∧ w' = w := by
  unfold maxLen at hn
  by_cases hneg : l - n < 0
  · go_enter Try.func11, Try.ntmps11
    go_wp2
    go_ret
    exact ⟨-1, rfl, by omega, by omega, by omega, rfl⟩
  · go_enter Try.func11, Try.ntmps11
    go_wp2
    go_loop [1, 5] (fun s1 i => ∃ (k : Nat) (r : Int), k ≤ n ∧ i = .int .i64 k ∧ s1 = .int .i64 r ∧ 0 ≤ r ∧ r + n + sumN rn k ≤ l) (fun _ i => n - (intOf i).toNat)
    case atStart => exact ⟨0, _, Nat.zero_le _, rfl, rfl, by omega, by simp [sumN]⟩
    case round =>
      obtain ⟨k, r, hk, rfl, rfl, hr0, hr1⟩ := hrel
      by_cases hlt : k < n
      · obtain ⟨ra, rc, hck, hsl⟩ := hc k hlt
        have hss : sumN rn (k + 1) = sumN rn k + rn k := rfl
        go_wp2_with (go_at_call 37; refine (szI2_any _ _ _ _ _ (by assumption) (by omega) (Nat.le_trans hsl.le hsl.max)).mono ?_; rintro e w' ⟨r', rfl, hr2, hr3, hr4, rfl⟩)
        · go_ret
          exact ⟨-1, rfl, by omega, by omega, by omega, rfl⟩
        · go_round
          case rel => exact ⟨k + 1, r', by omega, by go_num, rfl, by assumption, by have := hr4 (by assumption); omega⟩
          case measure => simp [intOf]; omega
      · have hkn : k = n := by omega
        subst hkn
        go_wp2
        go_ret
        exact ⟨r, rfl, by omega, by omega, by omega, rfl⟩

theorem szL2_sl {a : Option Addr} {n cap : Nat} {rn : Nat → Nat} {X : Nat → Nat → Int} (l : Int) (w : World) (h0 : 0 ≤ l) (h1 : l ≤ 1048576) (h : SlL w a n cap rn X) :
    Calls Try.prog 11 #[.slice a n cap, .int .i64 l] w fun e w' => ∃ r : Int, e = .returned (.int .i64 r) ∧ -1 ≤ r ∧ r ≤ l ∧ (0 ≤ r → r + n + sumN rn n ≤ l) ∧ w' = w := by
  rcases h.cells with rfl | ⟨b, off, rfl, hb, hc⟩
  · refine (szL_zero a cap l w h0 h1).mono ?_
    rintro e w' ⟨rfl, rfl⟩
    exact ⟨l, rfl, by omega, by omega, by simp [sumN], rfl⟩
  · exact szL2_any b off n cap rn X l w h0 h1 (Nat.le_trans h.le h.max) hc

set_option maxHeartbeats 400000 in
theorem szC2_any {sa : Option Addr} {ns cs : Nat} {ra : Option Addr} {nr cr : Nat} {C Q : Nat → Int} {rn : Nat → Nat} {X : Nat → Nat → Int} (l : Int) (w : World) (h0 : 0 ≤ l) (h1 : l ≤ 1048576) (hp : SlP w sa ns cs C Q) (hl : SlL w ra nr cr rn X) :
    Calls Try.prog 10 #[.agg #[.slice sa ns cs, .slice ra nr cr], .int .i64 l] w fun e w' => ∃ r : Int, e = .returned (.int .i64 r) ∧ -1 ≤ r ∧ r ≤ l ∧ (0 ≤ r → r + ns + nr + sumN rn nr ≤ l) ∧ Below w.heap.size w w' := by
  have hb0 : ∀ o, Below w.heap.size w (w.alloc o) := fun o => (Below.refl _ _).alloc (Nat.le_refl _) _
  go_enter Try.func10, Try.ntmps10
  go_wp2_with fail
  refine (szP2_any _ _ _ _ _ h0 h1 (Nat.le_trans hp.le hp.max)).mono ?_
  rintro e w1 ⟨r1, rfl, hr1, hr1', hq1, rfl⟩
  go_wp2_with fail
  · go_ret
    exact ⟨-1, rfl, by omega, by omega, by omega, hb0 _⟩
  refine (szL2_sl _ _ (by omega) (by omega) (hl.below (hb0 _))).mono ?_
  rintro e w2 ⟨r2, rfl, hr2, hr2', hq2, rfl⟩
  go_wp2
  · go_ret
    exact ⟨-1, rfl, by omega, by omega, by omega, hb0 _⟩
  · go_ret
    exact ⟨r2, rfl, by omega, by omega, by omega, hb0 _⟩

/-! ### markCover -/

set_option maxHeartbeats 800000 in
theorem markC_any {sa : Option Addr} {ns cs b nr cr lo hi k0 : Nat} {rn : Nat → Nat} (w : World) (hns : ns ≤ 10000000) (hnr : nr ≤ maxLen) (hs : k0 + ns * 2 + sumN rn nr ≤ 1000000000) (hlo : lo ≤ b + 1)
    (hb : b < w.heap.size) (hw : Wr w lo b sa (ns * 2)) (hbh : b ≤ hi) (hr : RowsW w b 0 nr hi rn) :
    Calls Try.prog 19 #[.agg #[.slice sa ns cs, .slice (some ⟨b, 0, none⟩) nr cr], .int .i64 (k0 : Int)] w fun e w' => e = .returned (.int .i64 ((k0 + ns * 2 + sumN rn nr : Nat) : Int)) ∧ Mkd lo hi w w' := by
  have hb0 : ∀ o, Below w.heap.size w (w.alloc o) := fun o => (Below.refl _ _).alloc (Nat.le_refl _) _
  have hm0 : ∀ o, Mkd lo hi w (w.alloc o) := fun o => (Mkd.refl lo hi w).alloc o
  have hmp : Hid (∀ W, Wr W lo b sa (ns * 2) → Calls Try.prog 44 #[.slice sa ns cs, .int .i64 (k0 : Int)] W fun e w' => e = .returned (.int .i64 ((k0 + ns * 2 : Nat) : Int)) ∧ Mkd lo b W w') := fun W hW => markP_sl W (by omega) (by omega) hW
  have hml : Hid (∀ W, b < W.heap.size → RowsW W b 0 nr hi rn → Calls Try.prog 20 #[.slice (some ⟨b, 0, none⟩) nr cr, .int .i64 ((k0 + ns * 2 : Nat) : Int)] W fun e w' => e = .returned (.int .i64 ((k0 + ns * 2 + sumN rn nr : Nat) : Int)) ∧ Mkd (b + 1) hi W w') := fun W hW hR => markL_sl W hnr (Or.inr hW) (by omega) hR
  go_enter Try.func19, Try.ntmps19
  go_wp2_with fail
  refine (hmp.out _ (hw.below (hb0 _))).mono ?_
  rintro e w1 ⟨rfl, hm1⟩
  have hcl : ∀ o, w1.cell? ⟨w.heap.size, o, none⟩ = (#[Value.slice sa ns cs, .slice (some ⟨b, 0, none⟩) nr cr] : Array Value)[o]? := fun o =>
    (World.cell?_of_block (a := ⟨w.heap.size, o, none⟩) (hm1.block w.heap.size (by simp) (Or.inr (by omega)))).trans (World.cell?_alloc_at _ _ _ _ rfl)
  have hm01 := (hm0 _).trans (hm1.wide (Nat.le_refl _) hbh)
  have hr1 : RowsW w1 b 0 nr hi rn := fun i hi' => by
    obtain ⟨ra, rc, q1, q2, q3, q4⟩ := hr i hi'
    exact ⟨ra, rc, (World.cell?_of_block (a := ⟨b, 0 + i, none⟩) (hm1.block b (by simp; omega) (Or.inr (Nat.le_refl _)))).trans (past1 hb q1 _), q2, q3, q4.mkd hm01⟩
  have hb1 : b < w1.heap.size := Nat.lt_of_lt_of_le hb hm01.size
  clear hr hw hmp
  go_wp2_with fail
  go_fit (hml.out _ hb1 hr1)
  rintro e w2 ⟨rfl, hm2⟩
  go_wp2
  go_ret
  exact ⟨by first | rfl | (congr 2), hm01.trans (hm2.wide hlo (Nat.le_refl _))⟩
end Go.Proofs.Ytjmhdjjkfglbgab
