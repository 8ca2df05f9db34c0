/-
  Sizes of texts, grants, events and rooms, with what they bound.
-/
import Derived.Test.YtfjfhnjoghlbfaaGreatLawR
import Derived.Test.YtfjfhnjoghlbfaaGreatMkR
namespace Go.Proofs.YtfjfhnjoghlbfaaGreat
open Go.RowKit

set_option maxHeartbeats 400000 in
theorem szSq_any (b off n cap : Nat) (S : Nat → ByteArray) (l : Int) (w : World) (h0 : 0 ≤ l) (h1 : l ≤ 1048576) (hn : n ≤ maxLen)
    (hs : ∀ i, i < n → (S i).size ≤ maxLen)
    (hc : ∀ i, i < n → w.cell? ⟨b, off + i, none⟩ = some (.string (S i))) :
    Calls Tryz.prog 5 #[.slice (some ⟨b, off, none⟩) n cap, .int .i64 l] w fun e w' => ∃ r : Int, e = .returned (.int .i64 r) ∧ -1 ≤ r ∧ r ≤ l ∧ (r < 0 ∨ r + n ≤ l) ∧ w' = w := by
  unfold maxLen at hn
  by_cases hneg : l - n < 0
  · go_enter Tryz.func5, Tryz.ntmps5
    go_wp2
    go_ret
    exact ⟨-1, rfl, by omega, by omega, by omega, rfl⟩
  · go_enter Tryz.func5, Tryz.ntmps5
    go_wp2
    go_loop [1, 5] (fun s1 i => ∃ (k : Nat) (r : Int), k ≤ n ∧ i = .int .i64 k ∧ s1 = .int .i64 r ∧ 0 ≤ r ∧ r + n ≤ l) (fun _ i => n - (intOf i).toNat)
    case atStart => exact ⟨0, _, Nat.zero_le _, rfl, rfl, by omega, by omega⟩
    case round =>
      obtain ⟨k, r, hk, rfl, rfl, hr0, hr1⟩ := hrel
      by_cases hlt : k < n
      · have hck := hc k hlt
        have hlen := hs k hlt
        unfold maxLen at hlen
        by_cases hn2 : r - ((S k).size : Int) < 0
        · go_wp2
          go_ret
          exact ⟨-1, rfl, by omega, by omega, by omega, rfl⟩
        · go_wp2
          go_round
          case rel => exact ⟨k + 1, _, by omega, by go_num, rfl, by omega, by omega⟩
          case measure => simp [intOf]; omega
      · go_wp2
        go_ret
        exact ⟨r, rfl, by omega, by omega, by omega, rfl⟩

theorem szSq_sl {a : Option Addr} {n cap : Nat} {S : Nat → ByteArray} (l : Int) (w : World) (h0 : 0 ≤ l) (h1 : l ≤ 1048576) (h : SlS w a n cap S) :
    Calls Tryz.prog 5 #[.slice a n cap, .int .i64 l] w fun e w' => ∃ r : Int, e = .returned (.int .i64 r) ∧ -1 ≤ r ∧ r ≤ l ∧ (r < 0 ∨ r + n ≤ l) ∧ w' = w := by
  rcases h.cells with rfl | ⟨b, off, rfl, hb, hc⟩
  · refine (szS_zero a cap l w h0 h1).mono ?_
    rintro e w' ⟨rfl, rfl⟩
    exact ⟨l, rfl, by omega, by omega, by omega, rfl⟩
  · exact szSq_any b off n cap S l w h0 h1 (Nat.le_trans h.le h.max) h.size hc

set_option maxHeartbeats 400000 in
theorem szGq_any (b off n cap : Nat) (M : Nat → ByteArray) (L : Nat → Int) (l : Int) (w : World) (h0 : 0 ≤ l) (h1 : l ≤ 1048576) (hn : n ≤ maxLen) (hb : b < w.heap.size)
    (hs : ∀ i, i < n → (M i).size ≤ maxLen)
    (hc : ∀ i, i < n → w.cell? ⟨b, off + i * 2, none⟩ = some (.string (M i)))
    (hl : ∀ i, i < n → w.cell? ⟨b, off + i * 2 + 1, none⟩ = some (.int .i64 (L i))) :
    Calls Tryz.prog 49 #[.slice (some ⟨b, off, none⟩) n cap, .int .i64 l] w fun e w' => ∃ r : Int, e = .returned (.int .i64 r) ∧ -1 ≤ r ∧ r ≤ l ∧ (r < 0 ∨ r + n ≤ l) ∧ Below w.heap.size w w' := by
  unfold maxLen at hn
  by_cases hneg : l - n < 0
  · go_enter Tryz.func49, Tryz.ntmps49
    go_wp2
    go_ret
    exact ⟨-1, rfl, by omega, by omega, by omega, Below.refl _ _⟩
  · go_enter Tryz.func49, Tryz.ntmps49
    go_wp2
    go_loopw [1, 5] (fun s1 i wr => ∃ (k : Nat) (r : Int), k ≤ n ∧ i = .int .i64 k ∧ s1 = .int .i64 r ∧ 0 ≤ r ∧ r + n ≤ l ∧ Below w.heap.size w wr) (fun _ i _ => n - (intOf i).toNat)
    case atStart => exact ⟨0, _, Nat.zero_le _, rfl, rfl, by omega, by omega, Below.refl _ _⟩
    case round =>
      obtain ⟨k, r, hk, rfl, rfl, hr0, hr1, hbel⟩ := hrel
      by_cases hlt : k < n
      · have hck : wr.cell? ⟨b, off + k * 2, none⟩ = some (.string (M k)) := (hbel.cell (by exact hb)).trans (hc k hlt)
        have hlk : wr.cell? ⟨b, off + k * 2 + 1, none⟩ = some (.int .i64 (L k)) := (hbel.cell (by exact hb)).trans (hl k hlt)
        have hlen := hs k hlt
        go_wp2_with (go_at_call 73; refine (szG1_any _ _ _ _ (by assumption) (by omega) hlen).mono ?_; rintro e w' ⟨r', rfl, hr2, hr3, rfl⟩)
        · go_ret
          exact ⟨-1, rfl, by omega, by omega, by omega, hbel.alloc hbel.size _⟩
        · go_roundw
          case rel => exact ⟨k + 1, r', by omega, by go_num, rfl, by assumption, by omega, hbel.alloc hbel.size _⟩
          case measure => simp [intOf]; omega
      · go_wp2
        go_ret
        exact ⟨r, rfl, by omega, by omega, by omega, hbel⟩

theorem szGq_sl {a : Option Addr} {n cap : Nat} {M : Nat → ByteArray} {L : Nat → Int} (l : Int) (w : World) (h0 : 0 ≤ l) (h1 : l ≤ 1048576) (h : SlG w a n cap M L) :
    Calls Tryz.prog 49 #[.slice a n cap, .int .i64 l] w fun e w' => ∃ r : Int, e = .returned (.int .i64 r) ∧ -1 ≤ r ∧ r ≤ l ∧ (r < 0 ∨ r + n ≤ l) ∧ Below w.heap.size w w' := by
  rcases h.cells with rfl | ⟨b, off, rfl, hb, hc, hl⟩
  · refine (szG_zero a cap l w h0 h1).mono ?_
    rintro e w' ⟨rfl, rfl⟩
    exact ⟨l, rfl, by omega, by omega, by omega, Below.refl _ _⟩
  · exact szGq_any b off n cap M L l w h0 h1 (Nat.le_trans h.le h.max) hb h.size hc hl

section
variable (id sd ty key val : ByteArray) (st : Bool) (tm : Int) (pa : Option Addr) (np cp : Nat) (aa : Option Addr) (na ca : Nat) (ga : Option Addr) (ng cg : Nat) (Pv Av M : Nat → ByteArray) (L : Nat → Int) (w : World)

set_option maxHeartbeats 2000000 in
theorem szEvq_any (hid : id.size ≤ maxLen) (hsd : sd.size ≤ maxLen) (hty : ty.size ≤ maxLen) (hkey : key.size ≤ maxLen) (hval : val.size ≤ maxLen)
    (hp : SlS w pa np cp Pv) (ha : SlS w aa na ca Av) (hg : SlG w ga ng cg M L) (l : Int) (h0 : 0 ≤ l) (h1 : l ≤ 1048576) :
    Calls Tryz.prog 28 #[evV id sd ty key val st tm pa np cp aa na ca ga ng cg, .int .i64 l] w fun e w' =>
      ∃ r : Int, e = .returned (.int .i64 r) ∧ -1 ≤ r ∧ r ≤ l ∧ (r < 0 ∨ r + np + na + ng ≤ l) ∧ Below w.heap.size w w' := by
  have hb0 : ∀ o, Below w.heap.size w (w.alloc o) := fun o => (Below.refl _ _).alloc (Nat.le_refl _) _
  unfold maxLen at hid hsd hty hkey hval
  go_enter Tryz.func28, Tryz.ntmps28
  go_wp2_with fail
  iterate 4 (· go_ret; exact ⟨-1, rfl, by omega, by omega, by omega, hb0 _⟩)
  refine (szSq_sl _ _ (by omega) (by omega) (hp.below (hb0 _))).mono ?_
  rintro e w' ⟨r1, rfl, hr1, hr1', hq1, rfl⟩
  have Hq1 : Hid (_) := hq1
  clear hq1
  go_wp2_with fail
  · go_ret
    exact ⟨-1, rfl, by omega, by omega, by omega, hb0 _⟩
  refine (szSq_sl _ _ (by omega) (by omega) (ha.below (hb0 _))).mono ?_
  rintro e w' ⟨r2, rfl, hr2, hr2', hq2, rfl⟩
  have Hq2 : Hid (_) := hq2
  clear hq2
  go_wp2_with fail
  · go_ret
    exact ⟨-1, rfl, by omega, by omega, by omega, hb0 _⟩
  · go_ret
    exact ⟨-1, rfl, by omega, by omega, by omega, hb0 _⟩
  refine (szGq_sl _ _ (by omega) (by omega) (hg.below (hb0 _))).mono ?_
  rintro e w3 ⟨r3, rfl, hr3, hr3', hq3, hb3⟩
  have Hq3 : Hid (_) := hq3
  clear hq3
  go_wp2
  · go_ret
    exact ⟨-1, rfl, by omega, by omega, by omega, (hb0 _).trans (hb3.mono (by simp))⟩
  · go_ret
    have e1 := Hq1.out
    have e2 := Hq2.out
    have e3 := Hq3.out
    exact ⟨r3, rfl, by omega, by omega, by omega, (hb0 _).trans (hb3.mono (by simp))⟩
end

/-- how many texts and grants the first n events have. -/
def nsum (E : Nat → Ev) : Nat → Nat
  | 0 => 0
  | n + 1 => nsum E n + ((E n).np + (E n).na + (E n).ng)
theorem esum_le (E : Nat → Ev) : ∀ n, esum E n ≤ 7 * n + 2 * nsum E n
  | 0 => Nat.le_refl _
  | n + 1 => by have := esum_le E n; unfold esum nsum; omega

set_option maxHeartbeats 2000000 in
theorem szVq_any (b off n cap : Nat) (E : Nat → Ev) (r0 : Int) (w : World) (h0 : 0 ≤ r0) (h1 : r0 ≤ 1048576) (hn : n ≤ maxLen) (hb : b < w.heap.size) (hc : ∀ i, i < n → EvAt w b (off + i * 10) (E i)) :
    Calls Tryz.prog 15 #[.slice (some ⟨b, off, none⟩) n cap, .int .i64 r0] w fun e w' => ∃ r : Int, e = .returned (.int .i64 r) ∧ -1 ≤ r ∧ r ≤ r0 ∧ (r < 0 ∨ r + n + nsum E n ≤ r0) ∧ Below w.heap.size w w' := by
  unfold maxLen at hn
  by_cases hneg : r0 - n < 0
  · go_enter Tryz.func15, Tryz.ntmps15
    go_wp2
    go_ret
    exact ⟨-1, rfl, by omega, by omega, by omega, Below.refl _ _⟩
  · go_enter Tryz.func15, Tryz.ntmps15
    go_wp2
    go_loopw [1, 5] (fun s1 i wr => ∃ (k : Nat) (r : Int), k ≤ n ∧ i = .int .i64 k ∧ s1 = .int .i64 r ∧ 0 ≤ r ∧ Hid (r + n + nsum E k ≤ r0) ∧ Below w.heap.size w wr) (fun _ i _ => n - (intOf i).toNat)
    case atStart => exact ⟨0, _, Nat.zero_le _, rfl, rfl, by omega, by unfold Hid nsum; omega, Below.refl _ _⟩
    case round =>
      obtain ⟨k, r, hk, rfl, rfl, hr0, hr1, hbel⟩ := hrel
      have hr9 : r ≤ 1048576 := by have := hr1.out; omega
      by_cases hlt : k < n
      · obtain ⟨pa, cp, aa, ca, ga, cg, hcs, hok⟩ := hc k hlt
        obtain ⟨c0, c1, c2, c3, c4, c5, c6, c7, c8, c9⟩ := hcs.below hbel hb
        have ho := hok.below hbel
        clear hcs hok hc
        go_wp2_with (go_at_call 28; refine (szEvq_any _ _ _ _ _ _ _ pa _ cp aa _ ca ga _ cg (E k).Pv (E k).Av (E k).M (E k).L _ ho.hid ho.hsd ho.hty ho.hkey ho.hval ho.hp ho.ha ho.hg _ (by assumption) (by omega)).mono ?_; rintro e w' ⟨r', rfl, hr2, hr3, hq, hb1⟩; have Hq : Hid (_) := hq; clear hq)
        · go_ret
          exact ⟨-1, rfl, by omega, by omega, by omega, hbel.trans (hb1.mono hbel.size)⟩
        · go_roundw
          case rel => exact ⟨k + 1, r', by omega, by go_num, rfl, by assumption, by have e1 := hr1.out; have e2 := Hq.out; unfold Hid nsum; omega, hbel.trans (hb1.mono hbel.size)⟩
          case measure => simp [intOf]; omega
      · have hkn : k = n := by omega
        subst hkn
        go_wp2
        go_ret
        have e1 := hr1.out
        exact ⟨r, rfl, by omega, by omega, by omega, hbel⟩

theorem szVq_sl {a : Option Addr} {n cap : Nat} {E : Nat → Ev} (r0 : Int) (w : World) (h0 : 0 ≤ r0) (h1 : r0 ≤ 1048576) (h : SlV w a n cap E) :
    Calls Tryz.prog 15 #[.slice a n cap, .int .i64 r0] w fun e w' => ∃ r : Int, e = .returned (.int .i64 r) ∧ -1 ≤ r ∧ r ≤ r0 ∧ (r < 0 ∨ r + n + nsum E n ≤ r0) ∧ Below w.heap.size w w' := by
  rcases h.cells with rfl | ⟨b, off, rfl, hb, hc⟩
  · refine (szV_zero a cap r0 w h0 h1).mono ?_
    rintro e w' ⟨rfl, rfl⟩
    exact ⟨r0, rfl, by omega, by omega, by unfold nsum; omega, Below.refl _ _⟩
  · exact szVq_any b off n cap E r0 w h0 h1 (Nat.le_trans h.le h.max) hb hc

set_option maxHeartbeats 1000000 in
theorem szRq_sl {a : Option Addr} {n cap : Nat} {E : Nat → Ev} (r0 : Int) (w : World) (h0 : 0 ≤ r0) (h1 : r0 ≤ 1048576) (h : SlV w a n cap E) :
    Calls Tryz.prog 4 #[.agg #[.slice a n cap], .int .i64 r0] w fun e w' => ∃ r : Int, e = .returned (.int .i64 r) ∧ -1 ≤ r ∧ r ≤ r0 ∧ (r < 0 ∨ r + n + nsum E n ≤ r0) ∧ Below w.heap.size w w' := by
  have hb0 : ∀ o, Below w.heap.size w (w.alloc o) := fun o => (Below.refl _ _).alloc (Nat.le_refl _) _
  go_enter Tryz.func4, Tryz.ntmps4
  go_wp2_with (go_at_call 15; refine (szVq_sl r0 _ h0 h1 (h.below (hb0 _))).mono ?_; rintro e w' ⟨r', rfl, hr2, hr3, hq, hb1⟩; have Hq : Hid (_) := hq; clear hq)
  · go_ret
    exact ⟨-1, rfl, by omega, by omega, by omega, (hb0 _).trans (hb1.mono (by simp))⟩
  · go_ret
    exact ⟨r', rfl, by omega, by omega, Hq.out, (hb0 _).trans (hb1.mono (by simp))⟩
end Go.Proofs.YtfjfhnjoghlbfaaGreat
