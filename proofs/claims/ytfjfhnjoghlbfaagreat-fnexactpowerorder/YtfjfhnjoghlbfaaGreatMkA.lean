import Derived.Test.YtfjfhnjoghlbfaaGreatLawA
import Derived.Test.YtfjfhnjoghlbfaaGreatMkD
import Derived.Deep.DeepFit
import Derived.Test.YtfjfhnjoghlbfaaGreatToR
namespace Go.Proofs.YtfjfhnjoghlbfaaGreat
open Go.RowKit

theorem markSw_zero (a : Option Addr) (cap k : Nat) (w : World) :
    Calls Tryz.prog 13 #[.slice a 0 cap, .int .i64 (k : Int)] w fun e w' => e = .returned (.int .i64 (k : Int)) ∧ w' = w := by
  go_enter Tryz.func13, Tryz.ntmps13
  go_wp2
  refine wp_loop_rounds 1 ?_
  rw [rounds_succ]
  go_wp2
  go_ret
  exact ⟨rfl, rfl⟩

set_option maxRecDepth 100000 in
set_option maxHeartbeats 800000 in
theorem markSw_any (lo hi b off n cap k0 : Nat) (w : World) (hn : n ≤ 1000000000) (hk0 : k0 ≤ 1000000000) (hl : lo ≤ b) (hh : b < hi) (hb : b < w.heap.size)
    (hf : ∀ i, i < n → (∃ v, w.cell? ⟨b, off + i, none⟩ = some v) ∧ w.frozen? ⟨b, off + i, none⟩ = false) :
    Calls Tryz.prog 13 #[.slice (some ⟨b, off, none⟩) n cap, .int .i64 (k0 : Int)] w fun e w' =>
      e = .returned (.int .i64 ((k0 + n : Nat) : Int)) ∧ (∀ i, i < n → w'.cell? ⟨b, off + i, none⟩ = some (.string (mkT (k0 + i)))) ∧ Mkd lo hi w w' := by
  go_enter Tryz.func13, Tryz.ntmps13
  go_wp2_with fail
  go_loopw [1, 5] (fun kv iv wr => ∃ j : Nat, j ≤ n ∧ kv = .int .i64 ((k0 + j : Nat) : Int) ∧ iv = .int .i64 (j : Int) ∧ Hid (∀ i, i < j → wr.cell? ⟨b, off + i, none⟩ = some (.string (mkT (k0 + i)))) ∧ Mkd lo hi w wr) (fun _ iv _ => n - (intOf iv).toNat)
  case atStart => exact ⟨0, Nat.zero_le _, rfl, rfl, fun i hi => absurd hi (Nat.not_lt_zero _), Mkd.refl _ _ _⟩
  case round =>
    obtain ⟨j, hj, rfl, rfl, hdone, hmk⟩ := hrel
    have hbr : b < wr.heap.size := Nat.lt_of_lt_of_le hb hmk.size
    by_cases hlt : j < n
    · have hmt : Hid (∀ W, Calls Tryz.prog 27 #[.int .i64 ((k0 + j : Nat) : Int)] W fun e w' => e = .returned (.string (mkT (k0 + j))) ∧ Below W.heap.size W w') := fun W => mkT_any (k0 + j) W (by omega)
      obtain ⟨hv0, hf0⟩ := hf j hlt
      clear hf
      go_wp2_with fail
      go_fit (hmt.out _)
      rintro e w1 ⟨rfl, hb1⟩
      have hmk1 := hmk.blw hb1
      obtain ⟨v, hv⟩ := hmk1.there ⟨b, off + j, none⟩ hb hv0
      have hfz : w1.frozen? ⟨b, off + j, none⟩ = false := (hmk1.frz ⟨b, off + j, none⟩ hb).trans hf0
      go_wp2
      go_roundw
      case rel =>
        refine ⟨j + 1, by omega, by go_num, by go_num, fun i hi => ?_, hmk1.set hl hh ⟨v, hv⟩⟩
        by_cases e : i = j
        · subst e; exact set_same ⟨_, hv⟩
        · rw [set_far (by omega)]
          exact (hb1.cell (by exact hbr)).trans (hdone.out i (by omega))
      case measure => simp [intOf]; omega
    · have hje : j = n := by omega
      subst hje
      go_wp2
      go_ret
      exact ⟨by first | rfl | (congr 2), hdone.out, hmk⟩

theorem markSw_sl {lo hi : Nat} {a : Option Addr} {n cap k0 : Nat} (w : World) (hn : n ≤ 1000000000) (hk0 : k0 ≤ 1000000000) (hw : Wr w lo hi a n) :
    Calls Tryz.prog 13 #[.slice a n cap, .int .i64 (k0 : Int)] w fun e w' => e = .returned (.int .i64 ((k0 + n : Nat) : Int)) ∧ Mkd lo hi w w' := by
  by_cases h0 : n = 0
  · subst h0
    refine (markSw_zero a cap k0 w).mono ?_
    rintro e w' ⟨rfl, rfl⟩
    exact ⟨rfl, Mkd.refl _ _ _⟩
  · rcases hw with h' | ⟨b, off, rfl, hl, hh, hb, hf⟩
    · exact absurd h' h0
    · refine (markSw_any lo hi b off n cap k0 w hn hk0 hl hh hb hf).mono ?_
      rintro e w' ⟨rfl, _, hm⟩
      exact ⟨rfl, hm⟩

theorem markGw_zero (a : Option Addr) (cap k : Nat) (w : World) :
    Calls Tryz.prog 48 #[.slice a 0 cap, .int .i64 (k : Int)] w fun e w' => e = .returned (.int .i64 (k : Int)) ∧ w' = w := by
  go_enter Tryz.func48, Tryz.ntmps48
  go_wp2
  refine wp_loop_rounds 1 ?_
  rw [rounds_succ]
  go_wp2
  go_ret
  exact ⟨rfl, rfl⟩

set_option maxRecDepth 100000 in
set_option maxHeartbeats 1600000 in
theorem markGw_any (lo hi b off n cap k0 : Nat) (w : World) (hn : n ≤ 100000000) (hk0 : k0 ≤ 1000000000) (hl : lo ≤ b) (hh : b < hi) (hb : b < w.heap.size)
    (hf : ∀ i, i < n * 2 → (∃ v, w.cell? ⟨b, off + i, none⟩ = some v) ∧ w.frozen? ⟨b, off + i, none⟩ = false) :
    Calls Tryz.prog 48 #[.slice (some ⟨b, off, none⟩) n cap, .int .i64 (k0 : Int)] w fun e w' =>
      e = .returned (.int .i64 ((k0 + n * 2 : Nat) : Int)) ∧ Mkd lo hi w w' := by
  go_enter Tryz.func48, Tryz.ntmps48
  go_wp2_with fail
  go_loopw [1, 5] (fun kv iv wr => ∃ j : Nat, j ≤ n ∧ kv = .int .i64 ((k0 + j * 2 : Nat) : Int) ∧ iv = .int .i64 (j : Int) ∧ Mkd lo hi w wr) (fun _ iv _ => n - (intOf iv).toNat)
  case atStart => exact ⟨0, Nat.zero_le _, rfl, rfl, Mkd.refl _ _ _⟩
  case round =>
    obtain ⟨j, hj, rfl, rfl, hmk⟩ := hrel
    by_cases hlt : j < n
    · have hmt : Hid (∀ W, Calls Tryz.prog 27 #[.int .i64 ((k0 + j * 2 : Nat) : Int)] W fun e w' => e = .returned (.string (mkT (k0 + j * 2))) ∧ Below W.heap.size W w') := fun W => mkT_any (k0 + j * 2) W (by omega)
      obtain ⟨hv0, hf0⟩ := hf (j * 2) (by omega)
      obtain ⟨hv1, hf1⟩ := hf (j * 2 + 1) (by omega)
      clear hf
      go_wp2_with fail
      go_fit (hmt.out _)
      rintro e w1 ⟨rfl, hb1⟩
      have hmk1 := hmk.blw hb1
      obtain ⟨v, hv⟩ := hmk1.there ⟨b, off + j * 2, none⟩ hb hv0
      have hfz : w1.frozen? ⟨b, off + j * 2, none⟩ = false := (hmk1.frz ⟨b, off + j * 2, none⟩ hb).trans hf0
      obtain ⟨v1, hvv1⟩ := hmk1.there ⟨b, off + j * 2 + 1, none⟩ hb hv1
      have hfz1 : w1.frozen? ⟨b, off + j * 2 + 1, none⟩ = false := (hmk1.frz ⟨b, off + j * 2 + 1, none⟩ hb).trans hf1
      have hmk2 := hmk1.set (x := .string (mkT (k0 + j * 2))) hl hh ⟨v, hv⟩
      have HV : Hid (∃ v, (w1.setCell ⟨b, off + j * 2, none⟩ (.string (mkT (k0 + j * 2)))).cell? ⟨b, off + j * 2 + 1, none⟩ = some v) := hmk2.there ⟨b, off + j * 2 + 1, none⟩ hb hv1
      go_wp2
      go_roundw
      case rel => exact ⟨j + 1, by omega, by go_num, by go_num, hmk2.set hl hh HV.out⟩
      case measure => simp [intOf]; omega
    · have hje : j = n := by omega
      subst hje
      go_wp2
      go_ret
      exact ⟨by first | rfl | (congr 2), hmk⟩

theorem markGw_sl {lo hi : Nat} {a : Option Addr} {n cap k0 : Nat} (w : World) (hn : n ≤ 100000000) (hk0 : k0 ≤ 1000000000) (hw : Wr w lo hi a (n * 2)) :
    Calls Tryz.prog 48 #[.slice a n cap, .int .i64 (k0 : Int)] w fun e w' => e = .returned (.int .i64 ((k0 + n * 2 : Nat) : Int)) ∧ Mkd lo hi w w' := by
  by_cases h0 : n = 0
  · subst h0
    refine (markGw_zero a cap k0 w).mono ?_
    rintro e w' ⟨rfl, rfl⟩
    exact ⟨rfl, Mkd.refl _ _ _⟩
  · rcases hw with h' | ⟨b, off, rfl, hl, hh, hb, hf⟩
    · omega
    · exact markGw_any lo hi b off n cap k0 w hn hk0 hl hh hb hf
end Go.Proofs.YtfjfhnjoghlbfaaGreat
namespace Go.Proofs.YtfjfhnjoghlbfaaGreat
open Go.RowKit

/-- the lists of an event as they lie: three slices. -/
structure Lst where
  pa : Option Addr
  np : Nat
  cp : Nat
  aa : Option Addr
  na : Nat
  ca : Nat
  ga : Option Addr
  ng : Nat
  cg : Nat

/-- where the lists of event i stand in the events' block. -/
def LstAt (w : World) (B o : Nat) (l : Lst) : Prop :=
  w.cell? ⟨B, o + 6, none⟩ = some (.slice l.pa l.np l.cp) ∧ w.cell? ⟨B, o + 7, none⟩ = some (.slice l.aa l.na l.ca) ∧ w.cell? ⟨B, o + 9, none⟩ = some (.slice l.ga l.ng l.cg)
def LstW (w : World) (B hi : Nat) (l : Lst) : Prop := Wr w (B + 1) hi l.pa l.np ∧ Wr w (B + 1) hi l.aa l.na ∧ Wr w (B + 1) hi l.ga (l.ng * 2)
def Lst.num (l : Lst) : Nat := 7 + l.np + l.na + l.ng * 2
def lsum (T : Nat → Lst) : Nat → Nat
  | 0 => 0
  | n + 1 => lsum T n + (T n).num
theorem lsum_le (T : Nat → Lst) : ∀ n k, k ≤ n → lsum T k ≤ lsum T n
  | 0, k, h => by have : k = 0 := by omega
                  subst this; exact Nat.le_refl _
  | n + 1, k, h => by
    by_cases e : k = n + 1
    · subst e; exact Nat.le_refl _
    · have := lsum_le T n k (by omega)
      rw [lsum]; omega
theorem lsum_at (T : Nat → Lst) (n k : Nat) (h : k < n) : lsum T k + (T k).num ≤ lsum T n := by
  have := lsum_le T n (k + 1) (by omega)
  rw [lsum] at this; exact this

/-- the lists of all events stand where they stood. -/
def LT (w : World) (B off n : Nat) (T : Nat → Lst) : Prop := ∀ i, i < n → LstAt w B (off + i * 10) (T i)
theorem LT.below {w w' : World} {B off n : Nat} {T : Nat → Lst} (h : LT w B off n T) (hB : B < w.heap.size) (hb : Below w.heap.size w w') : LT w' B off n T := fun i hi =>
  ⟨(hb.cell (by exact hB)).trans (h i hi).1, (hb.cell (by exact hB)).trans (h i hi).2.1, (hb.cell (by exact hB)).trans (h i hi).2.2⟩
theorem LT.set {w : World} {B off n j r : Nat} {T : Nat → Lst} {x : Value} (h : LT w B off n T) (hr : r < 6 ∨ r = 8) : LT (w.setCell ⟨B, off + j * 10 + r, none⟩ x) B off n T := fun i hi =>
  ⟨by rw [set_far (by omega)]; exact (h i hi).1, by rw [set_far (by omega)]; exact (h i hi).2.1, by rw [set_far (by omega)]; exact (h i hi).2.2⟩
theorem LT.mkd {w w' : World} {B off n hi : Nat} {T : Nat → Lst} (h : LT w B off n T) (hB : B < w.heap.size) (hm : Mkd (B + 1) hi w w') : LT w' B off n T := fun i hi =>
  ⟨(hm.cell hB (Or.inl (Nat.lt_succ_self _))).trans (h i hi).1, (hm.cell hB (Or.inl (Nat.lt_succ_self _))).trans (h i hi).2.1, (hm.cell hB (Or.inl (Nat.lt_succ_self _))).trans (h i hi).2.2⟩

theorem markV_zero (a : Option Addr) (cap k : Nat) (w : World) :
    Calls Tryz.prog 26 #[.slice a 0 cap, .int .i64 (k : Int)] w fun e w' => e = .returned (.int .i64 (k : Int)) ∧ w' = w := by
  go_enter Tryz.func26, Tryz.ntmps26
  go_wp2
  refine wp_loop_rounds 1 ?_
  rw [rounds_succ]
  go_wp2
  go_ret
  exact ⟨rfl, rfl⟩

set_option maxRecDepth 100000 in
set_option maxHeartbeats 4000000 in
theorem markV_any (B off n cap k0 hi : Nat) (T : Nat → Lst) (w : World) (hn : n ≤ maxLen) (hs : k0 + lsum T n ≤ 100000000) (hh : B < hi) (hb : B < w.heap.size)
    (hf : ∀ i, i < n * 10 → (∃ v, w.cell? ⟨B, off + i, none⟩ = some v) ∧ w.frozen? ⟨B, off + i, none⟩ = false)
    (hT : ∀ i, i < n → LstAt w B (off + i * 10) (T i)) (hW : ∀ i, i < n → LstW w B hi (T i)) :
    Calls Tryz.prog 26 #[.slice (some ⟨B, off, none⟩) n cap, .int .i64 (k0 : Int)] w fun e w' =>
      e = .returned (.int .i64 ((k0 + lsum T n : Nat) : Int)) ∧ Mkd B hi w w' := by
  unfold maxLen at hn
  go_enter Tryz.func26, Tryz.ntmps26
  go_wp2_with fail
  go_loopw [1, 5] (fun kv iv wr => ∃ j : Nat, j ≤ n ∧ kv = .int .i64 ((k0 + lsum T j : Nat) : Int) ∧ iv = .int .i64 (j : Int) ∧ Hid (∀ i, i < n → LstAt wr B (off + i * 10) (T i)) ∧ Mkd B hi w wr) (fun _ iv _ => n - (intOf iv).toNat)
  case atStart => exact ⟨0, Nat.zero_le _, rfl, rfl, hT, Mkd.refl _ _ _⟩
  case round =>
    obtain ⟨j, hj, rfl, rfl, hTr, hmk⟩ := hrel
    by_cases hlt : j < n
    · have hsj := lsum_at T n j hlt
      have hss : lsum T (j + 1) = lsum T j + (T j).num := rfl
      have hnum : (T j).num = 7 + (T j).np + (T j).na + (T j).ng * 2 := rfl
      obtain ⟨K, hK⟩ : ∃ K, Hid (K = k0 + lsum T j) := ⟨_, rfl⟩
      have hKb : K + 7 + (T j).np + (T j).na + (T j).ng * 2 ≤ 100000000 := by have := hK.out; omega
      have hf10 : ∀ i, i < 10 → (∃ v, w.cell? ⟨B, off + j * 10 + i, none⟩ = some v) ∧ w.frozen? ⟨B, off + j * 10 + i, none⟩ = false := fun i hi => by
        have := hf (j * 10 + i) (by omega)
        rw [← Nat.add_assoc] at this; exact this
      rw [← hK.out]
      have EX : Hid (∀ wz, Mkd B hi w wz → ∀ i, i < 10 → (∃ v, wz.cell? ⟨B, off + j * 10 + i, none⟩ = some v) ∧ wz.frozen? ⟨B, off + j * 10 + i, none⟩ = false) := fun wz hz i hi10 => ⟨hz.there ⟨B, off + j * 10 + i, none⟩ hb (hf10 i hi10).1, (hz.frz ⟨B, off + j * 10 + i, none⟩ hb).trans (hf10 i hi10).2⟩
      have hLT : Hid (LT wr B off n T) := hTr
      clear hf hf10 hTr hsj hT
      have hmt : ∀ i, i < 20 + (T j).np + (T j).na → Hid (∀ W, Calls Tryz.prog 27 #[.int .i64 ((K + i : Nat) : Int)] W fun e w' => e = .returned (.string (mkT (K + i))) ∧ Below W.heap.size W w') := fun i _ W => mkT_any (K + i) W (by omega)
      have m0 := hmt 0 (by omega)
      simp only [Nat.add_zero] at m0
      have m1 := hmt 1 (by omega)
      have m2 := hmt 2 (by omega)
      have m4 := hmt 4 (by omega)
      go_wp2_with fail
      go_fit (m0.out _)
      rintro e w1 ⟨rfl, hb1⟩
      have M1 := hmk.blw hb1
      obtain ⟨⟨x0, y0⟩, z0⟩ := EX.out _ M1 0 (by decide)
      simp only [Nat.add_zero] at y0 z0
      have M1s := M1.set (x := .string (mkT K)) (Nat.le_refl _) hh ⟨x0, y0⟩
      go_wp2_with fail
      go_fit (m1.out _)
      rintro e w2 ⟨rfl, hb2⟩
      have M2 := M1s.blw hb2
      obtain ⟨⟨x1, y1⟩, z1⟩ := EX.out _ M2 1 (by decide)
      have M2s := M2.set (x := .string (mkT (K + 1))) (Nat.le_refl _) hh ⟨x1, y1⟩
      clear y0 z0
      go_wp2_with fail
      go_fit (m2.out _)
      rintro e w3 ⟨rfl, hb3⟩
      have M3 := M2s.blw hb3
      obtain ⟨⟨x2, y2⟩, z2⟩ := EX.out _ M3 2 (by decide)
      obtain ⟨⟨x3, y3⟩, z3⟩ := EX.out _ M3 3 (by decide)
      have M3s := M3.set (x := .string (mkT (K + 2))) (Nat.le_refl _) hh ⟨x2, y2⟩
      clear y1 z1
      have M3t := M3s.set (x := .bool (((K : Int) + 1 + 1 + 1) % 3 == 0)) (Nat.le_refl _) hh (EX.out _ M3s 3 (by decide)).1
      have hbr : B < wr.heap.size := Nat.lt_of_lt_of_le hb hmk.size
      have L1 : LT (w1.setCell ⟨B, off + j * 10, none⟩ (.string (mkT K))) B off n T := (hLT.out.below hbr hb1).set (r := 0) (Or.inl (by decide))
      have L2 := (L1.below (Nat.lt_of_lt_of_le hb M1s.size) hb2).set (j := j) (r := 1) (x := .string (mkT (K + 1))) (Or.inl (by decide))
      have L3 := ((L2.below (Nat.lt_of_lt_of_le hb M2s.size) hb3).set (j := j) (r := 2) (x := .string (mkT (K + 2))) (Or.inl (by decide))).set (j := j) (r := 3) (x := .bool (((K : Int) + 1 + 1 + 1) % 3 == 0)) (Or.inl (by decide))
      have HL3 : Hid (LT _ B off n T) := L3
      clear L1 L2 L3 hb1 hb2 hLT
      go_wp2_with fail
      go_fit (m4.out _)
      rintro e w4 ⟨rfl, hb4⟩
      have M4 := M3t.blw hb4
      obtain ⟨⟨x4, y4⟩, z4⟩ := EX.out _ M4 4 (by decide)
      obtain ⟨⟨x5, y5⟩, z5⟩ := EX.out _ M4 5 (by decide)
      have M4s := M4.set (x := .string (mkT (K + 4))) (Nat.le_refl _) hh ⟨x4, y4⟩
      have M4t := M4s.set (x := .int .i64 ((K : Int) + 1 + 1 + 1 + 1 + 1)) (Nat.le_refl _) hh (EX.out _ M4s 5 (by decide)).1
      have L4 := HL3.out.below (Nat.lt_of_lt_of_le hb M3t.size) hb4
      obtain ⟨t6, _, _⟩ := L4 j hlt
      have HL4 : Hid (LT _ B off n T) := (L4.set (j := j) (r := 4) (x := .string (mkT (K + 4))) (Or.inl (by decide))).set (j := j) (r := 5) (x := .int .i64 ((K : Int) + 1 + 1 + 1 + 1 + 1)) (Or.inl (by decide))
      obtain ⟨W1, W2, W3⟩ := hW j hlt
      have hmS : Hid (∀ W (k : Nat), k ≤ 1000000000 → Wr W (B + 1) hi (T j).pa (T j).np → Calls Tryz.prog 13 #[.slice (T j).pa (T j).np (T j).cp, .int .i64 (k : Int)] W fun e w' => e = .returned (.int .i64 ((k + (T j).np : Nat) : Int)) ∧ Mkd (B + 1) hi W w') := fun W k hk hw => markSw_sl W (by omega) hk hw
      have hmA : Hid (∀ W (k : Nat), k ≤ 1000000000 → Wr W (B + 1) hi (T j).aa (T j).na → Calls Tryz.prog 13 #[.slice (T j).aa (T j).na (T j).ca, .int .i64 (k : Int)] W fun e w' => e = .returned (.int .i64 ((k + (T j).na : Nat) : Int)) ∧ Mkd (B + 1) hi W w') := fun W k hk hw => markSw_sl W (by omega) hk hw
      have hmG : Hid (∀ W (k : Nat), k ≤ 1000000000 → Wr W (B + 1) hi (T j).ga ((T j).ng * 2) → Calls Tryz.prog 48 #[.slice (T j).ga (T j).ng (T j).cg, .int .i64 (k : Int)] W fun e w' => e = .returned (.int .i64 ((k + (T j).ng * 2 : Nat) : Int)) ∧ Mkd (B + 1) hi W w') := fun W k hk hw => markGw_sl W (by omega) hk hw
      clear y2 z2 y3 z3 L4 hb3 hb4 HL3 hW
      go_wp2_with fail
      go_fit (hmS.out _ (K + 6) (by omega) (W1.mkd M4t))
      rintro e w5 ⟨rfl, hm5⟩
      have M5 := M4t.trans (hm5.wide (Nat.le_succ _) (Nat.le_refl _))
      have L5 := HL4.out.mkd (Nat.lt_of_lt_of_le hb M4t.size) hm5
      obtain ⟨_, t7, _⟩ := L5 j hlt
      have HL5 : Hid (LT _ B off n T) := L5
      clear L5 t6 y4 z4 y5 z5 HL4
      go_wp2_with fail
      go_fit (hmA.out _ (K + 6 + (T j).np) (by omega) (W2.mkd M5))
      rintro e w6 ⟨rfl, hm6⟩
      have M6 := M5.trans (hm6.wide (Nat.le_succ _) (Nat.le_refl _))
      have L6 := HL5.out.mkd (Nat.lt_of_lt_of_le hb M5.size) hm6
      have HL6 : Hid (LT _ B off n T) := L6
      clear L6 t7 HL5
      have m6 : Hid (∀ W, Calls Tryz.prog 27 #[.int .i64 ((K + 6 + (T j).np + (T j).na : Nat) : Int)] W fun e w' => e = .returned (.string (mkT (K + 6 + (T j).np + (T j).na))) ∧ Below W.heap.size W w') := fun W => mkT_any _ W (by omega)
      go_wp2_with fail
      go_fit (m6.out _)
      rintro e w7 ⟨rfl, hb7⟩
      have M7 := M6.blw hb7
      obtain ⟨⟨x8, y8⟩, z8⟩ := EX.out _ M7 8 (by decide)
      have M7s := M7.set (x := .string (mkT (K + 6 + (T j).np + (T j).na))) (Nat.le_refl _) hh ⟨x8, y8⟩
      have L7 := HL6.out.below (Nat.lt_of_lt_of_le hb M6.size) hb7
      obtain ⟨_, _, t9⟩ := L7 j hlt
      have HL7 : Hid (LT _ B off n T) := L7.set (j := j) (r := 8) (x := .string (mkT (K + 6 + (T j).np + (T j).na))) (Or.inr rfl)
      clear L7 HL6
      go_wp2_with fail
      go_fit (hmG.out _ (K + 6 + (T j).np + (T j).na + 1) (by omega) (W3.mkd M7s))
      rintro e w8 ⟨rfl, hm8⟩
      have M8 := M7s.trans (hm8.wide (Nat.le_succ _) (Nat.le_refl _))
      have HL8 : Hid (LT _ B off n T) := HL7.out.mkd (Nat.lt_of_lt_of_le hb M7s.size) hm8
      go_wp2
      go_roundw
      case rel => exact ⟨j + 1, by omega, by rw [hss, hnum]; have := hK.out; congr 1; omega, by go_num, HL8.out, M8⟩
      case measure => simp [intOf]; omega
    · have hje : j = n := by omega
      subst hje
      go_wp2
      go_ret
      exact ⟨by first | rfl | (congr 2), hmk⟩
end Go.Proofs.YtfjfhnjoghlbfaaGreat
namespace Go.Proofs.YtfjfhnjoghlbfaaGreat
open Go.RowKit

set_option maxHeartbeats 400000 in
theorem toSw_any (b off n cap : Nat) (S : Nat → ByteArray) (w : World) (hr : n * 16 ≤ 140737488351232) (hb : b < w.heap.size)
    (hc : ∀ i, i < n → w.cell? ⟨b, off + i, none⟩ = some (.string (S i))) :
    Calls Tryz.prog 8 #[.slice (some ⟨b, off, none⟩) n cap] w fun e w' =>
      e = .returned (.slice (some ⟨w.heap.size, 0, none⟩) n n) ∧ (∀ i, i < n → w'.cell? ⟨w.heap.size, i, none⟩ = some (.string (S i))) ∧ (∀ i, i < n → w'.frozen? ⟨w.heap.size, i, none⟩ = false) ∧ w.heap.size < w'.heap.size ∧ Below w.heap.size w w' := by
  have hmk := make_str n hr w
  go_enter Tryz.func8, Tryz.ntmps8
  go_wp2
  clear hmk
  go_loopw [4] (fun i wr => ∃ k : Nat, k ≤ n ∧ i = .int .i64 k ∧ Hid (∀ i, i < k → wr.cell? ⟨w.heap.size, i, none⟩ = some (.string (S i))) ∧ Hid (∀ i, i < n → (∃ v, wr.cell? ⟨w.heap.size, i, none⟩ = some v) ∧ wr.frozen? ⟨w.heap.size, i, none⟩ = false) ∧ w.heap.size < wr.heap.size ∧ Below w.heap.size w wr) (fun i _ => n - (intOf i).toNat)
  case atStart => exact ⟨0, Nat.zero_le _, rfl, fun i hi => absurd hi (Nat.not_lt_zero _), fun i hi => ⟨cell_made _ _ _ _ (by rw [mkS_size]; exact hi), World.frozen?_alloc_at _ _ _ _ rfl⟩, by simp, (Below.refl _ _).alloc (Nat.le_refl _) _⟩
  case round =>
    obtain ⟨k, hk, rfl, hdone, hfree, hsz, hbel⟩ := hrel
    by_cases hlt : k < n
    · have hck : wr.cell? ⟨b, off + k, none⟩ = some (.string (S k)) := (hbel.cell (by exact hb)).trans (hc k hlt)
      obtain ⟨⟨v0, hv0⟩, hf0⟩ := hfree.out k hlt
      go_wp2
      go_roundw
      case rel => exact ⟨k + 1, by omega, by go_num, set_done (f := fun i => .string (S i)) hdone.out ⟨v0, hv0⟩, set_free hfree.out, by simpa [World.setCell] using hsz, hbel.setCell (Nat.le_refl _) _⟩
      case measure => simp [intOf]; omega
    · go_wp2
      go_ret
      exact ⟨rfl, fun i hi => hdone.out i (by omega), fun i hi => (hfree.out i hi).2, hsz, hbel⟩

theorem toSw_sl {a : Option Addr} {n cap : Nat} {S : Nat → ByteArray} (w : World) (hr : n * 16 ≤ 140737488351232) (h : SlS w a n cap S) :
    Calls Tryz.prog 8 #[.slice a n cap] w fun e w' =>
      e = .returned (.slice (some ⟨w.heap.size, 0, none⟩) n n) ∧ SlS w' (some ⟨w.heap.size, 0, none⟩) n n S ∧ Wr0 w' w.heap.size (some ⟨w.heap.size, 0, none⟩) n ∧ Below w.heap.size w w' := by
  rcases h.cells with rfl | ⟨b, off, rfl, hb, hc⟩
  · refine (toS_zero a cap w).mono ?_
    rintro e w' ⟨rfl, hsz, hbel⟩
    exact ⟨rfl, ⟨Nat.le_refl _, by decide, h.size, Or.inl rfl⟩, Or.inl rfl, hbel⟩
  · refine (toSw_any b off n cap S w hr hb hc).mono ?_
    rintro e w' ⟨rfl, hcl, hfz, hsz, hbel⟩
    exact ⟨rfl, ⟨Nat.le_refl _, by unfold maxLen; omega, h.size, Or.inr ⟨_, 0, rfl, hsz, fun i hi => by rw [Nat.zero_add]; exact hcl i hi⟩⟩, Or.inr ⟨_, 0, rfl, Nat.le_refl _, hsz, fun i hi => by rw [Nat.zero_add]; exact ⟨⟨_, hcl i hi⟩, hfz i hi⟩⟩, hbel⟩
set_option maxHeartbeats 400000 in
theorem toGw_any (b off n cap : Nat) (M : Nat → ByteArray) (L : Nat → Int) (w : World) (hr : n * 24 ≤ 140737488351232) (hb : b < w.heap.size)
    (hc : ∀ i, i < n → w.cell? ⟨b, off + i * 2, none⟩ = some (.string (M i)))
    (hl : ∀ i, i < n → w.cell? ⟨b, off + i * 2 + 1, none⟩ = some (.int .i64 (L i))) :
    Calls Tryz.prog 55 #[.slice (some ⟨b, off, none⟩) n cap] w fun e w' =>
      e = .returned (.slice (some ⟨w.heap.size, 0, none⟩) n n) ∧ (∀ i, i < n → w'.cell? ⟨w.heap.size, i * 2, none⟩ = some (.string (M i)) ∧ w'.cell? ⟨w.heap.size, i * 2 + 1, none⟩ = some (.int .i64 (L i))) ∧ (∀ i, i < n * 2 → (∃ v, w'.cell? ⟨w.heap.size, i, none⟩ = some v) ∧ w'.frozen? ⟨w.heap.size, i, none⟩ = false) ∧ w.heap.size < w'.heap.size ∧ Below w.heap.size w w' := by
  have hmk := make_gr n hr w
  go_enter Tryz.func55, Tryz.ntmps55
  go_wp2
  clear hmk
  go_loopw [4] (fun i wr => ∃ k : Nat, k ≤ n ∧ i = .int .i64 k ∧ Hid (∀ i, i < k → wr.cell? ⟨w.heap.size, i * 2, none⟩ = some (.string (M i)) ∧ wr.cell? ⟨w.heap.size, i * 2 + 1, none⟩ = some (.int .i64 (L i))) ∧ Hid (∀ i, i < n * 2 → (∃ v, wr.cell? ⟨w.heap.size, i, none⟩ = some v) ∧ wr.frozen? ⟨w.heap.size, i, none⟩ = false) ∧ w.heap.size < wr.heap.size ∧ Below w.heap.size w wr) (fun i _ => n - (intOf i).toNat)
  case atStart => exact ⟨0, Nat.zero_le _, rfl, fun i hi => absurd hi (Nat.not_lt_zero _), fun i hi => ⟨cell_made _ _ _ _ (by rw [mkG_size]; exact hi), World.frozen?_alloc_at _ _ _ _ rfl⟩, by simp, (Below.refl _ _).alloc (Nat.le_refl _) _⟩
  case round =>
    obtain ⟨k, hk, rfl, hdone, hfree, hsz, hbel⟩ := hrel
    by_cases hlt : k < n
    · have hck : wr.cell? ⟨b, off + k * 2, none⟩ = some (.string (M k)) := (hbel.cell (by exact hb)).trans (hc k hlt)
      have hlk : wr.cell? ⟨b, off + k * 2 + 1, none⟩ = some (.int .i64 (L k)) := (hbel.cell (by exact hb)).trans (hl k hlt)
      go_wp2_with fail
      refine (toG1_any (M k) (L k) wr).mono ?_
      rintro e w1 ⟨rfl, hb1⟩
      have hfree1 : ∀ i, i < n * 2 → (∃ v, w1.cell? ⟨w.heap.size, i, none⟩ = some v) ∧ w1.frozen? ⟨w.heap.size, i, none⟩ = false := fun i hi => by
        obtain ⟨⟨v, hv⟩, hf⟩ := hfree.out i hi
        exact ⟨⟨v, (hb1.cell (by exact hsz)).trans hv⟩, (hb1.frozen (by exact hsz)).trans hf⟩
      have hdone1 : Hid (∀ i, i < k → w1.cell? ⟨w.heap.size, i * 2, none⟩ = some (.string (M i)) ∧ w1.cell? ⟨w.heap.size, i * 2 + 1, none⟩ = some (.int .i64 (L i))) := fun i hi =>
        ⟨(hb1.cell (by exact hsz)).trans (hdone.out i hi).1, (hb1.cell (by exact hsz)).trans (hdone.out i hi).2⟩
      obtain ⟨⟨v0, hv0⟩, hf0⟩ := hfree1 (k * 2) (by omega)
      obtain ⟨⟨v1, hv1⟩, hf1⟩ := hfree1 (k * 2 + 1) (by omega)
      have HF : Hid (_) := hfree1
      have hsz1 : w.heap.size < w1.heap.size := Nat.lt_of_lt_of_le hsz hb1.size
      clear hfree1
      go_wp2
      go_roundw
      case rel => exact ⟨k + 1, by omega, by go_num, set2_done (f := fun i => .string (M i)) (g := fun i => .int .i64 (L i)) hdone1.out HF.out hlt, set_free (set_free HF.out), by simpa [World.setCell] using hsz1, ((hbel.trans (hb1.mono hbel.size)).setCell (Nat.le_refl _) _).setCell (Nat.le_refl _) _⟩
      case measure => simp [intOf]; omega
    · go_wp2
      go_ret
      exact ⟨rfl, fun i hi => hdone.out i (by omega), hfree.out, hsz, hbel⟩

theorem toGw_sl {a : Option Addr} {n cap : Nat} {M : Nat → ByteArray} {L : Nat → Int} (w : World) (hr : n * 24 ≤ 140737488351232) (h : SlG w a n cap M L) :
    Calls Tryz.prog 55 #[.slice a n cap] w fun e w' =>
      e = .returned (.slice (some ⟨w.heap.size, 0, none⟩) n n) ∧ SlG w' (some ⟨w.heap.size, 0, none⟩) n n M L ∧ Wr0 w' w.heap.size (some ⟨w.heap.size, 0, none⟩) (n * 2) ∧ Below w.heap.size w w' := by
  rcases h.cells with rfl | ⟨b, off, rfl, hb, hc, hl⟩
  · refine (toG_zero a cap w).mono ?_
    rintro e w' ⟨rfl, hsz, hbel⟩
    exact ⟨rfl, ⟨Nat.le_refl _, by decide, h.size, Or.inl rfl⟩, Or.inl rfl, hbel⟩
  · refine (toGw_any b off n cap M L w hr hb hc hl).mono ?_
    rintro e w' ⟨rfl, hcl, hfz, hsz, hbel⟩
    exact ⟨rfl, ⟨Nat.le_refl _, by unfold maxLen; omega, h.size, Or.inr ⟨_, 0, rfl, hsz, fun i hi => by rw [Nat.zero_add]; exact (hcl i hi).1, fun i hi => by rw [Nat.zero_add]; exact (hcl i hi).2⟩⟩, Or.inr ⟨_, 0, rfl, Nat.le_refl _, hsz, fun i hi => by rw [Nat.zero_add]; exact hfz i hi⟩, hbel⟩
section
variable (id sd ty key val : ByteArray) (st : Bool) (tm : Int) (pa : Option Addr) (np cp : Nat) (aa : Option Addr) (na ca : Nat) (ga : Option Addr) (ng cg : Nat) (Pv Av M : Nat → ByteArray) (L : Nat → Int) (w : World)

set_option maxHeartbeats 2000000 in
theorem toEvw_fresh (hrp : np * 16 ≤ 140737488351232) (hra : na * 16 ≤ 140737488351232) (hrg : ng * 24 ≤ 140737488351232)
    (hp : SlS w pa np cp Pv) (ha : SlS w aa na ca Av) (hg : SlG w ga ng cg M L) :
    Calls Tryz.prog 36 #[evV id sd ty key val st tm pa np cp aa na ca ga ng cg] w fun e w' =>
      ∃ bp ba bg : Nat, e = .returned (evV id sd ty key val st tm (some ⟨bp, 0, none⟩) np np (some ⟨ba, 0, none⟩) na na (some ⟨bg, 0, none⟩) ng ng) ∧
        SlS w' (some ⟨bp, 0, none⟩) np np Pv ∧ SlS w' (some ⟨ba, 0, none⟩) na na Av ∧ SlG w' (some ⟨bg, 0, none⟩) ng ng M L ∧ Below w.heap.size w w' ∧ w.heap.size ≤ bp ∧ w.heap.size ≤ ba ∧ w.heap.size ≤ bg ∧ Wr0 w' w.heap.size (some ⟨bp, 0, none⟩) np ∧ Wr0 w' w.heap.size (some ⟨ba, 0, none⟩) na ∧ Wr0 w' w.heap.size (some ⟨bg, 0, none⟩) (ng * 2) := by
  go_enter Tryz.func36, Tryz.ntmps36
  go_wp2_with fail
  refine (toSw_sl _ hrp (hp.below (TE.start rfl).below)).mono ?_
  rintro e w1 ⟨rfl, hp1, vp1, hb1⟩
  have h1 := (TE.start rfl).mono hb1
  have a0 := h1.a0
  have a2 := h1.a2
  have f2 := h1.f2
  go_wp2_with fail
  have h1s := h1.set 6 (by simp) (.slice (some ⟨w.heap.size + 1 + 1 + 1, 0, none⟩) np np)
  refine (toSw_sl _ hra (ha.below h1s.below)).mono ?_
  rintro e w2 ⟨rfl, ha2, va2, hb2⟩
  have h2 := h1s.mono hb2
  clear a0 a2 f2
  have a0 := h2.a0
  have a2 := h2.a2
  have f2 := h2.f2
  go_wp2_with fail
  have h2s := (h2.set 7 (by simp) (.slice (some ⟨w1.heap.size, 0, none⟩) na na)).set 8 (by simp) (.string val)
  refine (toGw_sl _ hrg (hg.below h2s.below)).mono ?_
  rintro e w3 ⟨rfl, hg3, vg3, hb3⟩
  have h3 := h2s.mono hb3
  clear a0 a2 f2
  have a2 := h3.a2
  have f2 := h3.f2
  have f1 := h3.f1
  have b1 := h3.a1
  obtain ⟨x0, y0⟩ := b1 0 (by decide)
  obtain ⟨x1, y1⟩ := b1 1 (by decide)
  obtain ⟨x2, y2⟩ := b1 2 (by decide)
  obtain ⟨x3, y3⟩ := b1 3 (by decide)
  obtain ⟨x4, y4⟩ := b1 4 (by decide)
  obtain ⟨x5, y5⟩ := b1 5 (by decide)
  obtain ⟨x6, y6⟩ := b1 6 (by decide)
  obtain ⟨x7, y7⟩ := b1 7 (by decide)
  obtain ⟨x8, y8⟩ := b1 8 (by decide)
  obtain ⟨x9, y9⟩ := b1 9 (by decide)
  clear b1
  have hz1 := h1.size
  have hz2 := h2.size
  have hp1' : SlS w1 (some ⟨w.heap.size + 1 + 1 + 1, 0, none⟩) np np Pv := by simpa using hp1
  have ha2' : SlS w2 (some ⟨w1.heap.size, 0, none⟩) na na Av := by simpa [World.setCell] using ha2
  have hg3' : SlG w3 (some ⟨w2.heap.size, 0, none⟩) ng ng M L := by simpa [World.setCell] using hg3
  have hp3 := (((hp1'.set (by omega) _).below hb2).set (C := w.heap.size + 1 + 1) (j := 7) (by omega) (.slice (some ⟨w1.heap.size, 0, none⟩) na na)).set (C := w.heap.size + 1 + 1) (j := 8) (by omega) (.string val) |>.below hb3
  have ha3 := ((ha2'.set (C := w.heap.size + 1 + 1) (j := 7) (by omega) (.slice (some ⟨w1.heap.size, 0, none⟩) na na)).set (C := w.heap.size + 1 + 1) (j := 8) (by omega) (.string val)).below hb3
  have vp3 : Wr0 w3 w.heap.size (some ⟨w.heap.size + 1 + 1 + 1, 0, none⟩) np := by
    have := (((vp1.low (lo' := w.heap.size) (by simp; omega)).set (C := w.heap.size + 1 + 1) (j := 6) (.slice (some ⟨w.heap.size + 1 + 1 + 1, 0, none⟩) np np)).below hb2)
    have := ((this.set (C := w.heap.size + 1 + 1) (j := 7) (.slice (some ⟨w1.heap.size, 0, none⟩) na na)).set (C := w.heap.size + 1 + 1) (j := 8) (.string val)).below hb3
    simpa using this
  have va3 : Wr0 w3 w.heap.size (some ⟨w1.heap.size, 0, none⟩) na := by
    have h := (va2.low (lo' := w.heap.size) (by simp [World.setCell]; omega))
    have := ((h.set (C := w.heap.size + 1 + 1) (j := 7) (.slice (some ⟨w1.heap.size, 0, none⟩) na na)).set (C := w.heap.size + 1 + 1) (j := 8) (.string val)).below hb3
    simpa [World.setCell] using this
  have vg4 : Wr0 w3 w.heap.size (some ⟨w2.heap.size, 0, none⟩) (ng * 2) := by
    have := vg3.low (lo' := w.heap.size) (by simp [World.setCell]; omega)
    simpa [World.setCell] using this
  clear hp1 ha2 hg3 hp ha hg hp1' ha2' h1s h2s hb1 hb2 hb3
  go_wp2
  refine bodyPost_ret (v := evV id sd ty key val st tm (some ⟨w.heap.size + 1 + 1 + 1, 0, none⟩) np np (some ⟨w1.heap.size, 0, none⟩) na na (some ⟨w2.heap.size, 0, none⟩) ng ng)
    (by simp [results, Tryz.results36, go_sem, y0, y1, y2, y3, y4, y5, y6, y7, y8, y9]) rfl ⟨_, _, _, rfl, ?_, ?_, ?_, ?_, by omega, by omega, by omega, ?_, ?_, ?_⟩
  · iterate 11 (refine SlS.set ?_ (by omega) _)
    exact hp3
  · iterate 11 (refine SlS.set ?_ (by omega) _)
    exact ha3
  · iterate 11 (refine SlG.set ?_ (by omega) _)
    exact hg3'
  · iterate 10 (refine Below.setCell ?_ (Nat.le_add_right _ _) _)
    refine Below.setCell ?_ (Nat.le_add_right _ 2) _
    exact h3.below
  · iterate 11 (refine Wr0.set ?_ _)
    exact vp3
  · iterate 11 (refine Wr0.set ?_ _)
    exact va3
  · iterate 11 (refine Wr0.set ?_ _)
    exact vg4
end
end Go.Proofs.YtfjfhnjoghlbfaaGreat
