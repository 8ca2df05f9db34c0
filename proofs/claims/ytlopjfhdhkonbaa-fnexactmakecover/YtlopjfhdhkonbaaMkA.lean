import Derived.Test.YtlopjfhdhkonbaaMkT
import Derived.Test.YtlopjfhdhkonbaaMkD
import Derived.Deep.DeepFit
namespace Go.Proofs.Ytlopjfhdhkonbaa
open Go.RowKit

theorem markSw_zero (a : Option Addr) (cap k : Nat) (w : World) :
    Calls Try.prog 43 #[.slice a 0 cap, .int .i64 (k : Int)] w fun e w' => e = .returned (.int .i64 (k : Int)) ∧ w' = w := by
  go_enter Try.func43, Try.ntmps43
  go_wp2
  refine wp_loop_rounds 1 ?_
  rw [rounds_succ]
  go_wp2
  go_ret
  exact ⟨rfl, rfl⟩

set_option maxRecDepth 100000 in
set_option maxHeartbeats 800000 in
theorem markSw_any (lo hi b off n cap k0 : Nat) (w : World) (hn : n ≤ 1000000000) (hk0 : k0 ≤ 1000000000) (hl : lo ≤ b) (hh : b < hi) (hb : b < w.heap.size)
    (hf : ∀ i, i < n → (∃ v, w.cell? ⟨b, off + i, none⟩ = some v) ∧ w.frozen? ⟨b, off + i, none⟩ = false) :
    Calls Try.prog 43 #[.slice (some ⟨b, off, none⟩) n cap, .int .i64 (k0 : Int)] w fun e w' =>
      e = .returned (.int .i64 ((k0 + n : Nat) : Int)) ∧ (∀ i, i < n → w'.cell? ⟨b, off + i, none⟩ = some (.string (mkT (k0 + i)))) ∧ Mkd lo hi w w' := by
  go_enter Try.func43, Try.ntmps43
  go_wp2_with fail
  go_loopw [1, 5] (fun kv iv wr => ∃ j : Nat, j ≤ n ∧ kv = .int .i64 ((k0 + j : Nat) : Int) ∧ iv = .int .i64 (j : Int) ∧ Hid (∀ i, i < j → wr.cell? ⟨b, off + i, none⟩ = some (.string (mkT (k0 + i)))) ∧ Mkd lo hi w wr) (fun _ iv _ => n - (intOf iv).toNat)
  case atStart => exact ⟨0, Nat.zero_le _, rfl, rfl, fun i hi => absurd hi (Nat.not_lt_zero _), Mkd.refl _ _ _⟩
  case round =>
    obtain ⟨j, hj, rfl, rfl, hdone, hmk⟩ := hrel
    have hbr : b < wr.heap.size := Nat.lt_of_lt_of_le hb hmk.size
    by_cases hlt : j < n
    · have hmt : Hid (∀ W, Calls Try.prog 42 #[.int .i64 ((k0 + j : Nat) : Int)] W fun e w' => e = .returned (.string (mkT (k0 + j))) ∧ Below W.heap.size W w') := fun W => mkT_any (k0 + j) W (by omega)
      obtain ⟨hv0, hf0⟩ := hf j hlt
      clear hf
      go_wp2_with fail
      go_fit (hmt.out _)
      rintro e w1 ⟨rfl, hb1⟩
      have hmk1 := hmk.blw hb1
      obtain ⟨v, hv⟩ := hmk1.there ⟨b, off + j, none⟩ hb hv0
      have hfz : w1.frozen? ⟨b, off + j, none⟩ = false := (hmk1.frz ⟨b, off + j, none⟩ hb).trans hf0
      go_wp2
      go_roundw
      case rel =>
        refine ⟨j + 1, by omega, by go_num, by go_num, fun i hi => ?_, hmk1.set hl hh ⟨v, hv⟩⟩
        by_cases e : i = j
        · subst e; exact set_same ⟨_, hv⟩
        · rw [set_far (by omega)]
          exact (hb1.cell (by exact hbr)).trans (hdone.out i (by omega))
      case measure => simp [intOf]; omega
    · have hje : j = n := by omega
      subst hje
      go_wp2
      go_ret
      exact ⟨by first | rfl | (congr 2), hdone.out, hmk⟩

theorem markSw_sl {lo hi : Nat} {a : Option Addr} {n cap k0 : Nat} (w : World) (hn : n ≤ 1000000000) (hk0 : k0 ≤ 1000000000) (hw : Wr w lo hi a n) :
    Calls Try.prog 43 #[.slice a n cap, .int .i64 (k0 : Int)] w fun e w' => e = .returned (.int .i64 ((k0 + n : Nat) : Int)) ∧ Mkd lo hi w w' := by
  by_cases h0 : n = 0
  · subst h0
    refine (markSw_zero a cap k0 w).mono ?_
    rintro e w' ⟨rfl, rfl⟩
    exact ⟨rfl, Mkd.refl _ _ _⟩
  · rcases hw with h' | ⟨b, off, rfl, hl, hh, hb, hf⟩
    · exact absurd h' h0
    · refine (markSw_any lo hi b off n cap k0 w hn hk0 hl hh hb hf).mono ?_
      rintro e w' ⟨rfl, _, hm⟩
      exact ⟨rfl, hm⟩

theorem markGw_zero (a : Option Addr) (cap k : Nat) (w : World) :
    Calls Try.prog 44 #[.slice a 0 cap, .int .i64 (k : Int)] w fun e w' => e = .returned (.int .i64 (k : Int)) ∧ w' = w := by
  go_enter Try.func44, Try.ntmps44
  go_wp2
  refine wp_loop_rounds 1 ?_
  rw [rounds_succ]
  go_wp2
  go_ret
  exact ⟨rfl, rfl⟩

set_option maxRecDepth 100000 in
set_option maxHeartbeats 1600000 in
theorem markGw_any (lo hi b off n cap k0 : Nat) (w : World) (hn : n ≤ 100000000) (hk0 : k0 ≤ 1000000000) (hl : lo ≤ b) (hh : b < hi) (hb : b < w.heap.size)
    (hf : ∀ i, i < n * 2 → (∃ v, w.cell? ⟨b, off + i, none⟩ = some v) ∧ w.frozen? ⟨b, off + i, none⟩ = false) :
    Calls Try.prog 44 #[.slice (some ⟨b, off, none⟩) n cap, .int .i64 (k0 : Int)] w fun e w' =>
      e = .returned (.int .i64 ((k0 + n * 2 : Nat) : Int)) ∧ Mkd lo hi w w' := by
  go_enter Try.func44, Try.ntmps44
  go_wp2_with fail
  go_loopw [1, 5] (fun kv iv wr => ∃ j : Nat, j ≤ n ∧ kv = .int .i64 ((k0 + j * 2 : Nat) : Int) ∧ iv = .int .i64 (j : Int) ∧ Mkd lo hi w wr) (fun _ iv _ => n - (intOf iv).toNat)
  case atStart => exact ⟨0, Nat.zero_le _, rfl, rfl, Mkd.refl _ _ _⟩
  case round =>
    obtain ⟨j, hj, rfl, rfl, hmk⟩ := hrel
    by_cases hlt : j < n
    · have hmt : Hid (∀ W, Calls Try.prog 42 #[.int .i64 ((k0 + j * 2 : Nat) : Int)] W fun e w' => e = .returned (.string (mkT (k0 + j * 2))) ∧ Below W.heap.size W w') := fun W => mkT_any (k0 + j * 2) W (by omega)
      obtain ⟨hv0, hf0⟩ := hf (j * 2) (by omega)
      obtain ⟨hv1, hf1⟩ := hf (j * 2 + 1) (by omega)
      clear hf
      go_wp2_with fail
      go_fit (hmt.out _)
      rintro e w1 ⟨rfl, hb1⟩
      have hmk1 := hmk.blw hb1
      obtain ⟨v, hv⟩ := hmk1.there ⟨b, off + j * 2, none⟩ hb hv0
      have hfz : w1.frozen? ⟨b, off + j * 2, none⟩ = false := (hmk1.frz ⟨b, off + j * 2, none⟩ hb).trans hf0
      obtain ⟨v1, hvv1⟩ := hmk1.there ⟨b, off + j * 2 + 1, none⟩ hb hv1
      have hfz1 : w1.frozen? ⟨b, off + j * 2 + 1, none⟩ = false := (hmk1.frz ⟨b, off + j * 2 + 1, none⟩ hb).trans hf1
      have hmk2 := hmk1.set (x := .string (mkT (k0 + j * 2))) hl hh ⟨v, hv⟩
      have HV : Hid (∃ v, (w1.setCell ⟨b, off + j * 2, none⟩ (.string (mkT (k0 + j * 2)))).cell? ⟨b, off + j * 2 + 1, none⟩ = some v) := hmk2.there ⟨b, off + j * 2 + 1, none⟩ hb hv1
      go_wp2
      go_roundw
      case rel => exact ⟨j + 1, by omega, by go_num, by go_num, hmk2.set hl hh HV.out⟩
      case measure => simp [intOf]; omega
    · have hje : j = n := by omega
      subst hje
      go_wp2
      go_ret
      exact ⟨by first | rfl | (congr 2), hmk⟩

theorem markGw_sl {lo hi : Nat} {a : Option Addr} {n cap k0 : Nat} (w : World) (hn : n ≤ 100000000) (hk0 : k0 ≤ 1000000000) (hw : Wr w lo hi a (n * 2)) :
    Calls Try.prog 44 #[.slice a n cap, .int .i64 (k0 : Int)] w fun e w' => e = .returned (.int .i64 ((k0 + n * 2 : Nat) : Int)) ∧ Mkd lo hi w w' := by
  by_cases h0 : n = 0
  · subst h0
    refine (markGw_zero a cap k0 w).mono ?_
    rintro e w' ⟨rfl, rfl⟩
    exact ⟨rfl, Mkd.refl _ _ _⟩
  · rcases hw with h' | ⟨b, off, rfl, hl, hh, hb, hf⟩
    · omega
    · exact markGw_any lo hi b off n cap k0 w hn hk0 hl hh hb hf
end Go.Proofs.Ytlopjfhdhkonbaa
namespace Go.Proofs.Ytlopjfhdhkonbaa
open Go.RowKit

/-- the lists of an event as they lie: three slices. -/
structure Lst where
  pa : Option Addr
  np : Nat
  cp : Nat
  aa : Option Addr
  na : Nat
  ca : Nat
  ga : Option Addr
  ng : Nat
  cg : Nat

/-- where the lists of event i stand in the events' block. -/
def LstAt (w : World) (B o : Nat) (l : Lst) : Prop :=
  w.cell? ⟨B, o + 6, none⟩ = some (.slice l.pa l.np l.cp) ∧ w.cell? ⟨B, o + 7, none⟩ = some (.slice l.aa l.na l.ca) ∧ w.cell? ⟨B, o + 9, none⟩ = some (.slice l.ga l.ng l.cg)
def LstW (w : World) (B hi : Nat) (l : Lst) : Prop := Wr w (B + 1) hi l.pa l.np ∧ Wr w (B + 1) hi l.aa l.na ∧ Wr w (B + 1) hi l.ga (l.ng * 2)
def Lst.num (l : Lst) : Nat := 7 + l.np + l.na + l.ng * 2
def lsum (T : Nat → Lst) : Nat → Nat
  | 0 => 0
  | n + 1 => lsum T n + (T n).num
theorem lsum_le (T : Nat → Lst) : ∀ n k, k ≤ n → lsum T k ≤ lsum T n
  | 0, k, h => by have : k = 0 := by omega
                  subst this; exact Nat.le_refl _
  | n + 1, k, h => by
    by_cases e : k = n + 1
    · subst e; exact Nat.le_refl _
    · have := lsum_le T n k (by omega)
      rw [lsum]; omega
theorem lsum_at (T : Nat → Lst) (n k : Nat) (h : k < n) : lsum T k + (T k).num ≤ lsum T n := by
  have := lsum_le T n (k + 1) (by omega)
  rw [lsum] at this; exact this

/-- the lists of all events stand where they stood. -/
def LT (w : World) (B off n : Nat) (T : Nat → Lst) : Prop := ∀ i, i < n → LstAt w B (off + i * 10) (T i)
theorem LT.below {w w' : World} {B off n : Nat} {T : Nat → Lst} (h : LT w B off n T) (hB : B < w.heap.size) (hb : Below w.heap.size w w') : LT w' B off n T := fun i hi =>
  ⟨(hb.cell (by exact hB)).trans (h i hi).1, (hb.cell (by exact hB)).trans (h i hi).2.1, (hb.cell (by exact hB)).trans (h i hi).2.2⟩
theorem LT.set {w : World} {B off n j r : Nat} {T : Nat → Lst} {x : Value} (h : LT w B off n T) (hr : r < 6 ∨ r = 8) : LT (w.setCell ⟨B, off + j * 10 + r, none⟩ x) B off n T := fun i hi =>
  ⟨by rw [set_far (by omega)]; exact (h i hi).1, by rw [set_far (by omega)]; exact (h i hi).2.1, by rw [set_far (by omega)]; exact (h i hi).2.2⟩
theorem LT.mkd {w w' : World} {B off n hi : Nat} {T : Nat → Lst} (h : LT w B off n T) (hB : B < w.heap.size) (hm : Mkd (B + 1) hi w w') : LT w' B off n T := fun i hi =>
  ⟨(hm.cell hB (Or.inl (Nat.lt_succ_self _))).trans (h i hi).1, (hm.cell hB (Or.inl (Nat.lt_succ_self _))).trans (h i hi).2.1, (hm.cell hB (Or.inl (Nat.lt_succ_self _))).trans (h i hi).2.2⟩

theorem markV_zero (a : Option Addr) (cap k : Nat) (w : World) :
    Calls Try.prog 26 #[.slice a 0 cap, .int .i64 (k : Int)] w fun e w' => e = .returned (.int .i64 (k : Int)) ∧ w' = w := by
  go_enter Try.func26, Try.ntmps26
  go_wp2
  refine wp_loop_rounds 1 ?_
  rw [rounds_succ]
  go_wp2
  go_ret
  exact ⟨rfl, rfl⟩

set_option maxRecDepth 100000 in
set_option maxHeartbeats 4000000 in
theorem markV_any (B off n cap k0 hi : Nat) (T : Nat → Lst) (w : World) (hn : n ≤ maxLen) (hs : k0 + lsum T n ≤ 100000000) (hh : B < hi) (hb : B < w.heap.size)
    (hf : ∀ i, i < n * 10 → (∃ v, w.cell? ⟨B, off + i, none⟩ = some v) ∧ w.frozen? ⟨B, off + i, none⟩ = false)
    (hT : ∀ i, i < n → LstAt w B (off + i * 10) (T i)) (hW : ∀ i, i < n → LstW w B hi (T i)) :
    Calls Try.prog 26 #[.slice (some ⟨B, off, none⟩) n cap, .int .i64 (k0 : Int)] w fun e w' =>
      e = .returned (.int .i64 ((k0 + lsum T n : Nat) : Int)) ∧ Mkd B hi w w' := by
  unfold maxLen at hn
  go_enter Try.func26, Try.ntmps26
  go_wp2_with fail
  go_loopw [1, 5] (fun kv iv wr => ∃ j : Nat, j ≤ n ∧ kv = .int .i64 ((k0 + lsum T j : Nat) : Int) ∧ iv = .int .i64 (j : Int) ∧ Hid (∀ i, i < n → LstAt wr B (off + i * 10) (T i)) ∧ Mkd B hi w wr) (fun _ iv _ => n - (intOf iv).toNat)
  case atStart => exact ⟨0, Nat.zero_le _, rfl, rfl, hT, Mkd.refl _ _ _⟩
  case round =>
    obtain ⟨j, hj, rfl, rfl, hTr, hmk⟩ := hrel
    by_cases hlt : j < n
    · have hsj := lsum_at T n j hlt
      have hss : lsum T (j + 1) = lsum T j + (T j).num := rfl
      have hnum : (T j).num = 7 + (T j).np + (T j).na + (T j).ng * 2 := rfl
      obtain ⟨K, hK⟩ : ∃ K, Hid (K = k0 + lsum T j) := ⟨_, rfl⟩
      have hKb : K + 7 + (T j).np + (T j).na + (T j).ng * 2 ≤ 100000000 := by have := hK.out; omega
      have hf10 : ∀ i, i < 10 → (∃ v, w.cell? ⟨B, off + j * 10 + i, none⟩ = some v) ∧ w.frozen? ⟨B, off + j * 10 + i, none⟩ = false := fun i hi => by
        have := hf (j * 10 + i) (by omega)
        rw [← Nat.add_assoc] at this; exact this
      rw [← hK.out]
      have EX : Hid (∀ wz, Mkd B hi w wz → ∀ i, i < 10 → (∃ v, wz.cell? ⟨B, off + j * 10 + i, none⟩ = some v) ∧ wz.frozen? ⟨B, off + j * 10 + i, none⟩ = false) := fun wz hz i hi10 => ⟨hz.there ⟨B, off + j * 10 + i, none⟩ hb (hf10 i hi10).1, (hz.frz ⟨B, off + j * 10 + i, none⟩ hb).trans (hf10 i hi10).2⟩
      have hLT : Hid (LT wr B off n T) := hTr
      clear hf hf10 hTr hsj hT
      have hmt : ∀ i, i < 20 + (T j).np + (T j).na → Hid (∀ W, Calls Try.prog 42 #[.int .i64 ((K + i : Nat) : Int)] W fun e w' => e = .returned (.string (mkT (K + i))) ∧ Below W.heap.size W w') := fun i _ W => mkT_any (K + i) W (by omega)
      have m0 := hmt 0 (by omega)
      simp only [Nat.add_zero] at m0
      have m1 := hmt 1 (by omega)
      have m2 := hmt 2 (by omega)
      have m4 := hmt 4 (by omega)
      go_wp2_with fail
      go_fit (m0.out _)
      rintro e w1 ⟨rfl, hb1⟩
      have M1 := hmk.blw hb1
      obtain ⟨⟨x0, y0⟩, z0⟩ := EX.out _ M1 0 (by decide)
      simp only [Nat.add_zero] at y0 z0
      have M1s := M1.set (x := .string (mkT K)) (Nat.le_refl _) hh ⟨x0, y0⟩
      go_wp2_with fail
      go_fit (m1.out _)
      rintro e w2 ⟨rfl, hb2⟩
      have M2 := M1s.blw hb2
      obtain ⟨⟨x1, y1⟩, z1⟩ := EX.out _ M2 1 (by decide)
      have M2s := M2.set (x := .string (mkT (K + 1))) (Nat.le_refl _) hh ⟨x1, y1⟩
      clear y0 z0
      go_wp2_with fail
      go_fit (m2.out _)
      rintro e w3 ⟨rfl, hb3⟩
      have M3 := M2s.blw hb3
      obtain ⟨⟨x2, y2⟩, z2⟩ := EX.out _ M3 2 (by decide)
      obtain ⟨⟨x3, y3⟩, z3⟩ := EX.out _ M3 3 (by decide)
      have M3s := M3.set (x := .string (mkT (K + 2))) (Nat.le_refl _) hh ⟨x2, y2⟩
      clear y1 z1
      have M3t := M3s.set (x := .bool (((K : Int) + 1 + 1 + 1) % 3 == 0)) (Nat.le_refl _) hh (EX.out _ M3s 3 (by decide)).1
      have hbr : B < wr.heap.size := Nat.lt_of_lt_of_le hb hmk.size
      have L1 : LT (w1.setCell ⟨B, off + j * 10, none⟩ (.string (mkT K))) B off n T := (hLT.out.below hbr hb1).set (r := 0) (Or.inl (by decide))
      have L2 := (L1.below (Nat.lt_of_lt_of_le hb M1s.size) hb2).set (j := j) (r := 1) (x := .string (mkT (K + 1))) (Or.inl (by decide))
      have L3 := ((L2.below (Nat.lt_of_lt_of_le hb M2s.size) hb3).set (j := j) (r := 2) (x := .string (mkT (K + 2))) (Or.inl (by decide))).set (j := j) (r := 3) (x := .bool (((K : Int) + 1 + 1 + 1) % 3 == 0)) (Or.inl (by decide))
      have HL3 : Hid (LT _ B off n T) := L3
      clear L1 L2 L3 hb1 hb2 hLT
      go_wp2_with fail
      go_fit (m4.out _)
      rintro e w4 ⟨rfl, hb4⟩
      have M4 := M3t.blw hb4
      obtain ⟨⟨x4, y4⟩, z4⟩ := EX.out _ M4 4 (by decide)
      obtain ⟨⟨x5, y5⟩, z5⟩ := EX.out _ M4 5 (by decide)
      have M4s := M4.set (x := .string (mkT (K + 4))) (Nat.le_refl _) hh ⟨x4, y4⟩
      have M4t := M4s.set (x := .int .i64 ((K : Int) + 1 + 1 + 1 + 1 + 1)) (Nat.le_refl _) hh (EX.out _ M4s 5 (by decide)).1
      have L4 := HL3.out.below (Nat.lt_of_lt_of_le hb M3t.size) hb4
      obtain ⟨t6, _, _⟩ := L4 j hlt
      have HL4 : Hid (LT _ B off n T) := (L4.set (j := j) (r := 4) (x := .string (mkT (K + 4))) (Or.inl (by decide))).set (j := j) (r := 5) (x := .int .i64 ((K : Int) + 1 + 1 + 1 + 1 + 1)) (Or.inl (by decide))
      obtain ⟨W1, W2, W3⟩ := hW j hlt
      have hmS : Hid (∀ W (k : Nat), k ≤ 1000000000 → Wr W (B + 1) hi (T j).pa (T j).np → Calls Try.prog 43 #[.slice (T j).pa (T j).np (T j).cp, .int .i64 (k : Int)] W fun e w' => e = .returned (.int .i64 ((k + (T j).np : Nat) : Int)) ∧ Mkd (B + 1) hi W w') := fun W k hk hw => markSw_sl W (by omega) hk hw
      have hmA : Hid (∀ W (k : Nat), k ≤ 1000000000 → Wr W (B + 1) hi (T j).aa (T j).na → Calls Try.prog 43 #[.slice (T j).aa (T j).na (T j).ca, .int .i64 (k : Int)] W fun e w' => e = .returned (.int .i64 ((k + (T j).na : Nat) : Int)) ∧ Mkd (B + 1) hi W w') := fun W k hk hw => markSw_sl W (by omega) hk hw
      have hmG : Hid (∀ W (k : Nat), k ≤ 1000000000 → Wr W (B + 1) hi (T j).ga ((T j).ng * 2) → Calls Try.prog 44 #[.slice (T j).ga (T j).ng (T j).cg, .int .i64 (k : Int)] W fun e w' => e = .returned (.int .i64 ((k + (T j).ng * 2 : Nat) : Int)) ∧ Mkd (B + 1) hi W w') := fun W k hk hw => markGw_sl W (by omega) hk hw
      clear y2 z2 y3 z3 L4 hb3 hb4 HL3 hW
      go_wp2_with fail
      go_fit (hmS.out _ (K + 6) (by omega) (W1.mkd M4t))
      rintro e w5 ⟨rfl, hm5⟩
      have M5 := M4t.trans (hm5.wide (Nat.le_succ _) (Nat.le_refl _))
      have L5 := HL4.out.mkd (Nat.lt_of_lt_of_le hb M4t.size) hm5
      obtain ⟨_, t7, _⟩ := L5 j hlt
      have HL5 : Hid (LT _ B off n T) := L5
      clear L5 t6 y4 z4 y5 z5 HL4
      go_wp2_with fail
      go_fit (hmA.out _ (K + 6 + (T j).np) (by omega) (W2.mkd M5))
      rintro e w6 ⟨rfl, hm6⟩
      have M6 := M5.trans (hm6.wide (Nat.le_succ _) (Nat.le_refl _))
      have L6 := HL5.out.mkd (Nat.lt_of_lt_of_le hb M5.size) hm6
      have HL6 : Hid (LT _ B off n T) := L6
      clear L6 t7 HL5
      have m6 : Hid (∀ W, Calls Try.prog 42 #[.int .i64 ((K + 6 + (T j).np + (T j).na : Nat) : Int)] W fun e w' => e = .returned (.string (mkT (K + 6 + (T j).np + (T j).na))) ∧ Below W.heap.size W w') := fun W => mkT_any _ W (by omega)
      go_wp2_with fail
      go_fit (m6.out _)
      rintro e w7 ⟨rfl, hb7⟩
      have M7 := M6.blw hb7
      obtain ⟨⟨x8, y8⟩, z8⟩ := EX.out _ M7 8 (by decide)
      have M7s := M7.set (x := .string (mkT (K + 6 + (T j).np + (T j).na))) (Nat.le_refl _) hh ⟨x8, y8⟩
      have L7 := HL6.out.below (Nat.lt_of_lt_of_le hb M6.size) hb7
      obtain ⟨_, _, t9⟩ := L7 j hlt
      have HL7 : Hid (LT _ B off n T) := L7.set (j := j) (r := 8) (x := .string (mkT (K + 6 + (T j).np + (T j).na))) (Or.inr rfl)
      clear L7 HL6
      go_wp2_with fail
      go_fit (hmG.out _ (K + 6 + (T j).np + (T j).na + 1) (by omega) (W3.mkd M7s))
      rintro e w8 ⟨rfl, hm8⟩
      have M8 := M7s.trans (hm8.wide (Nat.le_succ _) (Nat.le_refl _))
      have HL8 : Hid (LT _ B off n T) := HL7.out.mkd (Nat.lt_of_lt_of_le hb M7s.size) hm8
      go_wp2
      go_roundw
      case rel => exact ⟨j + 1, by omega, by rw [hss, hnum]; have := hK.out; congr 1; omega, by go_num, HL8.out, M8⟩
      case measure => simp [intOf]; omega
    · have hje : j = n := by omega
      subst hje
      go_wp2
      go_ret
      exact ⟨by first | rfl | (congr 2), hmk⟩
end Go.Proofs.Ytlopjfhdhkonbaa
