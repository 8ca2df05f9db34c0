/-
  markCover, heldCover on MakeCover's answer.
-/
import Derived.Test.YtlopjfhdhkonbaaMcQ
import Derived.Test.YtlopjfhdhkonbaaCdM
namespace Go.Proofs.Ytlopjfhdhkonbaa
open Go.RowKit

/-- the first j spots have their marks. -/
def MpTo (W : World) (b j k0 : Nat) : Prop := ∀ i, i < j → W.cell? ⟨b, i * 2, none⟩ = some (.int .i64 ((k0 + i * 2 : Nat) : Int)) ∧ W.cell? ⟨b, i * 2 + 1, none⟩ = some (.int .i64 ((k0 + i * 2 + 1 : Nat) : Int))

set_option maxRecDepth 100000 in
set_option maxHeartbeats 1000000 in
theorem markPv_any (lo hi b n cap k0 : Nat) (w : World) (hn : n ≤ 1000000000) (hk0 : k0 ≤ 1000000000) (hl : lo ≤ b) (hh : b < hi) (hb : b < w.heap.size)
    (hf : ∀ i, i < n * 2 → (∃ v, w.cell? ⟨b, i, none⟩ = some v) ∧ w.frozen? ⟨b, i, none⟩ = false) :
    Calls Try.prog 27 #[.slice (some ⟨b, 0, none⟩) n cap, .int .i64 (k0 : Int)] w fun e w' =>
      e = .returned (.int .i64 ((k0 + n * 2 : Nat) : Int)) ∧ Hid (MpTo w' b n k0) ∧ Mkd lo hi w w' := by
  go_enter Try.func27, Try.ntmps27
  go_wp2_with fail
  go_loopw [1, 5] (fun kv iv wr => ∃ j : Nat, j ≤ n ∧ kv = .int .i64 ((k0 + j * 2 : Nat) : Int) ∧ iv = .int .i64 (j : Int) ∧ Hid (MpTo wr b j k0) ∧ Mkd lo hi w wr) (fun _ iv _ => n - (intOf iv).toNat)
  case atStart => exact ⟨0, Nat.zero_le _, rfl, rfl, fun _ hi => absurd hi (Nat.not_lt_zero _), Mkd.refl _ _ _⟩
  case round =>
    obtain ⟨j, hj, rfl, rfl, hto, hmk⟩ := hrel
    by_cases hlt : j < n
    · obtain ⟨v, hv⟩ := hmk.there ⟨b, j * 2, none⟩ hb (hf (j * 2) (by omega)).1
      have hfz : wr.frozen? ⟨b, j * 2, none⟩ = false := (hmk.frz ⟨b, j * 2, none⟩ hb).trans (hf (j * 2) (by omega)).2
      have hmk1 := hmk.set (x := .int .i64 ((k0 + j * 2 : Nat) : Int)) hl hh ⟨v, hv⟩
      obtain ⟨v1, hv1⟩ := hmk.there ⟨b, j * 2 + 1, none⟩ hb (hf (j * 2 + 1) (by omega)).1
      have hv1' := hmk1.there ⟨b, j * 2 + 1, none⟩ hb (hf (j * 2 + 1) (by omega)).1
      have hfz1 : wr.frozen? ⟨b, j * 2 + 1, none⟩ = false := (hmk.frz ⟨b, j * 2 + 1, none⟩ hb).trans (hf (j * 2 + 1) (by omega)).2
      have HM : Hid (∀ W, W = (wr.setCell ⟨b, j * 2, none⟩ (.int .i64 ((k0 + j * 2 : Nat) : Int))).setCell ⟨b, j * 2 + 1, none⟩ (.int .i64 ((k0 + j * 2 + 1 : Nat) : Int)) → MpTo W b (j + 1) k0 ∧ Mkd lo hi w W) := fun W hW => by
        subst hW
        refine ⟨fun i hi' => ?_, hmk1.set hl hh hv1'⟩
        by_cases e : i = j
        · subst e
          exact ⟨by rw [set_far (by omega)]; exact set_same ⟨_, hv⟩, set_same hv1'⟩
        · rw [set_far (by omega), set_far (by omega), set_far (by omega), set_far (by omega)]
          exact hto.out i (by omega)
      clear hv1' hto hmk1
      go_wp2
      obtain ⟨z1, z2⟩ := HM.out _ rfl
      refine ⟨⟨j + 1, by omega, by go_num, by go_num, ?_, ?_⟩, by simp [intOf]; omega⟩
      · exact z1
      · exact z2
    · have hje : j = n := by omega
      subst hje
      go_wp2
      go_ret
      exact ⟨by first | rfl | (congr 2), hto, hmk⟩

theorem heldP_zero (a : Option Addr) (cap k : Nat) (w : World) :
    Calls Try.prog 29 #[.slice a 0 cap, .int .i64 (k : Int)] w fun e w' => e = .returned (.int .i64 (k : Int)) ∧ w' = w := by
  go_enter Try.func29, Try.ntmps29
  go_wp2
  refine wp_loop_rounds 1 ?_
  rw [rounds_succ]
  go_wp2
  go_ret
  exact ⟨rfl, rfl⟩
set_option maxRecDepth 100000 in
set_option maxHeartbeats 1000000 in
theorem heldP_any (b n cap k0 : Nat) (w : World) (hn : n ≤ 1000000000) (hk0 : k0 ≤ 1000000000) (h : MpTo w b n k0) :
    Calls Try.prog 29 #[.slice (some ⟨b, 0, none⟩) n cap, .int .i64 (k0 : Int)] w fun e w' => e = .returned (.int .i64 ((k0 + n * 2 : Nat) : Int)) ∧ Dr w w' := by
  have H : Hid (MpTo w b n k0) := h
  clear h
  go_enter Try.func29, Try.ntmps29
  go_wp2_with fail
  go_loopw [1, 5] (fun kv iv wr => ∃ j : Nat, j ≤ n ∧ kv = .int .i64 ((k0 + j * 2 : Nat) : Int) ∧ iv = .int .i64 (j : Int) ∧ Dr w wr) (fun _ iv _ => n - (intOf iv).toNat)
  case atStart => exact ⟨0, Nat.zero_le _, rfl, rfl, Dr.refl _⟩
  case round =>
    obtain ⟨j, hj, rfl, rfl, hdr⟩ := hrel
    by_cases hlt : j < n
    · have a1 := (hdr.cell _).trans (H.out j hlt).1
      have a2 := (hdr.cell _).trans (H.out j hlt).2
      go_wp2
      exact ⟨⟨j + 1, by omega, by go_num, by go_num, hdr⟩, by simp [intOf]; omega⟩
    · have hje : j = n := by omega
      subst hje
      go_wp2
      go_ret
      exact ⟨by first | rfl | (congr 2), hdr⟩

/-- the first j rows have their marks. -/
def MrTo (W : World) (B n j k0 : Nat) (rn : Nat → Nat) (T : Nat → Lr) : Prop :=
  (∀ i, i < n → W.cell? ⟨B, i, none⟩ = some (.slice (T i).a (rn i) (T i).c)) ∧ ∀ i, i < j → SlI W (T i).a (rn i) (T i).c (fun c => ((k0 + sumN rn i + c : Nat) : Int))
theorem MrTo.next {W w1 : World} {B n j k0 : Nat} {rn : Nat → Nat} {T : Nat → Lr} (h : MrTo W B n j k0 rn T) (hj : j < n) (hB : B < W.heap.size) (hiv : ∀ i, i < n → IvR (T i).a (rn i) (T i).lo (T i).hi) (hap : ∀ i, i < n → B < (T i).lo ∨ (T i).hi ≤ B) (hord : ∀ i j, i < j → j < n → (T i).hi ≤ (T j).lo) (hhi : ∀ i, i < n → (T i).hi ≤ W.heap.size)
    (hm : Mkd (T j).lo (T j).hi W w1) (hs : SlI w1 (T j).a (rn j) (T j).c (fun c => ((k0 + sumN rn j + c : Nat) : Int))) : MrTo w1 B n (j + 1) k0 rn T := by
  have hBj := hap j hj
  refine ⟨fun i hi => (hm.cell hB hBj).trans (h.1 i hi), fun i hi => ?_⟩
  by_cases e : i = j
  · subst e; exact hs
  · have hij := hord i j (by omega) hj
    have hh := hhi i (by omega)
    exact (h.2 i (by omega)).kept (lo := (T i).lo) (hi := (T i).hi) hm.size (hiv i (by omega)) (fun b _ q2 => hm.block b (by omega) (Or.inl (by omega)))

/-- and the blocks of no row are as they were. -/
def MrO (w W : World) (B n j k0 : Nat) (rn : Nat → Nat) (T : Nat → Lr) : Prop := MrTo W B n j k0 rn T ∧ ∀ b, b < w.heap.size → (∀ i, i < n → b < (T i).lo ∨ (T i).hi ≤ b) → W.heap[b]? = w.heap[b]?
theorem QR.wrM {w W : World} {n : Nat} {X : Nat → Int} {t : Lr} {lo hi : Nat} (h : QR w n X t) (hm : Mkd lo hi w W) : Wr W t.lo t.hi t.a n := by
  refine Wr.mkd (w := w) ?_ hm
  rcases h.iv with h0 | ⟨b', off', e', r1, r2⟩
  · exact Or.inl h0
  · refine h.wr.imp id fun ⟨b, off, e, q1, q2, q3⟩ => ?_
    rw [e'] at e
    injection e with e; injection e with e1 e2 _
    subst e1 e2
    exact ⟨b', off', e', q1, r2, q2, q3⟩

set_option maxRecDepth 100000 in
set_option maxHeartbeats 2000000 in
theorem markRr_any (base B n cap k0 hi : Nat) (rn : Nat → Nat) (X : Nat → Nat → Int) (T : Nat → Lr) (w : World) (hn : n ≤ 100000000) (hs : k0 + sumN rn n ≤ 100000000) (hb : B < w.heap.size)
    (hT : ∀ i, i < n → w.cell? ⟨B, i, none⟩ = some (.slice (T i).a (rn i) (T i).c))
    (hq : ∀ i, i < n → QR w (rn i) (X i) (T i)) (hlo : ∀ i, i < n → base ≤ (T i).lo ∧ (T i).hi ≤ hi) (hord : ∀ i j, i < j → j < n → (T i).hi ≤ (T j).lo) (hap : ∀ i, i < n → B < (T i).lo ∨ (T i).hi ≤ B) :
    Calls Try.prog 28 #[.slice (some ⟨B, 0, none⟩) n cap, .int .i64 (k0 : Int)] w fun e w' =>
      e = .returned (.int .i64 ((k0 + sumN rn n : Nat) : Int)) ∧ Hid (MrO w w' B n n k0 rn T) ∧ Mkd base hi w w' := by
  have hmk : Hid (∀ W (q i : Nat), q + rn i ≤ 100000000 → i < n → Mkd base hi w W → Calls Try.prog 45 #[.slice (T i).a (rn i) (T i).c, .int .i64 (q : Int)] W fun e w' => e = .returned (.int .i64 ((q + rn i : Nat) : Int)) ∧ SlI w' (T i).a (rn i) (T i).c (fun c => ((q + c : Nat) : Int)) ∧ Mkd (T i).lo (T i).hi W w') := fun W q i hq' hi' hm =>
    markI_sl W (by omega) (by omega) (hq i hi').sl.le (hq i hi').sl.max ((hq i hi').wrM hm)
  have HN : Hid (∀ (W w1 : World) (j : Nat), MrO w W B n j k0 rn T → j < n → Mkd base hi w W → Mkd (T j).lo (T j).hi W w1 → SlI w1 (T j).a (rn j) (T j).c (fun c => ((k0 + sumN rn j + c : Nat) : Int)) → MrO w w1 B n (j + 1) k0 rn T ∧ Mkd base hi w w1) := fun W w1 j h1 h2 h3 h5 h6 =>
    ⟨⟨h1.1.next h2 (Nat.lt_of_lt_of_le hb h3.size) (fun i hi' => (hq i hi').iv) hap hord (fun i hi' => Nat.le_trans (hq i hi').hh.2 h3.size) h5 h6, fun b q1 q2 => (h5.block b (Nat.lt_of_lt_of_le q1 h3.size) (q2 j h2)).trans (h1.2 b q1 q2)⟩, h3.trans (h5.wide (hlo j h2).1 (hlo j h2).2)⟩
  have H0 : Hid (MrO w w B n 0 k0 rn T) := ⟨⟨hT, fun _ hi' => absurd hi' (Nat.not_lt_zero _)⟩, fun _ _ _ => rfl⟩
  clear hT hq hlo hord hap
  go_enter Try.func28, Try.ntmps28
  go_wp2_with fail
  go_loopw [1, 5] (fun kv iv wr => ∃ j : Nat, j ≤ n ∧ kv = .int .i64 ((k0 + sumN rn j : Nat) : Int) ∧ iv = .int .i64 (j : Int) ∧ Hid (MrO w wr B n j k0 rn T) ∧ Mkd base hi w wr) (fun _ iv _ => n - (intOf iv).toNat)
  case atStart => exact ⟨0, Nat.zero_le _, rfl, rfl, H0, Mkd.refl _ _ _⟩
  case round =>
    obtain ⟨j, hj, rfl, rfl, hrow, hm⟩ := hrel
    by_cases hlt : j < n
    · have hk1 := sumN_at rn n j hlt
      have hrj := hrow.out.1.1 j hlt
      have Hnx : Hid (k0 + sumN rn j + rn j = k0 + sumN rn (j + 1)) := by unfold Hid; rw [show sumN rn (j + 1) = sumN rn j + rn j from rfl]; omega
      obtain ⟨K, hK⟩ : ∃ K, Hid (K = k0 + sumN rn j) := ⟨_, rfl⟩
      have hKb : K + rn j ≤ 100000000 := by have := hK.out; omega
      rw [← hK.out]
      rw [← hK.out] at Hnx
      go_wp2_with fail
      refine (hmk.out _ K j hKb hlt hm).mono ?_
      rintro e w1 ⟨rfl, hsl, hm1⟩
      obtain ⟨z1, z2⟩ := HN.out wr w1 j hrow.out hlt hm hm1 (by rw [← hK.out]; exact hsl)
      have Z1 : Hid (MrO w w1 B n (j + 1) k0 rn T) := z1
      rw [Hnx.out]
      clear hrj z1 hrow hsl
      go_wp2
      exact ⟨⟨j + 1, by omega, by go_num, by go_num, Z1, z2⟩, by simp [intOf]; omega⟩
    · have hje : j = n := by omega
      subst hje
      go_wp2
      go_ret
      exact ⟨by first | rfl | (congr 2), hrow, hm⟩

theorem heldR_zero (a : Option Addr) (cap k : Nat) (w : World) :
    Calls Try.prog 30 #[.slice a 0 cap, .int .i64 (k : Int)] w fun e w' => e = .returned (.int .i64 (k : Int)) ∧ w' = w := by
  go_enter Try.func30, Try.ntmps30
  go_wp2
  refine wp_loop_rounds 1 ?_
  rw [rounds_succ]
  go_wp2
  go_ret
  exact ⟨rfl, rfl⟩
set_option maxRecDepth 100000 in
set_option maxHeartbeats 2000000 in
theorem heldRr_any (B n cap k0 : Nat) (rn : Nat → Nat) (T : Nat → Lr) (w : World) (hn : n ≤ 100000000) (hs : k0 + sumN rn n ≤ 100000000) (hb : B < w.heap.size) (h : MrTo w B n n k0 rn T) :
    Calls Try.prog 30 #[.slice (some ⟨B, 0, none⟩) n cap, .int .i64 (k0 : Int)] w fun e w' => e = .returned (.int .i64 ((k0 + sumN rn n : Nat) : Int)) ∧ Below w.heap.size w w' := by
  have H : Hid (MrTo w B n n k0 rn T) := h
  clear h
  go_enter Try.func30, Try.ntmps30
  go_wp2_with fail
  go_loopw [1, 5] (fun kv iv wr => ∃ j : Nat, j ≤ n ∧ kv = .int .i64 ((k0 + sumN rn j : Nat) : Int) ∧ iv = .int .i64 (j : Int) ∧ Below w.heap.size w wr) (fun _ iv _ => n - (intOf iv).toNat)
  case atStart => exact ⟨0, Nat.zero_le _, rfl, rfl, Below.refl _ _⟩
  case round =>
    obtain ⟨j, hj, rfl, rfl, hbel⟩ := hrel
    by_cases hlt : j < n
    · have hk1 := sumN_at rn n j hlt
      have hrj := (hbel.cell (by exact hb)).trans (H.out.1 j hlt)
      have Hnx : Hid (k0 + sumN rn j + rn j = k0 + sumN rn (j + 1)) := by unfold Hid; rw [show sumN rn (j + 1) = sumN rn j + rn j from rfl]; omega
      have HH : Hid (Calls Try.prog 46 #[.slice (T j).a (rn j) (T j).c, .int .i64 ((k0 + sumN rn j : Nat) : Int)] wr fun e w' => e = .returned (.int .i64 ((k0 + sumN rn j + rn j : Nat) : Int)) ∧ Dr wr w') := heldI_sl wr (by omega) (by omega) ((H.out.2 j hlt).below hbel)
      rw [Hnx.out] at HH
      obtain ⟨K, hK⟩ : ∃ K, Hid (K = k0 + sumN rn j) := ⟨_, rfl⟩
      obtain ⟨K2, hK2⟩ : ∃ K2, Hid (K2 = k0 + sumN rn (j + 1)) := ⟨_, rfl⟩
      rw [← hK.out]
      rw [← hK.out, ← hK2.out] at HH
      go_wp2_with fail
      refine HH.out.mono ?_
      rintro e w1 ⟨rfl, hd⟩
      have hb1 : Below w.heap.size w w1 := hbel.trans ((hd.below wr.heap.size).mono hbel.size)
      have hpos : ¬ ((K2 : Int) < 0) := by omega
      clear hrj HH
      go_wp2
      exact ⟨⟨j + 1, by omega, by rw [hK2.out], by go_num, hb1⟩, by simp [intOf]; omega⟩
    · have hje : j = n := by omega
      subst hje
      go_wp2
      go_ret
      exact ⟨by first | rfl | (congr 2), hbel⟩

/-! ### the cover -/

/-- the marks of a cover. -/
def McM (w : World) (sa ra : Option Addr) (n : Nat) (rn : Nat → Nat) (T : Nat → Lr) : Prop :=
  n = 0 ∨ ∃ g B, sa = some ⟨g, 0, none⟩ ∧ ra = some ⟨B, 0, none⟩ ∧ g < w.heap.size ∧ B < w.heap.size ∧ MpTo w g n 1 ∧ MrTo w B n n (1 + n * 2) rn T
theorem McM.below {w w' : World} {sa ra : Option Addr} {n : Nat} {rn : Nat → Nat} {T : Nat → Lr} (h : McM w sa ra n rn T) (hb : Below w.heap.size w w') : McM w' sa ra n rn T := by
  rcases h with h | ⟨g, B, e1, e2, h1, h2, h3, h4⟩
  · exact Or.inl h
  · exact Or.inr ⟨g, B, e1, e2, Nat.lt_of_lt_of_le h1 hb.size, Nat.lt_of_lt_of_le h2 hb.size, fun i hi => ⟨(hb.cell (by exact h1)).trans (h3 i hi).1, (hb.cell (by exact h1)).trans (h3 i hi).2⟩, fun i hi => (hb.cell (by exact h2)).trans (h4.1 i hi), fun i hi => (h4.2 i hi).below hb⟩
theorem CovO.blocks {w : World} {base n sc rc : Nat} {sa ra : Option Addr} {f : Nat → Sp} {rn : Nat → Nat} {X : Nat → Nat → Int} {T : Nat → Lr} (h : CovO w base (.slice sa n sc) n (.slice ra n rc) n f rn X T) : n = 0 ∨ ∃ g B, sa = some ⟨g, 0, none⟩ ∧ ra = some ⟨B, 0, none⟩ ∧ base ≤ g ∧ g < w.heap.size ∧ B < w.heap.size ∧ g ≠ B ∧ (∀ i, i < n * 2 → (∃ v, w.cell? ⟨g, i, none⟩ = some v) ∧ w.frozen? ⟨g, i, none⟩ = false) ∧ ∀ i, i < n → w.cell? ⟨B, i, none⟩ = some (.slice (T i).a (rn i) (T i).c) := by
  rcases rowCells h.s with ⟨_, h0⟩ | ⟨g, cap, q, hg, hlt, _, _, hx, hf⟩
  · exact Or.inl h0
  rcases rowCells h.r.own with ⟨_, h0⟩ | ⟨B, cap', q', hg', hlt', _, _, hx', _⟩
  · exact Or.inl h0
  injection q with q1 _ _
  injection q' with q2 _ _
  refine Or.inr ⟨g, B, q1, q2, hg, hlt, hlt', fun e => ?_, fun i hi => ⟨?_, hf i⟩, fun i hi => ?_⟩
  · subst e
    subst q1 q2
    exact h.ne g rfl rfl
  · have := hx i hi
    rw [Nat.zero_add] at this
    rw [this, List.getElem?_eq_getElem (by rw [encS_len]; exact hi)]
    exact ⟨_, rfl⟩
  · have := hx' i (by omega)
    rw [Nat.zero_add] at this
    rw [this]
    exact encR_get rn T n i hi

set_option maxRecDepth 100000 in
set_option maxHeartbeats 1000000 in
theorem mkC_row {base hi n sc rc : Nat} {sa ra : Option Addr} {f : Nat → Sp} {rn : Nat → Nat} {X : Nat → Nat → Int} {T : Nat → Lr} (W : World) (h : CovO W base (.slice sa n sc) n (.slice ra n rc) n f rn X T) (hhi : (∀ g, (Value.slice sa n sc).ownBlock = some g → g < hi) ∧ ∀ i, i < n → (T i).hi ≤ hi) (hs : 1 + n * 2 + sumN rn n ≤ 100000000) :
    Calls Try.prog 11 #[.agg #[.slice sa n sc, .slice ra n rc], .int .i64 1] W fun x w' => x = .returned (.int .i64 ((1 + n * 2 + sumN rn n : Nat) : Int)) ∧ Hid (McM w' sa ra n rn T) ∧ Mkd base hi W w' := by
  rcases h.blocks with rfl | ⟨g, B, rfl, rfl, hg, hlt, hB, hne, hf, hT⟩
  · clear h hhi
    go_enter Try.func11, Try.ntmps11
    go_wp2_with fail
    refine (markP_zero sa sc 1 _).mono ?_
    rintro e w1 ⟨rfl, rfl⟩
    go_wp2_with fail
    refine (markL_zero ra rc 1 _).mono ?_
    rintro e w1 ⟨rfl, rfl⟩
    go_wp2
    go_ret
    exact ⟨rfl, Or.inl rfl, (Mkd.refl _ _ _).alloc _⟩
  · obtain ⟨W0, hW0⟩ : ∃ W0, W0 = W.alloc (.cells #[.slice (some ⟨g, 0, none⟩) n sc, .slice (some ⟨B, 0, none⟩) n rc] 29) := ⟨_, rfl⟩
    have hm0 : Mkd base hi W W0 := by rw [hW0]; exact (Mkd.refl _ _ W).alloc _
    have hb0 : Below W.heap.size W W0 := by rw [hW0]; exact (Below.refl _ _).alloc (Nat.le_refl _) _
    have hz0 : W.heap.size < W0.heap.size := by rw [hW0]; simp
    have hbx : Hid (∀ w1, Mkd g (g + 1) W0 w1 → ∀ o, w1.cell? ⟨W.heap.size, o, none⟩ = (#[.slice (some ⟨g, 0, none⟩) n sc, .slice (some ⟨B, 0, none⟩) n rc] : Array Value)[o]?) := fun w1 hm o => by
      rw [hm.cell hz0 (Or.inr (by omega)), hW0]
      exact World.cell?_alloc_at _ _ _ _ rfl
    have H1 : Hid (Calls Try.prog 27 #[.slice (some ⟨g, 0, none⟩) n sc, .int .i64 ((1 : Nat) : Int)] W0 fun e w' => e = .returned (.int .i64 ((1 + n * 2 : Nat) : Int)) ∧ Hid (MpTo w' g n 1) ∧ Mkd g (g + 1) W0 w') :=
      markPv_any g (g + 1) g n sc 1 W0 (by omega) (by omega) (Nat.le_refl _) (Nat.lt_succ_self _) (by omega) (fun i hi' => ⟨(hf i hi').1.imp fun _ q => (hb0.cell (by exact hlt)).trans q, (hb0.frozen (by exact hlt)).trans (hf i hi').2⟩)
    have H2 : Hid (∀ w1, Mkd g (g + 1) W0 w1 → MpTo w1 g n 1 → Calls Try.prog 28 #[.slice (some ⟨B, 0, none⟩) n rc, .int .i64 ((1 + n * 2 : Nat) : Int)] w1 fun e w' => e = .returned (.int .i64 ((1 + n * 2 + sumN rn n : Nat) : Int)) ∧ Hid (McM w' (some ⟨g, 0, none⟩) (some ⟨B, 0, none⟩) n rn T) ∧ Mkd base hi W w') := fun w1 hm1 hp1 => by
      have hgh : g < hi := hhi.1 g rfl
      have hs1 := hm1.size
      refine (markRr_any base B n rc (1 + n * 2) hi rn X T w1 (by omega) (by omega) (by omega) (fun i hi' => (hm1.cell (by omega) (by omega)).trans ((hb0.cell (by exact hB)).trans (hT i hi'))) (fun i hi' => ((h.r.q i hi').below hb0).kept hm1.size fun b q1 q2 => hm1.block b (by have := (h.r.q i hi').hh.2; omega) (by have := h.ap g rfl i hi'; omega)) (fun i hi' => ⟨h.r.low i hi', hhi.2 i hi'⟩) h.r.ord (h.r.apart B rfl)).mono ?_
      rintro e w2 ⟨rfl, hO, hm2⟩
      have hs2 := hm2.size
      have hk : w2.heap[g]? = w1.heap[g]? := hO.out.2 g (by omega) (fun i hi' => h.ap g rfl i hi')
      refine ⟨rfl, Or.inr ⟨g, B, rfl, rfl, by omega, by omega, fun i hi' => ⟨(World.cell?_of_block (a := ⟨g, i * 2, none⟩) hk).trans (hp1 i hi').1, (World.cell?_of_block (a := ⟨g, i * 2 + 1, none⟩) hk).trans (hp1 i hi').2⟩, hO.out.1⟩, (hm0.trans (hm1.wide hg (by omega))).trans hm2⟩
    clear h hf hT hhi hm0 hb0
    generalize (1 + n * 2 + sumN rn n : Nat) = K2 at *
    generalize (1 + n * 2 : Nat) = K1 at *
    go_enter Try.func11, Try.ntmps11
    go_wp2_with fail
    have hW0' : W.alloc (.cells #[.slice (some ⟨g, 0, none⟩) n sc, .slice (some ⟨B, 0, none⟩) n rc] 29) = W0 := hW0.symm
    rw [hW0']
    clear hW0' hW0
    refine H1.out.mono ?_
    rintro e w1 ⟨rfl, hp1, hm1⟩
    have hbx1 := hbx.out _ hm1
    go_wp2_with fail
    refine (H2.out _ hm1 hp1.out).mono ?_
    rintro e w2 ⟨rfl, hM2, hm2⟩
    go_wp2
    go_ret
    exact ⟨rfl, hM2, hm2⟩

set_option maxRecDepth 100000 in
set_option maxHeartbeats 1000000 in
theorem heldC_row {n sc rc : Nat} {sa ra : Option Addr} {rn : Nat → Nat} {T : Nat → Lr} (W : World) (h : McM W sa ra n rn T) (hs : 1 + n * 2 + sumN rn n ≤ 100000000) :
    Calls Try.prog 12 #[.agg #[.slice sa n sc, .slice ra n rc], .int .i64 1] W fun x w' => x = .returned (.int .i64 ((1 + n * 2 + sumN rn n : Nat) : Int)) ∧ Below W.heap.size W w' := by
  have hb0 : ∀ o, Below W.heap.size W (W.alloc o) := fun o => (Below.refl _ _).alloc (Nat.le_refl _) _
  have H1 : Hid (∀ w1, Below W.heap.size W w1 → Calls Try.prog 29 #[.slice sa n sc, .int .i64 ((1 : Nat) : Int)] w1 fun e w' => e = .returned (.int .i64 ((1 + n * 2 : Nat) : Int)) ∧ Below w1.heap.size w1 w') := fun w1 hb1 => by
    rcases h.below hb1 with rfl | ⟨g, B, rfl, rfl, _, _, h3, _⟩
    · refine (heldP_zero sa sc 1 w1).mono ?_
      rintro e w' ⟨rfl, rfl⟩
      exact ⟨rfl, Below.refl _ _⟩
    · exact (heldP_any g n sc 1 w1 (by omega) (by omega) h3).mono fun _ _ ⟨q1, q2⟩ => ⟨q1, q2.below _⟩
  have H2 : Hid (∀ w1, Below W.heap.size W w1 → Calls Try.prog 30 #[.slice ra n rc, .int .i64 ((1 + n * 2 : Nat) : Int)] w1 fun e w' => e = .returned (.int .i64 ((1 + n * 2 + sumN rn n : Nat) : Int)) ∧ Below w1.heap.size w1 w') := fun w1 hb1 => by
    rcases h.below hb1 with rfl | ⟨g, B, rfl, rfl, _, h2, _, h4⟩
    · refine (heldR_zero ra rc 1 w1).mono ?_
      rintro e w' ⟨rfl, rfl⟩
      exact ⟨rfl, Below.refl _ _⟩
    · exact heldRr_any B n rc (1 + n * 2) rn T w1 (by omega) hs h2 h4
  clear h
  have p2 : ¬ (((1 + n * 2 + sumN rn n : Nat) : Int) < 0) := by omega
  have p1 : ¬ (((1 + n * 2 : Nat) : Int) < 0) := by omega
  generalize (1 + n * 2 + sumN rn n : Nat) = K2 at *
  generalize (1 + n * 2 : Nat) = K1 at *
  go_enter Try.func12, Try.ntmps12
  go_wp2_with fail
  refine (H1.out _ (hb0 _)).mono ?_
  rintro e w1 ⟨rfl, hb1⟩
  have hbx := box_cells (hb1.mono (by simp))
  have hbw := (hb0 _).trans (hb1.mono (hb0 _).size)
  go_wp2_with fail
  refine (H2.out _ hbw).mono ?_
  rintro e w2 ⟨rfl, hb2⟩
  go_wp2
  go_ret
  exact ⟨rfl, hbw.trans (hb2.mono hbw.size)⟩
end Go.Proofs.Ytlopjfhdhkonbaa
