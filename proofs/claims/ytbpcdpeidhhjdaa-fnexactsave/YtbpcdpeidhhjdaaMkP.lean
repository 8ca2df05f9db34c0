/-
  markStore, heldStore on Save's answer.
-/
import Derived.Test.YtbpcdpeidhhjdaaOwP
import Derived.Test.YtbpcdpeidhhjdaaMkGp
namespace Go.Proofs.Ytbpcdpeidhhjdaa
open Go.RowKit

/-- how many entries each group has. -/
def gln (G : Nat → Grp) (i : Nat) : Nat := (G i).sets.length
/-- the groups with their marks. -/
def mkG (G : Nat → Grp) (k0 i : Nat) : Grp := ⟨((k0 + gsum (gln G) i : Nat) : Int), mkL (k0 + gsum (gln G) i + 1) (gln G i)⟩
theorem mkG_len (G : Nat → Grp) (k0 i : Nat) : (mkG G k0 i).sets.length = gln G i := mkL_len _ _
theorem QP.wrM {w W : World} {g : Grp} {t : Lg} {lo hi : Nat} (h : QP w g t) (hm : Mkd lo hi w W) : Wr W t.lo t.hi t.a (g.sets.length * 3) := by
  refine Wr.mkd (w := w) ?_ hm
  rcases h.iv with h0 | ⟨b', off', e', r1, r2⟩
  · exact Or.inl (by rw [h0])
  · refine h.wr.imp id fun ⟨b, off, e, q1, q2, q3⟩ => ?_
    rw [e'] at e
    injection e with e; injection e with e1 e2 _
    subst e1 e2
    exact ⟨b', off', e', q1, r2, q2, q3⟩
/-- the marks of the first j groups. -/
def MkTo (W : World) (B n j k0 : Nat) (G : Nat → Grp) (T : Nat → Lg) : Prop :=
  (∀ i, i < n → W.cell? ⟨B, i * 2 + 1, none⟩ = some (.slice (T i).a (gln G i) (T i).c)) ∧ ∀ i, i < j → W.cell? ⟨B, i * 2, none⟩ = some (.int .i64 (mkG G k0 i).par) ∧ SlE W (T i).a (T i).c (mkG G k0 i).sets
theorem MkTo.set {W : World} {B n j k0 : Nat} {G : Nat → Grp} {T : Nat → Lg} (h : MkTo W B n j k0 G T) (hj : j ≤ n) (hiv : ∀ i, i < n → IvE (T i).a (gln G i) (T i).lo (T i).hi) (hap : ∀ i, i < n → B < (T i).lo ∨ (T i).hi ≤ B) (x : Value) : MkTo (W.setCell ⟨B, j * 2, none⟩ x) B n j k0 G T := by
  refine ⟨fun i hi => by rw [set_far (by omega)]; exact h.1 i hi, fun i hi => ⟨by rw [set_far (by omega)]; exact (h.2 i hi).1, ?_⟩⟩
  have := hap i (by omega)
  exact (h.2 i hi).2.kept (lo := (T i).lo) (hi := (T i).hi) (by simp [World.setCell]) (by rw [mkG_len]; exact hiv i (by omega)) (fun b q1 q2 => Below.heap_setCell _ _ _ _ (by show b ≠ B; omega))
theorem MkTo.next {W w1 : World} {B n j k0 : Nat} {G : Nat → Grp} {T : Nat → Lg} (h : MkTo W B n j k0 G T) (hj : j < n) (hB : B < W.heap.size) (hiv : ∀ i, i < n → IvE (T i).a (gln G i) (T i).lo (T i).hi) (hap : ∀ i, i < n → B < (T i).lo ∨ (T i).hi ≤ B) (hord : ∀ i j, i < j → j < n → (T i).hi ≤ (T j).lo) (hhi : ∀ i, i < n → (T i).hi ≤ W.heap.size)
    (hc : W.cell? ⟨B, j * 2, none⟩ = some (.int .i64 (mkG G k0 j).par)) (hm : Mkd (T j).lo (T j).hi W w1) (hs : SlE w1 (T j).a (T j).c (mkG G k0 j).sets) : MkTo w1 B n (j + 1) k0 G T := by
  have hBj := hap j hj
  have hBc : ∀ o, w1.cell? ⟨B, o, none⟩ = W.cell? ⟨B, o, none⟩ := fun o => hm.cell hB hBj
  refine ⟨fun i hi => (hBc _).trans (h.1 i hi), fun i hi => ?_⟩
  by_cases e : i = j
  · subst e; exact ⟨(hBc _).trans hc, hs⟩
  · have hij := hord i j (by omega) hj
    have hh := hhi i (by omega)
    exact ⟨(hBc _).trans (h.2 i (by omega)).1, (h.2 i (by omega)).2.kept (lo := (T i).lo) (hi := (T i).hi) hm.size (by rw [mkG_len]; exact hiv i (by omega)) (fun b _ q2 => hm.block b (by omega) (Or.inl (by omega)))⟩

set_option maxRecDepth 100000 in
set_option maxHeartbeats 2000000 in
theorem markGr_any (base B n cap k0 hi : Nat) (G : Nat → Grp) (T : Nat → Lg) (w : World) (hn : n ≤ 100000000) (hs : k0 + gsum (gln G) n ≤ 100000000) (hB : base ≤ B) (hh : B < hi) (hb : B < w.heap.size)
    (hf : ∀ o, w.frozen? ⟨B, o, none⟩ = false)
    (hT : ∀ i, i < n → w.cell? ⟨B, i * 2, none⟩ = some (.int .i64 (G i).par) ∧ w.cell? ⟨B, i * 2 + 1, none⟩ = some (.slice (T i).a (gln G i) (T i).c))
    (hq : ∀ i, i < n → QP w (G i) (T i)) (hlo : ∀ i, i < n → base ≤ (T i).lo ∧ (T i).hi ≤ hi) (hord : ∀ i j, i < j → j < n → (T i).hi ≤ (T j).lo) (hap : ∀ i, i < n → B < (T i).lo ∨ (T i).hi ≤ B) :
    Calls Try.prog 35 #[.slice (some ⟨B, 0, none⟩) n cap, .int .i64 (k0 : Int)] w fun e w' =>
      e = .returned (.int .i64 ((k0 + gsum (gln G) n : Nat) : Int)) ∧ Hid (MkTo w' B n n k0 G T) ∧ Mkd base hi w w' := by
  have hmk : Hid (∀ W (z : Int) (q i : Nat), z = (q : Int) → q + gln G i * 3 ≤ 100000000 → i < n → Mkd base hi w W → Calls Try.prog 13 #[.slice (T i).a (gln G i) (T i).c, .int .i64 z] W fun e w' => e = .returned (.int .i64 ((q + gln G i * 3 : Nat) : Int)) ∧ SlE w' (T i).a (T i).c (mkL q (gln G i)) ∧ Mkd (T i).lo (T i).hi W w') := fun W z q i hz hq' hi' hm => by
    subst hz
    exact markE_sl W (by omega) (by omega) (hq i hi').sl.le (hq i hi').sl.max ((hq i hi').wrM hm)
  have Hlo : Hid (∀ i, i < n → base ≤ (T i).lo ∧ (T i).hi ≤ hi) := hlo
  have HN : Hid (∀ (W w1 : World) (j : Nat), MkTo W B n j k0 G T → j < n → Mkd base hi w W → W.cell? ⟨B, j * 2, none⟩ = some (.int .i64 (mkG G k0 j).par) → Mkd (T j).lo (T j).hi W w1 → SlE w1 (T j).a (T j).c (mkG G k0 j).sets → MkTo w1 B n (j + 1) k0 G T ∧ Mkd base hi w w1) := fun W w1 j h1 h2 h3 h4 h5 h6 =>
    ⟨h1.next h2 (Nat.lt_of_lt_of_le hb h3.size) (fun i hi' => (hq i hi').iv) hap hord (fun i hi' => Nat.le_trans (hq i hi').hh.2 h3.size) h4 h5 h6, h3.trans (h5.wide (hlo j h2).1 (hlo j h2).2)⟩
  have HS : Hid (∀ (W : World) (j : Nat) (x : Value), MkTo W B n j k0 G T → j ≤ n → MkTo (W.setCell ⟨B, j * 2, none⟩ x) B n j k0 G T) := fun W j x h1 h2 => h1.set h2 (fun i hi' => (hq i hi').iv) hap x
  have H0 : Hid (MkTo w B n 0 k0 G T) := ⟨fun i hi' => (hT i hi').2, fun _ hi' => absurd hi' (Nat.not_lt_zero _)⟩
  have Hth : Hid (∀ i, i < n → ∃ v, w.cell? ⟨B, i * 2, none⟩ = some v) := fun i hi' => ⟨_, (hT i hi').1⟩
  have Hf : Hid (∀ o, w.frozen? ⟨B, o, none⟩ = false) := hf
  clear hT hq hlo hord hap hf
  go_enter Try.func35, Try.ntmps35
  go_wp2_with fail
  go_loopw [1, 5] (fun kv iv wr => ∃ j : Nat, j ≤ n ∧ kv = .int .i64 ((k0 + gsum (gln G) j : Nat) : Int) ∧ iv = .int .i64 (j : Int) ∧ Hid (MkTo wr B n j k0 G T) ∧ Mkd base hi w wr) (fun _ iv _ => n - (intOf iv).toNat)
  case atStart => exact ⟨0, Nat.zero_le _, rfl, rfl, H0, Mkd.refl _ _ _⟩
  case round =>
    obtain ⟨j, hj, rfl, rfl, hrow, hm⟩ := hrel
    have hbr : B < wr.heap.size := Nat.lt_of_lt_of_le hb hm.size
    by_cases hlt : j < n
    · have hk1 : k0 + gsum (gln G) j + (1 + gln G j * 3) ≤ 100000000 := by
        have : gsum (gln G) j + (1 + gln G j * 3) ≤ gsum (gln G) n := gsum_mono (gln G) (j := j + 1) (by omega)
        omega
      have Hnx : Hid (k0 + gsum (gln G) j + 1 + gln G j * 3 = k0 + gsum (gln G) (j + 1)) := by unfold Hid; rw [show gsum (gln G) (j + 1) = gsum (gln G) j + (1 + gln G j * 3) from rfl]; omega
      obtain ⟨v0, hv0⟩ := hm.there ⟨B, j * 2, none⟩ hb (Hth.out j hlt)
      have hz0 : wr.frozen? ⟨B, j * 2, none⟩ = false := (hm.frz ⟨B, j * 2, none⟩ hb).trans (Hf.out _)
      obtain ⟨W, hWd⟩ : ∃ W, W = wr.setCell ⟨B, j * 2, none⟩ (.int .i64 ((k0 : Int) + (gsum (gln G) j : Int))) := ⟨_, rfl⟩
      have hmW : Mkd base hi w W := by rw [hWd]; exact hm.set hB hh ⟨v0, hv0⟩
      have hrowW : Hid (MkTo W B n j k0 G T) := by rw [hWd]; exact HS.out wr j _ hrow.out hj
      have hcW : Hid (W.cell? ⟨B, j * 2, none⟩ = some (.int .i64 (mkG G k0 j).par)) := by
        unfold Hid
        rw [hWd, set_same ⟨v0, hv0⟩]
        congr 2
      have hrj := hrow.out.1 j hlt
      have Hmk : Hid (mkG G k0 j = ⟨((k0 + gsum (gln G) j : Nat) : Int), mkL (k0 + gsum (gln G) j + 1) (gln G j)⟩) := rfl
      clear hrow
      generalize gsum (gln G) j = gs at *
      go_wp2_with fail
      rw [← hWd]
      clear hWd hv0 hz0
      refine (hmk.out _ _ (k0 + gs + 1) j (by omega) (by omega) hlt hmW).mono ?_
      rintro e w1 ⟨rfl, hsl, hm1⟩
      rw [Hnx.out]
      obtain ⟨z1, z2⟩ := HN.out W w1 j hrowW.out hlt hmW hcW.out hm1 (by rw [Hmk.out]; exact hsl)
      have Z1 : Hid (MkTo w1 B n (j + 1) k0 G T) := z1
      clear hrj hrowW z1
      go_wp2
      exact ⟨⟨j + 1, by omega, by go_num, by go_num, Z1, z2⟩, by simp [intOf]; omega⟩
    · have hje : j = n := by omega
      subst hje
      go_wp2
      go_ret
      exact ⟨by first | rfl | (congr 2), hrow, hm⟩

/-- what markStore leaves of a row. -/
def MsPost (W : World) (base hi : Nat) (v : Value) (n : Nat) (G : Nat → Grp) (x : Ending) (w' : World) : Prop :=
  x = .returned (.int .i64 ((1 + gsum (gln G) n : Nat) : Int)) ∧ (∃ a cap, v = .slice a n cap ∧ SlT w' a n cap (mkG G 1)) ∧ Mkd base hi W w'

theorem markGs_zero (a : Option Addr) (cap k : Nat) (w : World) :
    Calls Try.prog 35 #[.slice a 0 cap, .int .i64 (k : Int)] w fun e w' => e = .returned (.int .i64 (k : Int)) ∧ w' = w := by
  go_enter Try.func35, Try.ntmps35
  go_wp2
  refine wp_loop_rounds 1 ?_
  rw [rounds_succ]
  go_wp2
  go_ret
  exact ⟨rfl, rfl⟩

set_option maxRecDepth 100000 in
set_option maxHeartbeats 1000000 in
theorem mkS_row {base hi n : Nat} {v : Value} {G : Nat → Grp} {T : Nat → Lg} (W : World) (h : RowP W base v n G T) (hhi : (∀ g, v.ownBlock = some g → g < hi) ∧ ∀ i, i < n → (T i).hi ≤ hi) (hs : 1 + gsum (gln G) n ≤ 100000000) (hn : n ≤ 100000000) :
    Calls Try.prog 12 #[.agg #[v], .int .i64 1] W (MsPost W base hi v n G) := by
  have hbA : ∀ o, Below W.heap.size W (W.alloc o) := fun o => (Below.refl _ _).alloc (Nat.le_refl _) _
  rcases h.cells with ⟨rfl, rfl⟩ | ⟨g, cap, rfl, hg, hlt, hn2, hc, hx, hf⟩
  · clear h
    go_enter Try.func12, Try.ntmps12
    go_wp2_with fail
    refine (markGs_zero none 0 1 _).mono ?_
    rintro e w1 ⟨rfl, rfl⟩
    go_wp2
    go_ret
    exact ⟨rfl, ⟨none, 0, rfl, ⟨Nat.le_refl _, by decide, Or.inl rfl⟩⟩, (Mkd.refl _ _ _).alloc _⟩
  · have HM : Hid (∀ W', Below W.heap.size W W' → Calls Try.prog 35 #[.slice (some ⟨g, 0, none⟩) n cap, .int .i64 ((1 : Nat) : Int)] W' fun x w' => x = .returned (.int .i64 ((1 + gsum (gln G) n : Nat) : Int)) ∧ Hid (MkTo w' g n n 1 G T) ∧ Mkd base hi W' w') := fun W' hW =>
      markGr_any base g n cap 1 hi G T W' hn hs hg (hhi.1 g rfl) (Nat.lt_of_lt_of_le hlt hW.size) (fun o => (hW.frozen (by exact hlt)).trans (hf o)) (fun i hi' => ⟨(hW.cell (by exact hlt)).trans (hx i hi').1, (hW.cell (by exact hlt)).trans (hx i hi').2⟩) (fun i hi' => (h.q i hi').below hW) (fun i hi' => ⟨h.low i hi', hhi.2 i hi'⟩) h.ord (h.apart g rfl)
    clear h hx hhi
    go_enter Try.func12, Try.ntmps12
    go_wp2_with fail
    refine (HM.out _ (hbA _)).mono ?_
    rintro e w1 ⟨rfl, hR, hm1⟩
    have hm : Mkd base hi W w1 := ((Mkd.refl _ _ W).alloc _).trans hm1
    have hsl : Hid (SlT w1 (some ⟨g, 0, none⟩) n cap (mkG G 1)) := ⟨hn2, hc, Or.inr ⟨g, 0, rfl, Nat.lt_of_lt_of_le hlt hm.size, fun i hi' => by
      rw [Nat.zero_add]
      refine ⟨(T i).a, (T i).c, (hR.out.2 i hi').1, ?_, (hR.out.2 i hi').2⟩
      rw [mkG_len]
      exact hR.out.1 i hi'⟩⟩
    clear hR hm1 HM
    go_wp2
    go_ret
    exact ⟨by first | rfl | (congr 2), ⟨_, _, rfl, hsl.out⟩, hm⟩

/-! ### heldStore -/

theorem heldGs_zero (a : Option Addr) (cap k : Nat) (w : World) :
    Calls Try.prog 37 #[.slice a 0 cap, .int .i64 (k : Int)] w fun e w' => e = .returned (.int .i64 (k : Int)) ∧ w' = w := by
  go_enter Try.func37, Try.ntmps37
  go_wp2
  refine wp_loop_rounds 1 ?_
  rw [rounds_succ]
  go_wp2
  go_ret
  exact ⟨rfl, rfl⟩

set_option maxRecDepth 100000 in
set_option maxHeartbeats 2000000 in
theorem heldGs_any (b off n cap : Nat) (G : Nat → Grp) (w : World) (hn : n ≤ 100000000) (hs : 1 + gsum (gln G) n ≤ 100000000) (hb : b < w.heap.size) (hc : ∀ i, i < n → GrpAt w b (off + i * 2) (mkG G 1 i)) :
    Calls Try.prog 37 #[.slice (some ⟨b, off, none⟩) n cap, .int .i64 1] w fun e w' => e = .returned (.int .i64 ((1 + gsum (gln G) n : Nat) : Int)) ∧ Below w.heap.size w w' := by
  have HC : Hid (∀ i, i < n → GrpAt w b (off + i * 2) (mkG G 1 i)) := hc
  clear hc
  go_enter Try.func37, Try.ntmps37
  go_wp2_with fail
  go_loopw [1, 5] (fun kv iv wr => ∃ j : Nat, j ≤ n ∧ kv = .int .i64 ((1 + gsum (gln G) j : Nat) : Int) ∧ iv = .int .i64 (j : Int) ∧ Below w.heap.size w wr) (fun _ iv _ => n - (intOf iv).toNat)
  case atStart => exact ⟨0, Nat.zero_le _, rfl, rfl, Below.refl _ _⟩
  case round =>
    obtain ⟨j, hj, rfl, rfl, hbel⟩ := hrel
    by_cases hlt : j < n
    · have hk1 : 1 + gsum (gln G) j + (1 + gln G j * 3) ≤ 100000000 := by
        have : gsum (gln G) j + (1 + gln G j * 3) ≤ gsum (gln G) n := gsum_mono (gln G) (j := j + 1) (by omega)
        omega
      have Hnx : Hid (1 + gsum (gln G) j + 1 + gln G j * 3 = 1 + gsum (gln G) (j + 1)) := by unfold Hid; rw [show gsum (gln G) (j + 1) = gsum (gln G) j + (1 + gln G j * 3) from rfl]; omega
      obtain ⟨sa, sc, c1, c2, hsl⟩ := (HC.out j hlt).below hbel hb
      rw [mkG_len] at c2
      have c1' : wr.cell? ⟨b, off + j * 2, none⟩ = some (.int .i64 (1 + (gsum (gln G) j : Int))) := by
        rw [c1]
        congr 2
      have HH : Hid (∀ z : Int, z = ((1 + gsum (gln G) j + 1 : Nat) : Int) → Calls Try.prog 57 #[.slice sa (gln G j) sc, .int .i64 z] wr fun e w' => e = .returned (.int .i64 ((1 + gsum (gln G) j + 1 + gln G j * 3 : Nat) : Int)) ∧ Below wr.heap.size wr w') := fun z hz => by
        subst hz
        exact heldE_sl wr (by omega) (by omega) hsl
      rw [Hnx.out] at HH
      clear c1 hsl
      generalize gln G j = gl at *
      obtain ⟨gn, hgn⟩ : ∃ gn, gn = gsum (gln G) (j + 1) := ⟨_, rfl⟩
      have HG : Hid (gn = gsum (gln G) (j + 1)) := hgn
      rw [← hgn] at HH
      clear hgn
      generalize gsum (gln G) j = gs at *
      go_wp2_with fail
      refine (HH.out _ (by omega)).mono ?_
      rintro e w1 ⟨rfl, hb1⟩
      have hbw := hbel.trans (hb1.mono hbel.size)
      clear HH c2 c1'
      go_wp2
      exact ⟨⟨j + 1, by omega, by rw [← HG.out]; first | rfl | go_num, by go_num, hbw⟩, by simp [intOf]; omega⟩
    · have hje : j = n := by omega
      subst hje
      go_wp2
      go_ret
      exact ⟨by first | rfl | (congr 2), hbel⟩

set_option maxHeartbeats 1000000 in
theorem heldS_sl {a : Option Addr} {n cap : Nat} {G : Nat → Grp} (w : World) (hn : n ≤ 100000000) (hs : 1 + gsum (gln G) n ≤ 100000000) (h : SlT w a n cap (mkG G 1)) :
    Calls Try.prog 14 #[.agg #[.slice a n cap], .int .i64 1] w fun e w' => e = .returned (.int .i64 ((1 + gsum (gln G) n : Nat) : Int)) ∧ Below w.heap.size w w' := by
  have hb0 : ∀ o, Below w.heap.size w (w.alloc o) := fun o => (Below.refl _ _).alloc (Nat.le_refl _) _
  have hz : Hid (∀ W, SlT W a n cap (mkG G 1) → Calls Try.prog 37 #[.slice a n cap, .int .i64 1] W fun e w' => e = .returned (.int .i64 ((1 + gsum (gln G) n : Nat) : Int)) ∧ Below W.heap.size W w') := fun W hW => by
    rcases hW.cells with rfl | ⟨b, off, rfl, hb, hc⟩
    · refine (heldGs_zero a cap 1 W).mono ?_
      rintro e w' ⟨rfl, rfl⟩
      exact ⟨rfl, Below.refl _ _⟩
    · exact heldGs_any b off n cap G W hn hs hb hc
  have hpos : ¬ (((1 + gsum (gln G) n : Nat) : Int) < 0) := by omega
  generalize (1 + gsum (gln G) n : Nat) = K at *
  go_enter Try.func14, Try.ntmps14
  go_wp2_with fail
  refine (hz.out _ (h.below (hb0 _))).mono ?_
  rintro e w1 ⟨rfl, hb1⟩
  go_wp2
  go_ret
  exact ⟨rfl, (hb0 _).trans (hb1.mono (hb0 _).size)⟩
end Go.Proofs.Ytbpcdpeidhhjdaa
