/-
  Rows of states in the laws: copies, sizes, the same twice, marks.
-/
import Derived.Test.YtkfgolcjhiaacaaMkE
import Derived.Test.YtkfgolcjhiaacaaAnE
namespace Go.Proofs.Ytkfgolcjhiaacaa
open Go.RowKit

/-- the entries l lie in the slice at (b, o). -/
def RwE (w : World) (b o : Nat) (l : List Ent) : Prop := ∃ sa sc, w.cell? ⟨b, o, none⟩ = some (.slice sa l.length sc) ∧ SlE w sa sc l
theorem RwE.below {w w' : World} {b o : Nat} {l : List Ent} (h : RwE w b o l) (hb : Below w.heap.size w w') (hlt : b < w.heap.size) : RwE w' b o l := by
  obtain ⟨sa, sc, h1, h2⟩ := h
  exact ⟨sa, sc, (hb.cell (by exact hlt)).trans h1, h2.below hb⟩
/-- the slice (a, n, cap) holds the states L 0 .. L (n-1). -/
structure SlEE (w : World) (a : Option Addr) (n cap : Nat) (L : Nat → List Ent) : Prop where
  le : n ≤ cap
  max : cap ≤ maxLen
  cells : n = 0 ∨ ∃ b off, a = some ⟨b, off, none⟩ ∧ b < w.heap.size ∧ ∀ i, i < n → RwE w b (off + i) (L i)
theorem SlEE.below {w w' : World} {a : Option Addr} {n cap : Nat} {L : Nat → List Ent} (h : SlEE w a n cap L) (hb : Below w.heap.size w w') : SlEE w' a n cap L :=
  ⟨h.le, h.max, h.cells.imp id fun ⟨b, off, e, hlt, hc⟩ => ⟨b, off, e, Nat.lt_of_lt_of_le hlt hb.size, fun i hi => (hc i hi).below hb hlt⟩⟩
theorem SlEE.ok {w : World} {a : Option Addr} {n cap : Nat} {L : Nat → List Ent} (h : SlEE w a n cap L) : ∀ i, i < n → AllOk (L i) := fun i hi => by
  rcases h.cells with h0 | ⟨b, off, _, _, hc⟩
  · omega
  · obtain ⟨_, _, _, h2⟩ := hc i hi
    exact h2.ok

/-! ### copies -/

theorem Try.infoRowE : (Try.prog.info? 24).map (fun i => (i.zero, i.size, i.bytes)) = some (some (.slice none 0 0), 1, 24) := by kernel_rfl
theorem make_rowE (n : Nat) (h : n * 24 ≤ 140737488351232) (W : World) :
    (Instr.makeSlice 28 (.int .i64 (n : Int)) (.int .i64 (n : Int))).run Try.prog W = .ok (.slice (some ⟨W.heap.size, 0, none⟩) n n) (W.alloc (.cells (madeCells #[.slice none 0 0] n) 24)) := by
  obtain ⟨i0, hi, hz0, hz1, hz2⟩ := info_parts Try.infoRowE
  have := run_make (P := Try.prog) W 28 24 i0 (.slice none 0 0) Try.underlying28 hi hz0 .i64 .i64 (n : Int) (n : Int) (by omega) (by omega) (by rw [hz2]; omega) (by omega)
  rw [this, hz1]
  simp [Value.cells]

/-- the entries l lie at (B, o), in a block above B; they may be written. -/
def RwNew (w : World) (B o : Nat) (l : List Ent) : Prop := ∃ bp, B < bp ∧ w.cell? ⟨B, o, none⟩ = some (.slice (some ⟨bp, 0, none⟩) l.length l.length) ∧ SlE w (some ⟨bp, 0, none⟩) l.length l ∧ Wr0 w (B + 1) (some ⟨bp, 0, none⟩) (l.length * 3)
theorem RwNew.below {w w' : World} {B o : Nat} {l : List Ent} (h : RwNew w B o l) (hb : Below w.heap.size w w') (hlt : B < w.heap.size) : RwNew w' B o l := by
  obtain ⟨bp, h1, h2, h3, h4⟩ := h
  exact ⟨bp, h1, (hb.cell (by exact hlt)).trans h2, h3.below hb, h4.below hb⟩
theorem RwNew.at {w : World} {B o : Nat} {l : List Ent} (h : RwNew w B o l) : RwE w B o l := by
  obtain ⟨bp, _, h2, h3, _⟩ := h
  exact ⟨_, _, h2, h3⟩
theorem RwNew.put {w : World} {B o o' : Nat} {l : List Ent} {x : Value} (h : RwNew w B o l) (ho : o < o') : RwNew (w.setCell ⟨B, o', none⟩ x) B o l := by
  obtain ⟨bp, h1, h2, h3, h4⟩ := h
  exact ⟨bp, h1, by rw [set_far (by omega)]; exact h2, h3.set (by omega) _, h4.set _⟩

theorem toEE_zero (a : Option Addr) (cap : Nat) (w : World) :
    Calls Try.prog 6 #[.slice a 0 cap] w fun e w' =>
      e = .returned (.slice (some ⟨w.heap.size, 0, none⟩) 0 0) ∧ w.heap.size < w'.heap.size ∧ Below w.heap.size w w' := by
  have hmk := make_rowE 0 (by decide) w
  simp only [Int.ofNat_zero] at hmk
  go_enter Try.func6, Try.ntmps6
  go_wp2
  clear hmk
  refine wp_loop_rounds 1 ?_
  rw [rounds_succ]
  go_wp2
  go_ret
  exact ⟨rfl, by simp, (Below.refl _ _).alloc (Nat.le_refl _) _⟩

set_option maxHeartbeats 2000000 in
theorem toEE_any (b off n cap : Nat) (L : Nat → List Ent) (w : World) (hr : n * 24 ≤ 140737488351232) (hR : ∀ i, i < n → (L i).length * 48 ≤ 140737488351232) (hb : b < w.heap.size) (hc : ∀ i, i < n → RwE w b (off + i) (L i)) :
    Calls Try.prog 6 #[.slice (some ⟨b, off, none⟩) n cap] w fun e w' =>
      e = .returned (.slice (some ⟨w.heap.size, 0, none⟩) n n) ∧ (∀ i, i < n → RwNew w' w.heap.size i (L i)) ∧ w.heap.size < w'.heap.size ∧ Below w.heap.size w w' := by
  have hmk := make_rowE n hr w
  go_enter Try.func6, Try.ntmps6
  go_wp2
  clear hmk
  go_loopw [4] (fun i wr => ∃ k : Nat, k ≤ n ∧ i = .int .i64 k ∧ Hid (∀ i, i < k → RwNew wr w.heap.size i (L i)) ∧ Free wr w.heap.size n ∧ w.heap.size < wr.heap.size ∧ Below w.heap.size w wr) (fun i _ => n - (intOf i).toNat)
  case atStart => exact ⟨0, Nat.zero_le _, rfl, fun i hi => absurd hi (Nat.not_lt_zero _), fun i hi => ⟨cell_made _ _ _ _ (by rw [size_madeCells]; exact hi), World.frozen?_alloc_at _ _ _ _ rfl⟩, by simp, (Below.refl _ _).alloc (Nat.le_refl _) _⟩
  case round =>
    obtain ⟨k, hk, rfl, hdone, hfree, hsz, hbel⟩ := hrel
    by_cases hlt : k < n
    · obtain ⟨sa, sc, c1, hsl⟩ := (hc k hlt).below hbel hb
      have hrk := hR k hlt
      clear hc hR
      go_wp2_with fail
      refine (toEw_sl _ hrk hsl).mono ?_
      rintro e w1 ⟨rfl, hx1, hwx1, hb1⟩
      have hfree1 : Free w1 w.heap.size n := fun i hi => by
        obtain ⟨⟨v, hv⟩, hf⟩ := hfree i hi
        exact ⟨⟨v, (hb1.cell (by exact hsz)).trans hv⟩, (hb1.frozen (by exact hsz)).trans hf⟩
      obtain ⟨⟨x0, y0⟩, z0⟩ := hfree1 k hlt
      have hdone1 : Hid (∀ i, i < k → RwNew w1 w.heap.size i (L i)) := fun i hi => (hdone.out i hi).below hb1 hsz
      have hsz1 : w.heap.size < w1.heap.size := Nat.lt_of_lt_of_le hsz hb1.size
      have hbel1 := hbel.trans (hb1.mono hbel.size)
      have HX : Hid (SlE w1 (some ⟨wr.heap.size, 0, none⟩) (L k).length (L k)) := hx1
      have HW : Hid (Wr0 w1 wr.heap.size (some ⟨wr.heap.size, 0, none⟩) ((L k).length * 3)) := hwx1
      clear hdone hfree hbel hb1 c1 hsl hx1 hwx1
      go_wp2
      go_roundw
      case rel =>
        refine ⟨k + 1, by omega, by go_num, fun i hi => ?_, set_free hfree1, by simpa [World.setCell] using hsz1, hbel1.setCell (Nat.le_refl _) _⟩
        by_cases ek : i = k
        · subst ek
          exact ⟨wr.heap.size, by omega, set_same ⟨_, y0⟩, HX.out.set (by omega) _, (Wr0.low HW.out (by omega)).set _⟩
        · exact (hdone1.out i (by omega)).put (by omega)
      case measure => simp [intOf]; omega
    · go_wp2
      go_ret
      exact ⟨rfl, fun i hi => hdone.out i (by omega), hsz, hbel⟩
theorem toEE_new {a : Option Addr} {n cap : Nat} {L : Nat → List Ent} (w : World) (hr : n * 24 ≤ 140737488351232) (hR : ∀ i, i < n → (L i).length * 48 ≤ 140737488351232) (h : SlEE w a n cap L) :
    Calls Try.prog 6 #[.slice a n cap] w fun e w' =>
      e = .returned (.slice (some ⟨w.heap.size, 0, none⟩) n n) ∧ (∀ i, i < n → RwNew w' w.heap.size i (L i)) ∧ w.heap.size < w'.heap.size ∧ Below w.heap.size w w' := by
  rcases h.cells with rfl | ⟨b, off, rfl, hb, hc⟩
  · refine (toEE_zero a cap w).mono ?_
    rintro e w' ⟨rfl, hsz, hbel⟩
    exact ⟨rfl, fun i hi => absurd hi (Nat.not_lt_zero _), hsz, hbel⟩
  · exact toEE_any b off n cap L w hr hR hb hc
theorem slEE_new {w : World} {B n : Nat} {L : Nat → List Ent} (hn : n ≤ maxLen) (hB : B < w.heap.size) (h : ∀ i, i < n → RwNew w B i (L i)) : SlEE w (some ⟨B, 0, none⟩) n n L :=
  ⟨Nat.le_refl _, hn, Or.inr ⟨B, 0, rfl, hB, fun i hi => by rw [Nat.zero_add]; exact (h i hi).at⟩⟩

/-! ### sizes -/

/-- how many entries the first n states have. -/
def usum (L : Nat → List Ent) : Nat → Nat
  | 0 => 0
  | n + 1 => usum L n + (L n).length

theorem szEE_zero (a : Option Addr) (cap : Nat) (l : Int) (w : World) (h0 : 0 ≤ l) (h1 : l ≤ 1048576) :
    Calls Try.prog 4 #[.slice a 0 cap, .int .i64 l] w fun e w' => e = .returned (.int .i64 l) ∧ w' = w := by
  go_enter Try.func4, Try.ntmps4
  go_wp2
  refine wp_loop_rounds 1 ?_
  rw [rounds_succ]
  go_wp2
  go_ret
  exact ⟨rfl, rfl⟩

set_option maxHeartbeats 2000000 in
theorem szEE_any (b off n cap : Nat) (L : Nat → List Ent) (r0 : Int) (w : World) (h0 : 0 ≤ r0) (h1 : r0 ≤ 1048576) (hn : n ≤ maxLen) (hb : b < w.heap.size) (hc : ∀ i, i < n → RwE w b (off + i) (L i)) :
    Calls Try.prog 4 #[.slice (some ⟨b, off, none⟩) n cap, .int .i64 r0] w fun e w' => ∃ r : Int, e = .returned (.int .i64 r) ∧ -1 ≤ r ∧ r ≤ r0 ∧ (r < 0 ∨ r + n + usum L n ≤ r0) ∧ Below w.heap.size w w' := by
  unfold maxLen at hn
  by_cases hneg : r0 - n < 0
  · go_enter Try.func4, Try.ntmps4
    go_wp2
    go_ret
    exact ⟨-1, rfl, by omega, by omega, by omega, Below.refl _ _⟩
  · go_enter Try.func4, Try.ntmps4
    go_wp2
    go_loopw [1, 5] (fun s1 i wr => ∃ (k : Nat) (r : Int), k ≤ n ∧ i = .int .i64 k ∧ s1 = .int .i64 r ∧ 0 ≤ r ∧ Hid (r + n + usum L k ≤ r0) ∧ Below w.heap.size w wr) (fun _ i _ => n - (intOf i).toNat)
    case atStart => exact ⟨0, _, Nat.zero_le _, rfl, rfl, by omega, by unfold Hid usum; omega, Below.refl _ _⟩
    case round =>
      obtain ⟨k, r, hk, rfl, rfl, hr0, hr1, hbel⟩ := hrel
      have hr9 : r ≤ 1048576 := by have := hr1.out; omega
      by_cases hlt : k < n
      · obtain ⟨sa, sc, c1, hsl⟩ := (hc k hlt).below hbel hb
        clear hc
        go_wp2_with (go_at_call 16; refine (szE_sl _ _ (by assumption) (by omega) hsl).mono ?_; rintro e w' ⟨r', rfl, hr2, hr3, hq, hb1⟩; have Hq : Hid (_) := hq; clear hq)
        · go_ret
          exact ⟨-1, rfl, by omega, by omega, by omega, hbel.trans (hb1.mono hbel.size)⟩
        · go_roundw
          case rel => exact ⟨k + 1, r', by omega, by go_num, rfl, by assumption, by have e1 := hr1.out; have e2 := Hq.out; unfold Hid usum; omega, hbel.trans (hb1.mono hbel.size)⟩
          case measure => simp [intOf]; omega
      · have hkn : k = n := by omega
        subst hkn
        go_wp2
        go_ret
        have e1 := hr1.out
        exact ⟨r, rfl, by omega, by omega, by omega, hbel⟩
theorem szEE_sl {a : Option Addr} {n cap : Nat} {L : Nat → List Ent} (r0 : Int) (w : World) (h0 : 0 ≤ r0) (h1 : r0 ≤ 1048576) (h : SlEE w a n cap L) :
    Calls Try.prog 4 #[.slice a n cap, .int .i64 r0] w fun e w' => ∃ r : Int, e = .returned (.int .i64 r) ∧ -1 ≤ r ∧ r ≤ r0 ∧ (r < 0 ∨ r + n + usum L n ≤ r0) ∧ Below w.heap.size w w' := by
  rcases h.cells with rfl | ⟨b, off, rfl, hb, hc⟩
  · refine (szEE_zero a cap r0 w h0 h1).mono ?_
    rintro e w' ⟨rfl, rfl⟩
    exact ⟨r0, rfl, by omega, by omega, by unfold usum; omega, Below.refl _ _⟩
  · exact szEE_any b off n cap L r0 w h0 h1 (Nat.le_trans h.le h.max) hb hc

/-! ### the same twice -/

theorem eqEE_zero (a a' : Option Addr) (cap cap' : Nat) (w : World) :
    Calls Try.prog 10 #[.slice a 0 cap, .slice a' 0 cap'] w fun e w' => e = .returned (.bool true) ∧ w' = w := by
  go_enter Try.func10, Try.ntmps10
  go_wp2
  refine wp_loop_rounds 1 ?_
  rw [rounds_succ]
  go_wp2
  go_ret
  exact ⟨rfl, rfl⟩

set_option maxHeartbeats 2000000 in
theorem eqEE_any (b off cap b' off' cap' n : Nat) (L : Nat → List Ent) (w : World) (hn : n ≤ maxLen) (hb : b < w.heap.size) (hb' : b' < w.heap.size) (hc : ∀ i, i < n → RwE w b (off + i) (L i)) (hc' : ∀ i, i < n → RwE w b' (off' + i) (L i)) :
    Calls Try.prog 10 #[.slice (some ⟨b, off, none⟩) n cap, .slice (some ⟨b', off', none⟩) n cap'] w fun e w' => e = .returned (.bool true) ∧ Below w.heap.size w w' := by
  unfold maxLen at hn
  go_enter Try.func10, Try.ntmps10
  go_wp2
  go_loopw [5] (fun i wr => ∃ k : Nat, k ≤ n ∧ i = .int .i64 k ∧ Below w.heap.size w wr) (fun i _ => n - (intOf i).toNat)
  case atStart => exact ⟨0, Nat.zero_le _, rfl, Below.refl _ _⟩
  case round =>
    obtain ⟨k, hk, rfl, hbel⟩ := hrel
    by_cases hlt : k < n
    · obtain ⟨sa, sc, c1, hsl⟩ := (hc k hlt).below hbel hb
      obtain ⟨sa', sc', d1, hsl'⟩ := (hc' k hlt).below hbel hb'
      clear hc hc'
      go_wp2_with fail
      go_region_with (go_at_call 8; refine (eqE_sl _ (hsl.below (by first | exact Below.refl wr.heap.size wr | exact (Below.refl wr.heap.size wr).drew | exact (Below.refl wr.heap.size wr).drew.drew | exact (Below.refl wr.heap.size wr).drew.drew.drew | exact (Below.refl wr.heap.size wr).drew.drew.drew.drew)) (hsl'.below (by first | exact Below.refl wr.heap.size wr | exact (Below.refl wr.heap.size wr).drew | exact (Below.refl wr.heap.size wr).drew.drew | exact (Below.refl wr.heap.size wr).drew.drew.drew | exact (Below.refl wr.heap.size wr).drew.drew.drew.drew))).mono ?_; rintro e w1 ⟨rfl, hb1'⟩; have hb1 : Below wr.heap.size wr w1 := Below.trans (by first | exact Below.refl wr.heap.size wr | exact (Below.refl wr.heap.size wr).drew | exact (Below.refl wr.heap.size wr).drew.drew | exact (Below.refl wr.heap.size wr).drew.drew.drew | exact (Below.refl wr.heap.size wr).drew.drew.drew.drew) hb1')
      all_goals
        go_wp2
        go_roundw
        case rel => exact ⟨k + 1, by omega, by go_num, hbel.trans (hb1.mono hbel.size)⟩
        case measure => simp [intOf]; omega
    · go_wp2
      go_ret
      exact ⟨rfl, hbel⟩
theorem eqEE_sl {a a' : Option Addr} {n cap cap' : Nat} {L : Nat → List Ent} (w : World) (h : SlEE w a n cap L) (h' : SlEE w a' n cap' L) :
    Calls Try.prog 10 #[.slice a n cap, .slice a' n cap'] w fun e w' => e = .returned (.bool true) ∧ Below w.heap.size w w' := by
  rcases h.cells with rfl | ⟨b, off, rfl, hb, hc⟩
  · refine (eqEE_zero a a' cap cap' w).mono ?_
    rintro e w' ⟨rfl, rfl⟩
    exact ⟨rfl, Below.refl _ _⟩
  · rcases h'.cells with rfl | ⟨b', off', rfl, hb', hc'⟩
    · refine (eqEE_zero _ a' cap cap' w).mono ?_
      rintro e w' ⟨rfl, rfl⟩
      exact ⟨rfl, Below.refl _ _⟩
    · exact eqEE_any b off cap b' off' cap' n L w (Nat.le_trans h.le h.max) hb hb' hc hc'

/-! ### marks -/

set_option maxRecDepth 100000 in
set_option maxHeartbeats 1600000 in
theorem markEE_any (B n cap k0 hi : Nat) (L : Nat → List Ent) (P : Nat → Nat) (w : World) (hs : k0 + usum L n * 3 ≤ 100000000) (hb : B < w.heap.size) (hn : n ≤ 100000000)
    (hT : ∀ i, i < n → w.cell? ⟨B, i, none⟩ = some (.slice (some ⟨P i, 0, none⟩) (L i).length (L i).length)) (hC : ∀ i, i < n → (L i).length ≤ maxLen)
    (hW : ∀ i, i < n → Wr w (B + 1) hi (some ⟨P i, 0, none⟩) ((L i).length * 3)) :
    Calls Try.prog 11 #[.slice (some ⟨B, 0, none⟩) n cap, .int .i64 (k0 : Int)] w fun e w' =>
      e = .returned (.int .i64 ((k0 + usum L n * 3 : Nat) : Int)) ∧ Mkd (B + 1) hi w w' := by
  have hmono : ∀ {j m : Nat}, j ≤ m → usum L j ≤ usum L m := fun {j m} h => by
    induction m with
    | zero => rw [Nat.le_zero.1 h]; exact Nat.le_refl _
    | succ m ih =>
      by_cases e : j = m + 1
      · rw [e]; exact Nat.le_refl _
      · have := ih (by omega); show _ ≤ usum L m + _; omega
  have hmk : Hid (∀ W (z : Int) (q i : Nat), z = (q : Int) → q + (L i).length * 3 ≤ 100000000 → i < n → Wr W (B + 1) hi (some ⟨P i, 0, none⟩) ((L i).length * 3) → Calls Try.prog 12 #[.slice (some ⟨P i, 0, none⟩) (L i).length (L i).length, .int .i64 z] W fun e w' => e = .returned (.int .i64 ((q + (L i).length * 3 : Nat) : Int)) ∧ Mkd (B + 1) hi W w') := fun W z q i hz hq hi hw => by
    subst hz
    exact (markE_sl W (by omega) (by omega) (Nat.le_refl _) (hC i hi) hw).mono fun _ _ ⟨h1, _, h3⟩ => ⟨h1, h3⟩
  have HT : Hid (∀ i, i < n → w.cell? ⟨B, i, none⟩ = some (.slice (some ⟨P i, 0, none⟩) (L i).length (L i).length)) := hT
  have HW : Hid (_) := hW
  clear hT hW hC
  go_enter Try.func11, Try.ntmps11
  go_wp2_with fail
  go_loopw [1, 5] (fun kv iv wr => ∃ j : Nat, j ≤ n ∧ kv = .int .i64 ((k0 + usum L j * 3 : Nat) : Int) ∧ iv = .int .i64 (j : Int) ∧ Mkd (B + 1) hi w wr) (fun _ iv _ => n - (intOf iv).toNat)
  case atStart => exact ⟨0, Nat.zero_le _, rfl, rfl, Mkd.refl _ _ _⟩
  case round =>
    obtain ⟨j, hj, rfl, rfl, hm⟩ := hrel
    by_cases hlt : j < n
    · have hk1 : k0 + usum L j * 3 + (L j).length * 3 ≤ 100000000 := by
        have : usum L j + (L j).length ≤ usum L n := hmono (j := j + 1) (by omega)
        omega
      have Hnx : Hid (k0 + usum L j * 3 + (L j).length * 3 = k0 + usum L (j + 1) * 3) := by unfold Hid; rw [show usum L (j + 1) = usum L j + (L j).length from rfl]; omega
      have hrj : wr.cell? ⟨B, j, none⟩ = some (.slice (some ⟨P j, 0, none⟩) (L j).length (L j).length) := (hm.cell hb (Or.inl (by omega))).trans (HT.out j hlt)
      have HWj : Hid (Wr wr (B + 1) hi (some ⟨P j, 0, none⟩) ((L j).length * 3)) := (HW.out j hlt).mkd hm
      generalize usum L j = gs at *
      go_wp2_with fail
      refine (hmk.out _ _ (k0 + gs * 3) j (by omega) (by omega) hlt HWj.out).mono ?_
      rintro e w1 ⟨rfl, hm1⟩
      rw [Hnx.out]
      have hm2 : Mkd (B + 1) hi w w1 := hm.trans hm1
      clear hrj
      go_wp2
      exact ⟨⟨j + 1, by omega, by go_num, by go_num, hm2⟩, by simp [intOf]; omega⟩
    · have hje : j = n := by omega
      subst hje
      go_wp2
      go_ret
      exact ⟨by first | rfl | (congr 2), hm⟩
theorem markEE_new {B n cap k0 : Nat} {L : Nat → List Ent} {w0 : World} (w : World) (hn : n ≤ 100000000) (hs : k0 + usum L n * 3 ≤ 100000000) (hB : B < w0.heap.size) (hb : Below w0.heap.size w0 w) (hG : ∀ i, i < n → RwNew w0 B i (L i)) :
    Calls Try.prog 11 #[.slice (some ⟨B, 0, none⟩) n cap, .int .i64 (k0 : Int)] w fun e w' => e = .returned (.int .i64 ((k0 + usum L n * 3 : Nat) : Int)) ∧ Mkd (B + 1) w0.heap.size w w' := by
  obtain ⟨P, hP⟩ : ∃ P : Nat → Nat, ∀ i, i < n → w0.cell? ⟨B, i, none⟩ = some (.slice (some ⟨P i, 0, none⟩) (L i).length (L i).length) ∧ (L i).length ≤ maxLen ∧ Wr w0 (B + 1) w0.heap.size (some ⟨P i, 0, none⟩) ((L i).length * 3) :=
    ⟨fun i => if h : i < n then (hG i h).choose else 0, fun i hi => by
      simp only [dif_pos hi]
      obtain ⟨_, h2, h3, h4⟩ := (hG i hi).choose_spec
      exact ⟨h2, h3.max, h4.wr⟩⟩
  exact markEE_any B n cap k0 w0.heap.size L P w hs (Nat.lt_of_lt_of_le hB hb.size) hn (fun i hi => (hb.cell (by exact hB)).trans (hP i hi).1) (fun i hi => (hP i hi).2.1) (fun i hi => (hP i hi).2.2.below hb)
end Go.Proofs.Ytkfgolcjhiaacaa
