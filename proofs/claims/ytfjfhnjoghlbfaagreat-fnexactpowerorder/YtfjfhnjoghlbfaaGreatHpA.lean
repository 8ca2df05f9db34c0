import Derived.Test.YtfjfhnjoghlbfaaGreatTpA
import Derived.Test.YtfjfhnjoghlbfaaGreatCovA
import Derived.Test.YtfjfhnjoghlbfaaGreatGfJ
import Derived.BigRegion
import Derived.Deep.RegionHeld3
/-
  impl's heap: before, swap.
-/
namespace Go.Proofs.YtfjfhnjoghlbfaaGreat
open Go.RowKit

/-- what the function that compares answers. -/
def CmP (E : Nat → Ev) (D : Nat → Nat) (p q : Nat) (W : World) (e : Ending) (w' : World) : Prop := ∃ z : Int, e = .returned (.int .i64 z) ∧ (z < 0 ↔ Bef E D p q) ∧ Below W.heap.size W w'
/-- the function that compares. -/
abbrev gfV (bg bw : Nat) : Value := .func (.func 61) #[] #[.pointer (some ⟨bg, 0, none⟩), .pointer (some ⟨bw, 0, none⟩)]
/-- it compares, also when block hb and what lies from base on has turned. -/
def CmpOk (E : Nat → Ev) (D : Nat → Nat) (n bg bw hb base : Nat) (w : World) : Prop := ∀ W, Kp (fun b => b = hb ∨ base ≤ b) w W → ∀ p q : Nat, p < n → q < n →
  Calls Tryz.prog 61 #[.int .i64 (p : Int), .int .i64 (q : Int), .pointer (some ⟨bg, 0, none⟩), .pointer (some ⟨bw, 0, none⟩)] W (CmP E D p q W)
theorem CmpOk.on {E : Nat → Ev} {D : Nat → Nat} {n bg bw hb base : Nat} {w W : World} (h : CmpOk E D n bg bw hb base w) (hb' : Kp (fun b => b = hb ∨ base ≤ b) w W) : CmpOk E D n bg bw hb base W := fun W' hW' => h W' (hb'.trans hW')
/-- the heap's variable at block hb: its elements X at the slice v, its function. -/
structure HpAt (w : World) (hb base bg bw : Nat) (v : Value) (len : Nat) (X : Nat → Nat) : Prop where
  lt : hb < w.heap.size
  hl : hb < base
  hs : base ≤ w.heap.size
  c0 : w.cell? ⟨hb, 0, none⟩ = some v
  c1 : w.cell? ⟨hb, 1, none⟩ = some (gfV bg bw)
  fr : ∀ o, w.frozen? ⟨hb, o, none⟩ = false
  ow : OwnI w base v len (fun i => (X i : Int))
theorem HpAt.below {w w' : World} {hb base bg bw len : Nat} {v : Value} {X : Nat → Nat} (h : HpAt w hb base bg bw v len X) (k : Below w.heap.size w w') : HpAt w' hb base bg bw v len X :=
  ⟨Nat.lt_of_lt_of_le h.lt k.size, h.hl, Nat.le_trans h.hs k.size, (k.cell (by exact h.lt)).trans h.c0, (k.cell (by exact h.lt)).trans h.c1, fun o => (k.frozen (by exact h.lt)).trans (h.fr o), h.ow.below k⟩
/-- the blocks that the heap's functions write. -/
def HpB (hb : Nat) (v : Value) (k : Nat) : Prop := k = hb ∨ v.ownBlock = some k
theorem HpAt.lo {w w' : World} {hb base bg bw len : Nat} {v : Value} {X : Nat → Nat} (h : HpAt w hb base bg bw v len X) (k : Kp (HpB hb v) w w') : Kp (fun b => b = hb ∨ base ≤ b) w w' :=
  k.mono fun i _ hP => hP.imp id fun e => (World.ownsRow.lt h.ow i e).1

def BePost (E : Nat → Ev) (D : Nat → Nat) (x y : Nat) (w : World) (e : Ending) (w' : World) : Prop := ∃ bq, e = .returned (.bool bq) ∧ (bq = true ↔ Bef E D x y) ∧ Below w.heap.size w w'

set_option maxRecDepth 100000 in
set_option maxHeartbeats 2000000 in
theorem bef_any {E : Nat → Ev} {D : Nat → Nat} {n bg bw hb base len : Nat} {v : Value} {X : Nat → Nat} (i k : Nat) (w : World) (h : HpAt w hb base bg bw v len X) (hc : CmpOk E D n bg bw hb base w) (hX : ∀ i, i < len → X i < n) (hi : i < len) (hk : k < len) :
    Calls Tryz.prog 69 #[.pointer (some ⟨hb, 0, none⟩), .int .i64 (i : Int), .int .i64 (k : Int)] w (BePost E D (X i) (X k) w) := by
  rcases h.ow.cells with ⟨_, h0⟩ | ⟨g, cap, rfl, hg, hgl, hle, hcap, hcs⟩
  · omega
  have c0 := h.c0
  have c1 := h.c1
  have ci := hcs i hi
  have ck := hcs k hk
  rw [Nat.zero_add] at ci ck
  have HC : Hid (∀ W, Below w.heap.size w W → Calls Tryz.prog 61 #[.int .i64 (X i : Int), .int .i64 (X k : Int), .pointer (some ⟨bg, 0, none⟩), .pointer (some ⟨bw, 0, none⟩)] W (CmP E D (X i) (X k) W)) := fun W hW => hc W (Kp.ofB hW) _ _ (hX i hi) (hX k hk)
  have hrf : Below w.heap.size w w := Below.refl _ _
  have hx1 : (0 : Int) ≤ (i : Int) := by omega
  have hx2 : (i : Int) < (len : Int) := by omega
  have hx3 : (0 : Int) ≤ (k : Int) := by omega
  have hx4 : (k : Int) < (len : Int) := by omega
  have hlt := h.lt
  clear h hc hX hcs
  generalize X i = xi at *
  generalize X k = xk at *
  go_enter Tryz.func69, Tryz.ntmps69
  go_wp2_with fail
  go_region_held3 (fun W => W.cell? ⟨hb, 0, none⟩ = some (.slice (some ⟨g, 0, none⟩) len cap) ∧ W.cell? ⟨hb, 1, none⟩ = some (.func (.func 61) #[] #[.pointer (some ⟨bg, 0, none⟩), .pointer (some ⟨bw, 0, none⟩)]) ∧ W.cell? ⟨g, i, none⟩ = some (.int .i64 (xi : Int)) ∧ W.cell? ⟨g, k, none⟩ = some (.int .i64 (xk : Int)))
    (first | (with_reducible exact ⟨c0, c1, ci, ck⟩) | go_keep)
    ((go_at_call 61; refine (HC.out _ (by first | with_reducible exact hrf | with_reducible exact hrf.drew | with_reducible exact hrf.drew.drew | with_reducible exact hrf.drew.drew.drew)).mono ?_; rintro e w2 ⟨z, rfl, hz, hb2'⟩; have hb2 : Below w.heap.size w w2 := Below.trans (by first | with_reducible exact hrf | with_reducible exact hrf.drew | with_reducible exact hrf.drew.drew | with_reducible exact hrf.drew.drew.drew) hb2'; clear hb2'; have k0 := (hb2.cell (p := ⟨hb, 0, none⟩) hlt).trans c0; have k1 := (hb2.cell (p := ⟨hb, 1, none⟩) hlt).trans c1; have k2 := (hb2.cell (p := ⟨g, i, none⟩) hgl).trans ci; have k3 := (hb2.cell (p := ⟨g, k, none⟩) hgl).trans ck; have Hz : Hid (_ ↔ _) := hz; clear hz))
  all_goals
    go_wp2
    go_ret
    exact ⟨_, rfl, by rw [decide_eq_true_eq]; exact Hz.out, by first | exact hb2 | exact hb2.drew⟩

/-- two elements have changed their places. -/
theorem own_sw {w : World} {base g len cap i k : Nat} {X : Nat → Nat} (h : OwnI w base (.slice (some ⟨g, 0, none⟩) len cap) len (fun i => (X i : Int))) (hi : i < len) (hk : k < len) :
    OwnI ((w.setCell ⟨g, i, none⟩ (.int .i64 (X k : Int))).setCell ⟨g, k, none⟩ (.int .i64 (X i : Int))) base (.slice (some ⟨g, 0, none⟩) len cap) len (fun j => (swX X i k j : Int)) := by
  refine (OwnI.putK (OwnI.putK h (c := i) (x := (X k : Int))) (c := k) (x := (X i : Int))).congrX fun j hj => ?_
  unfold swX swN
  by_cases h1 : j = k
  · subst h1
    rw [if_pos rfl]
    by_cases h2 : j = i
    · subst h2; rw [if_pos rfl]
    · rw [if_neg h2, if_pos rfl]
  · rw [if_neg h1]
    by_cases h2 : j = i
    · rw [if_pos h2, if_pos h2]
    · rw [if_neg h2, if_neg h2, if_neg h1]
def SwPost (w : World) (hb base g len cap : Nat) (X' : Nat → Nat) (bg bw : Nat) (e : Ending) (w' : World) : Prop := e = .returned (.tuple #[]) ∧ HpAt w' hb base bg bw (.slice (some ⟨g, 0, none⟩) len cap) len X' ∧ Kp (fun b => b = g) w w'

set_option maxRecDepth 100000 in
set_option maxHeartbeats 2000000 in
theorem swap_any {bg bw hb base len g cap : Nat} {X : Nat → Nat} (i k : Nat) (w : World) (h : HpAt w hb base bg bw (.slice (some ⟨g, 0, none⟩) len cap) len X) (hi : i < len) (hk : k < len) :
    Calls Tryz.prog 70 #[.pointer (some ⟨hb, 0, none⟩), .int .i64 (i : Int), .int .i64 (k : Int)] w (SwPost w hb base g len cap (swX X i k) bg bw) := by
  rcases h.ow.cells with ⟨h0, _⟩ | ⟨g', cap', hv, hg, hgl, hle, hcap, hcs⟩
  · cases h0
  injection hv with hv1 hv2 hv3
  injection hv1 with hv1
  injection hv1 with hv1 _
  subst hv1 hv3
  have c0 := h.c0
  have ci := hcs i hi
  have ck := hcs k hk
  rw [Nat.zero_add] at ci ck
  have fi := h.ow.frozenK i
  have fk := h.ow.frozenK k
  have hgne : g ≠ hb := by have := h.hl; omega
  obtain ⟨uk, huk⟩ : ∃ u, (w.setCell ⟨g, i, none⟩ (.int .i64 (X k : Int))).cell? ⟨g, k, none⟩ = some u := by
    by_cases e : k = i
    · subst e; exact ⟨_, set_same ⟨_, ck⟩⟩
    · exact ⟨_, (set_far e).trans ck⟩
  have hfin : Hid (SwPost w hb base g len cap (swX X i k) bg bw (.returned (.tuple #[])) ((w.setCell ⟨g, i, none⟩ (.int .i64 (X k : Int))).setCell ⟨g, k, none⟩ (.int .i64 (X i : Int))).drew) := by
    refine ⟨rfl, ?_, (((Kp.refl (fun b => b = g) w).setCell rfl _).setCell rfl _).drew⟩
    have hK : Kp (fun b => b = g) w ((w.setCell ⟨g, i, none⟩ (.int .i64 (X k : Int))).setCell ⟨g, k, none⟩ (.int .i64 (X i : Int))) := ((Kp.refl (fun b => b = g) w).setCell rfl _).setCell rfl _
    have hH : HpAt ((w.setCell ⟨g, i, none⟩ (.int .i64 (X k : Int))).setCell ⟨g, k, none⟩ (.int .i64 (X i : Int))) hb base bg bw (.slice (some ⟨g, 0, none⟩) len cap) len (swX X i k) :=
      ⟨Nat.lt_of_lt_of_le h.lt hK.size, h.hl, Nat.le_trans h.hs hK.size, (hK.cell (by exact h.lt) (fun e => hgne e.symm)).trans h.c0, (hK.cell (by exact h.lt) (fun e => hgne e.symm)).trans h.c1, fun o => (hK.frozen (by exact h.lt) (fun e => hgne e.symm)).trans (h.fr o), own_sw h.ow hi hk⟩
    exact hH.below (Below.refl _ _).drew
  have hx1 : (0 : Int) ≤ (i : Int) := by omega
  have hx2 : (i : Int) < (len : Int) := by omega
  have hx3 : (0 : Int) ≤ (k : Int) := by omega
  have hx4 : (k : Int) < (len : Int) := by omega
  clear h hcs
  generalize X i = xi at *
  generalize X k = xk at *
  generalize swX X i k = X' at *
  go_enter Tryz.func70, Tryz.ntmps70
  go_wp2_with fail
  go_region
  all_goals
    go_wp2
    refine bodyPost_ret (v := .tuple #[]) (by simp [results, Tryz.results70, go_sem]) rfl ?_
    exact hfin.out
end Go.Proofs.YtfjfhnjoghlbfaaGreat
/-
  impl's heap: push, sink, pop.
-/
namespace Go.Proofs.YtfjfhnjoghlbfaaGreat
open Go.RowKit

/-- what push leaves. -/
def PuPost (E : Nat → Ev) (D : Nat → Nat) (w : World) (hb base bg bw : Nat) (v : Value) (len x : Nat) (X : Nat → Nat) (e : Ending) (w' : World) : Prop := e = .returned (.tuple #[]) ∧
  ∃ g cap X', HpAt w' hb base bg bw (.slice (some ⟨g, 0, none⟩) (len + 1) cap) (len + 1) X' ∧ (v.ownBlock = some g ∨ w.heap.size ≤ g) ∧ Heap E D (len + 1) X' ∧ (∀ p, MemX X' (len + 1) p ↔ MemX X len p ∨ p = x) ∧ (InjX X len → ¬ MemX X len x → InjX X' (len + 1)) ∧ Kp (HpB hb v) w w'
/-- in push's loop. -/
def PuRel (E : Nat → Ev) (D : Nat → Nat) (w3 : World) (hb base bg bw g cap len : Nat) (X1 : Nat → Nat) (i : Value) (wr : World) : Prop :=
  ∃ (a : Nat) (X' : Nat → Nat), i = .int .i64 (a : Int) ∧ a < len + 1 ∧ HpAt wr hb base bg bw (.slice (some ⟨g, 0, none⟩) (len + 1) cap) (len + 1) X' ∧ Hid (HUp E D (len + 1) X' a) ∧ Hid (∀ p, MemX X' (len + 1) p ↔ MemX X1 (len + 1) p) ∧ Hid (InjX X1 (len + 1) → InjX X' (len + 1)) ∧ Kp (fun b => b = g) w3 wr
theorem mem_all {X : Nat → Nat} {len n : Nat} (h : ∀ p, MemX X len p → p < n) : ∀ i, i < len → X i < n := fun i hi => h _ ⟨i, hi, rfl⟩
/-- the new element's place. -/
def snX (X : Nat → Nat) (len x i : Nat) : Nat := if i = len then x else X i
theorem sn_mem {X : Nat → Nat} {len x p : Nat} : MemX (snX X len x) (len + 1) p ↔ MemX X len p ∨ p = x := by
  constructor
  · rintro ⟨i, hi, e⟩
    unfold snX at e
    by_cases h : i = len
    · rw [if_pos h] at e; exact Or.inr e.symm
    · rw [if_neg h] at e; exact Or.inl ⟨i, by omega, e⟩
  · rintro (⟨i, hi, e⟩ | e)
    · exact ⟨i, by omega, by unfold snX; rw [if_neg (by omega)]; exact e⟩
    · exact ⟨len, by omega, by unfold snX; rw [if_pos rfl]; exact e.symm⟩
theorem sn_inj {X : Nat → Nat} {len x : Nat} (h : InjX X len) (hx : ¬ MemX X len x) : InjX (snX X len x) (len + 1) := fun i j hi hj e => by
  unfold snX at e
  by_cases h1 : i = len
  · by_cases h2 : j = len
    · omega
    · rw [if_pos h1, if_neg h2] at e
      exact absurd ⟨j, by omega, e.symm⟩ hx
  · by_cases h2 : j = len
    · rw [if_neg h1, if_pos h2] at e
      exact absurd ⟨i, by omega, e⟩ hx
    · rw [if_neg h1, if_neg h2] at e
      exact h i j (by omega) (by omega) e
theorem sn_heap {E : Nat → Ev} {D : Nat → Nat} {X : Nat → Nat} {len x : Nat} (h : Heap E D len X) : HUp E D (len + 1) (snX X len x) len := by
  refine hup_start fun i h0 h1 => ?_
  unfold snX
  rw [if_neg (by omega), if_neg (by omega)]
  exact h i h0 h1

set_option maxRecDepth 100000 in
set_option maxHeartbeats 2000000 in
theorem push_any {E : Nat → Ev} {D : Nat → Nat} {n bg bw hb base len : Nat} {v : Value} {X : Nat → Nat} (x : Nat) (w : World) (h : HpAt w hb base bg bw v len X) (hc : CmpOk E D n bg bw hb base w) (hX : ∀ p, MemX X len p → p < n) (hx : x < n) (hlen : len ≤ 1000000) (hhp : Heap E D len X) :
    Calls Tryz.prog 45 #[.pointer (some ⟨hb, 0, none⟩), .int .i64 (x : Int)] w (PuPost E D w hb base bg bw v len x X) := by
  obtain ⟨i0, hi, hz0, hz1, hz2⟩ := info_parts Tryz.infoIntO
  have hlt := h.lt
  have c0 := h.c0
  have c1 := h.c1
  have hm1 : len + 1 ≤ maxLen := by unfold maxLen; omega
  have hm2 : (len + 1) * 8 ≤ 140737488355328 := by omega
  have hm3 : ∀ o, base ≤ (w.alloc o).heap.size := fun o => by have := h.hs; simp; omega
  have hown : w.ownsRow base 3 1 v len (ints (fun i => (X i : Int)) len) := h.ow
  have Hfin : Hid (∀ (g cap : Nat) (w2 : World), w2.ownsRow base 3 1 (.slice (some ⟨g, 0, none⟩) (len + 1) cap) (len + 1) (ints (fun i => (X i : Int)) len ++ [.int .i64 (x : Int)]) → (w.alloc (.cells #[.int .i64 (x : Int)] 3)).grownBy w2 v.ownBlock → (v.ownBlock = some g ∨ g = w.heap.size + 1) →
      HpAt (w2.setCell ⟨hb, 0, none⟩ (.slice (some ⟨g, 0, none⟩) (len + 1) cap)) hb base bg bw (.slice (some ⟨g, 0, none⟩) (len + 1) cap) (len + 1) (snX X len x) ∧ Kp (HpB hb v) w (w2.setCell ⟨hb, 0, none⟩ (.slice (some ⟨g, 0, none⟩) (len + 1) cap)) ∧ w2.cell? ⟨hb, 0, none⟩ = some v ∧ (∀ o, w2.frozen? ⟨hb, o, none⟩ = false)) := fun g cap w2 ho hg hat => by
    have hK2 : Kp (fun b => v.ownBlock = some b) w w2 := ((Kp.refl _ w).alloc _).grown hg (fun k hk _ => hk)
    have hne : ¬ v.ownBlock = some hb := fun e => by have := (World.ownsRow.lt h.ow hb e).1; have := h.hl; omega
    have e0 := (hK2.cell (p := ⟨hb, 0, none⟩) hlt hne).trans c0
    have e1 := (hK2.cell (p := ⟨hb, 1, none⟩) hlt hne).trans c1
    have ef : ∀ o, w2.frozen? ⟨hb, o, none⟩ = false := fun o => (hK2.frozen (p := ⟨hb, o, none⟩) hlt hne).trans (h.fr o)
    have how : OwnI w2 base (.slice (some ⟨g, 0, none⟩) (len + 1) cap) (len + 1) (fun i => (snX X len x i : Int)) := by
      have h1 : ints (fun i => (X i : Int)) len = ints (fun i => (snX X len x i : Int)) len := by
        unfold ints
        refine List.map_congr_left fun i hi => ?_
        have := List.mem_range.1 hi
        simp only [snX, if_neg (show ¬ i = len by omega)]
      rw [h1] at ho
      exact OwnI.snoc ho (by unfold snX; rw [if_pos rfl])
    have hgb : hb + 1 ≤ g := by have := (World.ownsRow.lt ho g rfl).1; have := h.hl; omega
    have hKs : Kp (fun b => b = hb) w2 (w2.setCell ⟨hb, 0, none⟩ (.slice (some ⟨g, 0, none⟩) (len + 1) cap)) := (Kp.refl (fun b => b = hb) w2).setCell rfl _
    refine ⟨⟨Nat.lt_of_lt_of_le hlt (Nat.le_trans hK2.size hKs.size), h.hl, Nat.le_trans h.hs (Nat.le_trans hK2.size hKs.size), set_same ⟨_, e0⟩, (set_far (by decide)).trans e1, fun o => by rw [World.frozen?_setCell]; exact ef o, ?_⟩, ?_, e0, ef⟩
    · exact how.kp hKs (fun q hq e => by
        have : some g = some q := hq
        injection this with this
        omega)
    · exact (hK2.mono (fun i _ hi => Or.inr hi)).trans (hKs.mono (fun i _ hi => Or.inl hi))
  have HC : Hid (CmpOk E D n bg bw hb base w) := hc
  have HX : Hid (∀ p, MemX X len p → p < n) := hX
  have Hh : Hid (Heap E D len X) := hhp
  have HL : Hid (∀ W, Kp (HpB hb v) w W → Kp (fun b => b = hb ∨ base ≤ b) w W) := fun W hW => h.lo hW
  clear hc hX hhp h
  go_enter Tryz.func45, Tryz.ntmps45
  go_wp2_with (at_builtin; refine wpList_append_lies _ rfl _ _ 51 rfl base 3 i0 (.int .i64 0) 1 8 Tryz.underlying51 hi hz0 hz1 hz2 rfl (by decide) _ _ _ rfl (World.ownsRow.alloc hown _) ⟨w.heap.size, 0, none⟩ 1 1 [.int .i64 (x : Int)] rfl rfl (one_cellsI _ _ _) (one_oneI _) (by decide) hm1 hm2 (hm3 _) (w.heap.size + 1) (by simp) ?_; intro g cap w2 hown2 hgrow2 hat2 hlt2; obtain ⟨hH3, hK3, e0, ef⟩ := Hfin.out g cap w2 hown2 hgrow2 hat2; have ef0 := ef 0)
  obtain ⟨w3, hw3⟩ : ∃ w3, w3 = w2.setCell ⟨hb, 0, none⟩ (.slice (some ⟨g, 0, none⟩) (len + 1) cap) := ⟨_, rfl⟩
  rw [← hw3] at hH3 hK3 ⊢
  have hgs : v.ownBlock = some g ∨ w.heap.size ≤ g := hat2.imp id (fun e => by omega)
  have hC3 : Hid (CmpOk E D n bg bw hb base w3) := HC.out.on (HL.out _ hK3)
  clear hw3 hown2 hgrow2 hat2 e0 ef ef0 Hfin c0 c1
  go_loopw [4] (fun i wr => PuRel E D w3 hb base bg bw g cap len (snX X len x) i wr) (fun i _ => (intOf i).toNat)
  case atStart => exact ⟨len, snX X len x, by go_num, by omega, hH3, sn_heap Hh.out, fun p => Iff.rfl, fun h => h, Kp.refl _ _⟩
  case round =>
    obtain ⟨a, X', rfl, ha, hH, hup, hmem, hinj, hK⟩ := hrel
    have Hend : Hid (∀ W, Below wr.heap.size wr W → Heap E D (len + 1) X' → PuPost E D w hb base bg bw v len x X (.returned (.tuple #[])) W) := fun W hW hhp => by
      refine ⟨rfl, g, cap, X', hH.below hW, hgs, hhp, fun p => (hmem.out p).trans sn_mem, fun h1 h2 => hinj.out (sn_inj h1 h2), ?_⟩
      exact (hK3.transN hK (fun i hi e => by
        rcases hgs with h1 | h1
        · exact Or.inr (e ▸ h1)
        · omega)).trans (Kp.ofB hW)
    have hloW : Kp (fun b => b = hb ∨ base ≤ b) w3 wr := hK.mono (fun k _ e => Or.inr (by rw [e]; exact (World.ownsRow.lt hH3.ow g rfl).1))
    have hXn : ∀ i, i < len + 1 → X' i < n := mem_all fun p hp => by
      rcases sn_mem.1 ((hmem.out p).1 hp) with h1 | h1
      · exact HX.out p h1
      · omega
    by_cases h0 : a = 0
    · subst h0
      have Hhp : Hid (Heap E D (len + 1) X') := hup_top hup.out
      go_wp2
      refine bodyPost_ret (v := .tuple #[]) (by simp [results, Tryz.results45, go_sem]) rfl (Hend.out _ (Below.refl _ _) Hhp.out)
    · obtain ⟨q, rfl⟩ : ∃ q, a = q + 1 := ⟨a - 1, by omega⟩
      have hq2 : q / 2 < len + 1 := by omega
      have HB : Hid (Calls Tryz.prog 69 #[.pointer (some ⟨hb, 0, none⟩), .int .i64 ((q + 1 : Nat) : Int), .int .i64 ((q / 2 : Nat) : Int)] wr (BePost E D (X' (q + 1)) (X' (q / 2)) wr)) := bef_any (q + 1) (q / 2) wr hH (hC3.out.on hloW) hXn ha hq2
      have y1 : IntKind.i64.wrap ((q : Int) + 1 - 1) = (q : Int) := by rw [IntKind.wrap_i64]; omega
      have y2 : IntKind.i64.wrap (((q + 1 : Nat) : Int) - 1) = (q : Int) := by rw [IntKind.wrap_i64]; omega
      have y3 : (q : Int).tdiv 2 = ((q / 2 : Nat) : Int) := by rw [Int.tdiv_eq_ediv_of_nonneg (by omega)]; rfl
      have y4 : IntKind.i64.wrap ((q / 2 : Nat) : Int) = ((q / 2 : Nat) : Int) := by rw [IntKind.wrap_i64]; omega
      have y5 : IntKind.i64.wrap (q : Int) = (q : Int) := by rw [IntKind.wrap_i64]; omega
      have xd1 : decide ((0 : Int) < ((q + 1 : Nat) : Int)) = true := decide_eq_true (by omega)
      have xd2 : decide ((0 : Int) < (q : Int) + 1) = true := decide_eq_true (by omega)
      have hqq : (q + 1 - 1) / 2 = q / 2 := by rw [Nat.add_sub_cancel]
      go_wp2_with fail
      refine (HB.out).mono ?_
      rintro e w4 ⟨bq, rfl, hbq, hb4⟩
      clear HB
      cases bq
      case false =>
        have Hhp : Hid (Heap E D (len + 1) X') := hup_stop hup.out (by rw [hqq]; exact fun h => by have := hbq.2 h; cases this)
        clear hbq
        go_wp2
        refine bodyPost_ret (v := .tuple #[]) (by simp [results, Tryz.results45, go_sem]) rfl (Hend.out _ hb4 Hhp.out)
      case true =>
        have Hup2 : Hid (HUp E D (len + 1) (swX X' (q + 1) (q / 2)) (q / 2)) := by
          have := hup_step hup.out (by omega) ha (by rw [hqq]; exact hbq.1 rfl)
          rw [hqq] at this
          exact this
        have HS : Hid (Calls Tryz.prog 70 #[.pointer (some ⟨hb, 0, none⟩), .int .i64 ((q + 1 : Nat) : Int), .int .i64 ((q / 2 : Nat) : Int)] w4 (SwPost w4 hb base g (len + 1) cap (swX X' (q + 1) (q / 2)) bg bw)) := swap_any (q + 1) (q / 2) w4 (hH.below hb4) ha hq2
        clear hbq
        go_wp2_with fail
        refine (HS.out).mono ?_
        rintro e w5 ⟨rfl, hH5, hK5⟩
        clear HS
        go_wp2
        go_roundw
        case rel => exact ⟨q / 2, swX X' (q + 1) (q / 2), by go_num, hq2, hH5, Hup2, fun p => (mem_sw ha hq2).trans (hmem.out p), fun h => inj_sw ha hq2 (hinj.out h), (hK.trans (Kp.ofB hb4)).trans hK5⟩
        case measure => simp [intOf]; omega

/-- what sink leaves. -/
def SkPost (E : Nat → Ev) (D : Nat → Nat) (w : World) (hb base bg bw g len cap : Nat) (X : Nat → Nat) (e : Ending) (w' : World) : Prop := e = .returned (.tuple #[]) ∧
  ∃ X', HpAt w' hb base bg bw (.slice (some ⟨g, 0, none⟩) len cap) len X' ∧ Heap E D len X' ∧ (∀ p, MemX X' len p ↔ MemX X len p) ∧ (InjX X len → InjX X' len) ∧ Kp (fun b => b = g) w w'
/-- in sink's outer loop. -/
def SkRel (E : Nat → Ev) (D : Nat → Nat) (w : World) (hb base bg bw g len cap : Nat) (X : Nat → Nat) (i : Value) (wr : World) : Prop :=
  ∃ (a : Nat) (X' : Nat → Nat), i = .int .i64 (a : Int) ∧ (a < len ∨ a = 0) ∧ HpAt wr hb base bg bw (.slice (some ⟨g, 0, none⟩) len cap) len X' ∧ Hid (HDn E D len X' a) ∧ Hid (∀ p, MemX X' len p ↔ MemX X len p) ∧ Hid (InjX X len → InjX X' len) ∧ Kp (fun b => b = g) w wr
/-- among those that have been looked at l is the least. -/
def LstH (E : Nat → Ev) (D : Nat → Nat) (X : Nat → Nat) (len a c l : Nat) : Prop := (l = a ∨ (2 * a + 1 ≤ l ∧ l < c ∧ l < len ∧ Bef E D (X l) (X a))) ∧ ∀ j, 2 * a + 1 ≤ j → j < c → j < len → ¬ Bef E D (X j) (X l)
theorem LstH.same {E : Nat → Ev} {D : Nat → Nat} {X : Nat → Nat} {len a c l : Nat} (h : LstH E D X len a c l) (hn : c < len → ¬ Bef E D (X c) (X l)) : LstH E D X len a (c + 1) l :=
  ⟨h.1.imp id fun ⟨h1, h2, h3⟩ => ⟨h1, by omega, h3⟩, fun j h1 h2 h3 => by
    by_cases e : j = c
    · subst e; exact hn h3
    · exact h.2 j h1 (by omega) h3⟩
theorem LstH.next {E : Nat → Ev} {D : Nat → Nat} {X : Nat → Nat} {len a c l : Nat} (h : LstH E D X len a c l) (hc : 2 * a + 1 ≤ c) (hl : c < len) (hb : Bef E D (X c) (X l)) : LstH E D X len a (c + 1) c := by
  refine ⟨Or.inr ⟨hc, by omega, hl, ?_⟩, fun j h1 h2 h3 => ?_⟩
  · rcases h.1 with e | ⟨_, _, _, h4⟩
    · rw [e] at hb; exact hb
    · exact hb.trans h4
  · by_cases e : j = c
    · subst e; exact Bef.irrefl _
    · exact fun hx => h.2 j h1 (by omega) h3 (hx.trans hb)
/-- in sink's inner loop. -/
def SiRel (E : Nat → Ev) (D : Nat → Nat) (wo : World) (X : Nat → Nat) (len a : Nat) (lv cv : Value) (wi : World) : Prop :=
  ∃ l c : Nat, lv = .int .i64 (l : Int) ∧ cv = .int .i64 (c : Int) ∧ 2 * a + 1 ≤ c ∧ c ≤ 2 * a + 3 ∧ Hid (LstH E D X len a c l) ∧ Below wo.heap.size wo wi

set_option maxRecDepth 100000 in
set_option maxHeartbeats 2000000 in
theorem sink_any {E : Nat → Ev} {D : Nat → Nat} {n bg bw hb base len g cap : Nat} {X : Nat → Nat} (w : World) (h : HpAt w hb base bg bw (.slice (some ⟨g, 0, none⟩) len cap) len X) (hc : CmpOk E D n bg bw hb base w) (hX : ∀ p, MemX X len p → p < n) (hlen : len ≤ 1000000) (hhp : HDn E D len X 0) :
    Calls Tryz.prog 71 #[.pointer (some ⟨hb, 0, none⟩), .int .i64 0] w (SkPost E D w hb base bg bw g len cap X) := by
  have HC : Hid (CmpOk E D n bg bw hb base w) := hc
  have HX : Hid (∀ p, MemX X len p → p < n) := hX
  have Hh : Hid (HDn E D len X 0) := hhp
  have HL : Hid (∀ W, Kp (fun b => b = g) w W → Kp (fun b => b = hb ∨ base ≤ b) w W) := fun W hW => hW.mono (fun k _ e => Or.inr (by rw [e]; exact (World.ownsRow.lt h.ow g rfl).1))
  clear hc hX hhp
  go_enter Tryz.func71, Tryz.ntmps71
  go_wp2_with fail
  go_loopw [1] (fun i wr => SkRel E D w hb base bg bw g len cap X i wr) (fun i _ => len - (intOf i).toNat)
  case atStart => exact ⟨0, X, rfl, Or.inr rfl, h, Hh, fun p => Iff.rfl, fun h => h, Kp.refl _ _⟩
  case round =>
    clear h
    obtain ⟨a, X', rfl, ha, hH, hdn, hmem, hinj, hK⟩ := hrel
    have ha2 : a ≤ 1000000 := by omega
    obtain ⟨wo, hwo⟩ : ∃ wo : World, wo = wr := ⟨_, rfl⟩
    subst hwo
    have HCo : Hid (CmpOk E D n bg bw hb base wo) := HC.out.on (HL.out _ hK)
    have HXn : Hid (∀ i, i < len → X' i < n) := mem_all fun p hp => HX.out p ((hmem.out p).1 hp)
    have z1 : IntKind.i64.wrap (2 * (a : Int)) = 2 * (a : Int) := by rw [IntKind.wrap_i64]; omega
    have z2 : IntKind.i64.wrap (2 * (a : Int) + 1) = ((2 * a + 1 : Nat) : Int) := by rw [IntKind.wrap_i64]; omega
    have z3 : IntKind.i64.wrap (2 * (a : Int) + 2) = ((2 * a + 2 : Nat) : Int) := by rw [IntKind.wrap_i64]; omega
    go_wp2_with fail
    go_loopw [4, 5] (fun lv cv wi => SiRel E D wo X' len a lv cv wi) (fun _ cv _ => 2 * a + 3 - (intOf cv).toNat)
    case atStart => exact ⟨a, 2 * a + 1, rfl, by go_num, Nat.le_refl _, by omega, ⟨Or.inl rfl, fun j h1 h2 _ => by omega⟩, Below.refl _ _⟩
    case round =>
      obtain ⟨l, c, rfl, rfl, hc1, hc2, hL, hbi⟩ := hrel
      have hHi := hH.below hbi
      have c0 := hHi.c0
      by_cases hcl : c ≤ 2 * a + 2
      · have x1 : (c : Int) ≤ ((2 * a + 2 : Nat) : Int) := by omega
        have x2 : decide ((c : Int) ≤ ((2 * a + 2 : Nat) : Int)) = true := decide_eq_true x1
        by_cases hcn : c < len
        · have hll : l < len := by
            rcases hL.out.1 with e | ⟨_, _, e, _⟩
            · omega
            · exact e
          have HB : Hid (Calls Tryz.prog 69 #[.pointer (some ⟨hb, 0, none⟩), .int .i64 (c : Int), .int .i64 (l : Int)] wr (BePost E D (X' c) (X' l) wr)) := bef_any c l wr hHi (HCo.out.on (Kp.ofB hbi)) HXn.out hcn hll
          have x3 : (c : Int) < (len : Int) := by omega
          go_wp2_with fail
          refine (HB.out).mono ?_
          rintro e w4 ⟨bq, rfl, hbq, hb4⟩
          clear HB
          cases bq
          case false =>
            have HL2 : Hid (LstH E D X' len a (c + 1) l) := hL.out.same (fun _ h => by have := hbq.2 h; cases this)
            clear hbq hL
            go_wp2
            go_roundw
            case rel => exact ⟨l, c + 1, rfl, by go_num, by omega, by omega, HL2, hbi.trans (hb4.mono hbi.size)⟩
            case measure => simp [intOf]; omega
          case true =>
            have HL2 : Hid (LstH E D X' len a (c + 1) c) := hL.out.next hc1 hcn (hbq.1 rfl)
            clear hbq hL
            go_wp2
            go_roundw
            case rel => exact ⟨c, c + 1, rfl, by go_num, by omega, by omega, HL2, hbi.trans (hb4.mono hbi.size)⟩
            case measure => simp [intOf]; omega
        · have HL2 : Hid (LstH E D X' len a (c + 1) l) := hL.out.same (fun h => absurd h hcn)
          have x3 : ¬ (c : Int) < (len : Int) := by omega
          clear hL
          go_wp2
          go_roundw
          case rel => exact ⟨l, c + 1, rfl, by go_num, by omega, by omega, HL2, hbi⟩
          case measure => simp [intOf]; omega
      · have hce : c = 2 * a + 3 := by omega
        subst hce
        have x1 : ¬ ((2 * a + 3 : Nat) : Int) ≤ ((2 * a + 2 : Nat) : Int) := by omega
        have x2 : decide (((2 * a + 3 : Nat) : Int) ≤ ((2 * a + 2 : Nat) : Int)) = false := decide_eq_false x1
        by_cases hla : l = a
        · subst hla
          have Hhp : Hid (Heap E D len X') := hdn_stop hdn.out (fun h1 => hL.out.2 _ (Nat.le_refl _) (by omega) h1) (fun h1 => hL.out.2 _ (by omega) (by omega) h1)
          go_wp2
          refine bodyPost_ret (v := .tuple #[]) (by simp [results, Tryz.results71, go_sem]) rfl ⟨rfl, X', hHi, Hhp.out, hmem.out, hinj.out, hK.trans (Kp.ofB hbi)⟩
        · obtain ⟨l1, l2, l3, l4⟩ : 2 * a + 1 ≤ l ∧ l < 2 * a + 3 ∧ l < len ∧ Bef E D (X' l) (X' a) := by
            rcases hL.out.1 with e | e
            · exact absurd e hla
            · exact e
          have hal : a < len := by omega
          have Hdn2 : Hid (HDn E D len (swX X' a l) l) := hdn_step hdn.out l3 (by omega) (by omega) l4 (fun i i0 i1 i2 => hL.out.2 i (by omega) (by omega) i1)
          have HS : Hid (Calls Tryz.prog 70 #[.pointer (some ⟨hb, 0, none⟩), .int .i64 (a : Int), .int .i64 (l : Int)] wr (SwPost wr hb base g len cap (swX X' a l) bg bw)) := swap_any a l wr hHi hal l3
          have x3 : ¬ (l : Int) = (a : Int) := by omega
          clear hL l4
          go_wp2_with fail
          refine (HS.out).mono ?_
          rintro e w5 ⟨rfl, hH5, hK5⟩
          clear HS
          go_wp2
          go_roundw
          case rel => exact ⟨l, swX X' a l, rfl, Or.inl l3, hH5, Hdn2, fun p => (mem_sw hal l3).trans (hmem.out p), fun h => inj_sw hal l3 (hinj.out h), (hK.trans (Kp.ofB hbi)).trans hK5⟩
          case measure => simp [intOf]; omega

/-- what pop leaves. -/
def PpPost (E : Nat → Ev) (D : Nat → Nat) (w : World) (hb base bg bw g len cap : Nat) (v : Value) (X : Nat → Nat) (e : Ending) (w' : World) : Prop := e = .returned (.int .i64 (X 0 : Int)) ∧
  ∃ X', HpAt w' hb base bg bw (.slice (some ⟨g, 0, none⟩) len cap) len X' ∧ Heap E D len X' ∧ (∀ p, MemX X' len p ↔ MemX X (len + 1) p ∧ p ≠ X 0) ∧ InjX X' len ∧ Kp (HpB hb v) w w'

set_option maxRecDepth 100000 in
set_option maxHeartbeats 2000000 in
theorem pop_any {E : Nat → Ev} {D : Nat → Nat} {n bg bw hb base len g cap : Nat} {X : Nat → Nat} (w : World) (h : HpAt w hb base bg bw (.slice (some ⟨g, 0, none⟩) (len + 1) cap) (len + 1) X) (hc : CmpOk E D n bg bw hb base w) (hX : ∀ p, MemX X (len + 1) p → p < n) (hlen : len ≤ 1000000) (hhp : Heap E D (len + 1) X) (hI : InjX X (len + 1)) :
    Calls Tryz.prog 46 #[.pointer (some ⟨hb, 0, none⟩)] w (PpPost E D w hb base bg bw g len cap (.slice (some ⟨g, 0, none⟩) (len + 1) cap) X) := by
  have c0 := h.c0
  have HS : Hid (Calls Tryz.prog 70 #[.pointer (some ⟨hb, 0, none⟩), .int .i64 ((0 : Nat) : Int), .int .i64 ((len : Nat) : Int)] w (SwPost w hb base g (len + 1) cap (swX X 0 len) bg bw)) := swap_any 0 len w h (by omega) (by omega)
  have HC : Hid (CmpOk E D n bg bw hb base w) := hc
  have HX : Hid (∀ p, MemX X (len + 1) p → p < n) := hX
  have Hh : Hid (HDn E D len (swX X 0 len) 0) := hdn_start hhp
  have HI : Hid (InjX X (len + 1)) := hI
  have hgb : hb + 1 ≤ g := by have := (World.ownsRow.lt h.ow g rfl).1; have := h.hl; omega
  have hgb2 : base ≤ g := (World.ownsRow.lt h.ow g rfl).1
  have hlt := h.lt
  have y1 : IntKind.i64.wrap ((len : Int) + 1 - 1) = (len : Int) := by rw [IntKind.wrap_i64]; omega
  have y2 : IntKind.i64.wrap (((len + 1 : Nat) : Int) - 1) = (len : Int) := by rw [IntKind.wrap_i64]; omega
  have hcap : len + 1 ≤ cap := by
    rcases h.ow.cells with ⟨h0, _⟩ | ⟨g', cap', hv, _, _, h2, _⟩
    · cases h0
    · injection hv with _ _ hv3
      subst hv3
      exact h2
  clear hc hX hhp hI h
  go_enter Tryz.func46, Tryz.ntmps46
  go_wp2_with fail
  refine (HS.out).mono ?_
  rintro e w1 ⟨rfl, hH1, hK1⟩
  have d0 := hH1.c0
  have df := hH1.fr 0
  have dl : w1.cell? ⟨g, len, none⟩ = some (.int .i64 (X 0 : Int)) := by
    rcases hH1.ow.cells with ⟨h0, _⟩ | ⟨g', cap', hv, _, _, _, _, hcs⟩
    · cases h0
    · injection hv with hv1 _ hv3
      injection hv1 with hv1
      injection hv1 with hv1 _
      subst hv1
      have := hcs len (by omega)
      rw [Nat.zero_add] at this
      rw [this]
      simp only [swX, swN_b]
  have hH2 : HpAt (w1.setCell ⟨hb, 0, none⟩ (.slice (some ⟨g, 0, none⟩) len cap)) hb base bg bw (.slice (some ⟨g, 0, none⟩) len cap) len (swX X 0 len) := by
    have hKs : Kp (fun b => b = hb) w1 (w1.setCell ⟨hb, 0, none⟩ (.slice (some ⟨g, 0, none⟩) len cap)) := (Kp.refl (fun b => b = hb) w1).setCell rfl _
    refine ⟨Nat.lt_of_lt_of_le hH1.lt hKs.size, hH1.hl, Nat.le_trans hH1.hs hKs.size, set_same ⟨_, d0⟩, (set_far (by decide)).trans hH1.c1, fun o => by rw [World.frozen?_setCell]; exact hH1.fr o, ?_⟩
    exact (OwnI.less hH1.ow (by omega)).kp hKs (fun q hq e => by
      have : some g = some q := hq
      injection this with this
      omega)
  have hK2 : Kp (HpB hb (.slice (some ⟨g, 0, none⟩) (len + 1) cap)) w (w1.setCell ⟨hb, 0, none⟩ (.slice (some ⟨g, 0, none⟩) len cap)) :=
    (hK1.mono (Q := HpB hb (.slice (some ⟨g, 0, none⟩) (len + 1) cap)) (fun i _ e => Or.inr (by rw [e]; rfl))).setCell (Or.inl rfl) _
  have HK : Hid (Calls Tryz.prog 71 #[.pointer (some ⟨hb, 0, none⟩), .int .i64 0] (w1.setCell ⟨hb, 0, none⟩ (.slice (some ⟨g, 0, none⟩) len cap)) (SkPost E D (w1.setCell ⟨hb, 0, none⟩ (.slice (some ⟨g, 0, none⟩) len cap)) hb base bg bw g len cap (swX X 0 len))) :=
    sink_any _ hH2 (HC.out.on (hK2.mono (fun k _ e => e.imp id (fun e => by
      have : some g = some k := e
      injection this with this
      omega)))) (fun p hp => HX.out p ((mem_pop HI.out).1 hp).1) hlen Hh.out
  have x1 : (len : Int) ≤ (cap : Int) := by omega
  have x2 : (0 : Int) ≤ (len : Int) := by omega
  have x3 : (len : Int) < (len : Int) + 1 := by omega
  have x4 : len ≤ cap := by omega
  clear HS hH1 hH2
  go_wp2_with fail
  refine (HK.out).mono ?_
  rintro e w3 ⟨rfl, X', hH3, hhp3, hm3, hi3, hK3⟩
  have HP : Hid (PpPost E D w hb base bg bw g len cap (.slice (some ⟨g, 0, none⟩) (len + 1) cap) X (.returned (.int .i64 (X 0 : Int))) w3) := ⟨rfl, X', hH3, hhp3, fun p => (hm3 p).trans (mem_pop HI.out), hi3 (inj_less (inj_sw (by omega) (by omega) HI.out) (by omega)), hK2.trans (hK3.mono (fun i _ e => Or.inr (by rw [e]; rfl)))⟩
  clear hm3 hi3 hhp3 HK
  go_wp2
  go_ret
  exact HP.out
end Go.Proofs.YtfjfhnjoghlbfaaGreat
