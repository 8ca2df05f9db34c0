/-
  Rows of marks; impl's marked and placesWith.
-/
import Derived.Test.YtfjfhnjoghlbfaaGreatTpA
import Derived.Test.YtfjfhnjoghlbfaaGreatProg
import Derived.Test.YtfjfhnjoghlbfaaGreatCovA
import Derived.OwnWalk
namespace Go.Proofs.YtfjfhnjoghlbfaaGreat
open Go.RowKit

theorem Tryz.infoBoolM : (Tryz.prog.info? 4).map (fun i => (i.zero, i.size, i.bytes)) = some (some (.bool false), 1, 1) := by kernel_rfl
theorem Tryz.sizeBoolM : (Tryz.prog.info? 4).map (·.size) = some 1 := by kernel_rfl

/-- block b has the n marks M, and they may be written. -/
def BlAt (w : World) (b n : Nat) (M : Nat → Bool) : Prop := b < w.heap.size ∧ ∀ i, i < n → w.cell? ⟨b, i, none⟩ = some (.bool (M i)) ∧ w.frozen? ⟨b, i, none⟩ = false
theorem BlAt.below {w w' : World} {b n : Nat} {M : Nat → Bool} (h : BlAt w b n M) (hb : Below w.heap.size w w') : BlAt w' b n M :=
  ⟨Nat.lt_of_lt_of_le h.1 hb.size, fun i hi => ⟨(hb.cell (by exact h.1)).trans (h.2 i hi).1, (hb.frozen (by exact h.1)).trans (h.2 i hi).2⟩⟩
theorem BlAt.set {w : World} {b n j : Nat} {M : Nat → Bool} (h : BlAt w b n M) (hj : j < n) (x : Bool) : BlAt (w.setCell ⟨b, j, none⟩ (.bool x)) b n (fun i => if i = j then x else M i) := by
  refine ⟨by simpa [World.setCell] using h.1, fun i hi => ⟨?_, by rw [World.frozen?_setCell]; exact (h.2 i hi).2⟩⟩
  by_cases e : i = j
  · subst e; rw [set_same ⟨_, (h.2 i hi).1⟩]; simp
  · rw [set_far e, (h.2 i hi).1]; simp [e]
theorem BlAt.congr {w : World} {b n : Nat} {M M' : Nat → Bool} (h : BlAt w b n M) (he : ∀ i, i < n → M i = M' i) : BlAt w b n M' := ⟨h.1, fun i hi => by rw [← he i hi]; exact h.2 i hi⟩

theorem make_bool (n : Nat) (h : n ≤ 140737488351232) (W : World) :
    (Instr.makeSlice 56 (.int .i64 (n : Int)) (.int .i64 (n : Int))).run Tryz.prog W = .ok (.slice (some ⟨W.heap.size, 0, none⟩) n n) (W.alloc (.cells (madeCells #[.bool false] n) 4)) := by
  obtain ⟨i0, hi, hz0, hz1, hz2⟩ := info_parts Tryz.infoBoolM
  have := run_make (P := Tryz.prog) W 56 4 i0 (.bool false) Tryz.underlying56 hi hz0 .i64 .i64 (n : Int) (n : Int) (by omega) (by omega) (by rw [hz2]; omega) (by omega)
  rw [this, hz1]
  simp [Value.cells]

/-- a row of k marks set and the others not. -/
def trues (n k : Nat) : List Value := List.replicate k (.bool true) ++ List.replicate (n - k) (.bool false)
theorem trues_len {n k : Nat} (h : k ≤ n) : (trues n k).length = n := by simp [trues]; omega
theorem trues_zero (n : Nat) : madeCells #[.bool false] n = (trues n 0).toArray := by
  apply Array.toList_inj.1
  rw [toList_madeCells_one]
  simp [trues]


theorem bl_madeM (W : World) (n : Nat) : BlAt (W.alloc (.cells (madeCells #[.bool false] n) 4)) W.heap.size n (fun _ => false) := by
  refine ⟨by simp, fun i hi => ⟨?_, World.frozen?_alloc_at _ _ _ _ rfl⟩⟩
  rw [World.cell?_alloc_at _ _ _ _ rfl, trues_zero]
  simp [trues, hi]
/-- place i is one of the first k of X. -/
def hitX (X : Nat → Int) (i : Nat) : Nat → Bool
  | 0 => false
  | k + 1 => hitX X i k || decide (X k = (i : Int))
theorem hitX_step {X : Nat → Int} {k j i : Nat} (h : X k = (j : Int)) : (if i = j then true else hitX X i k) = hitX X i (k + 1) := by
  rw [hitX, h]
  by_cases e : i = j
  · subst e; simp
  · have : ¬ ((j : Int) = (i : Int)) := by omega
    simp [e, this]
theorem hitX_iff (X : Nat → Int) (i : Nat) : ∀ k, hitX X i k = true ↔ ∃ j, j < k ∧ X j = (i : Int)
  | 0 => by simp [hitX]
  | k + 1 => by
    unfold hitX
    rw [Bool.or_eq_true, hitX_iff X i k, decide_eq_true_eq]
    constructor
    · rintro (⟨q, hq, e⟩ | e)
      · exact ⟨q, by omega, e⟩
      · exact ⟨k, by omega, e⟩
    · rintro ⟨q, hq, e⟩
      by_cases h : q = k
      · subst h; exact Or.inr e
      · exact Or.inl ⟨q, by omega, e⟩

set_option maxRecDepth 100000 in
set_option maxHeartbeats 1000000 in
theorem markI_sl {a : Option Addr} {n cap : Nat} {mm : Option Nat} {ra : Option Addr} {nr rc : Nat} {ga : Option Addr} {gn gc : Nat} {X : Nat → Int} (w : World) (hn : n ≤ 300) (hg : SlI w ga gn gc X) (hX : ∀ i, i < gn → ∃ p, p < n ∧ X i = (p : Int)) :
    Calls Tryz.prog 24 #[.agg #[.slice a n cap, .map mm, .slice ra nr rc], .slice ga gn gc] w fun e w' =>
      ∃ b, e = .returned (.slice (some ⟨b, 0, none⟩) n n) ∧ w.heap.size ≤ b ∧ BlAt w' b n (fun i => hitX X i gn) ∧ Below w.heap.size w w' := by
  have hgm := Nat.le_trans hg.le hg.max
  unfold maxLen at hgm
  obtain ⟨wb, hwb⟩ : ∃ wb, wb = w.alloc (.cells #[.slice a n cap, .map mm, .slice ra nr rc] 48) := ⟨_, rfl⟩
  have hb0 : Below w.heap.size w wb := by rw [hwb]; exact (Below.refl _ _).alloc (Nat.le_refl _) _
  have hs0 : wb.heap.size = w.heap.size + 1 := by rw [hwb]; simp
  have hmk := make_bool n (by omega) wb
  rw [hs0] at hmk
  have hmk' : (Instr.makeSlice 56 (.int .i64 (n : Int)) (.int .i64 (n : Int))).run Tryz.prog (w.alloc (.cells #[.slice a n cap, .map mm, .slice ra nr rc] 48)) = .ok (.slice (some ⟨w.heap.size + 1, 0, none⟩) n n) (wb.alloc (.cells (madeCells #[.bool false] n) 4)) := by rw [← hwb]; exact hmk
  have hbl0 := bl_madeM wb n
  rw [hs0] at hbl0
  have hB0 : Below (w.heap.size + 1) wb (wb.alloc (.cells (madeCells #[.bool false] n) 4)) := (Below.refl _ _).alloc (by omega) _
  have HX : Hid (_) := hX
  clear hX hmk hwb
  go_enter Tryz.func24, Tryz.ntmps24
  go_wp2_with fail
  clear hmk'
  go_loopw [14] (fun i wr => ∃ k : Nat, k ≤ gn ∧ i = .int .i64 k ∧ BlAt wr (w.heap.size + 1) n (fun i => hitX X i k) ∧ Below (w.heap.size + 1) wb wr) (fun i _ => gn - (intOf i).toNat)
  case atStart => exact ⟨0, Nat.zero_le _, rfl, hbl0, hB0⟩
  case round =>
    clear hbl0 hB0
    obtain ⟨k, hk, rfl, hbl, hB⟩ := hrel
    have hbw := hb0.trans (hB.mono (by omega))
    by_cases hlt : k < gn
    · rcases hg.cells with h0 | ⟨bg, og, rfl, hbg, hcg⟩
      · omega
      obtain ⟨j, hj, e⟩ := HX.out k hlt
      have hck : wr.cell? ⟨bg, og + k, none⟩ = some (.int .i64 (j : Int)) := by rw [← e]; exact (hbw.cell (by exact hbg)).trans (hcg k hlt)
      have hm1 := (hbl.2 j hj).1
      have hm2 := (hbl.2 j hj).2
      have Hbl : Hid (BlAt (wr.setCell ⟨w.heap.size + 1, j, none⟩ (.bool true)) (w.heap.size + 1) n (fun i => hitX X i (k + 1))) := (hbl.set hj true).congr (fun i _ => hitX_step e)
      clear hcg hbl e
      go_wp2
      go_roundw
      case rel => exact ⟨k + 1, by omega, by go_num, Hbl.out, hB.setCell (Nat.le_refl _) _⟩
      case measure => simp [intOf]; omega
    · have hkn : gn = k := by omega
      subst hkn
      go_wp2
      go_ret
      exact ⟨_, rfl, by omega, hbl, hbw⟩

/-- the places that bear marks, in order. -/
def plsL (M : Nat → Bool) : Nat → List Nat
  | 0 => []
  | k + 1 => if M k then plsL M k ++ [k] else plsL M k
theorem plsL_len (M : Nat → Bool) : ∀ k, (plsL M k).length ≤ k
  | 0 => Nat.le_refl _
  | k + 1 => by
    have := plsL_len M k
    unfold plsL
    split
    · simp; exact this
    · omega
theorem plsL_mem (M : Nat → Bool) (p : Nat) : ∀ k, p ∈ plsL M k ↔ p < k ∧ M p = true
  | 0 => by simp [plsL]
  | k + 1 => by
    have ih := plsL_mem M p k
    unfold plsL
    split
    · rename_i hM
      rw [List.mem_append, ih, List.mem_singleton]
      constructor
      · rintro (⟨h1, h2⟩ | rfl)
        · exact ⟨by omega, h2⟩
        · exact ⟨by omega, hM⟩
      · rintro ⟨h1, h2⟩
        by_cases e : p = k
        · exact Or.inr e
        · exact Or.inl ⟨by omega, h2⟩
    · rename_i hM
      rw [ih]
      constructor
      · rintro ⟨h1, h2⟩; exact ⟨by omega, h2⟩
      · rintro ⟨h1, h2⟩
        by_cases e : p = k
        · subst e; exact absurd h2 hM
        · exact ⟨by omega, h2⟩
theorem plsL_pre (M : Nat → Bool) (k : Nat) : ∀ n, k ≤ n → ∃ r, plsL M n = plsL M k ++ r
  | 0, h => by have : k = 0 := by omega
               subst this; exact ⟨[], by simp⟩
  | n + 1, h => by
    by_cases e : k = n + 1
    · subst e; exact ⟨[], by simp⟩
    · obtain ⟨r, hr⟩ := plsL_pre M k n (by omega)
      by_cases hM : M n = true
      · exact ⟨r ++ [n], by rw [plsL, if_pos hM, hr, List.append_assoc]⟩
      · exact ⟨r, by rw [plsL, if_neg hM]; exact hr⟩
theorem plsL_at {M : Nat → Bool} {k n : Nat} (hk : k < n) (hM : M k = true) : lX (plsL M n) (plsL M k).length = (k : Int) := by
  obtain ⟨r, hr⟩ := plsL_pre M (k + 1) n (by omega)
  have e1 : plsL M (k + 1) = plsL M k ++ [k] := by rw [plsL, if_pos hM]
  rw [hr, e1, List.append_assoc]
  simp [lX, List.getD]

set_option maxRecDepth 100000 in
set_option maxHeartbeats 1000000 in
theorem plsI_sl {b n : Nat} {M : Nat → Bool} (w : World) (hn : n ≤ 300) (hM : BlAt w b n M) :
    Calls Tryz.prog 43 #[.slice (some ⟨b, 0, none⟩) n n] w fun e w' =>
      ∃ v, e = .returned v ∧ OwnI w' w.heap.size v (plsL M n).length (lX (plsL M n)) ∧ Below w.heap.size w w' := by
  obtain ⟨i0, hi, hz0, hz1, hz2⟩ := info_parts Tryz.infoIntO
  have HM : Hid (BlAt w b n M) := hM
  clear hM
  go_enter Tryz.func43, Tryz.ntmps43
  go_wp2_with fail
  go_loopw [3, 8] (fun v i wr => ∃ (k c : Nat), k ≤ n ∧ i = .int .i64 k ∧ Hid (c = (plsL M k).length) ∧ c ≤ k ∧ OwnI wr w.heap.size v c (lX (plsL M n)) ∧ Below w.heap.size w wr) (fun _ i _ => n - (intOf i).toNat)
  case atStart => exact ⟨0, 0, Nat.zero_le _, rfl, rfl, Nat.le_refl _, OwnI.nil _ _ _, Below.refl _ _⟩
  case round =>
    obtain ⟨k, c, hk, rfl, hc, hck, hown, hb⟩ := hrel
    by_cases hlt : k < n
    · have hmk := ((HM.out.below hb).2 k hlt).1
      cases hf : M k
      case false =>
        rw [hf] at hmk
        have Hs : Hid (c = (plsL M (k + 1)).length) := by unfold Hid; rw [plsL, if_neg (by simp [hf])]; exact hc.out
        clear hc
        go_wp2
        go_roundw
        case rel => exact ⟨k + 1, c, by omega, by go_num, Hs, by omega, hown, hb⟩
        case measure => simp [intOf]; omega
      case true =>
        rw [hf] at hmk
        have Hs : Hid (c + 1 = (plsL M (k + 1)).length) := by unfold Hid; rw [plsL, if_pos hf, List.length_append, ← hc.out]; rfl
        have Hx : Hid ((k : Int) = lX (plsL M n) c) := by unfold Hid; rw [hc.out]; exact (plsL_at hlt hf).symm
        have hm1 : c + 1 ≤ maxLen := by unfold maxLen; omega
        have hm2 : (c + 1) * 8 ≤ 140737488355328 := by omega
        have hm3 : ∀ o, w.heap.size ≤ (wr.alloc o).heap.size := fun o => by have := hb.size; simp; omega
        have hag : Hid (∀ q', u3.ownBlock = some q' → w.heap.size ≤ q') := fun q' hq' => (World.ownsRow.lt hown q' hq').1
        clear hc hf
        go_wp2_with (at_builtin; refine wpList_append_own _ rfl _ _ 51 rfl w.heap.size 3 i0 (.int .i64 0) 1 8 Tryz.underlying51 hi hz0 hz1 hz2 rfl (by decide) _ _ _ rfl (World.ownsRow.alloc hown _) ⟨wr.heap.size, 0, none⟩ 1 1 [.int .i64 (k : Int)] rfl rfl (one_cellsI _ _ _) (one_oneI _) hm1 hm2 (hm3 _) ?_; intro v2 w2 hown2 hgrow2 _)
        have hB2 : Below w.heap.size w w2 := (hb.alloc hb.size _).grown hgrow2 (hm3 _) hag.out
        have hown3 : OwnI w2 w.heap.size v2 (c + 1) (lX (plsL M n)) := OwnI.snoc hown2 Hx.out
        go_roundw
        case rel => exact ⟨k + 1, c + 1, by omega, by go_num, Hs, by omega, hown3, hB2⟩
        case measure => simp [intOf]; omega
    · have hkn : n = k := by omega
      subst hkn
      have hcn := hc.out
      subst hcn
      go_wp2
      go_ret
      exact ⟨_, rfl, hown, hb⟩
end Go.Proofs.YtfjfhnjoghlbfaaGreat
