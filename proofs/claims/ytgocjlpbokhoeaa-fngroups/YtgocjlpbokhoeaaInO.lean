import Derived.Test.YtgocjlpbokhoeaaCsIM
import Derived.Shelf.SlSortCmp.QuietGrown
namespace Go.Proofs.Ytgocjlpbokhoeaa
open Go.RowKit
theorem slot_gr (x : Ent) (w : World) : Calls Try.prog 51 #[entV x] w fun e w' => e = .returned (slotV x) ∧ ∃ q os', w' = Sort.grow (w.drewN q) os' :=
  (slot_any x w).mono fun _ _ h => ⟨h.1, h.2.eq⟩
theorem cmpS_gr (x y : Ent) (w : World) : Calls Try.prog 62 #[slotV x, slotV y] w fun e w' => e = .returned (.int .i64 (cmpE x y)) ∧ ∃ q os', w' = Sort.grow (w.drewN q) os' :=
  (cmpS_any x y w).mono fun _ _ h => ⟨h.1, h.2.eq⟩
theorem inOrderI_zero (a : Option Addr) (cap : Nat) (w : World) :
    Calls Try.prog 49 #[.slice a 0 cap] w fun e w' => e = .returned (.bool true) ∧ w' = w := by
  go_enter Try.func49, Try.ntmps49
  go_wp2
  refine wp_loop_rounds 1 ?_
  rw [rounds_succ]
  go_wp2
  go_ret
  exact ⟨rfl, rfl⟩
set_option maxRecDepth 100000 in
set_option maxHeartbeats 1000000 in
theorem inOrderI_any (b off cap : Nat) (l : List Ent) (w : World) (hl0 : 0 < l.length) (hn : l.length ≤ maxLen) (hb : b < w.heap.size)
    (h1 : ∀ i, i < l.length → w.cell? ⟨b, off + i * 3, none⟩ = some (.string (eAt l i).ty)) (h2 : ∀ i, i < l.length → w.cell? ⟨b, off + i * 3 + 1, none⟩ = some (.string (eAt l i).key)) (h3 : ∀ i, i < l.length → w.cell? ⟨b, off + i * 3 + 2, none⟩ = some (.string (eAt l i).id)) :
    Calls Try.prog 49 #[.slice (some ⟨b, off, none⟩) l.length cap] w fun e w' => e = .returned (.bool (ordB l)) ∧ Below w.heap.size w w' := by
  unfold maxLen at hn
  go_enter Try.func49, Try.ntmps49
  go_wp2
  go_loopw [3] (fun i wr => ∃ k : Nat, k + 1 ≤ l.length ∧ i = .int .i64 ((k : Int) + 1) ∧ Hid (ordTo l (k + 1) = true) ∧ Below w.heap.size w wr) (fun i _ => l.length - (intOf i).toNat)
  case atStart => exact ⟨0, hl0, rfl, rfl, Below.refl _ _⟩
  case round =>
    obtain ⟨k, hk, rfl, hto, hbel⟩ := hrel
    by_cases hlt : k + 1 < l.length
    · have hbr : b < wr.heap.size := Nat.lt_of_lt_of_le hb hbel.size
      have a1 : ∀ n os, (Sort.grow (wr.drewN n) os).cell? ⟨b, off + k * 3, none⟩ = some (.string (eAt l k).ty) := cell_grown (by exact hbr) ((hbel.cell (by exact hb)).trans (h1 k (by omega)))
      have a2 : ∀ n os, (Sort.grow (wr.drewN n) os).cell? ⟨b, off + k * 3 + 1, none⟩ = some (.string (eAt l k).key) := cell_grown (by exact hbr) ((hbel.cell (by exact hb)).trans (h2 k (by omega)))
      have a3 : ∀ n os, (Sort.grow (wr.drewN n) os).cell? ⟨b, off + k * 3 + 2, none⟩ = some (.string (eAt l k).id) := cell_grown (by exact hbr) ((hbel.cell (by exact hb)).trans (h3 k (by omega)))
      have b1 : ∀ n os, (Sort.grow (wr.drewN n) os).cell? ⟨b, off + (k + 1) * 3, none⟩ = some (.string (eAt l (k + 1)).ty) := cell_grown (by exact hbr) ((hbel.cell (by exact hb)).trans (h1 (k + 1) (by omega)))
      have b2 : ∀ n os, (Sort.grow (wr.drewN n) os).cell? ⟨b, off + (k + 1) * 3 + 1, none⟩ = some (.string (eAt l (k + 1)).key) := cell_grown (by exact hbr) ((hbel.cell (by exact hb)).trans (h2 (k + 1) (by omega)))
      have b3 : ∀ n os, (Sort.grow (wr.drewN n) os).cell? ⟨b, off + (k + 1) * 3 + 2, none⟩ = some (.string (eAt l (k + 1)).id) := cell_grown (by exact hbr) ((hbel.cell (by exact hb)).trans (h3 (k + 1) (by omega)))
      have hkl : k < l.length := by omega
      have ew : IntKind.i64.wrap (k : Int) = (k : Int) := by rw [IntKind.wrap_i64]; omega
      have z1 : (0 : Int) ≤ (k : Int) + 1 := by omega
      have z2 : (k : Int) + 1 < (l.length : Int) := by omega
      have z3 : ((k : Int) + 1).toNat = k + 1 := by omega
      have hbf : Hid (befB (eAt l k) (eAt l (k + 1)) = decide (cmpE (eAt l k) (eAt l (k + 1)) < 0)) := cmpE_bef _ _
      clear h1 h2 h3
      go_wp2_with fail
      refine wp_region_quiet_grown (by kernel_rfl) (by kernel_rfl) ?_
      repeat (quiet_step (first
        | (go_at_call 51; exact Calls.grown_of (slot_gr _ _))
        | (go_at_call 62; exact Calls.grown_of (cmpS_gr _ _ _))))
      refine wpQuiet_nil ?_
      intro _ hw'
      obtain ⟨⟨nq, osq⟩, hw''⟩ := hw'
      subst hw''
      have hbw := hbel.trans ((grw_grow wr nq osq).below.mono hbel.size)
      clear a1 a2 a3 b1 b2 b3
      generalize Sort.grow (wr.drewN nq) osq = wz at *
      generalize cmpE (eAt l k) (eAt l (k + 1)) = c at *
      by_cases hc : c < 0
      · have hc2 : ¬ (0 ≤ c) := by omega
        have hB : befB (eAt l k) (eAt l (k + 1)) = true := by rw [hbf.out]; exact decide_eq_true hc
        have hto2 : Hid (ordTo l (k + 1 + 1) = true) := by unfold Hid; rw [ordTo, hto.out, show k + 1 - 1 = k from rfl, hB]; simp
        clear hB hbf
        go_wp2
        go_roundw
        case rel => exact ⟨k + 1, by omega, by go_num, hto2, hbw⟩
        case measure => simp [intOf]; omega
      · have hc2 : 0 ≤ c := by omega
        have hB : befB (eAt l k) (eAt l (k + 1)) = false := by rw [hbf.out]; exact decide_eq_false hc
        have hto2 : Hid (ordB l = false) := by unfold Hid; rw [ordB, ordTo_le l l.length (k + 1) hlt (by rw [ordTo, show k + 1 - 1 = k from rfl, hB]; simp)]
        clear hB hbf
        go_wp2
        go_ret
        exact ⟨ret_bool hto2.out.symm, hbw⟩
    · go_wp2
      go_ret
      exact ⟨ret_bool (by rw [ordB, show l.length = k + 1 by omega, hto.out]), hbel⟩
theorem inOrderI_sl {a : Option Addr} {cap : Nat} {l : List Ent} (w : World) (h : SlE w a cap l) :
    Calls Try.prog 49 #[.slice a l.length cap] w fun e w' => e = .returned (.bool (ordB l)) ∧ Below w.heap.size w w' := by
  rcases h.cells with rfl | ⟨b, off, rfl, hb, h1, h2, h3⟩
  · refine (inOrderI_zero a cap w).mono ?_
    rintro e w' ⟨rfl, rfl⟩
    exact ⟨rfl, Below.refl _ _⟩
  · by_cases h0 : 0 < l.length
    · exact inOrderI_any b off cap l w h0 (Nat.le_trans h.le h.max) hb h1 h2 h3
    · obtain rfl : l = [] := List.eq_nil_of_length_eq_zero (by omega)
      refine (inOrderI_zero _ cap w).mono ?_
      rintro e w' ⟨rfl, rfl⟩
      exact ⟨rfl, Below.refl _ _⟩
set_option maxHeartbeats 400000 in
theorem takenOut_any (x : Ent) (w : World) :
    Calls Try.prog 48 #[entV x] w fun e w' => e = .returned (.bool (x.id.toList.isEmpty)) ∧ Below w.heap.size w w' := by
  cases h : x.id.toList.isEmpty
  all_goals
    go_enter Try.func48, Try.ntmps48
    go_wp2
    go_ret
    exact ⟨ret_bool (by first | rfl | simp [h]), (Below.refl _ _).alloc (Nat.le_refl _) _⟩
theorem idxF_zero (a : Option Addr) (cap : Nat) (fv : Value) (w : World) :
    Calls Try.prog 63 #[.slice a 0 cap, fv] w fun e w' => e = .returned (.int .i64 (-1)) ∧ w' = w := by
  go_enter Try.func63, Try.ntmps63
  go_wp2
  refine wp_loop_rounds 1 ?_
  rw [rounds_succ]
  go_wp2
  go_ret
  exact ⟨rfl, rfl⟩
set_option maxRecDepth 100000 in
set_option maxHeartbeats 1000000 in
theorem idxF_any (b off cap : Nat) (l : List Ent) (w : World) (hn : l.length ≤ maxLen) (hb : b < w.heap.size)
    (h1 : ∀ i, i < l.length → w.cell? ⟨b, off + i * 3, none⟩ = some (.string (eAt l i).ty)) (h2 : ∀ i, i < l.length → w.cell? ⟨b, off + i * 3 + 1, none⟩ = some (.string (eAt l i).key)) (h3 : ∀ i, i < l.length → w.cell? ⟨b, off + i * 3 + 2, none⟩ = some (.string (eAt l i).id)) :
    Calls Try.prog 63 #[.slice (some ⟨b, off, none⟩) l.length cap, .func (.func 48) #[] #[]] w fun e w' => ∃ z : Int, e = .returned (.int .i64 z) ∧ Hid (decide (0 ≤ z) = !idsTo l l.length) ∧ Below w.heap.size w w' := by
  unfold maxLen at hn
  go_enter Try.func63, Try.ntmps63
  go_wp2
  go_loopw [8] (fun i wr => ∃ k : Nat, k ≤ l.length ∧ i = .int .i64 k ∧ Hid (idsTo l k = true) ∧ Below w.heap.size w wr) (fun i _ => l.length - (intOf i).toNat)
  case atStart => exact ⟨0, Nat.zero_le _, rfl, rfl, Below.refl _ _⟩
  case round =>
    obtain ⟨k, hk, rfl, hto, hbel⟩ := hrel
    by_cases hlt : k < l.length
    · have a1 : wr.cell? ⟨b, off + k * 3, none⟩ = some (.string (eAt l k).ty) := (hbel.cell (by exact hb)).trans (h1 k hlt)
      have a2 : wr.cell? ⟨b, off + k * 3 + 1, none⟩ = some (.string (eAt l k).key) := (hbel.cell (by exact hb)).trans (h2 k hlt)
      have a3 : wr.cell? ⟨b, off + k * 3 + 2, none⟩ = some (.string (eAt l k).id) := (hbel.cell (by exact hb)).trans (h3 k hlt)
      clear h1 h2 h3
      cases he : (eAt l k).id.toList.isEmpty
      · have hto2 : Hid (idsTo l (k + 1) = true) := by unfold Hid; rw [idsTo, hto.out, he]; rfl
        go_wp2_with (go_at_call 48; refine (takenOut_any (eAt l k) _).mono ?_; rintro e w1 ⟨rfl, hb1⟩; rw [he])
        go_roundw
        case rel => exact ⟨k + 1, by omega, by go_num, hto2, hbel.trans (hb1.mono hbel.size)⟩
        case measure => simp [intOf]; omega
      · have hto2 : Hid (idsTo l l.length = false) := idsTo_le l l.length k hlt (by rw [idsTo, he]; simp)
        go_wp2_with (go_at_call 48; refine (takenOut_any (eAt l k) _).mono ?_; rintro e w1 ⟨rfl, hb1⟩; rw [he])
        go_ret
        exact ⟨(k : Int), rfl, by unfold Hid; rw [hto2.out]; simp, hbel.trans (hb1.mono hbel.size)⟩
    · have hkn : l.length = k := by omega
      have hto2 : Hid (idsTo l l.length = true) := by rw [hkn]; exact hto
      clear h1 h2 h3 hto
      go_wp2
      go_ret
      exact ⟨-1, rfl, by unfold Hid; rw [hto2.out]; rfl, hbel⟩
theorem idxF_sl {a : Option Addr} {cap : Nat} {l : List Ent} (w : World) (h : SlE w a cap l) :
    Calls Try.prog 63 #[.slice a l.length cap, .func (.func 48) #[] #[]] w fun e w' => ∃ z : Int, e = .returned (.int .i64 z) ∧ Hid (decide (0 ≤ z) = !idsTo l l.length) ∧ Below w.heap.size w w' := by
  rcases h.cells with rfl | ⟨b, off, rfl, hb, h1, h2, h3⟩
  · refine (idxF_zero a cap _ w).mono ?_
    rintro e w' ⟨rfl, rfl⟩
    exact ⟨-1, rfl, rfl, Below.refl _ _⟩
  · exact idxF_any b off cap l w (Nat.le_trans h.le h.max) hb h1 h2 h3
set_option maxHeartbeats 400000 in
theorem contF_sl {a : Option Addr} {cap : Nat} {l : List Ent} (w : World) (h : SlE w a cap l) :
    Calls Try.prog 50 #[.slice a l.length cap, .func (.func 48) #[] #[]] w fun e w' => e = .returned (.bool (!idsTo l l.length)) ∧ Below w.heap.size w w' := by
  go_enter Try.func50, Try.ntmps50
  go_wp2_with fail
  refine (idxF_sl _ h).mono ?_
  rintro e w1 ⟨z, rfl, hz, hb1⟩
  go_wp2
  go_ret
  exact ⟨ret_bool hz.out, hb1⟩
set_option maxHeartbeats 400000 in
theorem changesI_sl {a : Option Addr} {cap : Nat} {l : List Ent} (w : World) (h : SlE w a cap l) :
    Calls Try.prog 60 #[.slice a l.length cap] w fun e w' => e = .returned (.bool (chB l)) ∧ Below w.heap.size w w' := by
  have hn := Nat.le_trans h.le h.max
  unfold maxLen at hn
  by_cases h6 : l.length ≤ 600
  · have hv : Hid (chB l = ordB l) := by unfold Hid chB; rw [decide_eq_true h6]; rfl
    go_enter Try.func60, Try.ntmps60
    go_wp2_with (go_at_call 49; refine (inOrderI_sl _ h).mono ?_; rintro e w1 ⟨rfl, hb1⟩)
    go_ret
    exact ⟨ret_bool hv.out.symm, hb1⟩
  · have hv : Hid (chB l = false) := by unfold Hid chB; rw [decide_eq_false h6]; rfl
    go_enter Try.func60, Try.ntmps60
    go_wp2
    go_ret
    exact ⟨ret_bool hv.out.symm, Below.refl _ _⟩
set_option maxHeartbeats 1000000 in
theorem stateI_sl {a : Option Addr} {cap : Nat} {l : List Ent} (w : World) (h : SlE w a cap l) :
    Calls Try.prog 27 #[.slice a l.length cap] w fun e w' => e = .returned (.bool (stB l)) ∧ Below w.heap.size w w' := by
  have hn := Nat.le_trans h.le h.max
  unfold maxLen at hn
  by_cases h3 : l.length ≤ 300
  · have hv : Hid (stB l = (ordB l && idsTo l l.length)) := by unfold Hid stB; rw [decide_eq_true h3, Bool.true_and, Bool.and_comm]
    cases ho : ordB l
    · have hv2 : Hid (stB l = false) := by rw [ho, Bool.false_and] at hv; exact hv
      go_enter Try.func27, Try.ntmps27
      go_wp2_with (go_at_call 49; refine (inOrderI_sl _ h).mono ?_; rintro e w1 ⟨rfl, hb1⟩; rw [ho])
      go_ret
      exact ⟨ret_bool hv2.out.symm, hb1⟩
    · have hv2 : Hid (stB l = idsTo l l.length) := by rw [ho, Bool.true_and] at hv; exact hv
      go_enter Try.func27, Try.ntmps27
      go_wp2_with (first
        | (go_at_call 49; refine (inOrderI_sl _ h).mono ?_; rintro e w1 ⟨rfl, hb1⟩; rw [ho])
        | (go_at_call 50; refine (contF_sl _ (h.below hb1)).mono ?_; rintro e w2 ⟨rfl, hb2⟩))
      go_ret
      exact ⟨ret_bool hv2.out.symm, hb1.trans (hb2.mono hb1.size)⟩
  · have hv : Hid (stB l = false) := by unfold Hid stB; rw [decide_eq_false h3]; simp
    go_enter Try.func27, Try.ntmps27
    go_wp2
    go_ret
    exact ⟨ret_bool hv.out.symm, Below.refl _ _⟩
end Go.Proofs.Ytgocjlpbokhoeaa
