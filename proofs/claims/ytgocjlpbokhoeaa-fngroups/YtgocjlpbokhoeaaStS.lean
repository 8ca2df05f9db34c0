import Derived.Test.YtgocjlpbokhoeaaProg
import Derived.Test.YtgocjlpbokhoeaaEntM
namespace Go.Proofs.Ytgocjlpbokhoeaa
open Go.RowKit
set_option maxHeartbeats 400000 in
theorem before_any (a b : Ent) (w : World) :
    Calls Try.prog 42 #[entV a, entV b] w fun e w' => e = .returned (.bool (befB a b)) ∧ Below w.heap.size w w' := by
  cases h : (a.ty.toList == b.ty.toList)
  all_goals
    go_enter Try.func42, Try.ntmps42
    go_wp2
    go_ret
    exact ⟨ret_bool (by simp [befB, h]), ((Below.refl _ _).alloc (Nat.le_refl _) _).alloc (by simp) _⟩
set_option maxHeartbeats 400000 in
theorem same_any (a b : Ent) (w : World) :
    Calls Try.prog 58 #[entV a, entV b] w fun e w' => e = .returned (.bool (samB a b)) ∧ Below w.heap.size w w' := by
  cases h : (a.ty.toList == b.ty.toList)
  all_goals
    go_enter Try.func58, Try.ntmps58
    go_wp2
    go_ret
    exact ⟨ret_bool (by simp [samB, h]), ((Below.refl _ _).alloc (Nat.le_refl _) _).alloc (by simp) _⟩
theorem inOrder_zero (a : Option Addr) (cap : Nat) (w : World) :
    Calls Try.prog 44 #[.slice a 0 cap] w fun e w' => e = .returned (.bool true) ∧ w' = w := by
  go_enter Try.func44, Try.ntmps44
  go_wp2
  refine wp_loop_rounds 1 ?_
  rw [rounds_succ]
  go_wp2
  go_ret
  exact ⟨rfl, rfl⟩
set_option maxHeartbeats 1000000 in
theorem inOrder_any (b off cap : Nat) (l : List Ent) (w : World) (hl0 : 0 < l.length) (hn : l.length ≤ maxLen) (hb : b < w.heap.size)
    (h1 : ∀ i, i < l.length → w.cell? ⟨b, off + i * 3, none⟩ = some (.string (eAt l i).ty)) (h2 : ∀ i, i < l.length → w.cell? ⟨b, off + i * 3 + 1, none⟩ = some (.string (eAt l i).key)) (h3 : ∀ i, i < l.length → w.cell? ⟨b, off + i * 3 + 2, none⟩ = some (.string (eAt l i).id)) :
    Calls Try.prog 44 #[.slice (some ⟨b, off, none⟩) l.length cap] w fun e w' => e = .returned (.bool (ordB l)) ∧ Below w.heap.size w w' := by
  unfold maxLen at hn
  go_enter Try.func44, Try.ntmps44
  go_wp2
  go_loopw [3] (fun i wr => ∃ k : Nat, k + 1 ≤ l.length ∧ i = .int .i64 ((k : Int) + 1) ∧ Hid (ordTo l (k + 1) = true) ∧ Below w.heap.size w wr) (fun i _ => l.length - (intOf i).toNat)
  case atStart => exact ⟨0, hl0, rfl, rfl, Below.refl _ _⟩
  case round =>
    obtain ⟨k, hk, rfl, hto, hbel⟩ := hrel
    by_cases hlt : k + 1 < l.length
    · have a1 : wr.cell? ⟨b, off + k * 3, none⟩ = some (.string (eAt l k).ty) := (hbel.cell (by exact hb)).trans (h1 k (by omega))
      have a2 : wr.cell? ⟨b, off + k * 3 + 1, none⟩ = some (.string (eAt l k).key) := (hbel.cell (by exact hb)).trans (h2 k (by omega))
      have a3 : wr.cell? ⟨b, off + k * 3 + 2, none⟩ = some (.string (eAt l k).id) := (hbel.cell (by exact hb)).trans (h3 k (by omega))
      have b1 : wr.cell? ⟨b, off + (k + 1) * 3, none⟩ = some (.string (eAt l (k + 1)).ty) := (hbel.cell (by exact hb)).trans (h1 (k + 1) (by omega))
      have b2 : wr.cell? ⟨b, off + (k + 1) * 3 + 1, none⟩ = some (.string (eAt l (k + 1)).key) := (hbel.cell (by exact hb)).trans (h2 (k + 1) (by omega))
      have b3 : wr.cell? ⟨b, off + (k + 1) * 3 + 2, none⟩ = some (.string (eAt l (k + 1)).id) := (hbel.cell (by exact hb)).trans (h3 (k + 1) (by omega))
      have hkl : k < l.length := by omega
      have ew : IntKind.i64.wrap (k : Int) = (k : Int) := by rw [IntKind.wrap_i64]; omega
      cases hB : befB (eAt l k) (eAt l (k + 1))
      · go_wp2_with fail
        go_region_with (go_at_call 42; refine (before_any (eAt l k) (eAt l (k + 1)) _).mono ?_; rintro e w1 ⟨rfl, hb1⟩)
        all_goals
          go_wp2
          go_ret
          exact ⟨ret_bool (by rw [ordB, ordTo_le l l.length (k + 1) hlt (by rw [ordTo, show k + 1 - 1 = k from rfl, hB]; simp)]), Below.trans (by first | exact hbel | exact hbel.drew | exact hbel.drew.drew) (hb1.mono (by exact hbel.size))⟩
      · go_wp2_with fail
        go_region_with (go_at_call 42; refine (before_any (eAt l k) (eAt l (k + 1)) _).mono ?_; rintro e w1 ⟨rfl, hb1⟩)
        all_goals
          go_wp2
          go_roundw
          case rel => exact ⟨k + 1, by omega, by go_num, by unfold Hid; rw [ordTo, hto.out, show k + 1 - 1 = k from rfl, hB]; simp, Below.trans (by first | exact hbel | exact hbel.drew | exact hbel.drew.drew) (hb1.mono (by exact hbel.size))⟩
          case measure => simp [intOf]; omega
    · go_wp2
      go_ret
      exact ⟨ret_bool (by rw [ordB, show l.length = k + 1 by omega, hto.out]), hbel⟩
theorem inOrder_sl {a : Option Addr} {cap : Nat} {l : List Ent} (w : World) (h : SlE w a cap l) :
    Calls Try.prog 44 #[.slice a l.length cap] w fun e w' => e = .returned (.bool (ordB l)) ∧ Below w.heap.size w w' := by
  rcases h.cells with rfl | ⟨b, off, rfl, hb, h1, h2, h3⟩
  · refine (inOrder_zero a cap w).mono ?_
    rintro e w' ⟨rfl, rfl⟩
    exact ⟨rfl, Below.refl _ _⟩
  · by_cases h0 : 0 < l.length
    · exact inOrder_any b off cap l w h0 (Nat.le_trans h.le h.max) hb h1 h2 h3
    · obtain rfl : l = [] := List.eq_nil_of_length_eq_zero (by omega)
      refine (inOrder_zero _ cap w).mono ?_
      rintro e w' ⟨rfl, rfl⟩
      exact ⟨rfl, Below.refl _ _⟩
set_option maxHeartbeats 1000000 in
theorem stateS_any (b off cap : Nat) (l : List Ent) (w : World) (h : SlE w (some ⟨b, off, none⟩) cap l)
    (h3 : ∀ i, i < l.length → w.cell? ⟨b, off + i * 3 + 2, none⟩ = some (.string (eAt l i).id)) :
    Calls Try.prog 21 #[.slice (some ⟨b, off, none⟩) l.length cap] w fun e w' => e = .returned (.bool (stB l)) ∧ Below w.heap.size w w' := by
  have hn := Nat.le_trans h.le h.max
  unfold maxLen at hn
  go_enter Try.func21, Try.ntmps21
  go_wp2
  go_loop [3] (fun i => ∃ k : Nat, k ≤ l.length ∧ i = .int .i64 k ∧ Hid (idsTo l k = true)) (fun i => l.length - (intOf i).toNat)
  case atStart => exact ⟨0, Nat.zero_le _, rfl, rfl⟩
  case round =>
    obtain ⟨k, hk, rfl, hto⟩ := hrel
    by_cases hlt : k < l.length
    · have a3 := h3 k hlt
      cases he : (eAt l k).id.toList.isEmpty
      · go_wp2
        go_round
        case rel => exact ⟨k + 1, by omega, by go_num, by unfold Hid; rw [idsTo, hto.out, he]; rfl⟩
        case measure => simp [intOf]; omega
      · go_wp2
        go_ret
        exact ⟨ret_bool (by rw [stB, idsTo_le l l.length k hlt (by rw [idsTo, he]; simp)]; simp), Below.refl _ _⟩
    · have hall : idsTo l l.length = true := by rw [show l.length = k by omega]; exact hto.out
      have HA : Hid (idsTo l l.length = true) := hall
      clear hall
      by_cases h300 : l.length ≤ 300
      · go_wp2_with (go_at_call 44; refine (inOrder_sl _ h).mono ?_; rintro e w' ⟨rfl, hb1⟩)
        go_ret
        exact ⟨ret_bool (by rw [stB, HA.out]; simp [h300]), hb1⟩
      · go_wp2
        go_ret
        exact ⟨ret_bool (by rw [stB]; simp [h300]), Below.refl _ _⟩
theorem stateS_zero (a : Option Addr) (cap : Nat) (w : World) :
    Calls Try.prog 21 #[.slice a 0 cap] w fun e w' => e = .returned (.bool true) ∧ w' = w := by
  go_enter Try.func21, Try.ntmps21
  go_wp2
  refine wp_loop_rounds 1 ?_
  rw [rounds_succ]
  go_wp2_with (go_at_call 44; refine (inOrder_zero a cap _).mono ?_; rintro e w' ⟨rfl, rfl⟩)
  go_ret
  exact ⟨rfl, rfl⟩
theorem stateS_sl {a : Option Addr} {cap : Nat} {l : List Ent} (w : World) (h : SlE w a cap l) :
    Calls Try.prog 21 #[.slice a l.length cap] w fun e w' => e = .returned (.bool (stB l)) ∧ Below w.heap.size w w' := by
  rcases h.cells with rfl | ⟨b, off, rfl, hb, h1, h2, h3⟩
  · refine (stateS_zero a cap w).mono ?_
    rintro e w' ⟨rfl, rfl⟩
    exact ⟨rfl, Below.refl _ _⟩
  · exact stateS_any b off cap l w h h3
theorem at_zero (a : Option Addr) (cap : Nat) (e0 : Ent) (w : World) :
    Calls Try.prog 46 #[.slice a 0 cap, entV e0] w fun e w' => e = .returned (.int .i64 (-1)) ∧ Below w.heap.size w w' := by
  go_enter Try.func46, Try.ntmps46
  go_wp2
  refine wp_loop_rounds 1 ?_
  rw [rounds_succ]
  go_wp2
  go_ret
  exact ⟨rfl, (Below.refl _ _).alloc (Nat.le_refl _) _⟩
set_option maxHeartbeats 1000000 in
theorem at_any (b off cap : Nat) (l : List Ent) (e0 : Ent) (w : World) (hn : l.length ≤ maxLen) (hb : b < w.heap.size)
    (h1 : ∀ i, i < l.length → w.cell? ⟨b, off + i * 3, none⟩ = some (.string (eAt l i).ty)) (h2 : ∀ i, i < l.length → w.cell? ⟨b, off + i * 3 + 1, none⟩ = some (.string (eAt l i).key)) (h3 : ∀ i, i < l.length → w.cell? ⟨b, off + i * 3 + 2, none⟩ = some (.string (eAt l i).id)) :
    Calls Try.prog 46 #[.slice (some ⟨b, off, none⟩) l.length cap, entV e0] w fun e w' => e = .returned (.int .i64 (posI l e0)) ∧ Below w.heap.size w w' := by
  unfold maxLen at hn
  have hb0 : ∀ o, Below w.heap.size w (w.alloc o) := fun o => (Below.refl _ _).alloc (Nat.le_refl _) _
  go_enter Try.func46, Try.ntmps46
  go_wp2
  go_loopw [5] (fun i wr => ∃ k : Nat, k ≤ l.length ∧ i = .int .i64 k ∧ Hid (∀ i, i < k → samB (eAt l i) e0 = false) ∧ Below w.heap.size w wr ∧ (∀ o, wr.cell? ⟨w.heap.size, o, none⟩ = (#[.string e0.ty, .string e0.key, .string e0.id] : Array Value)[o]?) ∧ w.heap.size < wr.heap.size) (fun i _ => l.length - (intOf i).toNat)
  case atStart => exact ⟨0, Nat.zero_le _, rfl, fun i hi => absurd hi (Nat.not_lt_zero _), hb0 _, fun o => World.cell?_alloc_at _ _ _ _ rfl, by simp⟩
  case round =>
    obtain ⟨k, hk, rfl, hto, hbel, hbox, hsz⟩ := hrel
    by_cases hlt : k < l.length
    · have a1 : wr.cell? ⟨b, off + k * 3, none⟩ = some (.string (eAt l k).ty) := (hbel.cell (by exact hb)).trans (h1 k hlt)
      have a2 : wr.cell? ⟨b, off + k * 3 + 1, none⟩ = some (.string (eAt l k).key) := (hbel.cell (by exact hb)).trans (h2 k hlt)
      have a3 : wr.cell? ⟨b, off + k * 3 + 2, none⟩ = some (.string (eAt l k).id) := (hbel.cell (by exact hb)).trans (h3 k hlt)
      cases hB : samB (eAt l k) e0
      · go_wp2_with fail
        go_region_with (go_at_call 58; refine (same_any (eAt l k) e0 _).mono ?_; rintro e w1 ⟨rfl, hb1⟩)
        all_goals
          have hb2 : Below wr.heap.size wr w1 := Below.trans (by first | exact Below.refl _ _ | exact (Below.refl _ _).drew | exact (Below.refl _ _).drew.drew) hb1
          go_wp2
          go_roundw
          case rel => exact ⟨k + 1, by omega, by go_num, fun i hi => by (by_cases e : i = k; (subst e; exact hB); exact hto.out i (by omega)), hbel.trans (hb2.mono hbel.size), fun o => (hb2.cell (by exact hsz)).trans (hbox o), Nat.lt_of_lt_of_le hsz hb2.size⟩
          case measure => simp [intOf]; omega
      · go_wp2_with fail
        go_region_with (go_at_call 58; refine (same_any (eAt l k) e0 _).mono ?_; rintro e w1 ⟨rfl, hb1⟩)
        all_goals
          have hb2 : Below wr.heap.size wr w1 := Below.trans (by first | exact Below.refl _ _ | exact (Below.refl _ _).drew | exact (Below.refl _ _).drew.drew) hb1
          go_wp2
          go_ret
          exact ⟨ret_int (posI_hit l e0 k hlt hto.out hB).symm, hbel.trans (hb2.mono hbel.size)⟩
    · go_wp2
      go_ret
      exact ⟨ret_int (posI_miss l e0 (fun i hi => hto.out i (by omega))).symm, hbel⟩
theorem at_sl {a : Option Addr} {cap : Nat} {l : List Ent} (e0 : Ent) (w : World) (h : SlE w a cap l) :
    Calls Try.prog 46 #[.slice a l.length cap, entV e0] w fun e w' => e = .returned (.int .i64 (posI l e0)) ∧ Below w.heap.size w w' := by
  rcases h.cells with rfl | ⟨b, off, rfl, hb, h1, h2, h3⟩
  · exact at_zero a cap e0 w
  · exact at_any b off cap l e0 w (Nat.le_trans h.le h.max) hb h1 h2 h3
end Go.Proofs.Ytgocjlpbokhoeaa
