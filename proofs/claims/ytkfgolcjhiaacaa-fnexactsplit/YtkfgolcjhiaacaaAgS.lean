/-
  spec.l6Agreed and spec.Split.
-/
import Derived.Test.YtkfgolcjhiaacaaSpP
import Derived.Test.YtkfgolcjhiaacaaEeS
import Derived.Test.YtkfgolcjhiaacaaSetZ
import Derived.Test.YtkfgolcjhiaacaaL2s
import Derived.Deep.RegionHeld3
import Derived.Deep.DeepCutAuto
namespace Go.Proofs.Ytkfgolcjhiaacaa
open Go.RowKit

theorem ag_zero (a : Option Addr) (cap : Nat) (L : Nat → List Ent) (x : Ent) (w : World) :
    Calls Try.prog 18 #[.slice a 0 cap, entV x] w fun e w' => e = .returned (.bool (agTo L x 0)) ∧ Below w.heap.size w w' := by
  go_enter Try.func18, Try.ntmps18
  go_wp2
  refine wp_loop_rounds 1 ?_
  rw [rounds_succ]
  go_wp2
  go_ret
  exact ⟨rfl, (Below.refl _ _).alloc (Nat.le_refl _) _⟩

set_option maxRecDepth 100000 in
set_option maxHeartbeats 2000000 in
theorem ag_any (b off n cap : Nat) (L : Nat → List Ent) (x : Ent) (w : World) (hn : n ≤ maxLen) (hb : b < w.heap.size) (hc : ∀ i, i < n → RwE w b (off + i) (L i)) :
    Calls Try.prog 18 #[.slice (some ⟨b, off, none⟩) n cap, entV x] w fun e w' => e = .returned (.bool (agTo L x n)) ∧ Below w.heap.size w w' := by
  unfold maxLen at hn
  obtain ⟨wb, hwb⟩ : ∃ wb, wb = w.alloc (.cells #[.string x.ty, .string x.key, .string x.id] 41) := ⟨_, rfl⟩
  have hb0 : Below w.heap.size w wb := by rw [hwb]; exact (Below.refl _ _).alloc (Nat.le_refl _) _
  have hs0 : wb.heap.size = w.heap.size + 1 := by rw [hwb]; simp
  have hbx : Hid (∀ wx, Below (w.heap.size + 1) wb wx → ∀ o, wx.cell? ⟨w.heap.size, o, none⟩ = (#[.string x.ty, .string x.key, .string x.id] : Array Value)[o]?) := fun wx hx => by subst hwb; exact box_cells hx
  have Hc : Hid (_) := hc
  clear hc
  go_enter Try.func18, Try.ntmps18
  go_wp2_with fail
  rw [← hwb]
  clear hwb
  go_loopw [5] (fun i wr => ∃ k : Nat, k ≤ n ∧ i = .int .i64 k ∧ Hid (agTo L x k = true) ∧ Below (w.heap.size + 1) wb wr) (fun i _ => n - (intOf i).toNat)
  case atStart => exact ⟨0, Nat.zero_le _, rfl, rfl, Below.refl _ _⟩
  case round =>
    obtain ⟨k, hk, rfl, hto, hB⟩ := hrel
    have hbw := hb0.trans (hB.mono (by omega))
    have hso : w.heap.size + 1 ≤ wr.heap.size := by have := hB.size; omega
    by_cases hlt : k < n
    · obtain ⟨sa, sc, c1, hsl⟩ := (Hc.out k hlt).below hbw hb
      have c0 := hbx.out _ hB 0
      have c2 := hbx.out _ hB 1
      have c3 := hbx.out _ hB 2
      obtain ⟨f, hf⟩ : ∃ f, f = findB (L k) x.ty x.key := ⟨_, rfl⟩
      have HF : Hid (∀ W, Below wr.heap.size wr W → Calls Try.prog 31 #[.slice sa (L k).length sc, .string x.ty, .string x.key] W fun e w' => e = .returned (.string f) ∧ Below wr.heap.size wr w') := fun W hW => by
        rw [hf]
        exact (l4Find_sl x.ty x.key W (hsl.below hW)).mono fun e w' ⟨h1, h2⟩ => ⟨h1, hW.trans (h2.mono hW.size)⟩
      have hso' : Hid (∀ W, Below wr.heap.size wr W → W.cell? ⟨w.heap.size, 2, none⟩ = some (.string x.id)) := fun W hW => hbx.out _ (hB.trans (hW.mono hso)) 2
      have hfin : Hid (∀ W, Below wr.heap.size wr W → Below (w.heap.size + 1) wb W) := fun W hW => hB.trans (hW.mono hso)
      obtain ⟨bq, hbq⟩ : ∃ bq : Bool, bq = (f.toList != x.id.toList) := ⟨_, rfl⟩
      have hrf : Below wr.heap.size wr wr := Below.refl _ _
      have hwz : w.heap.size < wr.heap.size := by omega
      have hbr : b < wr.heap.size := by have := hb0.size; omega
      have Hf : Hid (f = findB (L k) x.ty x.key) := hf
      have y0 : wr.cell? ⟨w.heap.size, 0, none⟩ = some (.string x.ty) := c0
      have y1 : wr.cell? ⟨w.heap.size, 1, none⟩ = some (.string x.key) := c2
      have y2 : wr.cell? ⟨w.heap.size, 2, none⟩ = some (.string x.id) := c3
      have i0 : (0 : Int) ≤ (k : Int) := by omega
      have i1 : (k : Int) < (n : Int) := by omega
      have Hbq : Hid (bq = (f.toList != x.id.toList)) := hbq
      clear hf hsl c0 c2 c3 hbq
      go_wp2_with fail
      go_cut [23] from 12 to 24 (fun v wx => v = .bool bq ∧ Below wr.heap.size wr wx)
      case first =>
        go_region_held3 (fun W => W.cell? ⟨b, off + k, none⟩ = some (.slice sa (L k).length sc) ∧ W.cell? ⟨w.heap.size, 0, none⟩ = some (.string x.ty) ∧ W.cell? ⟨w.heap.size, 1, none⟩ = some (.string x.key) ∧ W.cell? ⟨w.heap.size, 2, none⟩ = some (.string x.id))
          (first | (with_reducible exact ⟨c1, y0, y1, y2⟩) | go_keep)
          ((go_at_call 31; refine (HF.out _ (by first | with_reducible exact hrf | with_reducible exact hrf.drew | with_reducible exact hrf.drew.drew | with_reducible exact hrf.drew.drew.drew)).mono ?_; rintro e w5 ⟨rfl, hb5⟩; have hk0 := (hb5.cell (by exact hbr)).trans c1; have hk1 := (hb5.cell (by exact hwz)).trans y0; have hk2 := (hb5.cell (by exact hwz)).trans y1; have hk3 := (hb5.cell (by exact hwz)).trans y2))
        all_goals (try go_wp2_with fail)
        all_goals go_meet
        all_goals (rw [Hbq.out]; exact ⟨rfl, by first | exact hb5 | exact hb5.drew | exact hb5.drew.drew⟩)
      case rest =>
        obtain ⟨rfl, hb5⟩ := hcut
        have hB5 := hfin.out _ hb5
        cases bq
        case false =>
          have Hto : Hid (agTo L x (k + 1) = true) := by
            have h1 := Hbq.out
            have h2 : (f.toList == x.id.toList) = true := by
              cases h3 : (f.toList == x.id.toList)
              · simp [bne, h3] at h1
              · rfl
            unfold Hid; rw [agTo, hto.out, ← Hf.out, h2]; rfl
          clear hto Hbq Hf
          go_wp2
          go_roundw
          case rel => first | exact ⟨k + 1, by omega, by go_num, Hto, hB5⟩ | ((repeat apply Exists.intro); exact ⟨⟨k + 1, by omega, by go_num, Hto, hB5⟩, rfl⟩)
          case measure => simp [intOf]; omega
        case true =>
          have Hto : Hid (Ending.returned (.bool false) = .returned (.bool (agTo L x n))) := by
            have h1 := Hbq.out
            have h2 : (f.toList == x.id.toList) = false := by
              cases h3 : (f.toList == x.id.toList)
              · rfl
              · simp [bne, h3] at h1
            have : agTo L x (k + 1) = false := by rw [agTo, ← Hf.out, h2, Bool.and_false]
            unfold Hid; rw [agTo_le L x n k hlt this]
          clear hto Hbq Hf
          go_wp2
          go_ret
          exact ⟨Hto.out, hb0.trans (hB5.mono (by omega))⟩
    · have hkn : k = n := by omega
      subst hkn
      have Hto : Hid (Ending.returned (.bool true) = .returned (.bool (agTo L x k))) := by unfold Hid; rw [hto.out]
      clear hto
      go_wp2
      go_ret
      exact ⟨Hto.out, hbw⟩
theorem ag_sl {a : Option Addr} {n cap : Nat} {L : Nat → List Ent} (x : Ent) (w : World) (h : SlEE w a n cap L) :
    Calls Try.prog 18 #[.slice a n cap, entV x] w fun e w' => e = .returned (.bool (agTo L x n)) ∧ Below w.heap.size w w' := by
  rcases h.cells with rfl | ⟨b, off, rfl, hb, hc⟩
  · exact ag_zero a cap L x w
  · exact ag_any b off n cap L x w (Nat.le_trans h.le h.max) hb hc
end Go.Proofs.Ytkfgolcjhiaacaa
