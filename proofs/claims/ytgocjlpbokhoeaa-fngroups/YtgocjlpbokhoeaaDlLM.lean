import Derived.Test.YtgocjlpbokhoeaaStS
import Derived.Test.YtgocjlpbokhoeaaOwnM
import Derived.Test.YtgocjlpbokhoeaaDlPM
namespace Go.Proofs.Ytgocjlpbokhoeaa
open Go.RowKit
theorem newE (w W : World) (hW : w.heap.size ≤ W.heap.size) : OwnE (W.alloc (.cells #[] 38)) w.heap.size (.slice (some ⟨W.heap.size, 0, none⟩) 0 0) [] :=
  ⟨rfl, Or.inr ⟨W.heap.size, 0, #[], rfl, hW, by show (W.heap.push _)[W.heap.size]? = _; simp, Nat.le_refl _, by decide, rfl, rfl⟩⟩
set_option maxHeartbeats 1000000 in
theorem changes_sl {a : Option Addr} {cap : Nat} {l : List Ent} (w : World) (h : SlE w a cap l) :
    Calls Try.prog 40 #[.slice a l.length cap] w fun e w' => e = .returned (.bool (chB l)) ∧ Below w.heap.size w w' := by
  have hle := Nat.le_trans h.le h.max
  unfold maxLen at hle
  by_cases h6 : l.length ≤ 600
  · have hv : Hid (chB l = ordB l) := by unfold Hid chB; rw [decide_eq_true h6]; rfl
    go_enter Try.func40, Try.ntmps40
    go_wp2_with fail
    refine (inOrder_sl _ h).mono ?_
    rintro e w1 ⟨rfl, hb1⟩
    go_wp2
    go_ret
    exact ⟨by rw [hv.out]; rfl, hb1⟩
  · have hv : Hid (chB l = false) := by unfold Hid chB; rw [decide_eq_false h6]; rfl
    go_enter Try.func40, Try.ntmps40
    go_wp2
    go_ret
    exact ⟨by rw [hv.out]; rfl, Below.refl _ _⟩
end Go.Proofs.Ytgocjlpbokhoeaa
namespace Go.Proofs.Ytgocjlpbokhoeaa
open Go.RowKit
set_option maxRecDepth 100000 in
set_option maxHeartbeats 2000000 in
theorem l4Delta_sl {xa : Option Addr} {xc : Nat} {a : List Ent} {ya : Option Addr} {yc : Nat} {b : List Ent} (w : World) (hl : a.length ≤ 100000) (hbl : b.length ≤ 100000) (h : SlE w xa xc a) (hb : SlE w ya yc b) :
    Calls Try.prog 25 #[.slice xa a.length xc, .slice ya b.length yc] w fun e w' => ∃ v, e = .returned v ∧ OwnE w' w.heap.size v (dl2 a b b.length) ∧ Below w.heap.size w w' := by
  have Hok : Hid (AllOk a) := h.ok
  have Hbok : Hid (AllOk b) := hb.ok
  have hn0 := newE w w (Nat.le_refl _)
  go_enter Try.func25, Try.ntmps25
  go_wp2_with fail
  go_loopw [5, 6] (fun v i wr => ∃ k : Nat, k ≤ a.length ∧ i = .int .i64 k ∧ OwnE wr w.heap.size v (dl1 a b k) ∧ Below w.heap.size w wr) (fun _ i _ => a.length - (intOf i).toNat)
  case atStart => exact ⟨0, Nat.zero_le _, rfl, hn0, (Below.refl _ _).alloc (Nat.le_refl _) _⟩
  case round =>
    clear hn0
    obtain ⟨k, hk, rfl, ho, hbel⟩ := hrel
    obtain ⟨ga, gc, e1, hsl⟩ := ho.sl (dl1_ok Hok.out Hbok.out k hk).at
    subst e1
    by_cases hlt : k < a.length
    · have hpl := dl1_len a b k
      have hfs : Hid ((findB b (eAt a k).ty (eAt a k).key).size ≤ maxLen) := findB_ok Hbok.out _ _
      rcases h.cells with rfl | ⟨B, off, rfl, hB, c1, c2, c3⟩
      · exact absurd hlt (Nat.not_lt_zero _)
      have a1 : wr.cell? ⟨B, off + k * 3, none⟩ = some (.string (eAt a k).ty) := (hbel.cell (by exact hB)).trans (c1 k hlt)
      have a2 : wr.cell? ⟨B, off + k * 3 + 1, none⟩ = some (.string (eAt a k).key) := (hbel.cell (by exact hB)).trans (c2 k hlt)
      have a3 : wr.cell? ⟨B, off + k * 3 + 2, none⟩ = some (.string (eAt a k).id) := (hbel.cell (by exact hB)).trans (c3 k hlt)
      have hBr : B < wr.heap.size := Nat.lt_of_lt_of_le hB hbel.size
      have Hnext : Hid (dl1 a b (k + 1) = if (findB b (eAt a k).ty (eAt a k).key).toList == (eAt a k).id.toList then dl1 a b k else setL (dl1 a b k) ⟨(eAt a k).ty, (eAt a k).key, findB b (eAt a k).ty (eAt a k).key⟩ true) := rfl
      have Hok1 : Hid (AllOk (dl1 a b (k + 1))) := dl1_ok Hok.out Hbok.out (k + 1) hlt
      clear c1 c2 c3
      go_wp2_with fail
      go_region_with (go_at_call 45; refine (l4Find_sl (eAt a k).ty (eAt a k).key _ (hb.below (by first | exact hbel | exact (hbel).drew | exact (hbel).drew.drew | exact (hbel).drew.drew.drew))).mono ?_; rintro e w1 ⟨rfl, hb1'⟩; have hb1 : Below wr.heap.size wr w1 := Below.trans (by first | exact Below.refl wr.heap.size wr | exact (Below.refl wr.heap.size wr).drew | exact (Below.refl wr.heap.size wr).drew.drew | exact (Below.refl wr.heap.size wr).drew.drew.drew) hb1')
      all_goals
        have b1 := (hb1.cell (by exact hBr)).trans a1
        have b2 := (hb1.cell (by exact hBr)).trans a2
        have b3 := (hb1.cell (by exact hBr)).trans a3
        have hw1 := hbel.trans (hb1.mono hbel.size)
        have ho1 := ho.below hb1
        have hsl1 := hsl.below hb1
        clear a1 a2 a3
        generalize findB b (eAt a k).ty (eAt a k).key = id at *
        cases he : (id.toList == (eAt a k).id.toList)
        case true =>
          rw [he, if_pos rfl] at Hnext
          go_wp2
          go_roundw
          case rel => exact ⟨k + 1, by omega, by go_num, by rw [Hnext.out]; exact ho1, hw1⟩
          case measure => simp [intOf]; omega
        case false =>
          rw [he] at Hnext
          simp only [Bool.false_eq_true, if_false] at Hnext
          go_wp2_with fail
          go_region_with (go_at_call 19; refine (set_sl ⟨(eAt a k).ty, (eAt a k).key, id⟩ true _ (by omega) (hsl1.below (by first | exact Below.refl w1.heap.size w1 | exact (Below.refl w1.heap.size w1).drew | exact (Below.refl w1.heap.size w1).drew.drew | exact (Below.refl w1.heap.size w1).drew.drew.drew))).mono ?_; rintro e w2 ⟨v2, rfl, ho2, hb2'⟩; have hb2 : Below w1.heap.size w1 w2 := Below.trans (by first | exact Below.refl w1.heap.size w1 | exact (Below.refl w1.heap.size w1).drew | exact (Below.refl w1.heap.size w1).drew.drew | exact (Below.refl w1.heap.size w1).drew.drew.drew) hb2'; rw [← Hnext.out] at ho2; obtain ⟨ga2, gc2, e2, _⟩ := ho2.sl Hok1.out.at; subst e2)
          all_goals
            go_wp2
            go_roundw
            case rel => exact ⟨k + 1, by omega, by go_num, ho2.base_le (by exact hw1.size), hw1.trans (hb2.mono hw1.size)⟩
            case measure => simp [intOf]; omega
    · have hkn : a.length = k := by omega
      subst hkn
      have ho9 : OwnE wr w.heap.size (.slice ga (dl1 a b a.length).length gc) (dl2 a b 0) := ho
      have hbel9 := hbel
      clear ho hbel hsl hk hlt
      go_wp2_with fail
      go_loopw [5, 8] (fun v i wr => ∃ k : Nat, k ≤ b.length ∧ i = .int .i64 k ∧ OwnE wr w.heap.size v (dl2 a b k) ∧ Below w.heap.size w wr) (fun _ i _ => b.length - (intOf i).toNat)
      case atStart => exact ⟨0, Nat.zero_le _, rfl, ho9, hbel9⟩
      case round =>
        clear ho9 hbel9
        obtain ⟨k, hk, rfl, ho, hbel⟩ := hrel
        obtain ⟨ga, gc, e1, hsl⟩ := ho.sl (dl2_ok Hok.out Hbok.out k hk).at
        subst e1
        by_cases hlt : k < b.length
        · have hpl := dl2_len a b k
          rcases hb.cells with rfl | ⟨B, off, rfl, hB, c1, c2, c3⟩
          · exact absurd hlt (Nat.not_lt_zero _)
          have a1 : wr.cell? ⟨B, off + k * 3, none⟩ = some (.string (eAt b k).ty) := (hbel.cell (by exact hB)).trans (c1 k hlt)
          have a2 : wr.cell? ⟨B, off + k * 3 + 1, none⟩ = some (.string (eAt b k).key) := (hbel.cell (by exact hB)).trans (c2 k hlt)
          have a3 : wr.cell? ⟨B, off + k * 3 + 2, none⟩ = some (.string (eAt b k).id) := (hbel.cell (by exact hB)).trans (c3 k hlt)
          have hBr : B < wr.heap.size := Nat.lt_of_lt_of_le hB hbel.size
          have Hnext : Hid (dl2 a b (k + 1) = if posI a (eAt b k) < 0 then setL (dl2 a b k) (eAt b k) true else dl2 a b k) := rfl
          have Hok1 : Hid (AllOk (dl2 a b (k + 1))) := dl2_ok Hok.out Hbok.out (k + 1) hlt
          have hpb := posI_bd a (eAt b k)
          clear c1 c2 c3
          go_wp2_with fail
          refine (at_sl (eAt b k) _ (h.below hbel)).mono ?_
          rintro e w1 ⟨rfl, hb1⟩
          have b1 := (hb1.cell (by exact hBr)).trans a1
          have b2 := (hb1.cell (by exact hBr)).trans a2
          have b3 := (hb1.cell (by exact hBr)).trans a3
          have hw1 := hbel.trans (hb1.mono hbel.size)
          have ho1 := ho.below hb1
          have hsl1 := hsl.below hb1
          clear a1 a2 a3
          generalize posI a (eAt b k) = pz at *
          by_cases hz : pz < 0
          · rw [if_pos hz] at Hnext
            go_wp2_with fail
            refine (set_sl (eAt b k) true _ (by omega) hsl1).mono ?_
            rintro e w2 ⟨v2, rfl, ho2, hb2⟩
            rw [← Hnext.out] at ho2
            obtain ⟨ga2, gc2, e2, _⟩ := ho2.sl Hok1.out.at
            subst e2
            go_wp2
            refine ⟨⟨k + 1, by omega, by go_num, ho2.base_le hw1.size, hw1.trans (hb2.mono hw1.size)⟩, by simp [intOf]; omega⟩
          · rw [if_neg hz] at Hnext
            go_wp2
            refine ⟨⟨k + 1, by omega, by go_num, by rw [Hnext.out]; exact ho1, hw1⟩, by simp [intOf]; omega⟩
        · have hkn : b.length = k := by omega
          subst hkn
          go_wp2
          go_ret
          exact ⟨_, rfl, ho, hbel⟩
end Go.Proofs.Ytgocjlpbokhoeaa
