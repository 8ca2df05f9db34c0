import Derived.Test.YtihacnhmiopalaaDoorEvIT
import Derived.Test.YtihacnhmiopalaaDoorValIZT
namespace Go.Proofs.YtihacnhmiopalaaDoor
open Go.RowKit
section
variable (id sd ty key val : ByteArray) (st : Bool) (tm : Int) (pa : Option Addr) (np cp : Nat) (aa : Option Addr) (na ca : Nat) (ga : Option Addr) (ng cg : Nat) (Pv Av M : Nat -> ByteArray) (L : Nat -> Int) (w : World)
theorem txtI_bad (hid : id.size <= maxLen) (hsd : sd.size <= maxLen) (hty : ty.size <= maxLen) (hkey : key.size <= maxLen) (hval : val.size <= maxLen)
  (hp : SlS w pa np cp Pv) (ha : SlS w aa na ca Av) (hg : SlG w ga ng cg M L) (hne : evCode id sd ty key val st tm np na ng Pv Av M L ≠ 0) :
  Calls Tryd.prog 6 #[evV id sd ty key val st tm pa np cp aa na ca ga ng cg] w fun e w' =>
   e = .returned (.tuple #[.string ByteArray.empty, .bool false]) ∧ Below w.heap.size w w' := by
 have hb0 : ∀ o, Below w.heap.size w (w.alloc o) := fun o => (Below.refl _ _).alloc (Nat.le_refl _) _
 have hev : Hid (∀ W, Below w.heap.size w W -> Calls Tryd.prog 7 #[evV id sd ty key val st tm pa np cp aa na ca ga ng cg] W fun e w' =>
   e = .returned (.int .i64 (evCode id sd ty key val st tm np na ng Pv Av M L)) ∧ Below W.heap.size W w') := fun W hW =>
  evI_any id sd ty key val st tm pa np cp aa na ca ga ng cg Pv Av M L W hid hsd hty hkey hval (hp.below hW) (ha.below hW) (hg.below hW)
 generalize evCode id sd ty key val st tm np na ng Pv Av M L = c at hne hev
 go_enter Tryd.func6, Tryd.ntmps6
 go_wp2_with fail
 refine (hev.out _ (hb0 _)).mono ?_
 rintro e w1 ⟨rfl, hb1⟩
 go_wp2
 go_ret2
 exact ⟨rfl, (hb0 _).trans (hb1.mono (by simp))⟩
set_option maxRecDepth 100000 in
set_option maxHeartbeats 3200000 in
theorem txtI_good (hp : SlS w pa np cp Pv) (ha : SlS w aa na ca Av) (hg : SlG w ga ng cg M L) (hB : Bds id sd ty key val tm np na ng Pv Av M L) (ht : Tab w)
    (hev : Hid (∀ W, W = w.alloc (.cells (evC id sd ty key val st tm pa np cp aa na ca ga ng cg) 26) -> Calls Tryd.prog 7 #[evV id sd ty key val st tm pa np cp aa na ca ga ng cg] W fun e w' => e = .returned (.int .i64 0) ∧ Below W.heap.size W w')) :
    Calls Tryd.prog 6 #[evV id sd ty key val st tm pa np cp aa na ca ga ng cg] w fun e w' =>
      e = .returned (.tuple #[.string (evText id sd ty key val st tm np na ng Pv Av M L), .bool true]) ∧ Below w.heap.size w w' := by
  have hb0 : ∀ o, Below w.heap.size w (w.alloc o) := fun o => (Below.refl _ _).alloc (Nat.le_refl _) _
  go_enter Tryd.func6, Tryd.ntmps6
  go_wp2_with fail
  refine (hev.out _ rfl).mono ?_
  rintro e w1 ⟨rfl, hb1⟩
  have hB1 : Below (w.heap.size + 1) (w.alloc (.cells (evC id sd ty key val st tm pa np cp aa na ca ga ng cg) 26)) w1 := hb1.mono (by simp)
  have hw1 : Below w.heap.size w w1 := (hb0 _).trans (hb1.mono (by simp))
  clear hb1 hev
  have hcl := box_cells hB1
  have c0 : w1.cell? ⟨w.heap.size, 0, none⟩ = some (.string id) := hcl 0
  have c1 : w1.cell? ⟨w.heap.size, 1, none⟩ = some (.string sd) := hcl 1
  have c2 : w1.cell? ⟨w.heap.size, 2, none⟩ = some (.string ty) := hcl 2
  have c3 : w1.cell? ⟨w.heap.size, 3, none⟩ = some (.bool st) := hcl 3
  have c4 : w1.cell? ⟨w.heap.size, 4, none⟩ = some (.string key) := hcl 4
  have c5 : w1.cell? ⟨w.heap.size, 5, none⟩ = some (.int .i64 tm) := hcl 5
  have c6 : w1.cell? ⟨w.heap.size, 6, none⟩ = some (.slice pa np cp) := hcl 6
  have c7 : w1.cell? ⟨w.heap.size, 7, none⟩ = some (.slice aa na ca) := hcl 7
  have c8 : w1.cell? ⟨w.heap.size, 8, none⟩ = some (.string val) := hcl 8
  have c9 : w1.cell? ⟨w.heap.size, 9, none⟩ = some (.slice ga ng cg) := hcl 9
  have hsz1 : w.heap.size + 1 <= w1.heap.size := by simpa using hB1.size
  clear hcl
  go_wp2_with fail
  go_region_held3 (fun W => W.cell? ⟨w.heap.size, 0, none⟩ = some (.string id) ∧ W.cell? ⟨w.heap.size, 1, none⟩ = some (.string sd) ∧ W.cell? ⟨w.heap.size, 2, none⟩ = some (.string ty) ∧ W.cell? ⟨w.heap.size, 3, none⟩ = some (.bool st) ∧ W.cell? ⟨w.heap.size, 4, none⟩ = some (.string key) ∧ W.cell? ⟨w.heap.size, 5, none⟩ = some (.int .i64 tm) ∧ W.cell? ⟨w.heap.size, 6, none⟩ = some (.slice pa np cp) ∧ W.cell? ⟨w.heap.size, 7, none⟩ = some (.slice aa na ca) ∧ W.cell? ⟨w.heap.size, 8, none⟩ = some (.string val) ∧ W.cell? ⟨w.heap.size, 9, none⟩ = some (.slice ga ng cg))
          (first
            | go_keep
            | (go_split_ands
               refine ⟨?_, ?_, ?_, ?_, ?_, ?_, ?_, ?_, ?_, ?_⟩ <;> (rw [hb2.cell (by simp; omega)]; assumption))
            | (go_split_ands
               refine ⟨?_, ?_, ?_, ?_, ?_, ?_, ?_, ?_, ?_, ?_⟩ <;> (rw [hb3.cell (by simp; omega)]; assumption))
            | (go_split_ands
               refine ⟨?_, ?_, ?_, ?_, ?_, ?_, ?_, ?_, ?_, ?_⟩ <;> (rw [hb4.cell (by simp; omega)]; assumption))
            | (go_split_ands
               refine ⟨?_, ?_, ?_, ?_, ?_, ?_, ?_, ?_, ?_, ?_⟩ <;> (rw [hb5.cell (by simp; omega)]; assumption)))
          (first
            | (go_at_call 17; go_fit (keyI_any st key _ hB.hkey); rintro e w' ⟨rfl, rfl⟩)
            | (go_at_call 18; refine (itoa_any tm _ (by have := hB.t0; omega) hB.t1 (ht.below (by first | exact hw1 | exact hw1.drew | exact hw1.drew.drew))).mono ?_; rintro e w2 ⟨rfl, hb2⟩; have hBw2 : Below w1.heap.size w1 w2 := Below.trans (by first | exact Below.refl _ _ | exact (Below.refl _ _).drew | exact (Below.refl _ _).drew.drew) hb2; have hAw2 := hw1.trans (hBw2.mono hw1.size); have hsw2 : w.heap.size + 1 <= w2.heap.size := Nat.le_trans hsz1 hBw2.size)
            | (go_at_call 19; refine (refsTI_sl _ (hp.below (by first | exact hAw2 | exact hAw2.drew | exact hAw2.drew.drew)) hB.hnp hB.p).mono ?_; rintro e w3 ⟨rfl, hb3⟩; have hBw3 : Below w2.heap.size w2 w3 := Below.trans (by first | exact Below.refl _ _ | exact (Below.refl _ _).drew | exact (Below.refl _ _).drew.drew) hb3; have hAw3 := hAw2.trans (hBw3.mono hAw2.size); have hsw3 : w.heap.size + 1 <= w3.heap.size := Nat.le_trans hsw2 hBw3.size)
            | (go_at_call 19; refine (refsTI_sl _ (ha.below (by first | exact hAw3 | exact hAw3.drew | exact hAw3.drew.drew)) hB.hna hB.a).mono ?_; rintro e w4 ⟨rfl, hb4⟩; have hBw4 : Below w3.heap.size w3 w4 := Below.trans (by first | exact Below.refl _ _ | exact (Below.refl _ _).drew | exact (Below.refl _ _).drew.drew) hb4; have hAw4 := hAw3.trans (hBw4.mono hAw3.size); have hsw4 : w.heap.size + 1 <= w4.heap.size := Nat.le_trans hsw3 hBw4.size)
            | (go_at_call 20; refine (valI_sl val _ hB.hng hB.m hB.l0 hB.l1 (hg.below (by first | exact hAw4 | exact hAw4.drew | exact hAw4.drew.drew)) (ht.below (by first | exact hAw4 | exact hAw4.drew | exact hAw4.drew.drew))).mono ?_; rintro e w5 ⟨rfl, hb5⟩; have hBw5 : Below w4.heap.size w4 w5 := Below.trans (by first | exact Below.refl _ _ | exact (Below.refl _ _).drew | exact (Below.refl _ _).drew.drew) hb5; have hAw5 := hAw4.trans (hBw5.mono hAw4.size); have hsw5 : w.heap.size + 1 <= w5.heap.size := Nat.le_trans hsw4 hBw5.size))
  go_wp2_with fail
  refine (join_sl ⟨#[32]⟩ _ hB.text (eight_sl _ _ _ _ _ _ _ _ _ _ (fun i => hB.eight i)) (by decide)).mono ?_
  rintro e w6 ⟨rfl, hb6⟩
  have hA6 := (hAw5.alloc hAw5.size _).trans (hb6.mono (by simp; have := hAw5.size; omega))
  go_wp2
  go_ret2
  exact ⟨rfl, hA6⟩
theorem txtI_any (hid : id.size <= maxLen) (hsd : sd.size <= maxLen) (hty : ty.size <= maxLen) (hkey : key.size <= maxLen) (hval : val.size <= maxLen)
  (hp : SlS w pa np cp Pv) (ha : SlS w aa na ca Av) (hg : SlG w ga ng cg M L) (ht : Tab w) :
  Calls Tryd.prog 6 #[evV id sd ty key val st tm pa np cp aa na ca ga ng cg] w fun e w' =>
   e = .returned (.tuple #[.string (txT id sd ty key val st tm np na ng Pv Av M L), .bool (txB id sd ty key val st tm np na ng Pv Av M L)]) ∧ Below w.heap.size w w' := by
 by_cases h0 : evCode id sd ty key val st tm np na ng Pv Av M L = 0
 ·rw [txT, txB, if_pos h0, if_pos h0]
  refine txtI_good id sd ty key val st tm pa np cp aa na ca ga ng cg Pv Av M L w hp ha hg (evCode_bds h0) ht (fun W hW => ?_)
  have hb : Below w.heap.size w W := by subst hW; exact (Below.refl _ _).alloc (Nat.le_refl _) _
  have := evI_any id sd ty key val st tm pa np cp aa na ca ga ng cg Pv Av M L W hid hsd hty hkey hval (hp.below hb) (ha.below hb) (hg.below hb)
  rw [h0] at this
  exact this
 ·rw [txT, txB, if_neg h0, if_neg h0]
  exact txtI_bad id sd ty key val st tm pa np cp aa na ca ga ng cg Pv Av M L w hid hsd hty hkey hval hp ha hg h0
end
end Go.Proofs.YtihacnhmiopalaaDoor
