/-
  spec's l5Level and LevelOf.
-/
import Derived.Test.YtepgmgkdhklfjaaGreatLvT
namespace Go.Proofs.YtepgmgkdhklfjaaGreat
open Go.RowKit

set_option maxRecDepth 100000 in
set_option maxHeartbeats 4000000 in
theorem l5L_sl {a : Option Addr} {n cap : Nat} {E : Nat → Ev} {sa : Option Addr} {sc : Nat} {l : List Ent} (user : ByteArray) (w : World) (h : SlV w a n cap E) (hs : SlE w sa sc l) :
    Calls Tryz.prog 16 #[.agg #[.slice a n cap], .slice sa l.length sc, .string user] w fun e w' => e = .returned (.int .i64 (lvV E n l user)) ∧ Below w.heap.size w w' := by
  have hb0 : ∀ o, Below w.heap.size w (w.alloc o) := fun o => (Below.refl _ _).alloc (Nat.le_refl _) _
  have HL : Hid (lvV E n l user = if 0 ≤ atV E n l tPow tNil then byG (E (atV E n l tPow tNil).toNat) user else if 0 ≤ atV E n l tCre tNil ∧ ((E (atV E n l tCre tNil).toNat).sd.toList == user.toList) = true then 100 else 0) := rfl
  have HP : Hid (∀ W, Below w.heap.size w W → Calls Tryz.prog 31 #[.agg #[.slice a n cap], .slice sa l.length sc, .string tPow, .string tNil] W (E5Post W E (atV E n l tPow tNil))) := fun W hW => l5E_sl tPow tNil W (h.below hW) (hs.below hW)
  have HC : Hid (∀ W, Below w.heap.size w W → Calls Tryz.prog 31 #[.agg #[.slice a n cap], .slice sa l.length sc, .string tCre, .string tNil] W (E5Post W E (atV E n l tCre tNil))) := fun W hW => l5E_sl tCre tNil W (h.below hW) (hs.below hW)
  generalize atV E n l tPow tNil = pp at *
  generalize atV E n l tCre tNil = pc at *
  generalize lvV E n l user = v at *
  clear h hs
  go_enter Tryz.func16, Tryz.ntmps16
  go_wp2_with fail
  refine (HP.out _ (hb0 _)).mono ?_
  rintro e w1 ⟨hb1, hq⟩
  have hB1 := hb1.mono (B' := w.heap.size + 1) (by simp)
  have hw1 := (hb0 _).trans (hb1.mono (by simp))
  have hcl := box_cells hB1 0
  have hs1 : w.heap.size + 1 ≤ w1.heap.size := by simpa using hB1.size
  rcases hq with ⟨hneg, rfl⟩ | ⟨q, rfl, pa, cp, aa, ca, ga, cg, rfl, hok⟩
  · have Hv : Hid (v = if 0 ≤ pc ∧ ((E pc.toNat).sd.toList == user.toList) = true then 100 else 0) := by unfold Hid; rw [HL.out, if_neg (by omega)]
    have hA1 : ∀ o, Below (w.heap.size + 1) (w.alloc (.cells #[.slice a n cap] 31)) (w1.alloc o) := fun o => hB1.alloc hs1 _
    have hcl1 : ∀ o, (w1.alloc o).cell? ⟨w.heap.size, 0, none⟩ = some (.slice a n cap) := fun o => box_cells (hA1 o) 0
    have hwA : ∀ o, Below w.heap.size w (w1.alloc o) := fun o => hw1.alloc hw1.size _
    clear HL hb1
    go_wp2_with fail
    refine (HC.out _ (hwA _)).mono ?_
    rintro e w2 ⟨hb2, hq2⟩
    have hw2 := (hwA _).trans (hb2.mono (hwA _).size)
    rcases hq2 with ⟨hneg2, rfl⟩ | ⟨c, rfl, pa, cp, aa, ca, ga, cg, rfl, hok⟩
    · have Hz : Hid (v = 0) := by unfold Hid; rw [Hv.out, if_neg (by omega)]
      clear Hv
      go_wp2
      go_ret
      exact ⟨ret_int Hz.out.symm, hw2.alloc hw2.size _⟩
    · cases hsd : ((E c).sd.toList == user.toList)
      case true =>
        have Hz : Hid (v = 100) := by unfold Hid; rw [Hv.out, Int.toNat_natCast, if_pos ⟨by omega, hsd⟩]
        clear Hv hok
        generalize E c = ev at *
        go_wp2
        go_ret
        exact ⟨ret_int Hz.out.symm, hw2.alloc hw2.size _⟩
      case false =>
        have Hz : Hid (v = 0) := by unfold Hid; rw [Hv.out, Int.toNat_natCast, if_neg (fun hx => by rw [hsd] at hx; cases hx.2)]
        clear Hv hok
        generalize E c = ev at *
        go_wp2
        go_ret
        exact ⟨ret_int Hz.out.symm, hw2.alloc hw2.size _⟩
  · have Hv : Hid (v = byG (E q) user) := by unfold Hid; rw [HL.out, if_pos (by omega), Int.toNat_natCast]
    have hwA : ∀ o, Below w1.heap.size w1 (w1.alloc o) := fun o => (Below.refl _ _).alloc (Nat.le_refl _) _
    have HB : Hid (∀ W, Below w1.heap.size w1 W → Calls Tryz.prog 32 #[.slice ga (E q).ng cg, .string user] W fun e w' => e = .returned (.int .i64 (byG (E q) user)) ∧ w' = W) := fun W hW => l5By_sl user W (hok.hg.below hW)
    clear HL hok hb1
    generalize E q = ev at *
    go_wp2_with fail
    refine (HB.out _ (hwA _)).mono ?_
    rintro e w2 ⟨rfl, rfl⟩
    go_wp2
    go_ret
    exact ⟨ret_int Hv.out.symm, hw1.alloc hw1.size _⟩

set_option maxRecDepth 100000 in
set_option maxHeartbeats 2000000 in
theorem lvS_sl {a : Option Addr} {n cap : Nat} {E : Nat → Ev} {sa : Option Addr} {sc : Nat} {l : List Ent} (user : ByteArray) (w : World) (h : SlV w a n cap E) (hs : SlE w sa sc l) :
    Calls Tryz.prog 6 #[.agg #[.slice a n cap], .slice sa l.length sc, .string user] w fun e w' => e = .returned (.int .i64 (lvR E n l user)) ∧ Below w.heap.size w w' := by
  have hb0 : ∀ o, Below w.heap.size w (w.alloc o) := fun o => (Below.refl _ _).alloc (Nat.le_refl _) _
  have HR : Hid (lvR E n l user = if roomTo E n && fitB E n l then lvV E n l user else 0) := rfl
  cases hr : roomTo E n
  case false =>
    have Hz : Hid (lvR E n l user = 0) := by unfold Hid; rw [HR.out, hr]; rfl
    go_enter Tryz.func6, Tryz.ntmps6
    go_wp2_with (go_at_call 14; refine (roomS_sl _ (h.below (hb0 _))).mono ?_; rintro e w1 ⟨rfl, hb1⟩; rw [hr])
    go_ret
    exact ⟨ret_int Hz.out.symm, (hb0 _).trans (hb1.mono (by simp))⟩
  case true =>
    cases hf : fitB E n l
    case false =>
      have Hz : Hid (lvR E n l user = 0) := by unfold Hid; rw [HR.out, hr, hf]; rfl
      go_enter Tryz.func6, Tryz.ntmps6
      go_wp2_with (first
        | (go_at_call 14; refine (roomS_sl _ (h.below (hb0 _))).mono ?_; rintro e w1 ⟨rfl, hb1⟩; rw [hr]; have hB1 := hb1.mono (B' := w.heap.size + 1) (by simp); have hw1 := (hb0 _).trans (hb1.mono (by simp)); have hcl := box_cells hB1 0)
        | (go_at_call 15; refine (l5F_sl _ (h.below hw1) (hs.below hw1)).mono ?_; rintro e w2 ⟨rfl, hb2⟩; rw [hf]))
      go_ret
      exact ⟨ret_int Hz.out.symm, hw1.trans (hb2.mono hw1.size)⟩
    case true =>
      have Hz : Hid (lvR E n l user = lvV E n l user) := by unfold Hid; rw [HR.out, hr, hf]; rfl
      go_enter Tryz.func6, Tryz.ntmps6
      go_wp2_with fail
      refine (roomS_sl _ (h.below (hb0 _))).mono ?_
      rintro e w1 ⟨rfl, hb1⟩
      rw [hr]
      have hB1 := hb1.mono (B' := w.heap.size + 1) (by simp)
      have hw1 := (hb0 _).trans (hb1.mono (by simp))
      have hcl := box_cells hB1 0
      go_wp2_with fail
      refine (l5F_sl _ (h.below hw1) (hs.below hw1)).mono ?_
      rintro e w2 ⟨rfl, hb2⟩
      rw [hf]
      have hs1 : w.heap.size + 1 ≤ w1.heap.size := by simpa using hB1.size
      have hB2 := hB1.trans (hb2.mono hs1)
      have hw2 := hw1.trans (hb2.mono hw1.size)
      have hcl2 := box_cells hB2 0
      go_wp2_with fail
      refine (l5L_sl user _ (h.below hw2) (hs.below hw2)).mono ?_
      rintro e w3 ⟨rfl, hb3⟩
      go_wp2
      go_ret
      exact ⟨ret_int Hz.out.symm, hw2.trans (hb3.mono hw2.size)⟩
end Go.Proofs.YtepgmgkdhklfjaaGreat
