/-
  impl's isFor, hasEntry, fits.
-/
import Derived.Test.YtepgmgkdhklfjaaGreatLvP
import Derived.Test.YtepgmgkdhklfjaaGreatRmS
import Derived.Test.YtepgmgkdhklfjaaGreatInO
import Derived.Deep.QuietTactic
import Derived.BigQuiet
import Derived.Deep.RegionHeld3
import Derived.Deep.DeepCutAuto
namespace Go.Proofs.YtepgmgkdhklfjaaGreat
open Go.RowKit Go.Maps Go.ChangeMaps

theorem belowN {B : Nat} {w w' : World} (h : Below B w w') (n : Nat) : Below B w (w'.drewN n) := h.trans ⟨rfl, rfl, rfl, Nat.le_refl _, fun _ _ => rfl⟩
/-- the event at place q is one of the slot x. -/
def forB (E : Nat → Ev) (q : Nat) (x : Ent) : Bool := (E q).st && (((E q).ty.toList == x.ty.toList) && ((E q).key.toList == x.key.toList))

set_option maxRecDepth 100000 in
set_option maxHeartbeats 2000000 in
theorem isFor_any {a : Option Addr} {n cap : Nat} {E : Nat → Ev} {mm : Option Nat} {ra : Option Addr} {nr rc q : Nat} (x : Ent) (w : World) (h : SlV w a n cap E) (hq : q < n) :
    Calls Tryz.prog 57 #[.agg #[.slice a n cap, .map mm, .slice ra nr rc], .int .i64 (q : Int), slotV x] w fun e w' => e = .returned (.bool (forB E q x)) ∧ Below w.heap.size w w' := by
  have hnn := Nat.le_trans h.le h.max
  unfold maxLen at hnn
  rcases h.cells with h0 | ⟨b, off, rfl, hb, hc⟩
  · omega
  obtain ⟨_, _, _, _, _, _, hec, _⟩ := hc q hq
  obtain ⟨wb, hwb⟩ : ∃ wb, wb = (w.alloc (.cells #[.slice (some ⟨b, off, none⟩) n cap, .map mm, .slice ra nr rc] 51)).alloc (.cells #[.string x.ty, .string x.key] 56) := ⟨_, rfl⟩
  have hb0 : Below w.heap.size w wb := by rw [hwb]; exact ((Below.refl _ _).alloc (Nat.le_refl _) _).alloc (by simp) _
  have hg0 : wb.cell? ⟨w.heap.size, 0, none⟩ = some (.slice (some ⟨b, off, none⟩) n cap) := by rw [hwb, World.cell?_alloc_past _ _ _ (by simp)]; exact World.cell?_alloc_at _ _ _ _ rfl
  have hx0 : wb.cell? ⟨w.heap.size + 1, 0, none⟩ = some (.string x.ty) := by rw [hwb]; exact World.cell?_alloc_at _ _ _ _ (by simp)
  have hx1 : wb.cell? ⟨w.heap.size + 1, 1, none⟩ = some (.string x.key) := by rw [hwb]; exact World.cell?_alloc_at _ _ _ _ (by simp)
  have e2 := (hb0.cell (by exact hb)).trans hec.c2
  have e3 := (hb0.cell (by exact hb)).trans hec.c3
  have e4 := (hb0.cell (by exact hb)).trans hec.c4
  have Hv : Hid (forB E q x = ((E q).st && (((E q).ty.toList == x.ty.toList) && ((E q).key.toList == x.key.toList)))) := rfl
  have hq0 : (0 : Int) ≤ (q : Int) := by omega
  have hq1 : (q : Int) < (n : Int) := by omega
  clear hc hec h
  generalize (E q).st = st at *
  generalize (E q).ty = ty at *
  generalize (E q).key = key at *
  obtain ⟨bt, hbt⟩ : ∃ bt, bt = (ty.toList == x.ty.toList) := ⟨_, rfl⟩
  obtain ⟨bk, hbk⟩ : ∃ bk, bk = (key.toList == x.key.toList) := ⟨_, rfl⟩
  have HV : Hid (forB E q x = (st && (bt && bk))) := by rw [hbt, hbk]; exact Hv
  have ht1 : (ty.toList == x.ty.toList) = bt := hbt.symm
  have hk1 : (key.toList == x.key.toList) = bk := hbk.symm
  clear Hv hbt hbk
  cases st <;> cases bt <;> cases bk
  all_goals
    have HN : Hid (forB E q x = _) := HV.out
    clear HV
    go_enter Tryz.func57, Tryz.ntmps57
    go_wp2_with fail
    try rw [← hwb]
    clear hwb
    go_quiet (fail)
    all_goals
      go_wp2
      go_ret
      exact ⟨by rw [HN.out]; rfl, belowN hb0 _⟩

theorem fit1_for (E : Nat → Ev) (n : Nat) (x : Ent) {q : Nat} (h : posV E n x.id = (q : Int)) : fit1 E n x = forB E q x := by
  unfold fit1 forB
  rw [h, Int.toNat_natCast, decide_eq_true (by omega), Bool.true_and]
theorem fit1_neg (E : Nat → Ev) (n : Nat) (x : Ent) (h : posV E n x.id < 0) : fit1 E n x = false := by
  unfold fit1
  rw [decide_eq_false (by omega)]; rfl

set_option maxRecDepth 100000 in
set_option maxHeartbeats 4000000 in
theorem hasE_any {a : Option Addr} {n cap m : Nat} {E : Nat → Ev} {ra : Option Addr} {nr rc : Nat} (x : Ent) (hx : x.id.size ≤ maxLen) (w : World) (h : SlV w a n cap E) (hm : MapAt w m n (knE E n) (posV E n)) :
    Calls Tryz.prog 37 #[.agg #[.slice a n cap, .map (some m), .slice ra nr rc], entV x] w fun e w' => e = .returned (.bool (fit1 E n x)) ∧ Below w.heap.size w w' := by
  obtain ⟨wb, hwb⟩ : ∃ wb, wb = (w.alloc (.cells #[.slice a n cap, .map (some m), .slice ra nr rc] 51)).alloc (.cells #[.string x.ty, .string x.key, .string x.id] 45) := ⟨_, rfl⟩
  have hb0 : Below w.heap.size w wb := by rw [hwb]; exact ((Below.refl _ _).alloc (Nat.le_refl _) _).alloc (by simp) _
  have hs0 : wb.heap.size = w.heap.size + 1 + 1 := by rw [hwb]; simp
  have hg0 : ∀ o, wb.cell? ⟨w.heap.size, o, none⟩ = (#[.slice a n cap, .map (some m), .slice ra nr rc] : Array Value)[o]? := fun o => by rw [hwb, World.cell?_alloc_past _ _ _ (by simp)]; exact World.cell?_alloc_at _ _ _ _ rfl
  have hx0 : ∀ o, wb.cell? ⟨w.heap.size + 1, o, none⟩ = (#[.string x.ty, .string x.key, .string x.id] : Array Value)[o]? := fun o => by rw [hwb]; exact World.cell?_alloc_at _ _ _ _ (by simp)
  obtain ⟨D, hD, hK⟩ := hm.below hb0
  have hkey : keyOf Tryz.prog 9 (.string x.id) = some (.string x.id.data.toList) := Go.WideMaps.keyOf_string_mk Tryz.underlying9 hx
  have hhas : has D (.string x.id.data.toList) = knE E n x.id := (hK x.id).1
  have hat0 : Hid (knE E n x.id = true → D.atKey (.string x.id.data.toList) (.lit (.int .i64 0)) = .lit (.int .i64 (posV E n x.id))) := (hK x.id).2
  have HD : Hid (wb.ownsMap Tryz.prog 9 (plainElem Tryz.prog 3) m n D) := hD
  clear hK
  cases hkn : knE E n x.id
  case false =>
    rw [hkn] at hhas
    have hneg : posV E n x.id < 0 := by have : ¬ (0 ≤ posV E n x.id) := by simpa [knE] using hkn
                                        omega
    have Hv : Hid (Ending.returned (.bool false) = .returned (.bool (fit1 E n x))) := by unfold Hid; rw [fit1_neg E n x hneg]
    clear hneg hat0 hkn
    go_enter Tryz.func37, Tryz.ntmps37
    go_wp2_with (at_lookup; (try rw [← hwb]); refine wpList_lookup_own_ok_int _ rfl _ _ 48 rfl 9 3 .i64 lawStr Tryz.underlying48 Tryz.underlying3 (zeroInt _) m n D rfl HD.out _ _ rfl hkey ?_; intro c hat hwc; rw [hhas])
    rw [← hwb]
    clear hwb
    go_quiet (fail)
    go_wp2
    go_ret
    exact ⟨Hv.out, belowN hb0 _⟩
  case true =>
    rw [hkn] at hhas
    have hpos : 0 ≤ posV E n x.id := by simpa [knE] using hkn
    have hat1 := hat0.out hkn
    obtain ⟨p, hp, ep⟩ : ∃ p : Nat, p < n ∧ posV E n x.id = (p : Int) := by
      have := posV_bd E x.id n
      exact ⟨(posV E n x.id).toNat, by omega, by omega⟩
    rw [ep] at hat1
    have Hv : Hid (fit1 E n x = forB E p x) := fit1_for E n x ep
    have HI : Hid (∀ W, Below w.heap.size w W → Calls Tryz.prog 57 #[.agg #[.slice a n cap, .map (some m), .slice ra nr rc], .int .i64 (p : Int), slotV x] W fun e w' => e = .returned (.bool (forB E p x)) ∧ Below W.heap.size W w') := fun W hW => isFor_any x W (h.below hW) hp
    clear hpos hat0 hkn ep
    go_enter Tryz.func37, Tryz.ntmps37
    go_wp2_with (at_lookup; (try rw [← hwb]); refine wpList_lookup_own_ok_int _ rfl _ _ 48 rfl 9 3 .i64 lawStr Tryz.underlying48 Tryz.underlying3 (zeroInt _) m n D rfl HD.out _ _ rfl hkey ?_; intro c hat hwc; rw [hhas]; have hcv : c = (p : Int) := by (have := hat.symm.trans hat1; simpa using this))
    rw [← hwb]
    clear hwb hat hcv hat1
    have hw0 : w.heap.size < wb.heap.size := by omega
    have hw1 : w.heap.size + 1 < wb.heap.size := by omega
    have hrf : Below wb.heap.size wb wb := Below.refl _ _
    go_region_with (first
      | (go_at_call 58; refine (slot_any x _).mono ?_; rintro e w2 ⟨rfl, hg2⟩; have h2 : Below wb.heap.size wb w2 := Below.trans (by first | exact hrf | exact hrf.drew | exact hrf.drew.drew | exact hrf.drew.drew.drew) hg2.below; have hg2' : ∀ o, w2.cell? ⟨w.heap.size, o, none⟩ = (#[.slice a n cap, .map (some m), .slice ra nr rc] : Array Value)[o]? := fun o => (h2.cell (by exact hw0)).trans (hg0 o))
      | (go_at_call 57; refine (HI.out _ (hb0.trans (Below.mono (by first | exact h2 | exact h2.drew | exact h2.drew.drew | exact h2.drew.drew.drew) hb0.size))).mono ?_; rintro e w3 ⟨rfl, hb3⟩; have h3 : Below wb.heap.size wb w3 := Below.trans (by first | exact h2 | exact h2.drew | exact h2.drew.drew | exact h2.drew.drew.drew) (hb3.mono (by first | exact h2.size | exact h2.drew.size))))
    all_goals
      go_wp2
      go_ret
      exact ⟨by rw [Hv.out]; simp [Act.put], hb0.trans (Below.mono (by first | exact h3 | exact h3.drew | exact h3.drew.drew) hb0.size)⟩
end Go.Proofs.YtepgmgkdhklfjaaGreat
