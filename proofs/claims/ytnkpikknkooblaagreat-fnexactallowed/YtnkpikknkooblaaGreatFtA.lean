import Derived.Test.YtnkpikknkooblaaGreatLvP
import Derived.Test.YtnkpikknkooblaaGreatRmB
import Derived.Test.YtnkpikknkooblaaGreatCsA
import Derived.Deep.QuietTactic
import Derived.BigQuiet
import Derived.Deep.RegionHeld3
import Derived.Deep.DeepCutAuto
import Derived.Test.YtnkpikknkooblaaGreatSetA
/-
  impl's isFor, hasEntry, fits.
-/
namespace Go.Proofs.YtnkpikknkooblaaGreat
open Go.RowKit Go.Maps Go.ChangeMaps

theorem belowN {B : Nat} {w w' : World} (h : Below B w w') (n : Nat) : Below B w (w'.drewN n) := h.trans ⟨rfl, rfl, rfl, Nat.le_refl _, fun _ _ => rfl⟩
/-- the event at place q is one of the slot x. -/
def forB (E : Nat → Ev) (q : Nat) (x : Ent) : Bool := (E q).st && (((E q).ty.toList == x.ty.toList) && ((E q).key.toList == x.key.toList))

set_option maxRecDepth 100000 in
set_option maxHeartbeats 2000000 in
theorem isFor_any {a : Option Addr} {n cap : Nat} {E : Nat → Ev} {mm : Option Nat} {ra : Option Addr} {nr rc q : Nat} (x : Ent) (w : World) (h : SlV w a n cap E) (hq : q < n) :
    Calls Tryz.prog 88 #[.agg #[.slice a n cap, .map mm, .slice ra nr rc], .int .i64 (q : Int), slotV x] w fun e w' => e = .returned (.bool (forB E q x)) ∧ Below w.heap.size w w' := by
  have hnn := Nat.le_trans h.le h.max
  unfold maxLen at hnn
  rcases h.cells with h0 | ⟨b, off, rfl, hb, hc⟩
  · omega
  obtain ⟨_, _, _, _, _, _, hec, _⟩ := hc q hq
  obtain ⟨wb, hwb⟩ : ∃ wb, wb = (w.alloc (.cells #[.slice (some ⟨b, off, none⟩) n cap, .map mm, .slice ra nr rc] 66)).alloc (.cells #[.string x.ty, .string x.key] 121) := ⟨_, rfl⟩
  have hb0 : Below w.heap.size w wb := by rw [hwb]; exact ((Below.refl _ _).alloc (Nat.le_refl _) _).alloc (by simp) _
  have hg0 : wb.cell? ⟨w.heap.size, 0, none⟩ = some (.slice (some ⟨b, off, none⟩) n cap) := by rw [hwb, World.cell?_alloc_past _ _ _ (by simp)]; exact World.cell?_alloc_at _ _ _ _ rfl
  have hx0 : wb.cell? ⟨w.heap.size + 1, 0, none⟩ = some (.string x.ty) := by rw [hwb]; exact World.cell?_alloc_at _ _ _ _ (by simp)
  have hx1 : wb.cell? ⟨w.heap.size + 1, 1, none⟩ = some (.string x.key) := by rw [hwb]; exact World.cell?_alloc_at _ _ _ _ (by simp)
  have e2 := (hb0.cell (by exact hb)).trans hec.c2
  have e3 := (hb0.cell (by exact hb)).trans hec.c3
  have e4 := (hb0.cell (by exact hb)).trans hec.c4
  have Hv : Hid (forB E q x = ((E q).st && (((E q).ty.toList == x.ty.toList) && ((E q).key.toList == x.key.toList)))) := rfl
  have hq0 : (0 : Int) ≤ (q : Int) := by omega
  have hq1 : (q : Int) < (n : Int) := by omega
  clear hc hec h
  generalize (E q).st = st at *
  generalize (E q).ty = ty at *
  generalize (E q).key = key at *
  obtain ⟨bt, hbt⟩ : ∃ bt, bt = (ty.toList == x.ty.toList) := ⟨_, rfl⟩
  obtain ⟨bk, hbk⟩ : ∃ bk, bk = (key.toList == x.key.toList) := ⟨_, rfl⟩
  have HV : Hid (forB E q x = (st && (bt && bk))) := by rw [hbt, hbk]; exact Hv
  have ht1 : (ty.toList == x.ty.toList) = bt := hbt.symm
  have hk1 : (key.toList == x.key.toList) = bk := hbk.symm
  clear Hv hbt hbk
  cases st <;> cases bt <;> cases bk
  all_goals
    have HN : Hid (forB E q x = _) := HV.out
    clear HV
    go_enter Tryz.func88, Tryz.ntmps88
    go_wp2_with fail
    try rw [← hwb]
    clear hwb
    go_quiet (fail)
    all_goals
      go_wp2
      go_ret
      exact ⟨by rw [HN.out]; rfl, belowN hb0 _⟩

theorem fit1_for (E : Nat → Ev) (n : Nat) (x : Ent) {q : Nat} (h : posV E n x.id = (q : Int)) : fit1 E n x = forB E q x := by
  unfold fit1 forB
  rw [h, Int.toNat_natCast, decide_eq_true (by omega), Bool.true_and]
theorem fit1_neg (E : Nat → Ev) (n : Nat) (x : Ent) (h : posV E n x.id < 0) : fit1 E n x = false := by
  unfold fit1
  rw [decide_eq_false (by omega)]; rfl

set_option maxRecDepth 100000 in
set_option maxHeartbeats 4000000 in
theorem hasE_any {a : Option Addr} {n cap m : Nat} {E : Nat → Ev} {ra : Option Addr} {nr rc : Nat} (x : Ent) (hx : x.id.size ≤ maxLen) (w : World) (h : SlV w a n cap E) (hm : MapAt w m n (knE E n) (posV E n)) :
    Calls Tryz.prog 62 #[.agg #[.slice a n cap, .map (some m), .slice ra nr rc], entV x] w fun e w' => e = .returned (.bool (fit1 E n x)) ∧ Below w.heap.size w w' := by
  obtain ⟨wb, hwb⟩ : ∃ wb, wb = (w.alloc (.cells #[.slice a n cap, .map (some m), .slice ra nr rc] 66)).alloc (.cells #[.string x.ty, .string x.key, .string x.id] 58) := ⟨_, rfl⟩
  have hb0 : Below w.heap.size w wb := by rw [hwb]; exact ((Below.refl _ _).alloc (Nat.le_refl _) _).alloc (by simp) _
  have hs0 : wb.heap.size = w.heap.size + 1 + 1 := by rw [hwb]; simp
  have hg0 : ∀ o, wb.cell? ⟨w.heap.size, o, none⟩ = (#[.slice a n cap, .map (some m), .slice ra nr rc] : Array Value)[o]? := fun o => by rw [hwb, World.cell?_alloc_past _ _ _ (by simp)]; exact World.cell?_alloc_at _ _ _ _ rfl
  have hx0 : ∀ o, wb.cell? ⟨w.heap.size + 1, o, none⟩ = (#[.string x.ty, .string x.key, .string x.id] : Array Value)[o]? := fun o => by rw [hwb]; exact World.cell?_alloc_at _ _ _ _ (by simp)
  obtain ⟨D, hD, hK⟩ := hm.below hb0
  have hkey : keyOf Tryz.prog 9 (.string x.id) = some (.string x.id.data.toList) := Go.WideMaps.keyOf_string_mk Tryz.underlying9 hx
  have hhas : has D (.string x.id.data.toList) = knE E n x.id := (hK x.id).1
  have hat0 : Hid (knE E n x.id = true → D.atKey (.string x.id.data.toList) (.lit (.int .i64 0)) = .lit (.int .i64 (posV E n x.id))) := (hK x.id).2
  have HD : Hid (wb.ownsMap Tryz.prog 9 (plainElem Tryz.prog 3) m n D) := hD
  clear hK
  cases hkn : knE E n x.id
  case false =>
    rw [hkn] at hhas
    have hneg : posV E n x.id < 0 := by have : ¬ (0 ≤ posV E n x.id) := by simpa [knE] using hkn
                                        omega
    have Hv : Hid (Ending.returned (.bool false) = .returned (.bool (fit1 E n x))) := by unfold Hid; rw [fit1_neg E n x hneg]
    clear hneg hat0 hkn
    go_enter Tryz.func62, Tryz.ntmps62
    go_wp2_with (at_lookup; (try rw [← hwb]); refine wpList_lookup_own_ok_int _ rfl _ _ 63 rfl 9 3 .i64 lawStr Tryz.underlying63 Tryz.underlying3 (zeroInt _) m n D rfl HD.out _ _ rfl hkey ?_; intro c hat hwc; rw [hhas])
    rw [← hwb]
    clear hwb
    go_quiet (fail)
    go_wp2
    go_ret
    exact ⟨Hv.out, belowN hb0 _⟩
  case true =>
    rw [hkn] at hhas
    have hpos : 0 ≤ posV E n x.id := by simpa [knE] using hkn
    have hat1 := hat0.out hkn
    obtain ⟨p, hp, ep⟩ : ∃ p : Nat, p < n ∧ posV E n x.id = (p : Int) := by
      have := posV_bd E x.id n
      exact ⟨(posV E n x.id).toNat, by omega, by omega⟩
    rw [ep] at hat1
    have Hv : Hid (fit1 E n x = forB E p x) := fit1_for E n x ep
    have HI : Hid (∀ W, Below w.heap.size w W → Calls Tryz.prog 88 #[.agg #[.slice a n cap, .map (some m), .slice ra nr rc], .int .i64 (p : Int), slotV x] W fun e w' => e = .returned (.bool (forB E p x)) ∧ Below W.heap.size W w') := fun W hW => isFor_any x W (h.below hW) hp
    clear hpos hat0 hkn ep
    go_enter Tryz.func62, Tryz.ntmps62
    go_wp2_with (at_lookup; (try rw [← hwb]); refine wpList_lookup_own_ok_int _ rfl _ _ 63 rfl 9 3 .i64 lawStr Tryz.underlying63 Tryz.underlying3 (zeroInt _) m n D rfl HD.out _ _ rfl hkey ?_; intro c hat hwc; rw [hhas]; have hcv : c = (p : Int) := by (have := hat.symm.trans hat1; simpa using this))
    rw [← hwb]
    clear hwb hat hcv hat1
    have hw0 : w.heap.size < wb.heap.size := by omega
    have hw1 : w.heap.size + 1 < wb.heap.size := by omega
    have hrf : Below wb.heap.size wb wb := Below.refl _ _
    go_region_with (first
      | (go_at_call 89; refine (slot_any x _).mono ?_; rintro e w2 ⟨rfl, hg2⟩; have h2 : Below wb.heap.size wb w2 := Below.trans (by first | exact hrf | exact hrf.drew | exact hrf.drew.drew | exact hrf.drew.drew.drew) hg2.below; have hg2' : ∀ o, w2.cell? ⟨w.heap.size, o, none⟩ = (#[.slice a n cap, .map (some m), .slice ra nr rc] : Array Value)[o]? := fun o => (h2.cell (by exact hw0)).trans (hg0 o))
      | (go_at_call 88; refine (HI.out _ (hb0.trans (Below.mono (by first | exact h2 | exact h2.drew | exact h2.drew.drew | exact h2.drew.drew.drew) hb0.size))).mono ?_; rintro e w3 ⟨rfl, hb3⟩; have h3 : Below wb.heap.size wb w3 := Below.trans (by first | exact h2 | exact h2.drew | exact h2.drew.drew | exact h2.drew.drew.drew) (hb3.mono (by first | exact h2.size | exact h2.drew.size))))
    all_goals
      go_wp2
      go_ret
      exact ⟨by rw [Hv.out]; simp [Act.put], hb0.trans (Below.mono (by first | exact h3 | exact h3.drew | exact h3.drew.drew) hb0.size)⟩
end Go.Proofs.YtnkpikknkooblaaGreat
/-
  impl's fits.
-/
namespace Go.Proofs.YtnkpikknkooblaaGreat
open Go.RowKit Go.Maps Go.ChangeMaps

set_option maxRecDepth 100000 in
set_option maxHeartbeats 1000000 in
theorem misf_any {a : Option Addr} {n cap m : Nat} {E : Nat → Ev} {ra : Option Addr} {nr rc bg : Nat} (x : Ent) (hx : x.id.size ≤ maxLen) (w : World) (h : SlV w a n cap E) (hm : MapAt w m n (knE E n) (posV E n)) (hg : ∀ o, w.cell? ⟨bg, o, none⟩ = (#[.slice a n cap, .map (some m), .slice ra nr rc] : Array Value)[o]?) (hbg : bg < w.heap.size) :
    Calls Tryz.prog 61 #[entV x, .pointer (some ⟨bg, 0, none⟩)] w fun e w' => e = .returned (.bool (!fit1 E n x)) ∧ Below w.heap.size w w' := by
  have hb0 : ∀ o, Below w.heap.size w (w.alloc o) := fun o => (Below.refl _ _).alloc (Nat.le_refl _) _
  have g0 : ∀ c o, (w.alloc c).cell? ⟨bg, o, none⟩ = (#[.slice a n cap, .map (some m), .slice ra nr rc] : Array Value)[o]? := fun c o => ((hb0 c).cell (by exact hbg)).trans (hg o)
  have hne : bg ≠ w.heap.size := by omega
  have k0 := g0 (.cells #[.string x.ty, .string x.key, .string x.id] 58) 0
  have k1 := g0 (.cells #[.string x.ty, .string x.key, .string x.id] 58) 1
  have k2 := g0 (.cells #[.string x.ty, .string x.key, .string x.id] 58) 2
  clear g0 hg
  go_enter Tryz.func61, Tryz.ntmps61
  go_wp2_with fail
  refine (hasE_any x hx _ (h.below (hb0 _)) (hm.below (hb0 _))).mono ?_
  rintro e w1 ⟨rfl, hb1⟩
  go_wp2
  go_ret
  exact ⟨rfl, (hb0 _).trans (hb1.mono (by simp))⟩

set_option maxRecDepth 100000 in
set_option maxHeartbeats 1000000 in
theorem idxM_any (b off cap : Nat) (l : List Ent) (E : Nat → Ev) (n bg : Nat) (w : World) (hn : l.length ≤ maxLen) (hb : b < w.heap.size)
    (HC : Hid (∀ W x, x ∈ l → Below w.heap.size w W → Calls Tryz.prog 61 #[entV x, .pointer (some ⟨bg, 0, none⟩)] W fun e w' => e = .returned (.bool (!fit1 E n x)) ∧ Below W.heap.size W w'))
    (h1 : ∀ i, i < l.length → w.cell? ⟨b, off + i * 3, none⟩ = some (.string (eAt l i).ty)) (h2 : ∀ i, i < l.length → w.cell? ⟨b, off + i * 3 + 1, none⟩ = some (.string (eAt l i).key)) (h3 : ∀ i, i < l.length → w.cell? ⟨b, off + i * 3 + 2, none⟩ = some (.string (eAt l i).id)) :
    Calls Tryz.prog 92 #[.slice (some ⟨b, off, none⟩) l.length cap, .func (.func 61) #[] #[.pointer (some ⟨bg, 0, none⟩)]] w fun e w' => ∃ z : Int, e = .returned (.int .i64 z) ∧ Hid (decide (0 ≤ z) = !fitTo E n l l.length) ∧ Below w.heap.size w w' := by
  unfold maxLen at hn
  go_enter Tryz.func92, Tryz.ntmps92
  go_wp2
  go_loopw [8] (fun i wr => ∃ k : Nat, k ≤ l.length ∧ i = .int .i64 k ∧ Hid (fitTo E n l k = true) ∧ Below w.heap.size w wr) (fun i _ => l.length - (intOf i).toNat)
  case atStart => exact ⟨0, Nat.zero_le _, rfl, rfl, Below.refl _ _⟩
  case round =>
    obtain ⟨k, hk, rfl, hto, hbel⟩ := hrel
    by_cases hlt : k < l.length
    · have a1 : wr.cell? ⟨b, off + k * 3, none⟩ = some (.string (eAt l k).ty) := (hbel.cell (by exact hb)).trans (h1 k hlt)
      have a2 : wr.cell? ⟨b, off + k * 3 + 1, none⟩ = some (.string (eAt l k).key) := (hbel.cell (by exact hb)).trans (h2 k hlt)
      have a3 : wr.cell? ⟨b, off + k * 3 + 2, none⟩ = some (.string (eAt l k).id) := (hbel.cell (by exact hb)).trans (h3 k hlt)
      have HX : Hid (Calls Tryz.prog 61 #[entV (eAt l k), .pointer (some ⟨bg, 0, none⟩)] wr fun e w' => e = .returned (.bool (!fit1 E n (eAt l k))) ∧ Below wr.heap.size wr w') := HC.out wr _ (eAt_mem l k hlt) hbel
      clear h1 h2 h3
      cases he : fit1 E n (eAt l k)
      case true =>
        have hto2 : Hid (fitTo E n l (k + 1) = true) := by unfold Hid; rw [fitTo, hto.out, he]; rfl
        rw [he] at HX
        go_wp2_with (go_at_call 61; refine (HX.out).mono ?_; rintro e w1 ⟨rfl, hb1⟩)
        go_roundw
        case rel => exact ⟨k + 1, by omega, by go_num, hto2, hbel.trans (hb1.mono hbel.size)⟩
        case measure => simp [intOf]; omega
      case false =>
        have hto2 : Hid (fitTo E n l l.length = false) := fitTo_le E n l l.length k hlt (by rw [fitTo, he, Bool.and_false])
        rw [he] at HX
        go_wp2_with (go_at_call 61; refine (HX.out).mono ?_; rintro e w1 ⟨rfl, hb1⟩)
        go_ret
        exact ⟨(k : Int), rfl, by unfold Hid; rw [hto2.out]; simp, hbel.trans (hb1.mono hbel.size)⟩
    · have hkn : l.length = k := by omega
      have hto2 : Hid (fitTo E n l l.length = true) := by rw [hkn]; exact hto
      clear h1 h2 h3 hto
      go_wp2
      go_ret
      exact ⟨-1, rfl, by unfold Hid; rw [hto2.out]; rfl, hbel⟩

set_option maxRecDepth 100000 in
set_option maxHeartbeats 2000000 in
theorem fits_sl {a : Option Addr} {n cap m : Nat} {E : Nat → Ev} {ra : Option Addr} {nr rc : Nat} {sa : Option Addr} {sc : Nat} {l : List Ent} (w : World) (h : SlV w a n cap E) (hm : MapAt w m n (knE E n) (posV E n)) (hs : SlE w sa sc l) :
    Calls Tryz.prog 29 #[.agg #[.slice a n cap, .map (some m), .slice ra nr rc], .slice sa l.length sc] w fun e w' => e = .returned (.bool (fitB E n l)) ∧ Below w.heap.size w w' := by
  have hb0 : ∀ o, Below w.heap.size w (w.alloc o) := fun o => (Below.refl _ _).alloc (Nat.le_refl _) _
  cases hst : stB l
  case false =>
    have Hz : Hid (fitB E n l = false) := by unfold Hid fitB; rw [hst, Bool.and_false]
    go_enter Tryz.func29, Tryz.ntmps29
    go_wp2_with (go_at_call 63; refine (stateI_sl _ (hs.below (hb0 _))).mono ?_; rintro e w1 ⟨rfl, hb1⟩; rw [hst])
    go_ret
    exact ⟨ret_bool Hz.out.symm, (hb0 _).trans (hb1.mono (by simp))⟩
  case true =>
    have Hz : Hid (fitB E n l = fitTo E n l l.length) := by unfold Hid fitB; rw [hst, Bool.and_true]
    have HCF : Hid (∀ W, Below (w.heap.size + 1) (w.alloc (.cells #[.slice a n cap, .map (some m), .slice ra nr rc] 66)) W → Calls Tryz.prog 64 #[.slice sa l.length sc, .func (.func 61) #[] #[.pointer (some ⟨w.heap.size, 0, none⟩)]] W fun e w' => e = .returned (.bool (!fitTo E n l l.length)) ∧ Below W.heap.size W w') := fun W hW => by
      have hwW : Below w.heap.size w W := (hb0 _).trans (hW.mono (by omega))
      have hsW : w.heap.size < W.heap.size := by have := hW.size; simp at this; omega
      have HI : Calls Tryz.prog 92 #[.slice sa l.length sc, .func (.func 61) #[] #[.pointer (some ⟨w.heap.size, 0, none⟩)]] W fun e w' => ∃ z : Int, e = .returned (.int .i64 z) ∧ Hid (decide (0 ≤ z) = !fitTo E n l l.length) ∧ Below W.heap.size W w' := by
        rcases (hs.below hwW).cells with rfl | ⟨b, off, rfl, hb, h1, h2, h3⟩
        · refine (idxF_zero sa sc _ W).mono ?_
          rintro e w' ⟨rfl, rfl⟩
          exact ⟨-1, rfl, rfl, Below.refl _ _⟩
        · exact idxM_any b off sc l E n w.heap.size W (Nat.le_trans hs.le hs.max) hb (fun W2 x hx hW2 => misf_any x (hs.ok x hx).2.2 W2 ((h.below hwW).below hW2) ((hm.below hwW).below hW2) (fun o => (hW2.cell (by exact hsW)).trans (box_cells hW o)) (Nat.lt_of_lt_of_le hsW hW2.size)) h1 h2 h3
      go_enter Tryz.func64, Tryz.ntmps64
      go_wp2_with fail
      refine HI.mono ?_
      rintro e w1 ⟨z, rfl, hz, hb1⟩
      go_wp2
      go_ret
      exact ⟨ret_bool hz.out, hb1⟩
    clear h hm
    generalize fitTo E n l l.length = ft at *
    go_enter Tryz.func29, Tryz.ntmps29
    go_wp2_with fail
    refine (stateI_sl _ (hs.below (hb0 _))).mono ?_
    rintro e w1 ⟨rfl, hb1⟩
    rw [hst]
    have hB1 := hb1.mono (B' := w.heap.size + 1) (by simp)
    have hw1 := (hb0 _).trans (hb1.mono (by simp))
    go_wp2_with fail
    refine (HCF.out _ hB1).mono ?_
    rintro e w2 ⟨rfl, hb2⟩
    go_wp2
    go_ret
    exact ⟨by first | exact ret_bool (by rw [Hz.out]; simp) | simp [Hz.out], hw1.trans (hb2.mono hw1.size)⟩
end Go.Proofs.YtnkpikknkooblaaGreat
