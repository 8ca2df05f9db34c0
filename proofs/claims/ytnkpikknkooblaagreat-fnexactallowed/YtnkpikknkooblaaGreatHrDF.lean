import Derived.Test.YtnkpikknkooblaaGreatHrAB
/-
  impl's rules: creating, withoutCreate, joining, leaving, fromOutside.
-/
namespace Go.Proofs.YtnkpikknkooblaaGreat
open Go.RowKit Go.Maps Go.ChangeMaps

set_option maxRecDepth 100000 in
set_option maxHeartbeats 1000000 in
theorem creI {h mb c : Nat} {F : Ent → Value} {oc op : Option Addr} {o : View} {e : Ev} {pa : Option Addr} {cp : Nat} {aa : Option Addr} {ca : Nat} {ga : Option Addr} {cg : Nat} (w : World) (H : Hr w h mb c F oc op o e pa cp aa ca ga cg) :
    Calls Tryz.prog 101 #[.pointer (some ⟨h, 0, none⟩)] w fun x w' => x = .returned (rAns (rCre o e)) ∧ Below w.heap.size w w' := by
  have k2 : w.cell? ⟨h, 2, none⟩ = some (.string e.ty) := H.ev.c2
  have k11 : w.cell? ⟨h, 11, none⟩ = some (.pointer oc) := H.c11
  have hrf : Below w.heap.size w w := Below.refl _ _
  have hc := H.lev.c
  clear H
  cases hcr : isCr e
  case false =>
    have Hz : Hid (rCre o e = (0, false)) := by unfold Hid rCre; rw [hcr]; rfl
    have hcr' : (e.ty.toList == [99, 114, 101, 97, 116, 101]) = false := hcr
    clear hcr hc
    go_enter Tryz.func101, Tryz.ntmps101
    go_wp2
    go_ret2
    exact ⟨ret_r Hz.out, hrf⟩
  case true =>
    have hcr' : (e.ty.toList == [99, 114, 101, 97, 116, 101]) = true := hcr
    rcases hc with ⟨h1, rfl⟩ | ⟨ev, b, off, h1, rfl, -⟩
    · have Hz : Hid (rCre o e = (0, true)) := by unfold Hid rCre; rw [hcr, h1]; rfl
      clear hcr h1
      go_enter Tryz.func101, Tryz.ntmps101
      go_wp2
      go_ret2
      exact ⟨ret_r Hz.out, hrf⟩
    · have Hz : Hid (rCre o e = (1, true)) := by unfold Hid rCre; rw [hcr, h1]; rfl
      clear hcr h1
      go_enter Tryz.func101, Tryz.ntmps101
      go_wp2
      go_ret2
      exact ⟨ret_r Hz.out, hrf⟩

set_option maxRecDepth 100000 in
set_option maxHeartbeats 1000000 in
theorem witI {h mb c : Nat} {F : Ent → Value} {oc op : Option Addr} {o : View} {e : Ev} {pa : Option Addr} {cp : Nat} {aa : Option Addr} {ca : Nat} {ga : Option Addr} {cg : Nat} (w : World) (H : Hr w h mb c F oc op o e pa cp aa ca ga cg) :
    Calls Tryz.prog 102 #[.pointer (some ⟨h, 0, none⟩)] w fun x w' => x = .returned (rAns (rWit o)) ∧ Below w.heap.size w w' := by
  have k11 : w.cell? ⟨h, 11, none⟩ = some (.pointer oc) := H.c11
  have hrf : Below w.heap.size w w := Below.refl _ _
  have hc := H.lev.c
  clear H
  rcases hc with ⟨h1, rfl⟩ | ⟨ev, b, off, h1, rfl, -⟩
  · have Hz : Hid (rWit o = (2, true)) := by unfold Hid rWit; rw [h1]; rfl
    clear h1
    go_enter Tryz.func102, Tryz.ntmps102
    go_wp2_with fail
    go_quiet (fail)
    all_goals
      go_wp2
      go_ret2
      exact ⟨ret_r Hz.out, belowN hrf _⟩
  · have Hz : Hid (rWit o = (2, false)) := by unfold Hid rWit; rw [h1]; rfl
    clear h1
    go_enter Tryz.func102, Tryz.ntmps102
    go_wp2_with fail
    go_quiet (fail)
    all_goals
      go_wp2
      go_ret2
      exact ⟨ret_r Hz.out, belowN hrf _⟩

set_option maxRecDepth 100000 in
set_option maxHeartbeats 1000000 in
theorem outI {h mb c : Nat} {F : Ent → Value} {oc op : Option Addr} {o : View} {e : Ev} {pa : Option Addr} {cp : Nat} {aa : Option Addr} {ca : Nat} {ga : Option Addr} {cg : Nat} (w : World) (H : Hr w h mb c F oc op o e pa cp aa ca ga cg) (hc : isCr e = false) :
    Calls Tryz.prog 105 #[.pointer (some ⟨h, 0, none⟩)] w fun x w' => x = .returned (rAns (rOut o e)) ∧ Below w.heap.size w w' := by
  have hrf : Below w.heap.size w w := Below.refl _ _
  have k1 : w.cell? ⟨h, 1, none⟩ = some (.string e.sd) := H.ev.c1
  have k10 : w.cell? ⟨h, 10, none⟩ = some (.map (some mb)) := H.c10
  have hlt := H.lt
  have HM := H.memS hc
  have Hz : Hid (rOut o e = (6, !isJoin (memO o e.sd))) := rfl
  clear H
  generalize memO o e.sd = t at *
  go_enter Tryz.func105, Tryz.ntmps105
  go_wp2_with fail
  go_region_held3 (fun W => W.cell? ⟨h, 10, none⟩ = some (.map (some mb)) ∧ W.cell? ⟨h, 1, none⟩ = some (.string e.sd)) (first | (with_reducible exact ⟨k10, k1⟩) | go_keep)
    (first | (go_at_call 129; refine (HM.out _ (by first | with_reducible exact hrf | with_reducible exact hrf.drew | with_reducible exact hrf.drew.drew | with_reducible exact hrf.drew.drew.drew | with_reducible exact hrf.drew.drew.drew.drew | with_reducible exact hrf.drew.drew.drew.drew.drew)).mono ?_; rintro x w2 ⟨rfl, hb2⟩; have q10 := (hb2.cell (by exact hlt)).trans k10; have q1 := (hb2.cell (by exact hlt)).trans k1))
  all_goals
    go_wp2
    go_ret2
    exact ⟨ret_r (by rw [Hz.out]; rfl), (by first | with_reducible exact hb2 | with_reducible exact hb2.drew | with_reducible exact hb2.drew.drew | with_reducible exact hb2.drew.drew.drew | with_reducible exact hb2.drew.drew.drew.drew | with_reducible exact hb2.drew.drew.drew.drew.drew)⟩
end Go.Proofs.YtnkpikknkooblaaGreat
/-
  impl's rule keyOfAnother.
-/
namespace Go.Proofs.YtnkpikknkooblaaGreat
open Go.RowKit Go.Maps Go.ChangeMaps

theorem atB_ex {s : ByteArray} (h : 0 < s.size) : ((s.extract 0 1).toList == [64]) = atB s := by
  unfold atB
  rw [dif_pos h, ByteArray.toList_eq]
  have h1 : (s.extract 0 1).data.toList = [s[0]] := by
    have h2 : s.data.toList ≠ [] := fun h3 => by
      have h4 : s.size = s.data.toList.length := rfl
      rw [h3, List.length_nil] at h4
      omega
    rw [ByteArray.data_extract, Array.toList_extract]
    cases hq : s.data.toList with
    | nil => exact absurd hq h2
    | cons x l =>
      have h5 : s[0] = x := by
        show s.data[0] = x
        rw [← Array.getElem_toList]
        simp [hq]
      rw [h5]
      simp [List.extract_eq_take_drop]
  rw [h1]
  generalize s[0] = c
  have hc : (c.toNat : Int) = 64 ↔ c = 64 := ⟨fun hh => by
    apply UInt8.toNat_inj.1
    show c.toNat = 64
    omega, fun hh => by subst hh; rfl⟩
  by_cases hd : c = 64
  · rw [decide_eq_true (hc.2 hd), hd]; rfl
  · rw [decide_eq_false (fun h5 => hd (hc.1 h5))]
    simp [hd]

set_option maxRecDepth 100000 in
set_option maxHeartbeats 1000000 in
theorem hp_any (s : ByteArray) (hs : s.size ≤ maxLen) (w : World) :
    Calls Tryz.prog 136 #[.string s, .string ⟨#[64]⟩] w fun x w' => x = .returned (.bool (atB s)) ∧ w' = w := by
  unfold maxLen at hs
  by_cases h0 : 0 < s.size
  · have Hz : Hid (((s.extract 0 1).toList == [64]) = atB s) := atB_ex h0
    have h1 : decide ((1 : Int) ≤ (s.size : Int)) = true := decide_eq_true (by omega)
    have h2 : (1 : Int) ≤ (s.size : Int) := by omega
    generalize atB s = b at *
    go_enter Tryz.func136, Tryz.ntmps136
    go_wp2
    go_ret
    exact ⟨ret_bool Hz.out, rfl⟩
  · have Hz : Hid (atB s = false) := by unfold Hid atB; rw [dif_neg h0]
    have h1 : decide ((1 : Int) ≤ (s.size : Int)) = false := decide_eq_false (by omega)
    have h2 : s.size = 0 := by omega
    generalize atB s = b at *
    go_enter Tryz.func136, Tryz.ntmps136
    go_wp2
    go_ret
    exact ⟨ret_bool Hz.out.symm, rfl⟩

set_option maxRecDepth 100000 in
set_option maxHeartbeats 1000000 in
theorem keyI {h mb c : Nat} {F : Ent → Value} {oc op : Option Addr} {o : View} {e : Ev} {pa : Option Addr} {cp : Nat} {aa : Option Addr} {ca : Nat} {ga : Option Addr} {cg : Nat} (w : World) (H : Hr w h mb c F oc op o e pa cp aa ca ga cg) :
    Calls Tryz.prog 110 #[.pointer (some ⟨h, 0, none⟩)] w fun x w' => x = .returned (rAns (rKey e)) ∧ Below w.heap.size w w' := by
  have hrf : Below w.heap.size w w := Below.refl _ _
  have k1 : w.cell? ⟨h, 1, none⟩ = some (.string e.sd) := H.ev.c1
  have k4 : w.cell? ⟨h, 4, none⟩ = some (.string e.key) := H.ev.c4
  have HP : Hid (∀ W, Calls Tryz.prog 136 #[.string e.key, .string ⟨#[64]⟩] W fun x w' => x = .returned (.bool (atB e.key)) ∧ w' = W) := fun W => hp_any e.key H.ok.hkey W
  have Hz : Hid (rKey e = (11, atB e.key && !(e.key.toList == e.sd.toList))) := rfl
  clear H
  generalize rKey e = r at *
  generalize atB e.key = b at *
  cases b
  all_goals
    go_enter Tryz.func110, Tryz.ntmps110
    go_wp2_with fail
    go_quiet ((go_at_call 136; exact Calls.quiet_of_same (HP.out _)))
    all_goals
      go_wp2
      go_ret2
      exact ⟨ret_r (by rw [Hz.out]; rfl), belowN hrf _⟩
end Go.Proofs.YtnkpikknkooblaaGreat
/-
  impl's hearingOf.
-/
namespace Go.Proofs.YtnkpikknkooblaaGreat
open Go.RowKit Go.Maps Go.ChangeMaps

/-- what a hearing is made of. -/
structure Hm (w : World) (mb c : Nat) (F : Ent → Value) (oc op : Option Addr) (o : View) (e : Ev) (pa : Option Addr) (cp : Nat) (aa : Option Addr) (ca : Nat) (ga : Option Addr) (cg : Nat) : Prop where
  ok : EvOk w e pa cp aa ca ga cg
  map : MapV w mb c F
  lev : LvAt w oc op o
  code : e.code = 0
  sd : isCr e = false → SlotAt w F o ⟨tMem, e.sd, tNil⟩
  key : isMb e = true → SlotAt w F o ⟨tMem, e.key, tNil⟩
  rul : isMb e = true → isJn e = true → SlotAt w F o ⟨tRul, tNil, tNil⟩
theorem Hm.below {w w' : World} {mb c : Nat} {F : Ent → Value} {oc op : Option Addr} {o : View} {e : Ev} {pa : Option Addr} {cp : Nat} {aa : Option Addr} {ca : Nat} {ga : Option Addr} {cg : Nat} (H : Hm w mb c F oc op o e pa cp aa ca ga cg) (hb : Below w.heap.size w w') : Hm w' mb c F oc op o e pa cp aa ca ga cg :=
  ⟨H.ok.below hb, H.map.below hb, H.lev.below hb, H.code, fun h1 => (H.sd h1).below hb, fun h1 => (H.key h1).below hb, fun h1 h2 => (H.rul h1 h2).below hb⟩
theorem Hm.hr {w : World} {mb c : Nat} {F : Ent → Value} {oc op : Option Addr} {o : View} {e : Ev} {pa : Option Addr} {cp : Nat} {aa : Option Addr} {ca : Nat} {ga : Option Addr} {cg : Nat} (H : Hm w mb c F oc op o e pa cp aa ca ga cg) {w3 : World} (hb : Below w.heap.size w w3) (T : TypeId) :
    Hr (w3.alloc (.cells #[.string e.id, .string e.sd, .string e.ty, .bool e.st, .string e.key, .int .i64 e.tm, .slice pa e.np cp, .slice aa e.na ca, .string e.val, .slice ga e.ng cg, .map (some mb), .pointer oc, .pointer op, .int .i64 (lvO o e.sd)] T)) w3.heap.size mb c F oc op o e pa cp aa ca ga cg := by
  have hb4 := hb.trans (((Below.refl w3.heap.size w3).alloc (Nat.le_refl _) (.cells #[.string e.id, .string e.sd, .string e.ty, .bool e.st, .string e.key, .int .i64 e.tm, .slice pa e.np cp, .slice aa e.na ca, .string e.val, .slice ga e.ng cg, .map (some mb), .pointer oc, .pointer op, .int .i64 (lvO o e.sd)] T)).mono hb.size)
  have h4 := H.below hb4
  exact ⟨by simp, ⟨World.cell?_alloc_at _ _ _ _ rfl, World.cell?_alloc_at _ _ _ _ rfl, World.cell?_alloc_at _ _ _ _ rfl, World.cell?_alloc_at _ _ _ _ rfl, World.cell?_alloc_at _ _ _ _ rfl, World.cell?_alloc_at _ _ _ _ rfl, World.cell?_alloc_at _ _ _ _ rfl, World.cell?_alloc_at _ _ _ _ rfl, World.cell?_alloc_at _ _ _ _ rfl, World.cell?_alloc_at _ _ _ _ rfl⟩, World.cell?_alloc_at _ _ _ _ rfl, World.cell?_alloc_at _ _ _ _ rfl, World.cell?_alloc_at _ _ _ _ rfl, World.cell?_alloc_at _ _ _ _ rfl, h4.ok, h4.map, h4.lev, h4.code, h4.sd, h4.key, h4.rul⟩
/-- what hearingOf answers. -/
def HoPost (w : World) (mb c : Nat) (F : Ent → Value) (oc op : Option Addr) (o : View) (e : Ev) (pa : Option Addr) (cp : Nat) (aa : Option Addr) (ca : Nat) (ga : Option Addr) (cg : Nat) (x : Ending) (w' : World) : Prop :=
  ∃ h, x = .returned (.pointer (some ⟨h, 0, none⟩)) ∧ Hr w' h mb c F oc op o e pa cp aa ca ga cg ∧ Below w.heap.size w w'

set_option maxRecDepth 100000 in
set_option maxHeartbeats 2000000 in
theorem heoI {mb c : Nat} {F : Ent → Value} {oc op : Option Addr} {o : View} {e : Ev} {pa : Option Addr} {cp : Nat} {aa : Option Addr} {ca : Nat} {ga : Option Addr} {cg : Nat} (w : World) (H : Hm w mb c F oc op o e pa cp aa ca ga cg) (hC : F sCre = .pointer oc) (hP : F sPow = .pointer op) :
    Calls Tryz.prog 30 #[.agg #[.string e.id, .string e.sd, .string e.ty, .bool e.st, .string e.key, .int .i64 e.tm, .slice pa e.np cp, .slice aa e.na ca, .string e.val, .slice ga e.ng cg], .map (some mb)] w (HoPost w mb c F oc op o e pa cp aa ca ga cg) := by
  obtain ⟨wa, hwa⟩ : ∃ wa, wa = w.alloc (.cells #[.string e.id, .string e.sd, .string e.ty, .bool e.st, .string e.key, .int .i64 e.tm, .slice pa e.np cp, .slice aa e.na ca, .string e.val, .slice ga e.ng cg] 42) := ⟨_, rfl⟩
  have hba : Below w.heap.size w wa := by rw [hwa]; exact (Below.refl _ _).alloc (Nat.le_refl _) _
  have hsa : w.heap.size < wa.heap.size := by rw [hwa]; simp
  have hca : Hid (∀ i, wa.cell? ⟨w.heap.size, i, none⟩ = (#[.string e.id, .string e.sd, .string e.ty, .bool e.st, .string e.key, .int .i64 e.tm, .slice pa e.np cp, .slice aa e.na ca, .string e.val, .slice ga e.ng cg] : Array Value)[i]?) := fun i => by rw [hwa]; exact World.cell?_alloc_at _ _ _ _ rfl
  have Ha := H.below hba
  have HLv : Hid (∀ W, Below wa.heap.size wa W → Calls Tryz.prog 65 #[.map (some mb)] W fun x w' => x = .returned (.agg #[.pointer oc, .pointer op]) ∧ Below wa.heap.size wa w') := fun W hW => (lev_any W (Ha.map.below hW) hC hP).mono fun _ _ ⟨h1, h2⟩ => ⟨h1, hW.trans (h2.mono hW.size)⟩
  have HV : Hid (∀ W, Below wa.heap.size wa W → Calls Tryz.prog 66 #[.agg #[.pointer oc, .pointer op], .string e.sd] W fun x w' => x = .returned (.int .i64 (lvO o e.sd)) ∧ Below W.heap.size W w') := fun W hW => ofU_o e.sd W (Ha.lev.below hW)
  have HE : Hid (∀ w3, Below wa.heap.size wa w3 → HoPost w mb c F oc op o e pa cp aa ca ga cg (.returned (.pointer (some ⟨w3.heap.size, 0, none⟩))) (w3.alloc (.cells #[.string e.id, .string e.sd, .string e.ty, .bool e.st, .string e.key, .int .i64 e.tm, .slice pa e.np cp, .slice aa e.na ca, .string e.val, .slice ga e.ng cg, .map (some mb), .pointer oc, .pointer op, .int .i64 (lvO o e.sd)] 119))) := fun w3 h3 => by
    have h03 := hba.trans (h3.mono hba.size)
    exact ⟨_, rfl, H.hr h03 _, h03.alloc h03.size _⟩
  have hrf : Below wa.heap.size wa wa := Below.refl _ _
  clear H Ha hC hP
  go_enter Tryz.func30, Tryz.ntmps30
  go_wp2_with fail
  rw [← hwa]
  clear hwa
  refine (HLv.out _ hrf).mono ?_
  rintro x w1 ⟨rfl, hb1⟩
  obtain ⟨wb, hwb⟩ : ∃ wb, wb = w1.alloc (.cells #[.pointer oc, .pointer op] 115) := ⟨_, rfl⟩
  have hbb : Below wa.heap.size wa wb := by rw [hwb]; exact hb1.alloc hb1.size _
  have hs1 : w1.heap.size < wb.heap.size := by rw [hwb]; simp
  have y0 : wb.cell? ⟨w1.heap.size, 0, none⟩ = some (.pointer oc) := by rw [hwb]; exact World.cell?_alloc_at _ _ _ _ rfl
  have y1 : wb.cell? ⟨w1.heap.size, 1, none⟩ = some (.pointer op) := by rw [hwb]; exact World.cell?_alloc_at _ _ _ _ rfl
  have hsb : w.heap.size < wb.heap.size := Nat.lt_of_lt_of_le hsa hbb.size
  have z0 : wb.cell? ⟨w.heap.size, 0, none⟩ = some (.string e.id) := (hbb.cell (by exact hsa)).trans (hca.out 0)
  have z1 : wb.cell? ⟨w.heap.size, 1, none⟩ = some (.string e.sd) := (hbb.cell (by exact hsa)).trans (hca.out 1)
  have z2 : wb.cell? ⟨w.heap.size, 2, none⟩ = some (.string e.ty) := (hbb.cell (by exact hsa)).trans (hca.out 2)
  have z3 : wb.cell? ⟨w.heap.size, 3, none⟩ = some (.bool e.st) := (hbb.cell (by exact hsa)).trans (hca.out 3)
  have z4 : wb.cell? ⟨w.heap.size, 4, none⟩ = some (.string e.key) := (hbb.cell (by exact hsa)).trans (hca.out 4)
  have z5 : wb.cell? ⟨w.heap.size, 5, none⟩ = some (.int .i64 e.tm) := (hbb.cell (by exact hsa)).trans (hca.out 5)
  have z6 : wb.cell? ⟨w.heap.size, 6, none⟩ = some (.slice pa e.np cp) := (hbb.cell (by exact hsa)).trans (hca.out 6)
  have z7 : wb.cell? ⟨w.heap.size, 7, none⟩ = some (.slice aa e.na ca) := (hbb.cell (by exact hsa)).trans (hca.out 7)
  have z8 : wb.cell? ⟨w.heap.size, 8, none⟩ = some (.string e.val) := (hbb.cell (by exact hsa)).trans (hca.out 8)
  have z9 : wb.cell? ⟨w.heap.size, 9, none⟩ = some (.slice ga e.ng cg) := (hbb.cell (by exact hsa)).trans (hca.out 9)
  have hrb : Below wb.heap.size wb wb := Below.refl _ _
  have HU2 : Hid (∀ W, Below wb.heap.size wb W → Calls Tryz.prog 66 #[.agg #[.pointer oc, .pointer op], .string e.sd] W fun x w' => x = .returned (.int .i64 (lvO o e.sd)) ∧ Below wb.heap.size wb w') := fun W hW => (HV.out W (hbb.trans (hW.mono hbb.size))).mono fun _ _ ⟨h1, h2⟩ => ⟨h1, hW.trans (h2.mono hW.size)⟩
  generalize lvO o e.sd = lv at *
  clear HLv HV hca
  go_wp2_with fail
  rw [← hwb]
  clear hwb
  go_region_held3 (fun W => W.cell? ⟨w1.heap.size, 0, none⟩ = some (.pointer oc) ∧ W.cell? ⟨w1.heap.size, 1, none⟩ = some (.pointer op) ∧ W.cell? ⟨w.heap.size, 0, none⟩ = some (.string e.id) ∧ W.cell? ⟨w.heap.size, 1, none⟩ = some (.string e.sd) ∧ W.cell? ⟨w.heap.size, 2, none⟩ = some (.string e.ty) ∧ W.cell? ⟨w.heap.size, 3, none⟩ = some (.bool e.st) ∧ W.cell? ⟨w.heap.size, 4, none⟩ = some (.string e.key) ∧ W.cell? ⟨w.heap.size, 5, none⟩ = some (.int .i64 e.tm) ∧ W.cell? ⟨w.heap.size, 6, none⟩ = some (.slice pa e.np cp) ∧ W.cell? ⟨w.heap.size, 7, none⟩ = some (.slice aa e.na ca) ∧ W.cell? ⟨w.heap.size, 8, none⟩ = some (.string e.val) ∧ W.cell? ⟨w.heap.size, 9, none⟩ = some (.slice ga e.ng cg)) (first | (with_reducible exact ⟨y0, y1, z0, z1, z2, z3, z4, z5, z6, z7, z8, z9⟩) | go_keep)
    (first | (go_at_call 66; refine (HU2.out _ (by first | with_reducible exact hrb | with_reducible exact hrb.drew | with_reducible exact hrb.drew.drew | with_reducible exact hrb.drew.drew.drew | with_reducible exact hrb.drew.drew.drew.drew | with_reducible exact hrb.drew.drew.drew.drew.drew)).mono ?_; rintro x w3 ⟨rfl, hb3⟩; have qy0 := (hb3.cell (by exact hs1)).trans y0; have qy1 := (hb3.cell (by exact hs1)).trans y1; have qz0 := (hb3.cell (by exact hsb)).trans z0; have qz1 := (hb3.cell (by exact hsb)).trans z1; have qz2 := (hb3.cell (by exact hsb)).trans z2; have qz3 := (hb3.cell (by exact hsb)).trans z3; have qz4 := (hb3.cell (by exact hsb)).trans z4; have qz5 := (hb3.cell (by exact hsb)).trans z5; have qz6 := (hb3.cell (by exact hsb)).trans z6; have qz7 := (hb3.cell (by exact hsb)).trans z7; have qz8 := (hb3.cell (by exact hsb)).trans z8; have qz9 := (hb3.cell (by exact hsb)).trans z9))
  all_goals
    go_wp2
    go_ret
    first
      | exact HE.out _ (hbb.trans (hb3.mono hbb.size))
      | exact HE.out _ (hbb.trans (hb3.drew.mono hbb.size))
end Go.Proofs.YtnkpikknkooblaaGreat
