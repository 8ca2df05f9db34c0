/-
  impl's levels, granted, isCreator, ofUser, LevelOf.
-/
import Derived.Test.YtnkpikknkooblaaGreatEvN
import Derived.Test.YtnkpikknkooblaaGreatGrF
namespace Go.Proofs.YtnkpikknkooblaaGreat
open Go.RowKit Go.Maps Go.ChangeMaps

abbrev sCre : Ent := ⟨tCre, tNil, tNil⟩
abbrev sPow : Ent := ⟨tPow, tNil, tNil⟩

set_option maxRecDepth 100000 in
set_option maxHeartbeats 2000000 in
theorem lev_any {mb c : Nat} {F : Ent → Value} {oc op : Option Addr} (w : World) (hM : MapV w mb c F) (hc : F sCre = .pointer oc) (hp : F sPow = .pointer op) :
    Calls Tryz.prog 65 #[.map (some mb)] w fun e w' => e = .returned (.agg #[.pointer oc, .pointer op]) ∧ Below w.heap.size w w' := by
  have hb0 : ∀ o, Below w.heap.size w (w.alloc o) := fun o => (Below.refl _ _).alloc (Nat.le_refl _) _
  have ok1 : SOk sCre := ⟨by decide, by decide⟩
  have ok2 : SOk sPow := ⟨by decide, by decide⟩
  have HG : Hid (∀ W, Below w.heap.size w W → (Instr.lookup 73 (.map (some mb)) (.agg #[.string tCre, .string tNil]) false).run Tryz.prog W = .ok (.pointer oc) W ∧ (Instr.lookup 73 (.map (some mb)) (.agg #[.string tPow, .string tNil]) false).run Tryz.prog W = .ok (.pointer op) W) := fun W hW => by
    have h1 := mapV_get (hM.below hW) ok1
    have h2 := mapV_get (hM.below hW) ok2
    rw [hc] at h1
    rw [hp] at h2
    exact ⟨h1, h2⟩
  obtain ⟨wa, hwa⟩ : ∃ wa, wa = w.alloc (.cells #[.pointer none, .pointer none] 115) := ⟨_, rfl⟩
  have hba : Below w.heap.size w wa := by rw [hwa]; exact hb0 _
  have c0 : wa.cell? ⟨w.heap.size, 0, none⟩ = some (.pointer none) := by rw [hwa]; exact World.cell?_alloc_at _ _ _ _ rfl
  have c1 : wa.cell? ⟨w.heap.size, 1, none⟩ = some (.pointer none) := by rw [hwa]; exact World.cell?_alloc_at _ _ _ _ rfl
  have f0 : ∀ o, wa.frozen? ⟨w.heap.size, o, none⟩ = false := fun o => by rw [hwa]; exact World.frozen?_alloc_at _ _ _ _ rfl
  obtain ⟨l0, m0⟩ := HG.out wa hba
  obtain ⟨l1, m1⟩ := HG.out wa.drew hba.drew
  clear hM hc hp HG
  go_enter Tryz.func65, Tryz.ntmps65
  go_wp2_with fail
  rw [← hwa]
  clear hwa
  go_region
  all_goals
    go_wp2
    refine bodyPost_ret (v := .agg #[.pointer oc, .pointer op]) (by simp [results, Tryz.results65, go_sem, c0, c1]) rfl ⟨rfl, ?_⟩
    first | exact (hba.setCell (Nat.le_refl _) _).setCell (Nat.le_refl _) _ | exact ((hba.setCell (Nat.le_refl _) _).setCell (Nat.le_refl _) _).drew | exact (hba.drew.setCell (Nat.le_refl _) _).setCell (Nat.le_refl _) _

/-- a level by a power event at q, or otherwise. -/
def gOr (M : Nat → ByteArray) (L : Nat → Int) (n : Nat) (s : ByteArray) (z : Int) : Int := (gV M L s n).getD z

set_option maxRecDepth 100000 in
set_option maxHeartbeats 2000000 in
theorem grd_any {oc : Option Addr} {b o n cg : Nat} {ga : Option Addr} {M : Nat → ByteArray} {L : Nat → Int} (s : ByteArray) (z : Int) (w : World) (hb : b < w.heap.size) (hc : w.cell? ⟨b, o + 9, none⟩ = some (.slice ga n cg)) (hS : AscM M n) (hn : n ≤ 50) (h : SlG w ga n cg M L) :
    Calls Tryz.prog 93 #[.agg #[.pointer oc, .pointer (some ⟨b, o, none⟩)], .string s, .int .i64 z] w fun e w' => e = .returned (.int .i64 (gOr M L n s z)) ∧ Below w.heap.size w w' := by
  have hb0 : ∀ o, Below w.heap.size w (w.alloc o) := fun o => (Below.refl _ _).alloc (Nat.le_refl _) _
  have c9 : (w.alloc (.cells #[.pointer oc, .pointer (some ⟨b, o, none⟩)] 115)).cell? ⟨b, o + 9, none⟩ = some (.slice ga n cg) := ((hb0 _).cell (by exact hb)).trans hc
  have hne : b ≠ w.heap.size := by omega
  have HG : Hid (∀ W, Below w.heap.size w W → Calls Tryz.prog 117 #[.slice ga n cg, .string s] W fun e w' => e = .returned (gAns (gV M L s n)) ∧ Below W.heap.size W w') := fun W hW => (gf_sl s W hS (by omega) (h.below hW)).mono fun e w' ⟨h1, h2⟩ => ⟨h1, h2.below⟩
  have Hv : Hid (gOr M L n s z = (gV M L s n).getD z) := rfl
  clear h hS hc
  cases ho : gV M L s n with
  | none =>
    rw [ho] at HG Hv
    go_enter Tryz.func93, Tryz.ntmps93
    go_wp2_with fail
    refine (HG.out _ (hb0 _)).mono ?_
    rintro e w1 ⟨rfl, hb1⟩
    unfold gAns
    simp only [Option.getD_none, Option.isSome_none]
    go_wp2
    go_ret
    exact ⟨ret_int Hv.out.symm, (hb0 _).trans (hb1.mono (by simp))⟩
  | some v =>
    rw [ho] at HG Hv
    go_enter Tryz.func93, Tryz.ntmps93
    go_wp2_with fail
    refine (HG.out _ (hb0 _)).mono ?_
    rintro e w1 ⟨rfl, hb1⟩
    unfold gAns
    simp only [Option.getD_some, Option.isSome_some]
    go_wp2
    go_ret
    exact ⟨ret_int Hv.out.symm, (hb0 _).trans (hb1.mono (by simp))⟩

set_option maxRecDepth 100000 in
set_option maxHeartbeats 2000000 in
theorem ofU_pow {oc : Option Addr} {b o cg : Nat} {ga : Option Addr} {ev : Ev} (user : ByteArray) (w : World) (hb : b < w.heap.size) (hc : w.cell? ⟨b, o + 9, none⟩ = some (.slice ga ev.ng cg)) (hS : AscM ev.M ev.ng) (hn : ev.ng ≤ 50) (h : SlG w ga ev.ng cg ev.M ev.L) :
    Calls Tryz.prog 66 #[.agg #[.pointer oc, .pointer (some ⟨b, o, none⟩)], .string user] w fun e w' => e = .returned (.int .i64 (byG ev user)) ∧ Below w.heap.size w w' := by
  have hb0 : ∀ o, Below w.heap.size w (w.alloc o) := fun o => (Below.refl _ _).alloc (Nat.le_refl _) _
  obtain ⟨wa, hwa⟩ : ∃ wa, wa = w.alloc (.cells #[.pointer oc, .pointer (some ⟨b, o, none⟩)] 115) := ⟨_, rfl⟩
  have hba : Below w.heap.size w wa := by rw [hwa]; exact hb0 _
  have hbx : ∀ i, wa.cell? ⟨w.heap.size, i, none⟩ = (#[.pointer oc, .pointer (some ⟨b, o, none⟩)] : Array Value)[i]? := fun i => by rw [hwa]; exact World.cell?_alloc_at _ _ _ _ rfl
  have hsz : w.heap.size < wa.heap.size := by rw [hwa]; simp
  have x0 := hbx 0
  have x1 := hbx 1
  have HG : Hid (∀ W s z, Below w.heap.size w W → Calls Tryz.prog 93 #[.agg #[.pointer oc, .pointer (some ⟨b, o, none⟩)], .string s, .int .i64 z] W fun e w' => e = .returned (.int .i64 (gOr ev.M ev.L ev.ng s z)) ∧ Below W.heap.size W w') := fun W s z hW => grd_any s z W (Nat.lt_of_lt_of_le hb hW.size) ((hW.cell (by exact hb)).trans hc) hS hn (h.below hW)
  have Hv : Hid (byG ev user = gOr ev.M ev.L ev.ng user (gOr ev.M ev.L ev.ng ⟨#[42, 100, 101, 102, 97, 117, 108, 116]⟩ 0)) := by
    unfold Hid byG gOr
    cases gV ev.M ev.L user ev.ng <;> rfl
  have hrf : Below wa.heap.size wa wa := Below.refl _ _
  clear h hS hc hbx
  generalize byG ev user = vv at *
  have H1 : Hid (∀ W, Below wa.heap.size wa W → Calls Tryz.prog 93 #[.agg #[.pointer oc, .pointer (some ⟨b, o, none⟩)], .string ⟨#[42, 100, 101, 102, 97, 117, 108, 116]⟩, .int .i64 0] W fun e w' => e = .returned (.int .i64 (gOr ev.M ev.L ev.ng ⟨#[42, 100, 101, 102, 97, 117, 108, 116]⟩ 0)) ∧ Below wa.heap.size wa w') := fun W hW => (HG.out W _ _ (hba.trans (hW.mono hba.size))).mono fun e w' ⟨h1, h2⟩ => ⟨h1, hW.trans (h2.mono hW.size)⟩
  generalize gOr ev.M ev.L ev.ng ⟨#[42, 100, 101, 102, 97, 117, 108, 116]⟩ 0 = zd at *
  have H2 : Hid (∀ W, Below wa.heap.size wa W → Calls Tryz.prog 93 #[.agg #[.pointer oc, .pointer (some ⟨b, o, none⟩)], .string user, .int .i64 zd] W fun e w' => e = .returned (.int .i64 vv) ∧ Below wa.heap.size wa w') := fun W hW => (HG.out W user zd (hba.trans (hW.mono hba.size))).mono fun e w' ⟨h1, h2⟩ => ⟨by rw [Hv.out]; exact h1, hW.trans (h2.mono hW.size)⟩
  clear HG Hv
  go_enter Tryz.func66, Tryz.ntmps66
  go_wp2_with fail
  rw [← hwa]
  clear hwa
  have y0 : wa.cell? ⟨w.heap.size, 0, none⟩ = some (.pointer oc) := x0
  have y1 : wa.cell? ⟨w.heap.size, 1, none⟩ = some (.pointer (some ⟨b, o, none⟩)) := x1
  clear x0 x1
  go_region_held3 (fun W => W.cell? ⟨w.heap.size, 0, none⟩ = some (.pointer oc) ∧ W.cell? ⟨w.heap.size, 1, none⟩ = some (.pointer (some ⟨b, o, none⟩)))
    (first | (with_reducible exact ⟨y0, y1⟩) | go_keep)
    (first
      | (go_at_call_of 93 user; refine (H2.out _ (by first | with_reducible exact hb2 | with_reducible exact hb2.drew | with_reducible exact hb2.drew.drew | with_reducible exact hb2.drew.drew.drew)).mono ?_; rintro e w3 ⟨rfl, hb3⟩; have r0 := (hb3.cell (by exact hsz)).trans y0; have r1 := (hb3.cell (by exact hsz)).trans y1)
      | (go_at_call 93; refine (H1.out _ (by first | with_reducible exact hrf | with_reducible exact hrf.drew | with_reducible exact hrf.drew.drew | with_reducible exact hrf.drew.drew.drew)).mono ?_; rintro e w2 ⟨rfl, hb2⟩; have q0 := (hb2.cell (by exact hsz)).trans y0; have q1 := (hb2.cell (by exact hsz)).trans y1))
  all_goals
    go_wp2
    go_ret
    exact ⟨rfl, hba.trans (Below.mono (by first | exact hb3 | exact hb3.drew | exact hb3.drew.drew) hba.size)⟩

set_option maxRecDepth 100000 in
set_option maxHeartbeats 1000000 in
theorem ofU_none (user : ByteArray) (w : World) :
    Calls Tryz.prog 66 #[.agg #[.pointer none, .pointer none], .string user] w fun e w' => e = .returned (.int .i64 0) ∧ Below w.heap.size w w' := by
  have hb0 : ∀ o, Below w.heap.size w (w.alloc o) := fun o => (Below.refl _ _).alloc (Nat.le_refl _) _
  have hC : ∀ W, Calls Tryz.prog 94 #[.agg #[.pointer none, .pointer none], .string user] W fun e w' => e = .returned (.bool false) ∧ Below W.heap.size W w' := fun W => by
    go_enter Tryz.func94, Tryz.ntmps94
    go_wp2
    go_ret
    exact ⟨rfl, (Below.refl _ _).alloc (Nat.le_refl _) _⟩
  go_enter Tryz.func66, Tryz.ntmps66
  go_wp2_with fail
  refine (hC _).mono ?_
  rintro e w1 ⟨rfl, hb1⟩
  go_wp2
  go_ret
  exact ⟨rfl, (hb0 _).trans (hb1.mono (by simp))⟩

set_option maxRecDepth 100000 in
set_option maxHeartbeats 1000000 in
theorem ofU_cre {b o : Nat} (sd user : ByteArray) (w : World) (hb : b < w.heap.size) (hc : w.cell? ⟨b, o + 1, none⟩ = some (.string sd)) :
    Calls Tryz.prog 66 #[.agg #[.pointer (some ⟨b, o, none⟩), .pointer none], .string user] w fun e w' => e = .returned (.int .i64 (if (sd.toList == user.toList) = true then 100 else 0)) ∧ Below w.heap.size w w' := by
  have hb0 : ∀ o, Below w.heap.size w (w.alloc o) := fun o => (Below.refl _ _).alloc (Nat.le_refl _) _
  cases hq : (sd.toList == user.toList)
  all_goals
    have hC : ∀ W, Below w.heap.size w W → Calls Tryz.prog 94 #[.agg #[.pointer (some ⟨b, o, none⟩), .pointer none], .string user] W fun e w' => e = .returned (.bool (sd.toList == user.toList)) ∧ Below W.heap.size W w' := fun W hW => by
      have hbW : b < W.heap.size := Nat.lt_of_lt_of_le hb hW.size
      have k1 : (W.alloc (.cells #[.pointer (some ⟨b, o, none⟩), .pointer none] 115)).cell? ⟨b, o + 1, none⟩ = some (.string sd) := (((Below.refl W.heap.size W).alloc (Nat.le_refl _) _).cell (by exact hbW)).trans ((hW.cell (by exact hb)).trans hc)
      have hne : b ≠ W.heap.size := by omega
      go_enter Tryz.func94, Tryz.ntmps94
      go_wp2
      go_ret
      exact ⟨ret_bool (by first | rfl | exact hq.symm | rw [hq]), (Below.refl _ _).alloc (Nat.le_refl _) _⟩
    have HC : Hid (_) := hC
    clear hC
    go_enter Tryz.func66, Tryz.ntmps66
    go_wp2_with fail
    refine (HC.out _ (hb0 _)).mono ?_
    rintro e w1 ⟨rfl, hb1⟩
    rw [hq]
    go_wp2
    go_ret
    exact ⟨rfl, (hb0 _).trans (hb1.mono (by simp))⟩
end Go.Proofs.YtnkpikknkooblaaGreat
