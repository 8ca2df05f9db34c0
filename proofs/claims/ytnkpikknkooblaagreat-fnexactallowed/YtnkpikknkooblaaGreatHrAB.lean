import Derived.Test.YtnkpikknkooblaaGreatLvI
import Derived.Test.YtnkpikknkooblaaGreatNdA
/-
  impl's levels over a view: ofUser, granted, defaultFor, forThing, forEvent, membership.
-/
namespace Go.Proofs.YtnkpikknkooblaaGreat
open Go.RowKit Go.Maps Go.ChangeMaps

/-- a pointer to the event, or to none. -/
def PtAt (w : World) (v : Option Addr) (x : Option Ev) : Prop := (x = none ∧ v = none) ∨ ∃ ev b off, x = some ev ∧ v = some ⟨b, off, none⟩ ∧ b < w.heap.size ∧ EvAt w b off ev
theorem PtAt.below {w w' : World} {v : Option Addr} {x : Option Ev} (h : PtAt w v x) (hb : Below w.heap.size w w') : PtAt w' v x := by
  rcases h with h | ⟨ev, b, off, h1, h2, h3, h4⟩
  · exact Or.inl h
  · exact Or.inr ⟨ev, b, off, h1, h2, Nat.lt_of_lt_of_le h3 hb.size, h4.below hb h3⟩
/-- the levels of a view. -/
structure LvAt (w : World) (oc op : Option Addr) (o : View) : Prop where
  c : PtAt w oc (o tCre tNil)
  p : PtAt w op (o tPow tNil)
  asc : ∀ p, o tPow tNil = some p → AscM p.M p.ng ∧ p.ng ≤ 50
theorem LvAt.below {w w' : World} {oc op : Option Addr} {o : View} (h : LvAt w oc op o) (hb : Below w.heap.size w w') : LvAt w' oc op o := ⟨h.c.below hb, h.p.below hb, h.asc⟩

theorem ofU_o {oc op : Option Addr} {o : View} (u : ByteArray) (w : World) (h : LvAt w oc op o) :
    Calls Tryz.prog 66 #[.agg #[.pointer oc, .pointer op], .string u] w fun e w' => e = .returned (.int .i64 (lvO o u)) ∧ Below w.heap.size w w' := by
  unfold lvO
  rcases h.p with ⟨h1, rfl⟩ | ⟨p, b, off, h1, rfl, hb, pa, cp, aa, ca, ga, cg, hc, hok⟩
  · rw [h1]
    rcases h.c with ⟨h2, rfl⟩ | ⟨c, b, off, h2, rfl, hb, pa, cp, aa, ca, ga, cg, hc, hok⟩
    · rw [h2]
      exact ofU_none u w
    · rw [h2]
      exact ofU_cre _ u w hb hc.c1
  · rw [h1]
    exact ofU_pow u w hb hc.c9 (h.asc p h1).1 (h.asc p h1).2 hok.hg

set_option maxRecDepth 100000 in
theorem grd_none (oc : Option Addr) (s : ByteArray) (z : Int) (w : World) :
    Calls Tryz.prog 93 #[.agg #[.pointer oc, .pointer none], .string s, .int .i64 z] w fun e w' => e = .returned (.int .i64 z) ∧ Below w.heap.size w w' := by
  go_enter Tryz.func93, Tryz.ntmps93
  go_wp2
  go_ret
  exact ⟨rfl, (Below.refl _ _).alloc (Nat.le_refl _) _⟩
theorem grd_o {oc op : Option Addr} {o : View} (s : ByteArray) (z : Int) (w : World) (h : LvAt w oc op o) :
    Calls Tryz.prog 93 #[.agg #[.pointer oc, .pointer op], .string s, .int .i64 z] w fun e w' => e = .returned (.int .i64 (thO o s z)) ∧ Below w.heap.size w w' := by
  unfold thO
  rcases h.p with ⟨h1, rfl⟩ | ⟨p, b, off, h1, rfl, hb, pa, cp, aa, ca, ga, cg, hc, hok⟩
  · rw [h1]
    exact grd_none oc s z w
  · rw [h1]
    exact grd_any s z w hb hc.c9 (h.asc p h1).1 (h.asc p h1).2 hok.hg

set_option maxRecDepth 100000 in
set_option maxHeartbeats 1000000 in
theorem dfl_o {oc op : Option Addr} {o : View} (t : ByteArray) (w : World) (h : LvAt w oc op o) :
    Calls Tryz.prog 150 #[.agg #[.pointer oc, .pointer op], .string t] w fun e w' => e = .returned (.int .i64 (dfV o t)) ∧ Below w.heap.size w w' := by
  have Hd : Hid (dfV o t = if isBan t || isKic t || (isSta t && (o tPow tNil).isSome) then 50 else 0) := rfl
  have hb0 : ∀ o, Below w.heap.size w (w.alloc o) := fun o => (Below.refl _ _).alloc (Nat.le_refl _) _
  generalize dfV o t = d at *
  cases hB : isBan t <;> cases hK : isKic t <;> cases hS : isSta t
  all_goals
    rw [hB, hK, hS] at Hd
    unfold isBan at hB
    unfold isKic at hK
    unfold isSta at hS
    rcases h.p with ⟨h1, rfl⟩ | ⟨p, b, off, h1, rfl, -, -⟩
    all_goals
      rw [h1] at Hd
      clear h h1
      go_enter Tryz.func150, Tryz.ntmps150
      go_wp2
      go_ret
      exact ⟨ret_int (by rw [Hd.out]; rfl), hb0 _⟩

/-- the map shows the view at slot x. -/
def SlotAt (w : World) (F : Ent → Value) (o : View) (x : Ent) : Prop := ∃ v, F x = .pointer v ∧ PtAt w v (o x.ty x.key)
theorem SlotAt.below {w w' : World} {F : Ent → Value} {o : View} {x : Ent} (h : SlotAt w F o x) (hb : Below w.heap.size w w') : SlotAt w' F o x := by
  obtain ⟨v, h1, h2⟩ := h
  exact ⟨v, h1, h2.below hb⟩

set_option maxRecDepth 100000 in
set_option maxHeartbeats 1000000 in
theorem mem_o {mb c : Nat} {F : Ent → Value} {o : View} (u : ByteArray) (hu : u.size ≤ maxLen) (w : World) (hM : MapV w mb c F) (hs : SlotAt w F o ⟨tMem, u, tNil⟩) :
    Calls Tryz.prog 129 #[.map (some mb), .string u] w fun e w' => e = .returned (.string (memO o u)) ∧ Below w.heap.size w w' := by
  obtain ⟨v, hv, hpt⟩ := hs
  have HK : Hid (∀ W, Below w.heap.size w W → (Instr.lookup 73 (.map (some mb)) (.agg #[.string tMem, .string u]) false).run Tryz.prog W = .ok (.pointer v) W) := fun W hW => by
    have := mapV_get (hM.below hW) (k := ⟨tMem, u, tNil⟩) ⟨by show tMem.size ≤ maxLen; decide, hu⟩
    rw [hv] at this
    exact this
  have Hv : Hid (memO o u = match o tMem u with | some m => m.val | none => tLea) := rfl
  have HS : Hid (Calls Tryz.prog 67 #[.string u] w fun e w' => e = .returned (.agg #[.string tMem, .string u]) ∧ Below w.heap.size w w') := mbrI_any u w
  clear hM hv
  generalize memO o u = vv at *
  rcases hpt with ⟨h1, rfl⟩ | ⟨m, b, off, h1, rfl, hb, pa, cp, aa, ca, ga, cg, hc, hok⟩
  · have Hz : Hid (vv = tLea) := by unfold Hid; rw [Hv.out, h1]
    clear Hv h1
    go_enter Tryz.func129, Tryz.ntmps129
    go_wp2_with fail
    refine HS.out.mono ?_
    rintro e w1 ⟨rfl, hb1⟩
    have hlk := HK.out w1 hb1
    go_wp2
    go_ret
    exact ⟨by rw [Hz.out]; rfl, hb1⟩
  · have Hz : Hid (vv = m.val) := by unfold Hid; rw [Hv.out, h1]
    have c8 := hc.c8
    clear Hv h1 hc hok
    go_enter Tryz.func129, Tryz.ntmps129
    go_wp2_with fail
    refine HS.out.mono ?_
    rintro e w1 ⟨rfl, hb1⟩
    have hlk := HK.out w1 hb1
    have d8 := (hb1.cell (by exact hb)).trans c8
    go_wp2
    go_ret
    exact ⟨by rw [Hz.out]; rfl, hb1⟩
end Go.Proofs.YtnkpikknkooblaaGreat
/-
  impl's forThing and forEvent.
-/
namespace Go.Proofs.YtnkpikknkooblaaGreat
open Go.RowKit Go.Maps Go.ChangeMaps

set_option maxHeartbeats 20000 in
theorem grd_t {oc op : Option Addr} {o : View} (t s : ByteArray) (hs : s = ⟨#[42]⟩ ++ t) (w : World) (h : LvAt w oc op o) :
    Calls Tryz.prog 93 #[.agg #[.pointer oc, .pointer op], .string s, .int .i64 (dfV o t)] w fun e w' => e = .returned (.int .i64 (tgV o t)) ∧ Below w.heap.size w w' := by
  have := grd_o s (dfV o t) w h
  unfold tgV
  rw [← hs]
  exact this
set_option maxHeartbeats 20000 in
theorem grd_e {oc op : Option Addr} {o : View} (ev : Ev) (t s : ByteArray) (hs : s = ⟨#[35]⟩ ++ ev.ty) (ht : t = if ev.st then tSta else tAct) (w : World) (h : LvAt w oc op o) :
    Calls Tryz.prog 93 #[.agg #[.pointer oc, .pointer op], .string s, .int .i64 (tgV o t)] w fun e w' => e = .returned (.int .i64 (ndV o ev)) ∧ Below w.heap.size w w' := by
  have := grd_o s (tgV o t) w h
  unfold ndV
  rw [← hs, ← ht]
  exact this

set_option maxRecDepth 100000 in
set_option maxHeartbeats 400000 in
theorem fth_o {oc op : Option Addr} {o : View} (t : ByteArray) (ht : t.size ≤ 1000) (w : World) (h : LvAt w oc op o) :
    Calls Tryz.prog 133 #[.agg #[.pointer oc, .pointer op], .string t] w fun e w' => e = .returned (.int .i64 (tgV o t)) ∧ Below w.heap.size w w' := by
  have hb0 : ∀ o, Below w.heap.size w (w.alloc o) := fun o => (Below.refl _ _).alloc (Nat.le_refl _) _
  obtain ⟨wa, hwa⟩ : ∃ wa, wa = w.alloc (.cells #[.pointer oc, .pointer op] 115) := ⟨_, rfl⟩
  have hba : Below w.heap.size w wa := by rw [hwa]; exact hb0 _
  have hsz : w.heap.size < wa.heap.size := by rw [hwa]; simp
  have y0 : wa.cell? ⟨w.heap.size, 0, none⟩ = some (.pointer oc) := by rw [hwa]; exact World.cell?_alloc_at _ _ _ _ rfl
  have y1 : wa.cell? ⟨w.heap.size, 1, none⟩ = some (.pointer op) := by rw [hwa]; exact World.cell?_alloc_at _ _ _ _ rfl
  have H1 : Hid (∀ W, Below wa.heap.size wa W → Calls Tryz.prog 150 #[.agg #[.pointer oc, .pointer op], .string t] W fun e w' => e = .returned (.int .i64 (dfV o t)) ∧ Below wa.heap.size wa w') := fun W hW => (dfl_o t W (h.below (hba.trans (hW.mono hba.size)))).mono fun e w' ⟨h1, h2⟩ => ⟨h1, hW.trans (h2.mono hW.size)⟩
  have H2a : ∀ W, Below w.heap.size w W → Calls Tryz.prog 93 #[.agg #[.pointer oc, .pointer op], .string (⟨#[42]⟩ ++ t), .int .i64 (dfV o t)] W fun e w' => e = .returned (.int .i64 (tgV o t)) ∧ Below W.heap.size W w' := by
    intro W hW
    have q := grd_t (o := o) t (⟨#[42]⟩ ++ t) rfl W (h.below hW)
    exact q
  have H2 : Hid (∀ W, Below wa.heap.size wa W → Calls Tryz.prog 93 #[.agg #[.pointer oc, .pointer op], .string (⟨#[42]⟩ ++ t), .int .i64 (dfV o t)] W fun e w' => e = .returned (.int .i64 (tgV o t)) ∧ Below wa.heap.size wa w') := fun W hW => (H2a W (hba.trans (hW.mono hba.size))).mono fun e w' ⟨h1, h2⟩ => ⟨h1, hW.trans (h2.mono hW.size)⟩
  have hrf : Below wa.heap.size wa wa := Below.refl _ _
  clear h H2a
  generalize tgV o t = v at *
  generalize dfV o t = d at *
  have h9a : ¬ (9223372036854775807 < (⟨#[42]⟩ : ByteArray).size + t.size) := by have : (⟨#[42]⟩ : ByteArray).size = 1 := rfl; omega
  have h9b : (⟨#[42]⟩ : ByteArray).size + t.size ≤ 9223372036854775807 := by have : (⟨#[42]⟩ : ByteArray).size = 1 := rfl; omega
  have h9c : ¬ (9223372036854775807 < 1 + t.size) := by omega
  have h9d : 1 + t.size ≤ 9223372036854775807 := by omega
  go_enter Tryz.func133, Tryz.ntmps133
  go_wp2_with fail
  rw [← hwa]
  clear hwa
  go_region_held3 (fun W => W.cell? ⟨w.heap.size, 0, none⟩ = some (.pointer oc) ∧ W.cell? ⟨w.heap.size, 1, none⟩ = some (.pointer op))
    (first | (with_reducible exact ⟨y0, y1⟩) | go_keep)
    (first
      | (go_at_call 93; refine (H2.out _ (by first | with_reducible exact hb2 | with_reducible exact hb2.drew | with_reducible exact hb2.drew.drew | with_reducible exact hb2.drew.drew.drew)).mono ?_; rintro e w3 ⟨rfl, hb3⟩; have r0 := (hb3.cell (by exact hsz)).trans y0; have r1 := (hb3.cell (by exact hsz)).trans y1)
      | (go_at_call 150; refine (H1.out _ (by first | with_reducible exact hrf | with_reducible exact hrf.drew | with_reducible exact hrf.drew.drew | with_reducible exact hrf.drew.drew.drew)).mono ?_; rintro e w2 ⟨rfl, hb2⟩; have q0 := (hb2.cell (by exact hsz)).trans y0; have q1 := (hb2.cell (by exact hsz)).trans y1))
  all_goals
    go_wp2
    go_ret
    exact ⟨rfl, hba.trans (Below.mono (by first | exact hb3 | exact hb3.drew | exact hb3.drew.drew) hba.size)⟩

set_option maxRecDepth 100000 in
set_option maxHeartbeats 800000 in
theorem fev_o {oc op : Option Addr} {o : View} (ev : Ev) (pa : Option Addr) (cp : Nat) (aa : Option Addr) (ca : Nat) (ga : Option Addr) (cg : Nat) (ht : ev.ty.size ≤ 1000) (w : World) (h : LvAt w oc op o) :
    Calls Tryz.prog 135 #[.agg #[.pointer oc, .pointer op], ev.val' pa cp aa ca ga cg] w fun e w' => e = .returned (.int .i64 (ndV o ev)) ∧ Below w.heap.size w w' := by
  have hb0 : ∀ o o2, Below w.heap.size w ((w.alloc o).alloc o2) := fun o o2 => ((Below.refl _ _).alloc (Nat.le_refl _) _).alloc (by simp) _
  obtain ⟨wa, hwa⟩ : ∃ wa, wa = (w.alloc (.cells #[.pointer oc, .pointer op] 115)).alloc (.cells #[.string ev.id, .string ev.sd, .string ev.ty, .bool ev.st, .string ev.key, .int .i64 ev.tm, .slice pa ev.np cp, .slice aa ev.na ca, .string ev.val, .slice ga ev.ng cg] 42) := ⟨_, rfl⟩
  have hba : Below w.heap.size w wa := by rw [hwa]; exact hb0 _ _
  have hsz : w.heap.size < wa.heap.size := by rw [hwa]; simp; omega
  have hsz1 : w.heap.size + 1 < wa.heap.size := by rw [hwa]; simp
  have hbx : Below (w.heap.size + 1) (w.alloc (.cells #[.pointer oc, .pointer op] 115)) wa := by rw [hwa]; exact (Below.refl _ _).alloc (by simp) _
  have y0 : wa.cell? ⟨w.heap.size, 0, none⟩ = some (.pointer oc) := box_cells hbx 0
  have y1 : wa.cell? ⟨w.heap.size, 1, none⟩ = some (.pointer op) := box_cells hbx 1
  have y2 : wa.cell? ⟨w.heap.size + 1, 2, none⟩ = some (.string ev.ty) := by rw [hwa]; exact World.cell?_alloc_at _ _ _ _ (by simp)
  have y3 : wa.cell? ⟨w.heap.size + 1, 3, none⟩ = some (.bool ev.st) := by rw [hwa]; exact World.cell?_alloc_at _ _ _ _ (by simp)
  have hrf : Below wa.heap.size wa wa := Below.refl _ _
  cases hst : ev.st
  all_goals
    obtain ⟨t, hte⟩ : ∃ t : ByteArray, t = (if ev.st then tSta else tAct) := ⟨_, rfl⟩
    have ht2 : t.size ≤ 1000 := by rw [hte, hst]; decide
    have H1 : Hid (∀ W, Below wa.heap.size wa W → Calls Tryz.prog 133 #[.agg #[.pointer oc, .pointer op], .string t] W fun e w' => e = .returned (.int .i64 (tgV o t)) ∧ Below wa.heap.size wa w') := fun W hW => (fth_o t ht2 W (h.below (hba.trans (hW.mono hba.size)))).mono fun e w' ⟨h1, h2⟩ => ⟨h1, hW.trans (h2.mono hW.size)⟩
    have H2a : ∀ W, Below w.heap.size w W → Calls Tryz.prog 93 #[.agg #[.pointer oc, .pointer op], .string (⟨#[35]⟩ ++ ev.ty), .int .i64 (tgV o t)] W fun e w' => e = .returned (.int .i64 (ndV o ev)) ∧ Below W.heap.size W w' := by
      intro W hW
      have q := grd_e (o := o) ev t (⟨#[35]⟩ ++ ev.ty) rfl hte W (h.below hW)
      exact q
    have H2 : Hid (∀ W, Below wa.heap.size wa W → Calls Tryz.prog 93 #[.agg #[.pointer oc, .pointer op], .string (⟨#[35]⟩ ++ ev.ty), .int .i64 (tgV o t)] W fun e w' => e = .returned (.int .i64 (ndV o ev)) ∧ Below wa.heap.size wa w') := fun W hW => (H2a W (hba.trans (hW.mono hba.size))).mono fun e w' ⟨h1, h2⟩ => ⟨h1, hW.trans (h2.mono hW.size)⟩
    clear h H2a
    rw [hst] at hte
    simp only [if_true, Bool.false_eq_true, if_false] at hte
    subst hte
    generalize ndV o ev = v at *
    generalize hd : tgV o _ = d at *
    rw [hst] at y3 hwa
    have h9a : ¬ (9223372036854775807 < (⟨#[35]⟩ : ByteArray).size + ev.ty.size) := by have : (⟨#[35]⟩ : ByteArray).size = 1 := rfl; omega
    have h9b : (⟨#[35]⟩ : ByteArray).size + ev.ty.size ≤ 9223372036854775807 := by have : (⟨#[35]⟩ : ByteArray).size = 1 := rfl; omega
    have h9c : ¬ (9223372036854775807 < 1 + ev.ty.size) := by omega
    have h9d : 1 + ev.ty.size ≤ 9223372036854775807 := by omega
    go_enter Tryz.func135, Tryz.ntmps135
    go_wp2_with fail
    rw [← hwa]
    clear hwa
    go_region_held3 (fun W => W.cell? ⟨w.heap.size, 0, none⟩ = some (.pointer oc) ∧ W.cell? ⟨w.heap.size, 1, none⟩ = some (.pointer op) ∧ W.cell? ⟨w.heap.size + 1, 2, none⟩ = some (.string ev.ty))
      (first | (with_reducible exact ⟨y0, y1, y2⟩) | go_keep)
      (first
        | (go_at_call 93; refine (H2.out _ (by first | with_reducible exact hb2 | with_reducible exact hb2.drew | with_reducible exact hb2.drew.drew | with_reducible exact hb2.drew.drew.drew)).mono ?_; rintro e w3 ⟨rfl, hb3⟩; have r0 := (hb3.cell (by exact hsz)).trans y0; have r1 := (hb3.cell (by exact hsz)).trans y1; have r2 := (hb3.cell (by exact hsz1)).trans y2)
        | (go_at_call 133; refine (H1.out _ (by first | with_reducible exact hrf | with_reducible exact hrf.drew | with_reducible exact hrf.drew.drew | with_reducible exact hrf.drew.drew.drew)).mono ?_; rintro e w2 ⟨rfl, hb2⟩; have q0 := (hb2.cell (by exact hsz)).trans y0; have q1 := (hb2.cell (by exact hsz)).trans y1; have q2 := (hb2.cell (by exact hsz1)).trans y2))
    all_goals
      go_wp2
      go_ret
      exact ⟨rfl, hba.trans (Below.mono (by first | exact hb3 | exact hb3.drew | exact hb3.drew.drew) hba.size)⟩

end Go.Proofs.YtnkpikknkooblaaGreat
/-
  impl's hearing: its cells, and the small questions.
-/
namespace Go.Proofs.YtnkpikknkooblaaGreat
open Go.RowKit Go.Maps Go.ChangeMaps

/-- the hearing at block h. -/
structure Hr (w : World) (h mb c : Nat) (F : Ent → Value) (oc op : Option Addr) (o : View) (e : Ev) (pa : Option Addr) (cp : Nat) (aa : Option Addr) (ca : Nat) (ga : Option Addr) (cg : Nat) : Prop where
  lt : h < w.heap.size
  ev : EvCells w h 0 e pa cp aa ca ga cg
  c10 : w.cell? ⟨h, 10, none⟩ = some (.map (some mb))
  c11 : w.cell? ⟨h, 11, none⟩ = some (.pointer oc)
  c12 : w.cell? ⟨h, 12, none⟩ = some (.pointer op)
  c13 : w.cell? ⟨h, 13, none⟩ = some (.int .i64 (lvO o e.sd))
  ok : EvOk w e pa cp aa ca ga cg
  map : MapV w mb c F
  lev : LvAt w oc op o
  code : e.code = 0
  sd : isCr e = false → SlotAt w F o ⟨tMem, e.sd, tNil⟩
  key : isMb e = true → SlotAt w F o ⟨tMem, e.key, tNil⟩
  rul : isMb e = true → isJn e = true → SlotAt w F o ⟨tRul, tNil, tNil⟩
theorem Hr.below {w w' : World} {h mb c : Nat} {F : Ent → Value} {oc op : Option Addr} {o : View} {e : Ev} {pa : Option Addr} {cp : Nat} {aa : Option Addr} {ca : Nat} {ga : Option Addr} {cg : Nat} (H : Hr w h mb c F oc op o e pa cp aa ca ga cg) (hb : Below w.heap.size w w') : Hr w' h mb c F oc op o e pa cp aa ca ga cg :=
  ⟨Nat.lt_of_lt_of_le H.lt hb.size, H.ev.below hb H.lt, (hb.cell (by exact H.lt)).trans H.c10, (hb.cell (by exact H.lt)).trans H.c11, (hb.cell (by exact H.lt)).trans H.c12, (hb.cell (by exact H.lt)).trans H.c13, H.ok.below hb, H.map.below hb, H.lev.below hb, H.code, fun h1 => (H.sd h1).below hb, fun h1 => (H.key h1).below hb, fun h1 h2 => (H.rul h1 h2).below hb⟩
theorem Hr.memK {w : World} {h mb c : Nat} {F : Ent → Value} {oc op : Option Addr} {o : View} {e : Ev} {pa : Option Addr} {cp : Nat} {aa : Option Addr} {ca : Nat} {ga : Option Addr} {cg : Nat} (H : Hr w h mb c F oc op o e pa cp aa ca ga cg) (hm : isMb e = true) : Hid (∀ W, Below w.heap.size w W → Calls Tryz.prog 129 #[.map (some mb), .string e.key] W fun x w' => x = .returned (.string (memO o e.key)) ∧ Below w.heap.size w w') := fun W hW => (mem_o e.key H.ok.hkey W (H.map.below hW) ((H.key hm).below hW)).mono fun _ _ ⟨h1, h2⟩ => ⟨h1, hW.trans (h2.mono hW.size)⟩
theorem Hr.memS {w : World} {h mb c : Nat} {F : Ent → Value} {oc op : Option Addr} {o : View} {e : Ev} {pa : Option Addr} {cp : Nat} {aa : Option Addr} {ca : Nat} {ga : Option Addr} {cg : Nat} (H : Hr w h mb c F oc op o e pa cp aa ca ga cg) (hc : isCr e = false) : Hid (∀ W, Below w.heap.size w W → Calls Tryz.prog 129 #[.map (some mb), .string e.sd] W fun x w' => x = .returned (.string (memO o e.sd)) ∧ Below w.heap.size w w') := fun W hW => (mem_o e.sd H.ok.hsd W (H.map.below hW) ((H.sd hc).below hW)).mono fun _ _ ⟨h1, h2⟩ => ⟨h1, hW.trans (h2.mono hW.size)⟩
/-- what a rule answers. -/
abbrev rAns (r : Int × Bool) : Value := .tuple #[.int .i64 r.1, .bool r.2]
theorem ret_r {a : Int} {b : Bool} {r : Int × Bool} (h : r = (a, b)) : Ending.returned (.tuple #[.int .i64 a, .bool b]) = .returned (rAns r) := by rw [h]

set_option maxRecDepth 100000 in
theorem isM_any (e : Ev) (pa : Option Addr) (cp : Nat) (aa : Option Addr) (ca : Nat) (ga : Option Addr) (cg : Nat) (t : ByteArray) (w : World) :
    Calls Tryz.prog 68 #[e.val' pa cp aa ca ga cg, .string t] w fun x w' => x = .returned (.bool (isMb e && (e.val.toList == t.toList))) ∧ Below w.heap.size w w' := by
  have hb0 : ∀ o, Below w.heap.size w (w.alloc o) := fun o => (Below.refl _ _).alloc (Nat.le_refl _) _
  cases hm : isMb e
  case false =>
    have hm' : (e.ty.toList == [109, 101, 109, 98, 101, 114]) = false := hm
    clear hm
    go_enter Tryz.func68, Tryz.ntmps68
    go_wp2
    go_ret
    exact ⟨rfl, hb0 _⟩
  case true =>
    have hm' : (e.ty.toList == [109, 101, 109, 98, 101, 114]) = true := hm
    clear hm
    go_enter Tryz.func68, Tryz.ntmps68
    go_wp2
    go_ret
    exact ⟨rfl, hb0 _⟩
theorem isM_t {e : Ev} (pa : Option Addr) (cp : Nat) (aa : Option Addr) (ca : Nat) (ga : Option Addr) (cg : Nat) {t : ByteArray} {b : Bool} (hb : (isMb e && (e.val.toList == t.toList)) = b) (w : World) : Hid (∀ W, Below w.heap.size w W → Calls Tryz.prog 68 #[.agg #[.string e.id, .string e.sd, .string e.ty, .bool e.st, .string e.key, .int .i64 e.tm, .slice pa e.np cp, .slice aa e.na ca, .string e.val, .slice ga e.ng cg], .string t] W fun x w' => x = .returned (.bool b) ∧ Below w.heap.size w w') := fun W hW => (isM_any e pa cp aa ca ga cg t W).mono fun _ _ ⟨h1, h2⟩ => ⟨by rw [h1, hb], hW.trans (h2.mono hW.size)⟩
theorem isM_jn (e : Ev) : (e.val.toList == (⟨#[106, 111, 105, 110]⟩ : ByteArray).toList) = isJn e := by unfold isJn; rw [ByteArray.toList_eq ⟨#[106, 111, 105, 110]⟩]
theorem isM_lea (e : Ev) : (e.val.toList == tLea.toList) = isLea e.val := by unfold isLea; rw [ByteArray.toList_eq tLea]
theorem isM_inv (e : Ev) : (e.val.toList == tInv.toList) = isInv e.val := by unfold isInv; rw [ByteArray.toList_eq tInv]
theorem isM_ban (e : Ev) : (e.val.toList == tBan.toList) = isBan e.val := by unfold isBan; rw [ByteArray.toList_eq tBan]

set_option maxRecDepth 100000 in
set_option maxHeartbeats 1000000 in
theorem isC_o {oc op : Option Addr} {o : View} (u : ByteArray) (w : World) (h : LvAt w oc op o) :
    Calls Tryz.prog 94 #[.agg #[.pointer oc, .pointer op], .string u] w fun x w' => x = .returned (.bool (creB o u)) ∧ Below w.heap.size w w' := by
  have hb0 : ∀ o, Below w.heap.size w (w.alloc o) := fun o => (Below.refl _ _).alloc (Nat.le_refl _) _
  unfold creB
  rcases h.c with ⟨h1, rfl⟩ | ⟨c, b, off, h1, rfl, hb, pa, cp, aa, ca, ga, cg, hc, hok⟩
  · rw [h1]
    clear h h1
    go_enter Tryz.func94, Tryz.ntmps94
    go_wp2
    go_ret
    exact ⟨rfl, hb0 _⟩
  · rw [h1]
    have c1 : (w.alloc (.cells #[.pointer (some ⟨b, off, none⟩), .pointer op] 115)).cell? ⟨b, off + 1, none⟩ = some (.string c.sd) := ((hb0 _).cell (by exact hb)).trans hc.c1
    have hne : b ≠ w.heap.size := by omega
    clear h h1 hc hok
    go_enter Tryz.func94, Tryz.ntmps94
    go_wp2
    go_ret
    exact ⟨rfl, hb0 _⟩

set_option maxRecDepth 100000 in
set_option maxHeartbeats 1000000 in
theorem expI {h mb c : Nat} {F : Ent → Value} {oc op : Option Addr} {o : View} {e : Ev} {pa : Option Addr} {cp : Nat} {aa : Option Addr} {ca : Nat} {ga : Option Addr} {cg : Nat} (w : World) (H : Hr w h mb c F oc op o e pa cp aa ca ga cg) (hm : isMb e = true) :
    Calls Tryz.prog 130 #[.pointer (some ⟨h, 0, none⟩)] w fun x w' => x = .returned (.bool (expB (memO o e.key))) ∧ Below w.heap.size w w' := by
  have k4 : w.cell? ⟨h, 4, none⟩ = some (.string e.key) := H.ev.c4
  have k10 : w.cell? ⟨h, 10, none⟩ = some (.map (some mb)) := H.c10
  have hlt := H.lt
  have hrf : Below w.heap.size w w := Below.refl _ _
  have HM := H.memK hm
  clear H
  generalize memO o e.key = t at *
  have Hx : Hid (expB t = (isJoin t || isInv t)) := rfl
  cases hj : isJoin t <;> cases hi : isInv t
  all_goals
    rw [hj, hi] at Hx
    unfold isJoin at hj
    unfold isInv at hi
    go_enter Tryz.func130, Tryz.ntmps130
    go_wp2_with fail
    go_region_held3 (fun W => W.cell? ⟨h, 10, none⟩ = some (.map (some mb)) ∧ W.cell? ⟨h, 4, none⟩ = some (.string e.key)) (first | (with_reducible exact ⟨k10, k4⟩) | go_keep)
      (first | (go_at_call 129; refine (HM.out _ (by first | with_reducible exact hrf | with_reducible exact hrf.drew | with_reducible exact hrf.drew.drew | with_reducible exact hrf.drew.drew.drew | with_reducible exact hrf.drew.drew.drew.drew | with_reducible exact hrf.drew.drew.drew.drew.drew)).mono ?_; rintro x w2 ⟨rfl, hb2⟩; have q10 := (hb2.cell (by exact hlt)).trans k10; have q4 := (hb2.cell (by exact hlt)).trans k4))
    all_goals
      go_wp2
      go_ret
      exact ⟨ret_bool (by rw [Hx.out]; rfl), (by first | with_reducible exact hb2 | with_reducible exact hb2.drew | with_reducible exact hb2.drew.drew | with_reducible exact hb2.drew.drew.drew | with_reducible exact hb2.drew.drew.drew.drew | with_reducible exact hb2.drew.drew.drew.drew.drew)⟩

set_option maxRecDepth 100000 in
set_option maxHeartbeats 1000000 in
theorem pubI {h mb c : Nat} {F : Ent → Value} {oc op : Option Addr} {o : View} {e : Ev} {pa : Option Addr} {cp : Nat} {aa : Option Addr} {ca : Nat} {ga : Option Addr} {cg : Nat} (w : World) (H : Hr w h mb c F oc op o e pa cp aa ca ga cg) (hm : isMb e = true) (hj : isJn e = true) :
    Calls Tryz.prog 131 #[.pointer (some ⟨h, 0, none⟩)] w fun x w' => x = .returned (.bool (pubB o)) ∧ Below w.heap.size w w' := by
  have k10 : w.cell? ⟨h, 10, none⟩ = some (.map (some mb)) := H.c10
  have hrf : Below w.heap.size w w := Below.refl _ _
  obtain ⟨v, hv, hpt⟩ := H.rul hm hj
  have hlk : (Instr.lookup 73 (.map (some mb)) (.agg #[.string tRul, .string tNil]) false).run Tryz.prog w = .ok (.pointer v) w := by
    have := mapV_get H.map (k := ⟨tRul, tNil, tNil⟩) ⟨by show tRul.size ≤ maxLen; decide, by show tNil.size ≤ maxLen; decide⟩
    rw [hv] at this
    exact this
  unfold pubB
  clear H hv
  rcases hpt with ⟨h1, rfl⟩ | ⟨m, b, off, h1, rfl, hb, pa', cp', aa', ca', ga', cg', hc, hok⟩
  · rw [show o tRul tNil = none from h1]
    clear h1
    go_enter Tryz.func131, Tryz.ntmps131
    go_wp2
    go_ret
    exact ⟨rfl, hrf⟩
  · rw [show o tRul tNil = some m from h1]
    have c8 := hc.c8
    clear h1 hc hok
    go_enter Tryz.func131, Tryz.ntmps131
    go_wp2
    go_ret
    exact ⟨rfl, hrf⟩
end Go.Proofs.YtnkpikknkooblaaGreat
