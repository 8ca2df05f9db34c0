/-
  impl's LevelOf.
-/
import Derived.Test.YtepgmgkdhklfjaaGreatLvI
import Derived.Test.YtepgmgkdhklfjaaGreatGrA
namespace Go.Proofs.YtepgmgkdhklfjaaGreat
open Go.RowKit Go.Maps Go.ChangeMaps

/-- the pointer to the event at place p. -/
def ptA (b off : Nat) (p : Int) : Option Addr := if 0 ≤ p then some ⟨b, off + p.toNat * 10, none⟩ else none
/-- the two slots. -/
def two : Nat → Ent
  | 0 => sCre
  | _ => sPow
theorem two_at (E : Nat → Ev) (n : Nat) (l : List Ent) (b off : Nat) : FM E n l b off two 2 sCre = .pointer (ptA b off (atV E n l tCre tNil)) ∧ FM E n l b off two 2 sPow = .pointer (ptA b off (atV E n l tPow tNil)) := by
  have e0 : FM E n l b off two 2 = if 0 ≤ atV E n l tPow tNil then putV (FM E n l b off two 1) sPow (.pointer (some ⟨b, off + (atV E n l tPow tNil).toNat * 10, none⟩)) else FM E n l b off two 1 := rfl
  have e1 : FM E n l b off two 1 = if 0 ≤ atV E n l tCre tNil then putV (fun _ => .pointer none) sCre (.pointer (some ⟨b, off + (atV E n l tCre tNil).toNat * 10, none⟩)) else (fun _ => .pointer none) := rfl
  have s1 : samB sCre sCre = true := by unfold samB; simp only [ByteArray.toList_eq]; decide
  have s2 : samB sCre sPow = false := by unfold samB; simp only [ByteArray.toList_eq]; decide
  have s3 : samB sPow sCre = false := by unfold samB; simp only [ByteArray.toList_eq]; decide
  have s4 : samB sPow sPow = true := by unfold samB; simp only [ByteArray.toList_eq]; decide
  rw [e0, e1]
  unfold ptA putV
  constructor <;> (split <;> split <;> simp only [s1, s2, s3, s4, if_true, Bool.false_eq_true, if_false])

theorem ofU_all {a : Option Addr} {n cap b off : Nat} {E : Nat → Ev} {l : List Ent} (user : ByteArray) (w : World) (hr : roomTo E n = true) (hf : fitB E n l = true) (h : SlV w a n cap E) (Ha : 0 < n → a = some ⟨b, off, none⟩) :
    Calls Tryz.prog 24 #[.agg #[.pointer (ptA b off (atV E n l tCre tNil)), .pointer (ptA b off (atV E n l tPow tNil))], .string user] w fun e w' => e = .returned (.int .i64 (lvV E n l user)) ∧ Below w.heap.size w w' := by
  have hbp : atV E n l tPow tNil < n := (posV_bd E (findB l tPow tNil) n).2
  have hbc : atV E n l tCre tNil < n := (posV_bd E (findB l tCre tNil) n).2
  have hlook : ∀ i, i < n → b < w.heap.size ∧ EvAt w b (off + i * 10) (E i) := fun i hi => by
    rcases h.cells with h0 | ⟨b2, off2, e, hlt, hc⟩
    · omega
    · rw [Ha (by omega)] at e
      injection e with e
      injection e with e1 e2
      subst e1 e2
      exact ⟨hlt, hc i hi⟩
  unfold lvV
  by_cases hp : 0 ≤ atV E n l tPow tNil
  · have hty := at_ty hr hf hp
    have hi : (atV E n l tPow tNil).toNat < n := by omega
    obtain ⟨hb, pa, cp, aa, ca, ga, cg, hc, hok⟩ := hlook _ hi
    have hcode := room_code hr hi
    have hpw : isPow (E (atV E n l tPow tNil).toNat) = true := by unfold isPow; rw [hty, ByteArray.toList_eq]; decide
    obtain ⟨h50, has⟩ := gr_asc hcode hpw
    rw [if_pos hp]
    have e2 : ptA b off (atV E n l tPow tNil) = some ⟨b, off + (atV E n l tPow tNil).toNat * 10, none⟩ := if_pos hp
    rw [e2]
    exact ofU_pow user w hb hc.c9 has h50 hok.hg
  · have e2 : ptA b off (atV E n l tPow tNil) = none := if_neg hp
    rw [if_neg hp, e2]
    by_cases hq : 0 ≤ atV E n l tCre tNil
    · have hi : (atV E n l tCre tNil).toNat < n := by omega
      obtain ⟨hb, pa, cp, aa, ca, ga, cg, hc, hok⟩ := hlook _ hi
      have e3 : ptA b off (atV E n l tCre tNil) = some ⟨b, off + (atV E n l tCre tNil).toNat * 10, none⟩ := if_pos hq
      rw [e3]
      refine (ofU_cre _ user w hb hc.c1).mono fun e w' ⟨h1, h2⟩ => ⟨?_, h2⟩
      rw [h1]
      simp only [hq, true_and]
    · have e3 : ptA b off (atV E n l tCre tNil) = none := if_neg hq
      rw [e3]
      refine (ofU_none user w).mono fun e w' ⟨h1, h2⟩ => ⟨?_, h2⟩
      rw [h1, if_neg (fun hx => hq hx.1)]

set_option maxRecDepth 100000 in
theorem idsIn_any (sa : Option Addr) (k sc : Nat) (w : World) :
    Calls Tryz.prog 22 #[.slice sa k sc] w fun e w' => ∃ bs, e = .returned (.func (.func 40) #[] #[.pointer (some ⟨bs, 0, none⟩)]) ∧ bs < w'.heap.size ∧ w'.cell? ⟨bs, 0, none⟩ = some (.slice sa k sc) ∧ Below w.heap.size w w' := by
  go_enter Tryz.func22, Tryz.ntmps22
  go_wp2
  go_ret
  exact ⟨_, rfl, by simp, World.cell?_alloc_at _ _ _ _ rfl, (Below.refl _ _).alloc (Nat.le_refl _) _⟩

theorem SlE.allOk {w : World} {a : Option Addr} {cap : Nat} {l : List Ent} (h : SlE w a cap l) : AllOk l := fun x hx => by
  obtain ⟨i, hi, rfl⟩ := List.mem_iff_getElem.1 hx
  have := h.size i hi
  rwa [eAt_get l i hi] at this

set_option maxRecDepth 100000 in
set_option maxHeartbeats 4000000 in
theorem lvI_sl {a : Option Addr} {n cap : Nat} {E : Nat → Ev} {sa : Option Addr} {sc : Nat} {l : List Ent} (user : ByteArray) (w : World) (h : SlV w a n cap E) (hs : SlE w sa sc l) :
    Calls Tryz.prog 9 #[.agg #[.slice a n cap], .slice sa l.length sc, .string user] w fun e w' => e = .returned (.int .i64 (lvR E n l user)) ∧ Below w.heap.size w w' := by
  have hb0 : ∀ o, Below w.heap.size w (w.alloc o) := fun o => (Below.refl _ _).alloc (Nat.le_refl _) _
  have HR : Hid (lvR E n l user = if roomTo E n && fitB E n l then lvV E n l user else 0) := rfl
  obtain ⟨b, off, Ha⟩ : ∃ b off, Hid (0 < n → a = some ⟨b, off, none⟩) := by
    rcases h.cells with h0 | ⟨b, off, e, _⟩
    · exact ⟨0, 0, fun hn => by omega⟩
    · exact ⟨b, off, fun _ => e⟩
  go_enter Tryz.func9, Tryz.ntmps9
  go_wp2_with fail
  refine (graph_sl _ (h.below (hb0 _))).mono ?_
  rintro e w1 ⟨hb1, hp⟩
  have hw1 := (hb0 _).trans (hb1.mono (hb0 _).size)
  rcases hp with ⟨hq, mm, ra, rc, rfl, hmp, hrs⟩ | ⟨hq, rfl⟩
  case inr =>
    have Hz : Hid (lvR E n l user = 0) := by unfold Hid; rw [HR.out, hq]; rfl
    clear HR hq
    go_wp2
    go_ret
    exact ⟨ret_int Hz.out.symm, hw1.alloc hw1.size _⟩
  case inl =>
    have Hq : Hid (_) := hq
    have hbA : ∀ o, Below w1.heap.size w1 (w1.alloc o) := fun o => (Below.refl _ _).alloc (Nat.le_refl _) _
    clear hb1 hrs
    go_wp2_with fail
    refine (fits_sl _ ((h.below hw1).below (hbA _)) (hmp.below (hbA _)) ((hs.below hw1).below (hbA _))).mono ?_
    rintro e w2 ⟨rfl, hb2⟩
    have hX2 := hb2.mono (B' := w1.heap.size + 1) (by simp)
    have h12 := (hbA _).trans (hb2.mono (by simp))
    have hw2 := hw1.trans (h12.mono hw1.size)
    have hcx := box_cells hX2
    have hS2 : w1.heap.size + 1 ≤ w2.heap.size := by simpa using hX2.size
    clear hb2
    cases hf : fitB E n l
    case false =>
      have Hz : Hid (lvR E n l user = 0) := by unfold Hid; rw [HR.out, hq, hf]; rfl
      clear HR hq hf
      go_wp2
      go_ret
      exact ⟨ret_int Hz.out.symm, hw2⟩
    case true =>
      have Hz : Hid (lvR E n l user = lvV E n l user) := by unfold Hid; rw [HR.out, hq, hf]; rfl
      have Hf : Hid (_) := hf
      obtain ⟨h300, hsrt, -⟩ := st_parts (l := l) (by unfold fitB at hf; rw [Bool.and_eq_true] at hf; exact hf.2)
      clear HR hq hf
      obtain ⟨wk, hwk⟩ : ∃ wk, wk = w2.alloc (.cells #[.string tCre, .string tNil, .string tPow, .string tNil] 56) := ⟨_, rfl⟩
      have h2k : Below w2.heap.size w2 wk := by rw [hwk]; exact (Below.refl _ _).alloc (Nat.le_refl _) _
      have hsk : wk.heap.size = w2.heap.size + 1 := by rw [hwk]; simp
      have hwk0 := hw2.trans (h2k.mono hw2.size)
      have h1k := h12.trans (h2k.mono h12.size)
      have hk : SlV wk a n cap E := h.below hwk0
      have hsl : SlE wk sa sc l := hs.below hwk0
      have hmk := hmp.below h1k
      have hq0 : ∀ i, wk.cell? ⟨w2.heap.size, i, none⟩ = (#[.string tCre, .string tNil, .string tPow, .string tNil] : Array Value)[i]? := fun i => by rw [hwk]; exact World.cell?_alloc_at _ _ _ _ rfl
      have y0 : wk.cell? ⟨w1.heap.size, 0, none⟩ = some (.slice a n cap) := (h2k.cell (by exact hS2)).trans (hcx 0)
      have y1 : wk.cell? ⟨w1.heap.size, 1, none⟩ = some (.map (some mm)) := (h2k.cell (by exact hS2)).trans (hcx 1)
      have y2 : wk.cell? ⟨w1.heap.size, 2, none⟩ = some (.slice ra n rc) := (h2k.cell (by exact hS2)).trans (hcx 2)
      have hs1 : w1.heap.size < wk.heap.size := by omega
      have hrf : Below wk.heap.size wk wk := Below.refl _ _
      have HI : Hid (∀ W, Below wk.heap.size wk W → Calls Tryz.prog 22 #[.slice sa l.length sc] W fun e w' => ∃ bs, e = .returned (.func (.func 40) #[] #[.pointer (some ⟨bs, 0, none⟩)]) ∧ bs < w'.heap.size ∧ Hid (w'.cell? ⟨bs, 0, none⟩ = some (.slice sa l.length sc)) ∧ Below wk.heap.size wk w') := fun W hW => (idsIn_any sa l.length sc W).mono fun e w' ⟨bs, h1, h2, h3, h4⟩ => ⟨bs, h1, h2, h3, hW.trans (h4.mono hW.size)⟩
      have HE : Hid (∀ W0 W bs, Below wk.heap.size wk W0 → bs < W0.heap.size → Hid (W0.cell? ⟨bs, 0, none⟩ = some (.slice sa l.length sc)) → Below W0.heap.size W0 W → Calls Tryz.prog 21 #[.agg #[.slice a n cap, .map (some mm), .slice ra n rc], .slice (some ⟨w2.heap.size, 0, none⟩) 2 2, .func (.func 40) #[] #[.pointer (some ⟨bs, 0, none⟩)]] W fun e w' => ∃ mb, e = .returned (.map (some mb)) ∧ Hid (MapV w' mb 2 (FM E n l b off two 2)) ∧ Below wk.heap.size wk w') := fun W0 W bs hW0 hbs hcb hWW => by
        have hW := hW0.trans (hWW.mono hW0.size)
        refine (evAt_any W (hk.below hW) Ha (hmk.below hW) hsl.allOk (X := two) (fun k hk => ?_) (by decide) (by have := hW.size; omega) (fun k hk => ?_) (fun k hk => ?_) (fun W' x hW' => ?_)).mono fun e w' ⟨mb, h1, h2, h3⟩ => ⟨mb, h1, h2, hW.trans (h3.mono hW.size)⟩
        · match k with
          | 0 => exact ⟨by decide, by decide⟩
          | 1 => exact ⟨by decide, by decide⟩
        · match k with
          | 0 => exact (hW.cell (by simp; omega)).trans (hq0 0)
          | 1 => exact (hW.cell (by simp; omega)).trans (hq0 2)
        · match k with
          | 0 => exact (hW.cell (by simp; omega)).trans (hq0 1)
          | 1 => exact (hW.cell (by simp; omega)).trans (hq0 3)
        · have hWa := hW.trans (hW'.mono hW.size)
          have hWb := hWW.trans (hW'.mono hWW.size)
          exact ids1_any x hsrt h300 W' (hsl.below hWa) (by have := hWb.size; omega) ((hWb.cell (by exact hbs)).trans hcb.out)
      have HL : Hid (∀ W0 W mb, Hid (MapV W0 mb 2 (FM E n l b off two 2)) → Below wk.heap.size wk W0 → Below W0.heap.size W0 W → Calls Tryz.prog 23 #[.map (some mb)] W fun e w' => e = .returned (.agg #[.pointer (ptA b off (atV E n l tCre tNil)), .pointer (ptA b off (atV E n l tPow tNil))]) ∧ Below wk.heap.size wk w') := fun W0 W mb hM hW0 hWW =>
        (lev_any W (hM.out.below hWW) (two_at E n l b off).1 (two_at E n l b off).2).mono fun e w' ⟨h1, h2⟩ => ⟨h1, (hW0.trans (hWW.mono hW0.size)).trans (h2.mono (hW0.trans (hWW.mono hW0.size)).size)⟩
      have HU : Hid (∀ W, Below wk.heap.size wk W → Calls Tryz.prog 24 #[.agg #[.pointer (ptA b off (atV E n l tCre tNil)), .pointer (ptA b off (atV E n l tPow tNil))], .string user] W fun e w' => e = .returned (.int .i64 (lvR E n l user)) ∧ Below wk.heap.size wk w') := fun W hW =>
        (ofU_all user W Hq.out Hf.out (hk.below hW) Ha.out).mono fun e w' ⟨h1, h2⟩ => ⟨by rw [Hz.out]; exact h1, hW.trans (h2.mono hW.size)⟩
      clear hk hsl hmk hq0 hcx h hs hmp Hq Hf Ha hsrt Hz
      generalize ptA b off (atV E n l tCre tNil) = pc at *
      generalize ptA b off (atV E n l tPow tNil) = pp at *
      generalize FM E n l b off two 2 = F2 at *
      go_wp2_with fail
      rw [← hwk]
      clear hwk
      go_region_held3 (fun W => W.cell? ⟨w1.heap.size, 0, none⟩ = some (.slice a n cap) ∧ W.cell? ⟨w1.heap.size, 1, none⟩ = some (.map (some mm)) ∧ W.cell? ⟨w1.heap.size, 2, none⟩ = some (.slice ra n rc))
        (first | (with_reducible exact ⟨y0, y1, y2⟩) | go_keep)
        (first
          | (go_at_call 24; refine (HU.out _ (by first | with_reducible exact hb5 | with_reducible exact hb5.drew | with_reducible exact hb5.drew.drew | with_reducible exact hb5.drew.drew.drew)).mono ?_; rintro e w6 ⟨rfl, hb6⟩; have q0 := (hb6.cell (by exact hs1)).trans y0; have q1 := (hb6.cell (by exact hs1)).trans y1; have q2 := (hb6.cell (by exact hs1)).trans y2)
          | (go_at_call 23; refine (HL.out _ _ _ hM4 hb4 (by first | with_reducible exact Below.refl w4.heap.size w4 | with_reducible exact (Below.refl w4.heap.size w4).drew | with_reducible exact (Below.refl w4.heap.size w4).drew.drew)).mono ?_; rintro e w5 ⟨rfl, hb5⟩; have q0 := (hb5.cell (by exact hs1)).trans y0; have q1 := (hb5.cell (by exact hs1)).trans y1; have q2 := (hb5.cell (by exact hs1)).trans y2)
          | (go_at_call 21; refine (HE.out _ _ _ hb3 hbs3 hc3 (by first | with_reducible exact Below.refl w3.heap.size w3 | with_reducible exact (Below.refl w3.heap.size w3).drew | with_reducible exact (Below.refl w3.heap.size w3).drew.drew | with_reducible exact (Below.refl w3.heap.size w3).drew.drew.drew)).mono ?_; rintro e w4 ⟨mb, rfl, hM4, hb4⟩; have q0 := (hb4.cell (by exact hs1)).trans y0; have q1 := (hb4.cell (by exact hs1)).trans y1; have q2 := (hb4.cell (by exact hs1)).trans y2)
          | (go_at_call 22; refine (HI.out _ (by first | with_reducible exact hrf | with_reducible exact hrf.drew | with_reducible exact hrf.drew.drew | with_reducible exact hrf.drew.drew.drew)).mono ?_; rintro e w3 ⟨bs, rfl, hbs3, hc3, hb3⟩; have q0 := (hb3.cell (by exact hs1)).trans y0; have q1 := (hb3.cell (by exact hs1)).trans y1; have q2 := (hb3.cell (by exact hs1)).trans y2))
      all_goals
        go_wp2
        go_ret
        exact ⟨rfl, hwk0.trans (Below.mono (by first | exact hb6 | exact hb6.drew | exact hb6.drew.drew) hwk0.size)⟩
end Go.Proofs.YtepgmgkdhklfjaaGreat
