import Derived.Test.YtgocjlpbokhoeaaEaJ
import Derived.Test.YtgocjlpbokhoeaaPatP
namespace Go.Proofs.Ytgocjlpbokhoeaa
open Go.RowKit
def ApS (x : Option Nat) (a : Option Addr) (l : List Ent) : Prop := l = [] ∨ ∃ b o, a = some ⟨b, o, none⟩ ∧ some b ≠ x
def LayAt (w : World) (x : Option Nat) : Value → List (List Ent) → Prop
  | p, [] => p = .pointer none
  | p, S :: R => ∃ b pp a cap, p = .pointer (some ⟨b, 0, none⟩) ∧ b < w.heap.size ∧ w.cell? ⟨b, 0, none⟩ = some pp ∧ w.cell? ⟨b, 1, none⟩ = some (.slice a S.length cap) ∧
      w.cell? ⟨b, 2, none⟩ = some (.int .i64 (R.length : Int)) ∧ w.cell? ⟨b, 3, none⟩ = some (.int .i64 ((stOf (S :: R)).length : Int)) ∧ SlE w a cap S ∧ (some b ≠ x ∧ ApS x a S) ∧ LayAt w x pp R
theorem SlE.grownA {w w' : World} {x : Option Nat} {a : Option Addr} {cap : Nat} {l : List Ent} (h : SlE w a cap l) (hg : w.grownBy w' x) (hx : ApS x a l) : SlE w' a cap l := by
  refine ⟨h.le, h.max, h.size, ?_⟩
  rcases h.cells with h0 | ⟨b, off, rfl, hlt, c1, c2, c3⟩
  · exact Or.inl h0
  · rcases hx with h0 | ⟨b', off', e, hne⟩
    · exact Or.inl h0
    · injection e with e; injection e with e1 e2 _
      subst e1 e2
      have hb := hg.block b hlt hne
      exact Or.inr ⟨b, off, rfl, Nat.lt_of_lt_of_le hlt hg.size, fun i hi => (World.cell?_of_block (a := ⟨b, off + i * 3, none⟩) hb).trans (c1 i hi), fun i hi => (World.cell?_of_block (a := ⟨b, off + i * 3 + 1, none⟩) hb).trans (c2 i hi), fun i hi => (World.cell?_of_block (a := ⟨b, off + i * 3 + 2, none⟩) hb).trans (c3 i hi)⟩
theorem LayAt.grown {w w' : World} {x : Option Nat} (hg : w.grownBy w' x) : ∀ {L : List (List Ent)} {p : Value}, LayAt w x p L → LayAt w' x p L
  | [], _, h => h
  | S :: R, p, h => by
    obtain ⟨b, pp, a, cap, e, hlt, c0, c1, c2, c3, hs, hx, hr⟩ := h
    have hb := hg.block b hlt hx.1
    exact ⟨b, pp, a, cap, e, Nat.lt_of_lt_of_le hlt hg.size, (World.cell?_of_block (a := ⟨b, 0, none⟩) hb).trans c0, (World.cell?_of_block (a := ⟨b, 1, none⟩) hb).trans c1, (World.cell?_of_block (a := ⟨b, 2, none⟩) hb).trans c2, (World.cell?_of_block (a := ⟨b, 3, none⟩) hb).trans c3, hs.grownA hg hx.2, hx, LayAt.grown hg hr⟩
theorem LayAt.below {w w' : World} {x : Option Nat} : ∀ {L : List (List Ent)} {p : Value}, LayAt w x p L → Below w.heap.size w w' → LayAt w' x p L
  | [], _, h, _ => h
  | S :: R, p, h, hb => by
    obtain ⟨b, pp, a, cap, e, hlt, c0, c1, c2, c3, hs, hx, hr⟩ := h
    exact ⟨b, pp, a, cap, e, Nat.lt_of_lt_of_le hlt hb.size, (hb.cell (by exact hlt)).trans c0, (hb.cell (by exact hlt)).trans c1, (hb.cell (by exact hlt)).trans c2, (hb.cell (by exact hlt)).trans c3, hs.below hb, hx, LayAt.below hr hb⟩
theorem LayAt.base {w : World} {x y : Option Nat} (hy : ∀ q, y = some q → w.heap.size ≤ q) : ∀ {L : List (List Ent)} {p : Value}, LayAt w x p L → LayAt w y p L
  | [], _, h => h
  | S :: R, p, h => by
    obtain ⟨b, pp, a, cap, e, hlt, c0, c1, c2, c3, hs, hx, hr⟩ := h
    refine ⟨b, pp, a, cap, e, hlt, c0, c1, c2, c3, hs, ⟨fun e => ?_, ?_⟩, LayAt.base hy hr⟩
    · have := hy b e.symm; omega
    · rcases hs.cells with h0 | ⟨b', off, rfl, hlt', _⟩
      · exact Or.inl h0
      · exact Or.inr ⟨b', off, rfl, fun e => by have := hy b' e.symm; omega⟩
theorem LayAt.ptr {w : World} {x : Option Nat} {L : List (List Ent)} {p : Value} (h : LayAt w x p L) : ∃ q, p = .pointer q := by
  cases L with
  | nil => exact ⟨none, h⟩
  | cons S R => obtain ⟨b, pp, a, cap, e, _⟩ := h; exact ⟨_, e⟩
def AllS (L : List (List Ent)) : Prop := ∀ S ∈ L, SrtE S ∧ S.length ≤ 600
theorem AllS.tl {S : List Ent} {R : List (List Ent)} (h : AllS (S :: R)) : AllS R := fun T hT => h T (List.mem_cons_of_mem _ hT)
theorem ChOk.alls : ∀ {L : List (List Ent)}, ChOk L → AllS L
  | [], h => h.elim
  | [S], h => fun T hT => by have : T = S := by simpa using hT
                             subst this; exact ⟨h.1, h.2.1⟩
  | S :: T :: R, h => fun U hU => by
    rcases List.mem_cons.1 hU with e | hU
    · subst e; exact ⟨h.1, h.2.1⟩
    · exact ChOk.alls (L := T :: R) h.2.2.2 U hU
set_option maxRecDepth 100000 in
set_option maxHeartbeats 2000000 in
theorem findL_any {x : Option Nat} (L : List (List Ent)) (p : Value) (s : Ent) (w : World) (hL : LayAt w x p L) (hA : AllS L) (hn : L.length ≤ 1000000) :
    Calls Try.prog 35 #[p, slotV s] w fun e w' => e = .returned (.tuple #[.string (lkL L s).1, .int .i64 ((lkL L s).2 : Int)]) ∧ Grw w w' := by
  obtain ⟨wb, hwb⟩ : ∃ wb, wb = w.alloc (.cells #[.string s.ty, .string s.key] 69) := ⟨_, rfl⟩
  have hg : Grw w wb := by rw [hwb]; exact (Grw.refl _).alloc _
  have hs1 : w.heap.size < wb.heap.size := by rw [hwb]; simp
  have hx0 : wb.cell? ⟨w.heap.size, 0, none⟩ = some (.string s.ty) := by rw [hwb]; exact World.cell?_alloc_at _ _ _ _ rfl
  have hx1 : wb.cell? ⟨w.heap.size, 1, none⟩ = some (.string s.key) := by rw [hwb]; exact World.cell?_alloc_at _ _ _ _ rfl
  have HL : Hid (LayAt wb x p L) := hL.below hg.below
  have HA : Hid (AllS L) := hA
  have hpt := hL.ptr
  clear hL hA
  obtain ⟨q0, rfl⟩ := hpt
  obtain ⟨V, hV⟩ : ∃ V, V = lkL L s := ⟨_, rfl⟩
  have HV : Hid (V = lkL L s) := hV
  rw [← hV]
  clear hV
  go_enter Try.func35, Try.ntmps35
  go_wp2_with fail
  rw [← hwb]
  clear hwb
  go_loopg [0, 6] L.length (fun g s0 s6 wr => ∃ (R : List (List Ent)) (q : Option Addr) (v : Nat), s0 = .pointer q ∧ s6 = .int .i64 (v : Int) ∧ R.length ≤ g ∧ v + R.length ≤ L.length ∧ Hid (LayAt wr x (.pointer q) R) ∧ Hid (AllS R) ∧ Hid (V.1 = (lkL R s).1 ∧ V.2 = v + (lkL R s).2) ∧ Grw wb wr)
  case atStart => exact ⟨L, q0, 0, rfl, rfl, Nat.le_refl _, by omega, HL, HA, (by rw [HV.out]; exact ⟨rfl, by omega⟩ : V.1 = (lkL L s).1 ∧ V.2 = 0 + (lkL L s).2), Grw.refl _⟩
  case round =>
    clear HL HA HV
    obtain ⟨R, q, v, rfl, rfl, hRg, hvl, HLr, HAr, HVr, hgr⟩ := hrel
    have hgw := hg.trans hgr
    have d0 : wr.cell? ⟨w.heap.size, 0, none⟩ = some (.string s.ty) := (hgr.cell (by exact hs1)).trans hx0
    have d1 : wr.cell? ⟨w.heap.size, 1, none⟩ = some (.string s.key) := (hgr.cell (by exact hs1)).trans hx1
    have hsr : w.heap.size < wr.heap.size := Nat.lt_of_lt_of_le hs1 hgr.below.size
    cases R with
    | nil =>
      have e0 : Value.pointer q = .pointer none := HLr.out
      injection e0 with e0
      subst e0
      have hv : Hid (V = (⟨#[]⟩, v)) := Prod.ext HVr.out.1 (by rw [HVr.out.2]; rfl)
      clear HLr HVr
      go_wp2
      exact bodyPost_ret (v := .tuple #[.string ⟨#[]⟩, .int .i64 (v : Int)]) (by simp [results, Try.results35, go_sem]) rfl ⟨by rw [hv.out], hgw⟩
    | cons S R =>
      obtain ⟨b, pp, a, cap, e0, hblt, c0, c1, c2, c3, hsl, _, hrest⟩ := HLr.out
      injection e0 with e0
      subst e0
      obtain ⟨q2, rfl⟩ := hrest.ptr
      obtain ⟨hS, h600⟩ := HAr.out S (by simp)
      have Hrest : Hid (LayAt wr x (.pointer q2) R) := hrest
      have HAR : Hid (AllS R) := HAr.out.tl
      have HSl : Hid (SlE wr a cap S) := hsl
      have HSr : Hid (SrtE S) := hS
      have hRl : R.length + 1 ≤ L.length := by simp only [List.length_cons] at hvl; omega
      have hvl2 : v + 1 + R.length ≤ L.length := by simp only [List.length_cons] at hvl; omega
      simp only [List.length_cons] at hRg
      have hev : Hid (∀ e, lookE S s = some e → eaT S s = true ∧ (eaV S s).id = V.1 ∧ V.2 = v + 1) := fun e he => by
        have := HVr.out
        unfold lkL at this
        rw [he] at this
        exact ⟨by unfold eaT; rw [he]; rfl, by unfold eaV; rw [he]; exact this.1.symm, this.2⟩
      have hno : Hid (lookE S s = none → eaT S s = false ∧ V.1 = (lkL R s).1 ∧ V.2 = v + 1 + (lkL R s).2) := fun he => by
        have := HVr.out
        unfold lkL at this
        rw [he] at this
        exact ⟨by unfold eaT; rw [he]; rfl, this.1, by rw [this.2]; simp only []; omega⟩
      clear HLr HVr HAr hrest hsl hS hvl
      go_wp2_with fail
      go_region_with (first
        | (go_at_call 57; refine (entryAt_sl s _ HSr.out (by omega) (HSl.out.below (by first | exact Below.refl wr.heap.size wr | exact (Below.refl wr.heap.size wr).drew | exact (Below.refl wr.heap.size wr).drew.drew | exact (Below.refl wr.heap.size wr).drew.drew.drew))).mono ?_; rintro e w1 ⟨rfl, hg1'⟩; have hg1 : Grw wr w1 := Grw.trans (by first | exact Grw.refl wr | exact (Grw.refl wr).drew | exact (Grw.refl wr).drew.drew | exact (Grw.refl wr).drew.drew.drew) hg1')
        | (go_at_call 57; refine (entryAt_sl s _ HSr.out (by omega) (HSl.out.below (by first | exact ((Below.refl wr.heap.size wr).alloc (Nat.le_refl _) _).drew | exact ((Below.refl wr.heap.size wr).alloc (Nat.le_refl _) _).drew.drew | exact ((Below.refl wr.heap.size wr).drew.alloc (Nat.le_refl _) _) | exact ((Below.refl wr.heap.size wr).drew.alloc (Nat.le_refl _) _).drew))).mono ?_; rintro e w1 ⟨rfl, hg1'⟩; have hg1 : Grw wr w1 := Grw.trans (by first | exact ((Grw.refl wr).alloc _).drew | exact ((Grw.refl wr).alloc _).drew.drew | exact ((Grw.refl wr).drew.alloc _) | exact ((Grw.refl wr).drew.alloc _).drew) hg1'; have m0 : w1.cell? ⟨wr.heap.size, 0, none⟩ = some (.string ⟨#[]⟩) := (hg1'.cell (by simp)).trans (World.cell?_alloc_at _ _ _ _ rfl); have m1 : w1.cell? ⟨wr.heap.size, 1, none⟩ = some (.string ⟨#[]⟩) := (hg1'.cell (by simp)).trans (World.cell?_alloc_at _ _ _ _ rfl); have m2 : w1.cell? ⟨wr.heap.size, 2, none⟩ = some (.string ⟨#[]⟩) := (hg1'.cell (by simp)).trans (World.cell?_alloc_at _ _ _ _ rfl); have mf : ∀ o, w1.frozen? ⟨wr.heap.size, o, none⟩ = false := fun o => (hg1'.below.frozen (by simp)).trans (World.frozen?_alloc_at _ _ _ _ rfl)))
      all_goals
        have hz1 := hg1.below.size
        have hzw := hgw.below.size
        have hbr1 : b < w1.heap.size := Nat.lt_of_lt_of_le hblt hz1
        have c01 := (hg1.cell (by exact hblt)).trans c0
        cases hlk : lookE S s with
        | some ev =>
          obtain ⟨t1, t2, t3⟩ := hev.out ev hlk
          have ht3 : Hid (V.2 = v + 1) := t3
          rw [t1]
          generalize eaV S s = en at *
          have ht2 : Hid (en.id = V.1) := t2
          clear t2 t3 hev hno hlk c0 c1 c2 c3
          go_wp2
          refine bodyPost_ret (v := .tuple #[.string en.id, .int .i64 ((v : Int) + 1)]) (by simp [results, Try.results35, go_sem]) rfl ⟨by rw [ht2.out, ht3.out]; rfl, ?_⟩
          refine hgw.trans ?_
          repeat' (first | exact hg1 | (refine Grw.setCell ?_ (by first | exact Nat.le_refl _ | exact hz1 | (simp; omega)) _) | (refine Grw.alloc ?_ _) | (refine Grw.drew ?_))
        | none =>
          obtain ⟨t1, t2⟩ := hno.out hlk
          have ht2 : Hid (V.1 = (lkL R s).1 ∧ V.2 = v + 1 + (lkL R s).2) := t2
          rw [t1]
          generalize eaV S s = en at *
          clear t2 hev hno hlk c0 c1 c2 c3
          go_wp2
          go_roundg R.length
          case measure => omega
          case rel =>
            refine ⟨R, q2, v + 1, rfl, by go_num, Nat.le_refl _, hvl2, ?_, HAR, ht2, ?_⟩
            · refine LayAt.below Hrest.out (Grw.below ?_)
              repeat' (first | exact hg1 | (refine Grw.setCell ?_ (by first | exact Nat.le_refl _ | exact hz1 | (simp; omega)) _) | (refine Grw.alloc ?_ _) | (refine Grw.drew ?_))
            · refine hgr.trans ?_
              repeat' (first | exact hg1 | (refine Grw.setCell ?_ (by first | exact Nat.le_refl _ | exact hz1 | (simp; omega)) _) | (refine Grw.alloc ?_ _) | (refine Grw.drew ?_))
end Go.Proofs.Ytgocjlpbokhoeaa
