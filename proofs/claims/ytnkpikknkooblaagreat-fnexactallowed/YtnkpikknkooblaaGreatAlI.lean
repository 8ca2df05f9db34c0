/-
  impl.Allowed.
-/
import Derived.Test.YtnkpikknkooblaaGreatHrV
import Derived.Test.YtnkpikknkooblaaGreatHrDF
import Derived.Test.YtnkpikknkooblaaGreatVwA
import Derived.Test.YtnkpikknkooblaaGreatNdI
import Derived.Test.YtnkpikknkooblaaGreatGrA
namespace Go.Proofs.YtnkpikknkooblaaGreat
open Go.RowKit Go.Maps Go.ChangeMaps

/-- the row of slots. -/
def QAt (w : World) (bq oq : Nat) (l : List Ent) : Prop := bq < w.heap.size ∧ (∀ k, k < l.length → w.cell? ⟨bq, oq + k * 2, none⟩ = some (.string (eAt l k).ty)) ∧ (∀ k, k < l.length → w.cell? ⟨bq, oq + k * 2 + 1, none⟩ = some (.string (eAt l k).key))
theorem QAt.below {w w' : World} {bq oq : Nat} {l : List Ent} (h : QAt w bq oq l) (hb : Below w.heap.size w w') : QAt w' bq oq l :=
  ⟨Nat.lt_of_lt_of_le h.1 hb.size, fun k hk => (hb.cell (by exact h.1)).trans (h.2.1 k hk), fun k hk => (hb.cell (by exact h.1)).trans (h.2.2 k hk)⟩
theorem nd_ne {e : Ev} (hc : e.code = 0) : ndL e ≠ [] := by
  unfold ndL
  rw [if_pos hc]
  split <;> simp
theorem ndI_q (e : Ev) {pa aa ga : Option Addr} {cp ca cg : Nat} (w : World) (he : EvOk w e pa cp aa ca ga cg) (hc : e.code = 0) :
    Calls Tryz.prog 32 #[.agg #[.string e.id, .string e.sd, .string e.ty, .bool e.st, .string e.key, .int .i64 e.tm, .slice pa e.np cp, .slice aa e.na ca, .string e.val, .slice ga e.ng cg]] w fun x w' => ∃ bq oq cq, x = .returned (.slice (some ⟨bq, oq, none⟩) (ndL e).length cq) ∧ Hid (QAt w' bq oq (ndL e)) ∧ Below w.heap.size w w' := by
  refine (ndI_any e w he).mono ?_
  rintro x w' ⟨v, rfl, hown, hb⟩
  obtain ⟨q, cq, rfl, hsl⟩ := hown.sl
  rcases hsl.cells with h0 | ⟨bq, oq, rfl, hlt, h1, h2⟩
  · exact absurd h0 (nd_ne hc)
  · exact ⟨bq, oq, cq, rfl, ⟨hlt, h1, h2⟩, hb⟩

set_option maxRecDepth 100000 in
set_option maxHeartbeats 4000000 in
theorem alI_sl {a : Option Addr} {n cap : Nat} {E : Nat → Ev} {sa : Option Addr} {sc : Nat} {l : List Ent} (e : Ev) {pa aa ga : Option Addr} {cp ca cg : Nat} (w : World) (h : SlV w a n cap E) (hs : SlE w sa sc l) (he : EvOk w e pa cp aa ca ga cg) :
    Calls Tryz.prog 11 #[.agg #[.slice a n cap], .slice sa l.length sc, .agg #[.string e.id, .string e.sd, .string e.ty, .bool e.st, .string e.key, .int .i64 e.tm, .slice pa e.np cp, .slice aa e.na ca, .string e.val, .slice ga e.ng cg]] w fun x w' => x = .returned (.int .i64 (alR E n l e)) ∧ Below w.heap.size w w' := by
  have HR : Hid (alR E n l e = if e.code = 0 ∧ (roomTo E n && fitB E n l) = true then alV (evO E n l) e else 99) := rfl
  obtain ⟨b, off, Ha⟩ : ∃ b off, Hid (0 < n → a = some ⟨b, off, none⟩) := by
    rcases h.cells with h0 | ⟨b, off, e, _⟩
    · exact ⟨0, 0, fun hn => by omega⟩
    · exact ⟨b, off, fun _ => e⟩
  obtain ⟨wa, hwa⟩ : ∃ wa, wa = (w.alloc (.cells #[.slice a n cap] 36)).alloc (.cells #[.string e.id, .string e.sd, .string e.ty, .bool e.st, .string e.key, .int .i64 e.tm, .slice pa e.np cp, .slice aa e.na ca, .string e.val, .slice ga e.ng cg] 42) := ⟨_, rfl⟩
  have hba : Below w.heap.size w wa := by rw [hwa]; exact ((Below.refl _ _).alloc (Nat.le_refl _) _).alloc (by simp) _
  have hsa : wa.heap.size = w.heap.size + 2 := by rw [hwa]; simp
  have hca : Hid (∀ i, wa.cell? ⟨w.heap.size + 1, i, none⟩ = (#[.string e.id, .string e.sd, .string e.ty, .bool e.st, .string e.key, .int .i64 e.tm, .slice pa e.np cp, .slice aa e.na ca, .string e.val, .slice ga e.ng cg] : Array Value)[i]?) := fun i => by rw [hwa]; exact World.cell?_alloc_at _ _ _ _ (by simp)
  have r0 : ((w.alloc (.cells #[.slice a n cap] 36)).alloc (.cells #[.string e.id, .string e.sd, .string e.ty, .bool e.st, .string e.key, .int .i64 e.tm, .slice pa e.np cp, .slice aa e.na ca, .string e.val, .slice ga e.ng cg] 42)).cell? ⟨w.heap.size, 0, none⟩ = some (.slice a n cap) := by rw [World.cell?_alloc_past _ _ _ (by simp)]; exact World.cell?_alloc_at _ _ _ _ rfl
  have HCE : Hid (∀ W, Below wa.heap.size wa W → Calls Tryz.prog 28 #[.agg #[.string e.id, .string e.sd, .string e.ty, .bool e.st, .string e.key, .int .i64 e.tm, .slice pa e.np cp, .slice aa e.na ca, .string e.val, .slice ga e.ng cg]] W fun x w' => x = .returned (.int .i64 e.code) ∧ Below W.heap.size W w') := fun W hW => by
    have heW := he.below (hba.trans (hW.mono hba.size))
    exact evI_any e.id e.sd e.ty e.key e.val e.st e.tm pa e.np cp aa e.na ca ga e.ng cg e.Pv e.Av e.M e.L W heW.hid heW.hsd heW.hty heW.hkey heW.hval heW.hp heW.ha heW.hg
  go_enter Tryz.func11, Tryz.ntmps11
  go_wp2_with fail
  rw [← hwa]
  clear hwa r0
  refine (graph_sl _ (h.below hba)).mono ?_
  rintro x w1 ⟨hb1, hp⟩
  have hw1 := hba.trans (hb1.mono hba.size)
  have hs1 : w.heap.size + 2 ≤ w1.heap.size := by have := hb1.size; omega
  rcases hp with ⟨hq, mm, ra, rc, rfl, hmp, hrs⟩ | ⟨hq, rfl⟩
  case inr =>
    have Hz : Hid (alR E n l e = 99) := by unfold Hid; rw [HR.out, hq, if_neg (fun h1 => by cases h1.2)]
    clear HR hq
    go_wp2
    go_ret
    exact ⟨ret_int Hz.out.symm, hw1.alloc hw1.size _⟩
  case inl =>
    have Hq : Hid (_) := hq
    clear hrs
    obtain ⟨w2, hw2⟩ : ∃ w2, w2 = w1.alloc (.cells #[.slice a n cap, .map (some mm), .slice ra n rc] 66) := ⟨_, rfl⟩
    have hb12 : Below w1.heap.size w1 w2 := by rw [hw2]; exact (Below.refl _ _).alloc (Nat.le_refl _) _
    have hs2 : w2.heap.size = w1.heap.size + 1 := by rw [hw2]; simp
    have ha2 : Below wa.heap.size wa w2 := hb1.trans (hb12.mono hb1.size)
    have hg2 : Hid (∀ i, w2.cell? ⟨w1.heap.size, i, none⟩ = (#[.slice a n cap, .map (some mm), .slice ra n rc] : Array Value)[i]?) := fun i => by rw [hw2]; exact World.cell?_alloc_at _ _ _ _ rfl
    have hlta : w.heap.size + 1 < wa.heap.size := by omega
    have hcz : ∀ i, (w1.alloc (.cells #[.slice a n cap, .map (some mm), .slice ra n rc] 66)).cell? ⟨w.heap.size + 1, i, none⟩ = (#[.string e.id, .string e.sd, .string e.ty, .bool e.st, .string e.key, .int .i64 e.tm, .slice pa e.np cp, .slice aa e.na ca, .string e.val, .slice ga e.ng cg] : Array Value)[i]? := fun i => by rw [← hw2]; exact (ha2.cell (by exact hlta)).trans (hca.out i)
    have z0 := hcz 0
    have z1 := hcz 1
    have z2 := hcz 2
    have z3 := hcz 3
    have z4 := hcz 4
    have z5 := hcz 5
    have z6 := hcz 6
    have z7 := hcz 7
    have z8 := hcz 8
    have z9 := hcz 9
    have hne : w.heap.size + 1 ≠ w1.heap.size := by omega
    clear hcz
    by_cases hc : e.code = 0
    case neg =>
      have Hz : Hid (alR E n l e = 99) := by unfold Hid; rw [HR.out, if_neg (fun h1 => hc h1.1)]
      have hcb : (e.code != 0) = true := by simpa using hc
      generalize e.code = cd at *
      clear HR hc hq
      go_wp2_with fail
      rw [← hw2]
      clear hw2
      refine (HCE.out _ ha2).mono ?_
      rintro x w3 ⟨rfl, hb3⟩
      go_wp2
      go_ret
      exact ⟨ret_int Hz.out.symm, hba.trans ((ha2.trans (hb3.mono ha2.size)).mono hba.size)⟩
    case pos =>
      have HCE2 : Hid (Calls Tryz.prog 28 #[.agg #[.string e.id, .string e.sd, .string e.ty, .bool e.st, .string e.key, .int .i64 e.tm, .slice pa e.np cp, .slice aa e.na ca, .string e.val, .slice ga e.ng cg]] w2 fun x w' => x = .returned (.int .i64 0) ∧ Below w2.heap.size w2 w') := by
        have := HCE.out w2 ha2
        rw [hc] at this
        exact this
      have Hc : Hid (e.code = 0) := hc
      clear HCE hc
      go_wp2_with fail
      rw [← hw2]
      clear hw2 z0 z1 z2 z3 z4 z5 z6 z7 z8 z9
      refine HCE2.out.mono ?_
      rintro x w3 ⟨rfl, hb3⟩
      have ha3 := ha2.trans (hb3.mono ha2.size)
      have hlt2 : w1.heap.size < w2.heap.size := by omega
      have g0 : w3.cell? ⟨w1.heap.size, 0, none⟩ = some (.slice a n cap) := (hb3.cell (by exact hlt2)).trans (hg2.out 0)
      have g1 : w3.cell? ⟨w1.heap.size, 1, none⟩ = some (.map (some mm)) := (hb3.cell (by exact hlt2)).trans (hg2.out 1)
      have g2 : w3.cell? ⟨w1.heap.size, 2, none⟩ = some (.slice ra n rc) := (hb3.cell (by exact hlt2)).trans (hg2.out 2)
      have h13 := hb12.trans (hb3.mono hb12.size)
      have hw3 := hba.trans (ha3.mono hba.size)
      clear HCE2
      go_wp2_with fail
      refine (fits_sl w3 (h.below hw3) (hmp.below h13) (hs.below hw3)).mono ?_
      rintro x w4 ⟨rfl, hb4⟩
      cases hf : fitB E n l
      case false =>
        have Hz : Hid (alR E n l e = 99) := by unfold Hid; rw [HR.out, hf, if_neg (fun h1 => by simp at h1)]
        clear HR hf
        go_wp2
        go_ret
        exact ⟨ret_int Hz.out.symm, hw3.trans (hb4.mono hw3.size)⟩
      case true =>
        have ha4 := ha3.trans (hb4.mono ha3.size)
        have hw4 := hw3.trans (hb4.mono hw3.size)
        have h14 := h13.trans (hb4.mono h13.size)
        have hl4 : SlV w4 a n cap E := h.below hw4
        have hsl4 : SlE w4 sa sc l := hs.below hw4
        have hm4 := hmp.below h14
        have he4 := he.below hw4
        have hlt3 : w1.heap.size < w3.heap.size := Nat.lt_of_lt_of_le hlt2 hb3.size
        have hlt4 : w1.heap.size < w4.heap.size := Nat.lt_of_lt_of_le hlt3 hb4.size
        have hlt5 : w.heap.size + 1 < w4.heap.size := Nat.lt_of_lt_of_le hlta ha4.size
        have y0 : w4.cell? ⟨w.heap.size + 1, 0, none⟩ = some (.string e.id) := (ha4.cell (by exact hlta)).trans (hca.out 0)
        have y1 : w4.cell? ⟨w.heap.size + 1, 1, none⟩ = some (.string e.sd) := (ha4.cell (by exact hlta)).trans (hca.out 1)
        have y2 : w4.cell? ⟨w.heap.size + 1, 2, none⟩ = some (.string e.ty) := (ha4.cell (by exact hlta)).trans (hca.out 2)
        have y3 : w4.cell? ⟨w.heap.size + 1, 3, none⟩ = some (.bool e.st) := (ha4.cell (by exact hlta)).trans (hca.out 3)
        have y4 : w4.cell? ⟨w.heap.size + 1, 4, none⟩ = some (.string e.key) := (ha4.cell (by exact hlta)).trans (hca.out 4)
        have y5 : w4.cell? ⟨w.heap.size + 1, 5, none⟩ = some (.int .i64 e.tm) := (ha4.cell (by exact hlta)).trans (hca.out 5)
        have y6 : w4.cell? ⟨w.heap.size + 1, 6, none⟩ = some (.slice pa e.np cp) := (ha4.cell (by exact hlta)).trans (hca.out 6)
        have y7 : w4.cell? ⟨w.heap.size + 1, 7, none⟩ = some (.slice aa e.na ca) := (ha4.cell (by exact hlta)).trans (hca.out 7)
        have y8 : w4.cell? ⟨w.heap.size + 1, 8, none⟩ = some (.string e.val) := (ha4.cell (by exact hlta)).trans (hca.out 8)
        have y9 : w4.cell? ⟨w.heap.size + 1, 9, none⟩ = some (.slice ga e.ng cg) := (ha4.cell (by exact hlta)).trans (hca.out 9)
        have x0 : w4.cell? ⟨w1.heap.size, 0, none⟩ = some (.slice a n cap) := (hb4.cell (by exact hlt3)).trans g0
        have x1 : w4.cell? ⟨w1.heap.size, 1, none⟩ = some (.map (some mm)) := (hb4.cell (by exact hlt3)).trans g1
        have x2 : w4.cell? ⟨w1.heap.size, 2, none⟩ = some (.slice ra n rc) := (hb4.cell (by exact hlt3)).trans g2
        clear g0 g1 g2
        have Hz : Hid (alR E n l e = vdF (rlV (vwO E n l e) e) 0 11) := by
          unfold Hid
          rw [HR.out, if_pos ⟨Hc.out, by rw [Hq.out, hf]; rfl⟩, vd_al Hc.out, alV_vw]
        obtain ⟨h300, hsrt, -⟩ := st_parts (l := l) (by unfold fitB at hf; rw [Bool.and_eq_true] at hf; exact hf.2)
        have hty : e.ty.size ≤ 1000 := Nat.le_trans (isW_size (ev_ws Hc.out).2) (by decide)
        obtain ⟨oc, op, hFc, hFp, hlev, hsd, hkey, hrul⟩ := view_all (l := l) (e := e) hl4 Ha.out Hq.out hf Hc.out
        have HN : Hid (∀ W, Below w4.heap.size w4 W → Calls Tryz.prog 32 #[.agg #[.string e.id, .string e.sd, .string e.ty, .bool e.st, .string e.key, .int .i64 e.tm, .slice pa e.np cp, .slice aa e.na ca, .string e.val, .slice ga e.ng cg]] W fun x w' => ∃ bq oq cq, x = .returned (.slice (some ⟨bq, oq, none⟩) (ndL e).length cq) ∧ Hid (QAt w' bq oq (ndL e)) ∧ Below w4.heap.size w4 w') := fun W hW => (ndI_q e W (he4.below hW) Hc.out).mono fun _ _ ⟨bq, oq, cq, h1, h2, h3⟩ => ⟨bq, oq, cq, h1, h2, hW.trans (h3.mono hW.size)⟩
        have HI : Hid (∀ W0 W, Below W0.heap.size W0 W → Calls Tryz.prog 33 #[.slice sa l.length sc] W fun x w' => ∃ bs, x = .returned (.func (.func 72) #[] #[.pointer (some ⟨bs, 0, none⟩)]) ∧ Hid (bs < w'.heap.size ∧ w'.cell? ⟨bs, 0, none⟩ = some (.slice sa l.length sc)) ∧ Below W0.heap.size W0 w') := fun W0 W hW => (idsIn_any sa l.length sc W).mono fun _ _ ⟨bs, h1, h2, h3, h4⟩ => ⟨bs, h1, ⟨h2, h3⟩, hW.trans (h4.mono hW.size)⟩
        have HE : Hid (∀ W5 W6 W bq oq cq bs, Below w4.heap.size w4 W5 → Hid (QAt W5 bq oq (ndL e)) → Below W5.heap.size W5 W6 → Hid (bs < W6.heap.size ∧ W6.cell? ⟨bs, 0, none⟩ = some (.slice sa l.length sc)) → Below W6.heap.size W6 W → Calls Tryz.prog 31 #[.agg #[.slice a n cap, .map (some mm), .slice ra n rc], .slice (some ⟨bq, oq, none⟩) (ndL e).length cq, .func (.func 72) #[] #[.pointer (some ⟨bs, 0, none⟩)]] W fun x w' => ∃ mb, x = .returned (.map (some mb)) ∧ Hid (MapV w' mb (ndL e).length (ndF E n l b off e)) ∧ Below w4.heap.size w4 w') := fun W5 W6 W bq oq cq bs h5 hq5 h56 hbs h6 => by
          have h46 := h5.trans (h56.mono h5.size)
          have h4W := h46.trans (h6.mono h46.size)
          have h5W := h56.trans (h6.mono h56.size)
          have hqW := hq5.out.below h5W
          refine (evAt_any W (hl4.below h4W) Ha (hm4.below h4W) hsl4.allOk (X := eAt (ndL e)) (nd_sok he4.hsd he4.hkey) (by have := nd_len e; omega) hqW.1 hqW.2.1 hqW.2.2 (fun W' x hW' => ?_)).mono fun _ _ ⟨mb, h1, h2, h3⟩ => ⟨mb, h1, h2, h4W.trans (h3.mono h4W.size)⟩
          have h4' := h4W.trans (hW'.mono h4W.size)
          have h6' := h6.trans (hW'.mono h6.size)
          exact ids1_any x hsrt h300 W' (hsl4.below h4') (Nat.lt_of_lt_of_le hbs.out.1 h6'.size) ((h6'.cell (by exact hbs.out.1)).trans hbs.out.2)
        have HH : Hid (∀ W7 W mb, Below w4.heap.size w4 W7 → Hid (MapV W7 mb (ndL e).length (ndF E n l b off e)) → Below W7.heap.size W7 W → Calls Tryz.prog 30 #[.agg #[.string e.id, .string e.sd, .string e.ty, .bool e.st, .string e.key, .int .i64 e.tm, .slice pa e.np cp, .slice aa e.na ca, .string e.val, .slice ga e.ng cg], .map (some mb)] W fun x w' => ∃ h, x = .returned (.pointer (some ⟨h, 0, none⟩)) ∧ Hid (Hr w' h mb (ndL e).length (ndF E n l b off e) oc op (vwO E n l e) e pa cp aa ca ga cg) ∧ Below w4.heap.size w4 w') := fun W7 W mb h7 hM h7W => by
          have h4W := h7.trans (h7W.mono h7.size)
          refine (heoI W ⟨he4.below h4W, hM.out.below h7W, hlev.below h4W, Hc.out, fun h1 => (hsd h1).below h4W, fun h1 => (hkey h1).below h4W, fun h1 h2 => (hrul h1 h2).below h4W⟩ hFc hFp).mono ?_
          rintro x w' ⟨h, h1, h2, h3⟩
          exact ⟨h, h1, h2, h4W.trans (h3.mono h4W.size)⟩
        have HD : Hid (∀ W8 W h mb, Hid (Hr W8 h mb (ndL e).length (ndF E n l b off e) oc op (vwO E n l e) e pa cp aa ca ga cg) → Below w4.heap.size w4 W8 → Below W8.heap.size W8 W → Calls Tryz.prog 34 #[.pointer (some ⟨h, 0, none⟩)] W fun x w' => x = .returned (.int .i64 (alR E n l e)) ∧ Below w4.heap.size w4 w') := fun W8 W h mb hH h8 h8W => by
          have h4W := h8.trans (h8W.mono h8.size)
          exact (vdI W (hH.out.below h8W) hty).mono fun _ _ ⟨h1, h2⟩ => ⟨by rw [h1, Hz.out], h4W.trans (h2.mono h4W.size)⟩
        clear Hz HR hlev hsd hkey hrul hFc hFp hsrt hl4 hsl4 hm4 he4 h hs he hmp Hq hq hf Ha hca hg2
        have hrf : Below w4.heap.size w4 w4 := Below.refl _ _
        generalize ndF E n l b off e = FF at *
        generalize vwO E n l e = oo at *
        generalize (ndL e).length = cc at *
        go_wp2_with fail
        go_region_held3 (fun W => W.cell? ⟨w.heap.size + 1, 0, none⟩ = some (.string e.id) ∧ W.cell? ⟨w.heap.size + 1, 1, none⟩ = some (.string e.sd) ∧ W.cell? ⟨w.heap.size + 1, 2, none⟩ = some (.string e.ty) ∧ W.cell? ⟨w.heap.size + 1, 3, none⟩ = some (.bool e.st) ∧ W.cell? ⟨w.heap.size + 1, 4, none⟩ = some (.string e.key) ∧ W.cell? ⟨w.heap.size + 1, 5, none⟩ = some (.int .i64 e.tm) ∧ W.cell? ⟨w.heap.size + 1, 6, none⟩ = some (.slice pa e.np cp) ∧ W.cell? ⟨w.heap.size + 1, 7, none⟩ = some (.slice aa e.na ca) ∧ W.cell? ⟨w.heap.size + 1, 8, none⟩ = some (.string e.val) ∧ W.cell? ⟨w.heap.size + 1, 9, none⟩ = some (.slice ga e.ng cg) ∧ W.cell? ⟨w1.heap.size, 0, none⟩ = some (.slice a n cap) ∧ W.cell? ⟨w1.heap.size, 1, none⟩ = some (.map (some mm)) ∧ W.cell? ⟨w1.heap.size, 2, none⟩ = some (.slice ra n rc)) (first | (with_reducible exact ⟨y0, y1, y2, y3, y4, y5, y6, y7, y8, y9, x0, x1, x2⟩) | go_keep)
          (first
            | (go_at_call 32; refine (HN.out _ (by first | with_reducible exact hrf | with_reducible exact hrf.drew | with_reducible exact hrf.drew.drew | with_reducible exact hrf.drew.drew.drew | with_reducible exact hrf.drew.drew.drew.drew | with_reducible exact hrf.drew.drew.drew.drew.drew)).mono ?_; rintro x w5 ⟨bq, oq, cq, rfl, hq5, hb5⟩; have q5y0 := (hb5.cell (by exact hlt5)).trans y0; have q5y1 := (hb5.cell (by exact hlt5)).trans y1; have q5y2 := (hb5.cell (by exact hlt5)).trans y2; have q5y3 := (hb5.cell (by exact hlt5)).trans y3; have q5y4 := (hb5.cell (by exact hlt5)).trans y4; have q5y5 := (hb5.cell (by exact hlt5)).trans y5; have q5y6 := (hb5.cell (by exact hlt5)).trans y6; have q5y7 := (hb5.cell (by exact hlt5)).trans y7; have q5y8 := (hb5.cell (by exact hlt5)).trans y8; have q5y9 := (hb5.cell (by exact hlt5)).trans y9; have q5x0 := (hb5.cell (by exact hlt4)).trans x0; have q5x1 := (hb5.cell (by exact hlt4)).trans x1; have q5x2 := (hb5.cell (by exact hlt4)).trans x2)
            | (go_at_call 33; refine (HI.out w5 _ (by first | with_reducible exact (Below.refl w5.heap.size w5) | with_reducible exact (Below.refl w5.heap.size w5).drew | with_reducible exact (Below.refl w5.heap.size w5).drew.drew | with_reducible exact (Below.refl w5.heap.size w5).drew.drew.drew | with_reducible exact (Below.refl w5.heap.size w5).drew.drew.drew.drew | with_reducible exact (Below.refl w5.heap.size w5).drew.drew.drew.drew.drew)).mono ?_; rintro x w6 ⟨bs, rfl, hbs6, hb56⟩; have hb6 := hb5.trans (hb56.mono hb5.size); have q6y0 := (hb6.cell (by exact hlt5)).trans y0; have q6y1 := (hb6.cell (by exact hlt5)).trans y1; have q6y2 := (hb6.cell (by exact hlt5)).trans y2; have q6y3 := (hb6.cell (by exact hlt5)).trans y3; have q6y4 := (hb6.cell (by exact hlt5)).trans y4; have q6y5 := (hb6.cell (by exact hlt5)).trans y5; have q6y6 := (hb6.cell (by exact hlt5)).trans y6; have q6y7 := (hb6.cell (by exact hlt5)).trans y7; have q6y8 := (hb6.cell (by exact hlt5)).trans y8; have q6y9 := (hb6.cell (by exact hlt5)).trans y9; have q6x0 := (hb6.cell (by exact hlt4)).trans x0; have q6x1 := (hb6.cell (by exact hlt4)).trans x1; have q6x2 := (hb6.cell (by exact hlt4)).trans x2)
            | (go_at_call 31; refine (HE.out w5 w6 _ bq oq cq bs hb5 hq5 hb56 hbs6 (by first | with_reducible exact (Below.refl w6.heap.size w6) | with_reducible exact (Below.refl w6.heap.size w6).drew | with_reducible exact (Below.refl w6.heap.size w6).drew.drew | with_reducible exact (Below.refl w6.heap.size w6).drew.drew.drew | with_reducible exact (Below.refl w6.heap.size w6).drew.drew.drew.drew | with_reducible exact (Below.refl w6.heap.size w6).drew.drew.drew.drew.drew)).mono ?_; rintro x w7 ⟨mb, rfl, hM7, hb7⟩; have q7y0 := (hb7.cell (by exact hlt5)).trans y0; have q7y1 := (hb7.cell (by exact hlt5)).trans y1; have q7y2 := (hb7.cell (by exact hlt5)).trans y2; have q7y3 := (hb7.cell (by exact hlt5)).trans y3; have q7y4 := (hb7.cell (by exact hlt5)).trans y4; have q7y5 := (hb7.cell (by exact hlt5)).trans y5; have q7y6 := (hb7.cell (by exact hlt5)).trans y6; have q7y7 := (hb7.cell (by exact hlt5)).trans y7; have q7y8 := (hb7.cell (by exact hlt5)).trans y8; have q7y9 := (hb7.cell (by exact hlt5)).trans y9; have q7x0 := (hb7.cell (by exact hlt4)).trans x0; have q7x1 := (hb7.cell (by exact hlt4)).trans x1; have q7x2 := (hb7.cell (by exact hlt4)).trans x2)
            | (go_at_call 30; refine (HH.out w7 _ mb hb7 hM7 (by first | with_reducible exact (Below.refl w7.heap.size w7) | with_reducible exact (Below.refl w7.heap.size w7).drew | with_reducible exact (Below.refl w7.heap.size w7).drew.drew | with_reducible exact (Below.refl w7.heap.size w7).drew.drew.drew | with_reducible exact (Below.refl w7.heap.size w7).drew.drew.drew.drew | with_reducible exact (Below.refl w7.heap.size w7).drew.drew.drew.drew.drew)).mono ?_; rintro x w8 ⟨hh, rfl, hH8, hb8⟩; have q8y0 := (hb8.cell (by exact hlt5)).trans y0; have q8y1 := (hb8.cell (by exact hlt5)).trans y1; have q8y2 := (hb8.cell (by exact hlt5)).trans y2; have q8y3 := (hb8.cell (by exact hlt5)).trans y3; have q8y4 := (hb8.cell (by exact hlt5)).trans y4; have q8y5 := (hb8.cell (by exact hlt5)).trans y5; have q8y6 := (hb8.cell (by exact hlt5)).trans y6; have q8y7 := (hb8.cell (by exact hlt5)).trans y7; have q8y8 := (hb8.cell (by exact hlt5)).trans y8; have q8y9 := (hb8.cell (by exact hlt5)).trans y9; have q8x0 := (hb8.cell (by exact hlt4)).trans x0; have q8x1 := (hb8.cell (by exact hlt4)).trans x1; have q8x2 := (hb8.cell (by exact hlt4)).trans x2)
            | (go_at_call 34; refine (HD.out w8 _ hh mb hH8 hb8 (by first | with_reducible exact (Below.refl w8.heap.size w8) | with_reducible exact (Below.refl w8.heap.size w8).drew | with_reducible exact (Below.refl w8.heap.size w8).drew.drew | with_reducible exact (Below.refl w8.heap.size w8).drew.drew.drew | with_reducible exact (Below.refl w8.heap.size w8).drew.drew.drew.drew | with_reducible exact (Below.refl w8.heap.size w8).drew.drew.drew.drew.drew)).mono ?_; rintro x w9 ⟨rfl, hb9⟩; have q9y0 := (hb9.cell (by exact hlt5)).trans y0; have q9y1 := (hb9.cell (by exact hlt5)).trans y1; have q9y2 := (hb9.cell (by exact hlt5)).trans y2; have q9y3 := (hb9.cell (by exact hlt5)).trans y3; have q9y4 := (hb9.cell (by exact hlt5)).trans y4; have q9y5 := (hb9.cell (by exact hlt5)).trans y5; have q9y6 := (hb9.cell (by exact hlt5)).trans y6; have q9y7 := (hb9.cell (by exact hlt5)).trans y7; have q9y8 := (hb9.cell (by exact hlt5)).trans y8; have q9y9 := (hb9.cell (by exact hlt5)).trans y9; have q9x0 := (hb9.cell (by exact hlt4)).trans x0; have q9x1 := (hb9.cell (by exact hlt4)).trans x1; have q9x2 := (hb9.cell (by exact hlt4)).trans x2))
        all_goals
          go_wp2
          go_ret
          exact ⟨rfl, hw4.trans (Below.mono (by first | exact hb9 | exact hb9.drew | exact hb9.drew.drew) hw4.size)⟩
end Go.Proofs.YtnkpikknkooblaaGreat
