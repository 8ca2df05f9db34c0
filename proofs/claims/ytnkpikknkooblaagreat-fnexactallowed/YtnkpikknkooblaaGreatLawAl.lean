/-
  FnExactAllowed.
-/
import Derived.Test.YtnkpikknkooblaaGreatAlI
import Derived.Test.YtnkpikknkooblaaGreatAlWX
import Derived.Test.YtnkpikknkooblaaGreatLawEA
import Derived.Test.YtnkpikknkooblaaGreatLawA
namespace Go.Proofs.YtnkpikknkooblaaGreat
open Go.RowKit

set_option maxRecDepth 100000 in
set_option maxHeartbeats 4000000 in
theorem lawAl_any {a : Option Addr} {n cap : Nat} {E : Nat → Ev} {sa : Option Addr} {sc : Nat} {l : List Ent} (e : Ev) {pa aa ga : Option Addr} {cp ca cg : Nat} (w : World) (hr : n * 168 ≤ 140737488351232) (hR : ∀ i, i < n → EvReach (E i)) (hrl : l.length * 48 ≤ 140737488351232) (hrp : e.np * 16 ≤ 140737488351232) (hra : e.na * 16 ≤ 140737488351232) (hrg : e.ng * 24 ≤ 140737488351232) (h : SlV w a n cap E) (hs : SlE w sa sc l) (he : EvOk w e pa cp aa ca ga cg) :
    Calls Tryz.prog 3 #[.agg #[.slice a n cap], .slice sa l.length sc, .agg #[.string e.id, .string e.sd, .string e.ty, .bool e.st, .string e.key, .int .i64 e.tm, .slice pa e.np cp, .slice aa e.na ca, .string e.val, .slice ga e.ng cg]] w fun x w' => x = .returned (.bool true) ∧ Below w.heap.size w w' := by
  obtain ⟨wa, hwa⟩ : ∃ wa, wa = (w.alloc (.cells #[.slice a n cap] 24)).alloc (.cells #[.string e.id, .string e.sd, .string e.ty, .bool e.st, .string e.key, .int .i64 e.tm, .slice pa e.np cp, .slice aa e.na ca, .string e.val, .slice ga e.ng cg] 29) := ⟨_, rfl⟩
  have hba : Below w.heap.size w wa := by rw [hwa]; exact ((Below.refl _ _).alloc (Nat.le_refl _) _).alloc (by simp) _
  have hsa : wa.heap.size = w.heap.size + 2 := by rw [hwa]; simp
  have hrf : Below wa.heap.size wa wa := Below.refl _ _
  have hz0 : w.heap.size < wa.heap.size := by omega
  have hz1 : w.heap.size + 1 < wa.heap.size := by omega
  have hca : Hid (∀ W, Below wa.heap.size wa W → ∀ i, W.cell? ⟨w.heap.size + 1, i, none⟩ = (#[.string e.id, .string e.sd, .string e.ty, .bool e.st, .string e.key, .int .i64 e.tm, .slice pa e.np cp, .slice aa e.na ca, .string e.val, .slice ga e.ng cg] : Array Value)[i]?) := fun W hW i => (hW.cell (by exact hz1)).trans (by rw [hwa]; exact World.cell?_alloc_at _ _ _ _ (by simp))
  have hcr : Hid (∀ W, Below wa.heap.size wa W → W.cell? ⟨w.heap.size, 0, none⟩ = some (.slice a n cap)) := fun W hW => (hW.cell (by exact hz0)).trans (by rw [hwa, World.cell?_alloc_past _ _ _ (by simp)]; exact World.cell?_alloc_at _ _ _ _ rfl)
  have r0 : ((w.alloc (.cells #[.slice a n cap] 24)).alloc (.cells #[.string e.id, .string e.sd, .string e.ty, .bool e.st, .string e.key, .int .i64 e.tm, .slice pa e.np cp, .slice aa e.na ca, .string e.val, .slice ga e.ng cg] 29)).cell? ⟨w.heap.size, 0, none⟩ = some (.slice a n cap) := by rw [← hwa]; exact hcr.out _ hrf
  have ha : SlV wa a n cap E := h.below hba
  have hsA : SlE wa sa sc l := hs.below hba
  have heA := he.below hba
  have HTo : Hid (∀ W0 W, Below wa.heap.size wa W0 → Below W0.heap.size W0 W → Calls Tryz.prog 8 #[.agg #[.slice a n cap]] W fun x w' => ∃ b, x = .returned (.agg #[.slice (some ⟨b, 0, none⟩) n n]) ∧ Hid (SlV w' (some ⟨b, 0, none⟩) n n E) ∧ Below W0.heap.size W0 w') := fun W0 W h0 hW => (toR_sl W hr hR (ha.below (h0.trans (hW.mono h0.size)))).mono fun _ _ ⟨b, h1, h2, h3⟩ => ⟨b, h1, h2, hW.trans (h3.mono hW.size)⟩
  have HTe : Hid (∀ W0 W, Below wa.heap.size wa W0 → Below W0.heap.size W0 W → Calls Tryz.prog 9 #[.slice sa l.length sc] W fun x w' => ∃ b, x = .returned (.slice (some ⟨b, 0, none⟩) l.length l.length) ∧ Hid (SlE w' (some ⟨b, 0, none⟩) l.length l) ∧ Below W0.heap.size W0 w') := fun W0 W h0 hW => (toE_sl W hrl (hsA.below (h0.trans (hW.mono h0.size)))).mono fun _ _ ⟨h1, h2, h3⟩ => ⟨_, h1, h2, hW.trans (h3.mono hW.size)⟩
  have HTv : Hid (∀ W0 W, Below wa.heap.size wa W0 → Below W0.heap.size W0 W → Calls Tryz.prog 10 #[.agg #[.string e.id, .string e.sd, .string e.ty, .bool e.st, .string e.key, .int .i64 e.tm, .slice pa e.np cp, .slice aa e.na ca, .string e.val, .slice ga e.ng cg]] W fun x w' => ∃ bp ba bg : Nat, x = .returned (.agg #[.string e.id, .string e.sd, .string e.ty, .bool e.st, .string e.key, .int .i64 e.tm, .slice (some ⟨bp, 0, none⟩) e.np e.np, .slice (some ⟨ba, 0, none⟩) e.na e.na, .string e.val, .slice (some ⟨bg, 0, none⟩) e.ng e.ng]) ∧ Hid (EvOk w' e (some ⟨bp, 0, none⟩) e.np (some ⟨ba, 0, none⟩) e.na (some ⟨bg, 0, none⟩) e.ng) ∧ Below W0.heap.size W0 w') := fun W0 W h0 hW => by
    have heW := heA.below (h0.trans (hW.mono h0.size))
    refine (toEv_any e.id e.sd e.ty e.key e.val e.st e.tm pa e.np cp aa e.na ca ga e.ng cg e.Pv e.Av e.M e.L W hrp hra hrg heW.hp heW.ha heW.hg).mono ?_
    rintro x w' ⟨bp, ba, bg, rfl, h1, h2, h3, hb⟩
    exact ⟨bp, ba, bg, rfl, ⟨he.hid, he.hsd, he.hty, he.hkey, he.hval, h1, h2, h3⟩, hW.trans (hb.mono hW.size)⟩
  have HSr : Hid (Calls Tryz.prog 4 #[.agg #[.slice a n cap], .int .i64 1048576] wa fun x w' => ∃ r : Int, x = .returned (.int .i64 r) ∧ -1 ≤ r ∧ r ≤ 1048576 ∧ Below wa.heap.size wa w') := szR_sl _ _ (by decide) (by decide) ha
  have HSe : Hid (∀ W (r : Int), Below wa.heap.size wa W → 0 ≤ r → r ≤ 1048576 → Calls Tryz.prog 5 #[.slice sa l.length sc, .int .i64 r] W fun x w' => ∃ r2 : Int, x = .returned (.int .i64 r2) ∧ -1 ≤ r2 ∧ r2 ≤ 1048576 ∧ Below wa.heap.size wa w') := fun W r hW h1 h2 => (szE_sl _ _ h1 h2 (hsA.below hW)).mono fun _ _ ⟨r2, q1, q2, q3, _, q5⟩ => ⟨r2, q1, q2, by omega, hW.trans (q5.mono hW.size)⟩
  have HSv : Hid (∀ W (r : Int), Below wa.heap.size wa W → 0 ≤ r → r ≤ 1048576 → Calls Tryz.prog 6 #[.agg #[.string e.id, .string e.sd, .string e.ty, .bool e.st, .string e.key, .int .i64 e.tm, .slice pa e.np cp, .slice aa e.na ca, .string e.val, .slice ga e.ng cg], .int .i64 r] W fun x w' => ∃ r2 : Int, x = .returned (.int .i64 r2) ∧ -1 ≤ r2 ∧ r2 ≤ 1048576 ∧ Below wa.heap.size wa w') := fun W r hW h1 h2 => by
    have heW := heA.below hW
    exact (szEv_any e.id e.sd e.ty e.key e.val e.st e.tm pa e.np cp aa e.na ca ga e.ng cg e.Pv e.Av e.M e.L W heW.hid heW.hsd heW.hty heW.hkey heW.hval heW.hp heW.ha heW.hg r h1 h2).mono fun _ _ ⟨r2, q1, q2, q3, q5⟩ => ⟨r2, q1, q2, by omega, hW.trans (q5.mono hW.size)⟩
  have HSp : Hid (∀ W4 W5 W6 W b4 b5 bp ba bg, Hid (SlV W4 (some ⟨b4, 0, none⟩) n n E) → Below W4.heap.size W4 W5 → Hid (SlE W5 (some ⟨b5, 0, none⟩) l.length l) → Below W5.heap.size W5 W6 → Hid (EvOk W6 e (some ⟨bp, 0, none⟩) e.np (some ⟨ba, 0, none⟩) e.na (some ⟨bg, 0, none⟩) e.ng) → Below W6.heap.size W6 W → Calls Tryz.prog 7 #[.agg #[.slice (some ⟨b4, 0, none⟩) n n], .slice (some ⟨b5, 0, none⟩) l.length l.length, .agg #[.string e.id, .string e.sd, .string e.ty, .bool e.st, .string e.key, .int .i64 e.tm, .slice (some ⟨bp, 0, none⟩) e.np e.np, .slice (some ⟨ba, 0, none⟩) e.na e.na, .string e.val, .slice (some ⟨bg, 0, none⟩) e.ng e.ng]] W fun x w' => x = .returned (.int .i64 (alR E n l e)) ∧ Below W6.heap.size W6 w') := fun W4 W5 W6 W b4 b5 bp ba bg h4 h45 h5 h56 h6 h6W => by
    have h5W := h56.trans (h6W.mono h56.size)
    have h4W := h45.trans (h5W.mono h45.size)
    exact (alS_sl e W (h4.out.below h4W) (h5.out.below h5W) (h6.out.below h6W)).mono fun _ _ ⟨q1, q2⟩ => ⟨q1, h6W.trans (q2.mono h6W.size)⟩
  have HIm : Hid (∀ W4 W5 W6 W b4 b5 bp ba bg, Hid (SlV W4 (some ⟨b4, 0, none⟩) n n E) → Below W4.heap.size W4 W5 → Hid (SlE W5 (some ⟨b5, 0, none⟩) l.length l) → Below W5.heap.size W5 W6 → Hid (EvOk W6 e (some ⟨bp, 0, none⟩) e.np (some ⟨ba, 0, none⟩) e.na (some ⟨bg, 0, none⟩) e.ng) → Below W6.heap.size W6 W → Calls Tryz.prog 11 #[.agg #[.slice (some ⟨b4, 0, none⟩) n n], .slice (some ⟨b5, 0, none⟩) l.length l.length, .agg #[.string e.id, .string e.sd, .string e.ty, .bool e.st, .string e.key, .int .i64 e.tm, .slice (some ⟨bp, 0, none⟩) e.np e.np, .slice (some ⟨ba, 0, none⟩) e.na e.na, .string e.val, .slice (some ⟨bg, 0, none⟩) e.ng e.ng]] W fun x w' => x = .returned (.int .i64 (alR E n l e)) ∧ Below W.heap.size W w') := fun W4 W5 W6 W b4 b5 bp ba bg h4 h45 h5 h56 h6 h6W => by
    have h5W := h56.trans (h6W.mono h56.size)
    have h4W := h45.trans (h5W.mono h45.size)
    exact alI_sl e W (h4.out.below h4W) (h5.out.below h5W) (h6.out.below h6W)
  have HEr : Hid (∀ W4 W9 W b4 b9, Hid (SlV W4 (some ⟨b4, 0, none⟩) n n E) → Below W4.heap.size W4 W9 → Hid (SlV W9 (some ⟨b9, 0, none⟩) n n E) → Below W9.heap.size W9 W → Calls Tryz.prog 12 #[.agg #[.slice (some ⟨b4, 0, none⟩) n n], .agg #[.slice (some ⟨b9, 0, none⟩) n n]] W fun x w' => x = .returned (.bool true) ∧ Below W9.heap.size W9 w') := fun W4 W9 W b4 b9 h4 h49 h9 h9W =>
    (eqR_sl W (h4.out.below (h49.trans (h9W.mono h49.size))) (h9.out.below h9W)).mono fun _ _ ⟨q1, q2⟩ => ⟨q1, h9W.trans (q2.mono h9W.size)⟩
  have HEv : Hid (∀ W6 W9 W bp ba bg bp2 ba2 bg2, Hid (EvOk W6 e (some ⟨bp, 0, none⟩) e.np (some ⟨ba, 0, none⟩) e.na (some ⟨bg, 0, none⟩) e.ng) → Below W6.heap.size W6 W9 → Hid (EvOk W9 e (some ⟨bp2, 0, none⟩) e.np (some ⟨ba2, 0, none⟩) e.na (some ⟨bg2, 0, none⟩) e.ng) → Below W9.heap.size W9 W → Calls Tryz.prog 14 #[.agg #[.string e.id, .string e.sd, .string e.ty, .bool e.st, .string e.key, .int .i64 e.tm, .slice (some ⟨bp, 0, none⟩) e.np e.np, .slice (some ⟨ba, 0, none⟩) e.na e.na, .string e.val, .slice (some ⟨bg, 0, none⟩) e.ng e.ng], .agg #[.string e.id, .string e.sd, .string e.ty, .bool e.st, .string e.key, .int .i64 e.tm, .slice (some ⟨bp2, 0, none⟩) e.np e.np, .slice (some ⟨ba2, 0, none⟩) e.na e.na, .string e.val, .slice (some ⟨bg2, 0, none⟩) e.ng e.ng]] W fun x w' => x = .returned (.bool true) ∧ Below W9.heap.size W9 w') := fun W6 W9 W bp ba bg bp2 ba2 bg2 h6 h69 h9 h9W => by
    have q6 := h6.out.below (h69.trans (h9W.mono h69.size))
    have q9 := h9.out.below h9W
    exact (eqEv_any e.id e.sd e.ty e.key e.val e.st e.tm _ e.np _ _ e.na _ _ e.ng _ _ _ _ _ _ _ e.Pv e.Av e.M e.L W q6.hp q6.ha q6.hg q9.hp q9.ha q9.hg).mono fun _ _ ⟨q1, q2⟩ => ⟨q1, h9W.trans (q2.mono h9W.size)⟩
  clear h hs he ha hsA heA
  generalize alR E n l e = vv at *
  go_enter Tryz.func3, Tryz.ntmps3
  go_wp2_with fail
  rw [← hwa]
  clear hwa r0
  refine HSr.out.mono ?_
  rintro x w1 ⟨r, rfl, hr0, hr1, hb1⟩
  by_cases hneg : r < 0
  · go_wp2
    go_ret
    exact ⟨rfl, hba.trans (hb1.mono hba.size)⟩
  go_wp2_with fail
  refine (HSe.out _ _ hb1 (by omega) hr1).mono ?_
  rintro x w2 ⟨r2, rfl, hr2, hr3, hb2⟩
  by_cases hneg2 : r2 < 0
  · go_wp2
    go_ret
    exact ⟨rfl, hba.trans (hb2.mono hba.size)⟩
  have hc2 := hca.out _ hb2
  go_wp2_with fail
  refine (HSv.out _ _ hb2 (by omega) hr3).mono ?_
  rintro x w3 ⟨r3, rfl, hr4, hr5, hb3⟩
  clear hc2
  by_cases hneg3 : r3 < 0
  · go_wp2
    go_ret
    exact ⟨rfl, hba.trans (hb3.mono hba.size)⟩
  clear HSr HSe HSv hr0 hr1 hr2 hr3 hr4 hneg hneg2 hb1 hb2
  have y0 := hcr.out _ hb3
  have hl3 : w.heap.size < w3.heap.size := Nat.lt_of_lt_of_le hz0 hb3.size
  have z0 : w3.cell? ⟨w.heap.size + 1, 0, none⟩ = some (.string e.id) := hca.out _ hb3 0
  have z1 : w3.cell? ⟨w.heap.size + 1, 1, none⟩ = some (.string e.sd) := hca.out _ hb3 1
  have z2 : w3.cell? ⟨w.heap.size + 1, 2, none⟩ = some (.string e.ty) := hca.out _ hb3 2
  have z3 : w3.cell? ⟨w.heap.size + 1, 3, none⟩ = some (.bool e.st) := hca.out _ hb3 3
  have z4 : w3.cell? ⟨w.heap.size + 1, 4, none⟩ = some (.string e.key) := hca.out _ hb3 4
  have z5 : w3.cell? ⟨w.heap.size + 1, 5, none⟩ = some (.int .i64 e.tm) := hca.out _ hb3 5
  have z6 : w3.cell? ⟨w.heap.size + 1, 6, none⟩ = some (.slice pa e.np cp) := hca.out _ hb3 6
  have z7 : w3.cell? ⟨w.heap.size + 1, 7, none⟩ = some (.slice aa e.na ca) := hca.out _ hb3 7
  have z8 : w3.cell? ⟨w.heap.size + 1, 8, none⟩ = some (.string e.val) := hca.out _ hb3 8
  have z9 : w3.cell? ⟨w.heap.size + 1, 9, none⟩ = some (.slice ga e.ng cg) := hca.out _ hb3 9
  go_wp2_with fail
  go_cut [8] (fun v wx => v = .int .i64 vv ∧ Below wa.heap.size wa wx)
  case first =>
    go_region_held3 (fun W => W.cell? ⟨w.heap.size, 0, none⟩ = some (.slice a n cap) ∧ W.cell? ⟨w.heap.size + 1, 0, none⟩ = some (.string e.id) ∧ W.cell? ⟨w.heap.size + 1, 1, none⟩ = some (.string e.sd) ∧ W.cell? ⟨w.heap.size + 1, 2, none⟩ = some (.string e.ty) ∧ W.cell? ⟨w.heap.size + 1, 3, none⟩ = some (.bool e.st) ∧ W.cell? ⟨w.heap.size + 1, 4, none⟩ = some (.string e.key) ∧ W.cell? ⟨w.heap.size + 1, 5, none⟩ = some (.int .i64 e.tm) ∧ W.cell? ⟨w.heap.size + 1, 6, none⟩ = some (.slice pa e.np cp) ∧ W.cell? ⟨w.heap.size + 1, 7, none⟩ = some (.slice aa e.na ca) ∧ W.cell? ⟨w.heap.size + 1, 8, none⟩ = some (.string e.val) ∧ W.cell? ⟨w.heap.size + 1, 9, none⟩ = some (.slice ga e.ng cg)) (first | (with_reducible exact ⟨y0, z0, z1, z2, z3, z4, z5, z6, z7, z8, z9⟩) | go_keep)
      (first
        | (go_at_call 8; refine (HTo.out w3 _ hb3 (by first | with_reducible exact (Below.refl w3.heap.size w3) | with_reducible exact (Below.refl w3.heap.size w3).drew | with_reducible exact (Below.refl w3.heap.size w3).drew.drew | with_reducible exact (Below.refl w3.heap.size w3).drew.drew.drew | with_reducible exact (Below.refl w3.heap.size w3).drew.drew.drew.drew | with_reducible exact (Below.refl w3.heap.size w3).drew.drew.drew.drew.drew)).mono ?_; rintro x w4 ⟨b4, rfl, hv4, hb34⟩; have hb4 := hb3.trans (hb34.mono hb3.size); have q4y := hcr.out _ hb4; have q4z0 : w4.cell? ⟨w.heap.size + 1, 0, none⟩ = some (.string e.id) := hca.out _ hb4 0; have q4z1 : w4.cell? ⟨w.heap.size + 1, 1, none⟩ = some (.string e.sd) := hca.out _ hb4 1; have q4z2 : w4.cell? ⟨w.heap.size + 1, 2, none⟩ = some (.string e.ty) := hca.out _ hb4 2; have q4z3 : w4.cell? ⟨w.heap.size + 1, 3, none⟩ = some (.bool e.st) := hca.out _ hb4 3; have q4z4 : w4.cell? ⟨w.heap.size + 1, 4, none⟩ = some (.string e.key) := hca.out _ hb4 4; have q4z5 : w4.cell? ⟨w.heap.size + 1, 5, none⟩ = some (.int .i64 e.tm) := hca.out _ hb4 5; have q4z6 : w4.cell? ⟨w.heap.size + 1, 6, none⟩ = some (.slice pa e.np cp) := hca.out _ hb4 6; have q4z7 : w4.cell? ⟨w.heap.size + 1, 7, none⟩ = some (.slice aa e.na ca) := hca.out _ hb4 7; have q4z8 : w4.cell? ⟨w.heap.size + 1, 8, none⟩ = some (.string e.val) := hca.out _ hb4 8; have q4z9 : w4.cell? ⟨w.heap.size + 1, 9, none⟩ = some (.slice ga e.ng cg) := hca.out _ hb4 9)
        | (go_at_call 9; refine (HTe.out w4 _ hb4 (by first | with_reducible exact (Below.refl w4.heap.size w4) | with_reducible exact (Below.refl w4.heap.size w4).drew | with_reducible exact (Below.refl w4.heap.size w4).drew.drew | with_reducible exact (Below.refl w4.heap.size w4).drew.drew.drew | with_reducible exact (Below.refl w4.heap.size w4).drew.drew.drew.drew | with_reducible exact (Below.refl w4.heap.size w4).drew.drew.drew.drew.drew)).mono ?_; rintro x w5 ⟨b5, rfl, hv5, hb45⟩; have hb5 := hb4.trans (hb45.mono hb4.size); have q5y := hcr.out _ hb5; have q5z0 : w5.cell? ⟨w.heap.size + 1, 0, none⟩ = some (.string e.id) := hca.out _ hb5 0; have q5z1 : w5.cell? ⟨w.heap.size + 1, 1, none⟩ = some (.string e.sd) := hca.out _ hb5 1; have q5z2 : w5.cell? ⟨w.heap.size + 1, 2, none⟩ = some (.string e.ty) := hca.out _ hb5 2; have q5z3 : w5.cell? ⟨w.heap.size + 1, 3, none⟩ = some (.bool e.st) := hca.out _ hb5 3; have q5z4 : w5.cell? ⟨w.heap.size + 1, 4, none⟩ = some (.string e.key) := hca.out _ hb5 4; have q5z5 : w5.cell? ⟨w.heap.size + 1, 5, none⟩ = some (.int .i64 e.tm) := hca.out _ hb5 5; have q5z6 : w5.cell? ⟨w.heap.size + 1, 6, none⟩ = some (.slice pa e.np cp) := hca.out _ hb5 6; have q5z7 : w5.cell? ⟨w.heap.size + 1, 7, none⟩ = some (.slice aa e.na ca) := hca.out _ hb5 7; have q5z8 : w5.cell? ⟨w.heap.size + 1, 8, none⟩ = some (.string e.val) := hca.out _ hb5 8; have q5z9 : w5.cell? ⟨w.heap.size + 1, 9, none⟩ = some (.slice ga e.ng cg) := hca.out _ hb5 9)
        | (go_at_call 10; refine (HTv.out w5 _ hb5 (by first | with_reducible exact (Below.refl w5.heap.size w5) | with_reducible exact (Below.refl w5.heap.size w5).drew | with_reducible exact (Below.refl w5.heap.size w5).drew.drew | with_reducible exact (Below.refl w5.heap.size w5).drew.drew.drew | with_reducible exact (Below.refl w5.heap.size w5).drew.drew.drew.drew | with_reducible exact (Below.refl w5.heap.size w5).drew.drew.drew.drew.drew)).mono ?_; rintro x w6 ⟨bp, ba, bg, rfl, hv6, hb56⟩; have hb6 := hb5.trans (hb56.mono hb5.size); have q6y := hcr.out _ hb6; have q6z0 : w6.cell? ⟨w.heap.size + 1, 0, none⟩ = some (.string e.id) := hca.out _ hb6 0; have q6z1 : w6.cell? ⟨w.heap.size + 1, 1, none⟩ = some (.string e.sd) := hca.out _ hb6 1; have q6z2 : w6.cell? ⟨w.heap.size + 1, 2, none⟩ = some (.string e.ty) := hca.out _ hb6 2; have q6z3 : w6.cell? ⟨w.heap.size + 1, 3, none⟩ = some (.bool e.st) := hca.out _ hb6 3; have q6z4 : w6.cell? ⟨w.heap.size + 1, 4, none⟩ = some (.string e.key) := hca.out _ hb6 4; have q6z5 : w6.cell? ⟨w.heap.size + 1, 5, none⟩ = some (.int .i64 e.tm) := hca.out _ hb6 5; have q6z6 : w6.cell? ⟨w.heap.size + 1, 6, none⟩ = some (.slice pa e.np cp) := hca.out _ hb6 6; have q6z7 : w6.cell? ⟨w.heap.size + 1, 7, none⟩ = some (.slice aa e.na ca) := hca.out _ hb6 7; have q6z8 : w6.cell? ⟨w.heap.size + 1, 8, none⟩ = some (.string e.val) := hca.out _ hb6 8; have q6z9 : w6.cell? ⟨w.heap.size + 1, 9, none⟩ = some (.slice ga e.ng cg) := hca.out _ hb6 9)
        | (go_at_call 7; refine (HSp.out w4 w5 w6 _ b4 b5 bp ba bg hv4 hb45 hv5 hb56 hv6 (by first | with_reducible exact (Below.refl w6.heap.size w6) | with_reducible exact (Below.refl w6.heap.size w6).drew | with_reducible exact (Below.refl w6.heap.size w6).drew.drew | with_reducible exact (Below.refl w6.heap.size w6).drew.drew.drew | with_reducible exact (Below.refl w6.heap.size w6).drew.drew.drew.drew | with_reducible exact (Below.refl w6.heap.size w6).drew.drew.drew.drew.drew)).mono ?_; rintro x w7 ⟨rfl, hb67⟩; have hb7 := hb6.trans (hb67.mono hb6.size); have q7y := hcr.out _ hb7; have q7z0 : w7.cell? ⟨w.heap.size + 1, 0, none⟩ = some (.string e.id) := hca.out _ hb7 0; have q7z1 : w7.cell? ⟨w.heap.size + 1, 1, none⟩ = some (.string e.sd) := hca.out _ hb7 1; have q7z2 : w7.cell? ⟨w.heap.size + 1, 2, none⟩ = some (.string e.ty) := hca.out _ hb7 2; have q7z3 : w7.cell? ⟨w.heap.size + 1, 3, none⟩ = some (.bool e.st) := hca.out _ hb7 3; have q7z4 : w7.cell? ⟨w.heap.size + 1, 4, none⟩ = some (.string e.key) := hca.out _ hb7 4; have q7z5 : w7.cell? ⟨w.heap.size + 1, 5, none⟩ = some (.int .i64 e.tm) := hca.out _ hb7 5; have q7z6 : w7.cell? ⟨w.heap.size + 1, 6, none⟩ = some (.slice pa e.np cp) := hca.out _ hb7 6; have q7z7 : w7.cell? ⟨w.heap.size + 1, 7, none⟩ = some (.slice aa e.na ca) := hca.out _ hb7 7; have q7z8 : w7.cell? ⟨w.heap.size + 1, 8, none⟩ = some (.string e.val) := hca.out _ hb7 8; have q7z9 : w7.cell? ⟨w.heap.size + 1, 9, none⟩ = some (.slice ga e.ng cg) := hca.out _ hb7 9))
    all_goals (try go_wp2_with fail)
    all_goals go_meet
    all_goals exact ⟨rfl, (by first | with_reducible exact hb7 | with_reducible exact hb7.drew | with_reducible exact hb7.drew.drew | with_reducible exact hb7.drew.drew.drew | with_reducible exact hb7.drew.drew.drew.drew | with_reducible exact hb7.drew.drew.drew.drew.drew)⟩
  case rest =>
    obtain ⟨rfl, hb7⟩ := hcut
    obtain ⟨w7, hw7⟩ : ∃ w7 : World, w7 = wc := ⟨_, rfl⟩
    subst hw7
    clear HSp y0 z0 z1 z2 z3 z4 z5 z6 z7 z8 z9
    have r7 := hcr.out _ hb7
    go_wp2_with fail
    refine (HTo.out w7 _ hb7 (Below.refl _ _)).mono ?_
    rintro x w8 ⟨b8, rfl, hv8, hb78⟩
    have hb8 := hb7.trans (hb78.mono hb7.size)
    obtain ⟨wx, hwx⟩ : ∃ wx, wx = w8.alloc (.cells #[.slice (some ⟨b8, 0, none⟩) n n] 36) := ⟨_, rfl⟩
    have h8x : Below w8.heap.size w8 wx := by rw [hwx]; exact (Below.refl _ _).alloc (Nat.le_refl _) _
    have hsx : w8.heap.size < wx.heap.size := by rw [hwx]; simp
    have hcx : wx.cell? ⟨w8.heap.size, 0, none⟩ = some (.slice (some ⟨b8, 0, none⟩) n n) := by rw [hwx]; exact World.cell?_alloc_at _ _ _ _ rfl
    have hbx := hb8.trans (h8x.mono hb8.size)
    clear r7
    go_wp2_with fail
    rw [← hwx]
    clear hwx
    refine (HTe.out wx _ hbx (Below.refl _ _)).mono ?_
    rintro x w9 ⟨b9, rfl, hv9, hbx9⟩
    have hb9 := hbx.trans (hbx9.mono hbx.size)
    have hc9 := hca.out _ hb9
    go_wp2_with fail
    refine (HTv.out w9 _ hb9 (Below.refl _ _)).mono ?_
    rintro x w10 ⟨bp, ba, bg, rfl, hv10, hb910⟩
    have hb10 := hb9.trans (hb910.mono hb9.size)
    clear hc9
    obtain ⟨wy, hwy⟩ : ∃ wy, wy = w10.alloc (.cells #[.string e.id, .string e.sd, .string e.ty, .bool e.st, .string e.key, .int .i64 e.tm, .slice (some ⟨bp, 0, none⟩) e.np e.np, .slice (some ⟨ba, 0, none⟩) e.na e.na, .string e.val, .slice (some ⟨bg, 0, none⟩) e.ng e.ng] 42) := ⟨_, rfl⟩
    have h10y : Below w10.heap.size w10 wy := by rw [hwy]; exact (Below.refl _ _).alloc (Nat.le_refl _) _
    have hsy : w10.heap.size < wy.heap.size := by rw [hwy]; simp
    have hcy : Hid (∀ i, wy.cell? ⟨w10.heap.size, i, none⟩ = (#[.string e.id, .string e.sd, .string e.ty, .bool e.st, .string e.key, .int .i64 e.tm, .slice (some ⟨bp, 0, none⟩) e.np e.np, .slice (some ⟨ba, 0, none⟩) e.na e.na, .string e.val, .slice (some ⟨bg, 0, none⟩) e.ng e.ng] : Array Value)[i]?) := fun i => by rw [hwy]; exact World.cell?_alloc_at _ _ _ _ rfl
    have hx10 := hbx9.trans (hb910.mono hbx9.size)
    have hxy := hx10.trans (h10y.mono hx10.size)
    have hby := hb10.trans (h10y.mono hb10.size)
    have x0 : (w10.alloc (.cells #[.string e.id, .string e.sd, .string e.ty, .bool e.st, .string e.key, .int .i64 e.tm, .slice (some ⟨bp, 0, none⟩) e.np e.np, .slice (some ⟨ba, 0, none⟩) e.na e.na, .string e.val, .slice (some ⟨bg, 0, none⟩) e.ng e.ng] 42)).cell? ⟨w8.heap.size, 0, none⟩ = some (.slice (some ⟨b8, 0, none⟩) n n) := by rw [← hwy]; exact (hxy.cell (by exact hsx)).trans hcx
    have hne : w8.heap.size ≠ w10.heap.size := by have := hx10.size; omega
    go_wp2_with fail
    rw [← hwy]
    clear hwy x0
    refine (HIm.out w8 w9 w10 _ b8 b9 bp ba bg hv8 (h8x.trans (hbx9.mono h8x.size)) hv9 hb910 hv10 h10y).mono ?_
    rintro x w11 ⟨rfl, hby11⟩
    have hb11 := hby.trans (hby11.mono hby.size)
    have hx11 := hxy.trans (hby11.mono hxy.size)
    have h811 := h8x.trans (hx11.mono h8x.size)
    have h1011 := h10y.trans (hby11.mono h10y.size)
    have h911 := hb910.trans (h1011.mono hb910.size)
    have hlx : w8.heap.size < w11.heap.size := Nat.lt_of_lt_of_le hsx hx11.size
    have hly : w10.heap.size < w11.heap.size := Nat.lt_of_lt_of_le hsy hby11.size
    have hlr : w.heap.size < w11.heap.size := Nat.lt_of_lt_of_le hz0 hb11.size
    have y0 := hcr.out _ hb11
    have y1 : w11.cell? ⟨w8.heap.size, 0, none⟩ = some (.slice (some ⟨b8, 0, none⟩) n n) := (hx11.cell (by exact hsx)).trans hcx
    clear HIm
    go_wp2_with fail
    go_cut [52] (fun v wx => v = .bool false ∧ Below w11.heap.size w11 wx)
    case first =>
      go_region_held3 (fun W => W.cell? ⟨w.heap.size, 0, none⟩ = some (.slice a n cap) ∧ W.cell? ⟨w8.heap.size, 0, none⟩ = some (.slice (some ⟨b8, 0, none⟩) n n)) (first | (with_reducible exact ⟨y0, y1⟩) | go_keep)
        (first
          | (go_at_call 8; refine (HTo.out w11 _ hb11 (by first | with_reducible exact (Below.refl w11.heap.size w11) | with_reducible exact (Below.refl w11.heap.size w11).drew | with_reducible exact (Below.refl w11.heap.size w11).drew.drew | with_reducible exact (Below.refl w11.heap.size w11).drew.drew.drew | with_reducible exact (Below.refl w11.heap.size w11).drew.drew.drew.drew | with_reducible exact (Below.refl w11.heap.size w11).drew.drew.drew.drew.drew)).mono ?_; rintro x w12 ⟨b12, rfl, hv12, hb12⟩; have q0 := (hb12.cell (by exact hlr)).trans y0; have q1 := (hb12.cell (by exact hlx)).trans y1)
          | (go_at_call 12; refine (HEr.out w8 w12 _ b8 b12 hv8 (h811.trans (hb12.mono h811.size)) hv12 (by first | with_reducible exact (Below.refl w12.heap.size w12) | with_reducible exact (Below.refl w12.heap.size w12).drew | with_reducible exact (Below.refl w12.heap.size w12).drew.drew | with_reducible exact (Below.refl w12.heap.size w12).drew.drew.drew | with_reducible exact (Below.refl w12.heap.size w12).drew.drew.drew.drew | with_reducible exact (Below.refl w12.heap.size w12).drew.drew.drew.drew.drew)).mono ?_; rintro x w13 ⟨rfl, hb13'⟩; have hb13 := hb12.trans (hb13'.mono hb12.size); have q0 := (hb13.cell (by exact hlr)).trans y0; have q1 := (hb13.cell (by exact hlx)).trans y1))
      all_goals (try go_wp2_with fail)
      all_goals go_meet
      all_goals exact ⟨rfl, (by first | with_reducible exact hb13 | with_reducible exact hb13.drew | with_reducible exact hb13.drew.drew | with_reducible exact hb13.drew.drew.drew | with_reducible exact hb13.drew.drew.drew.drew | with_reducible exact hb13.drew.drew.drew.drew.drew)⟩
    case rest =>
      obtain ⟨rfl, hb12⟩ := hcut
      obtain ⟨w12, hw12⟩ : ∃ w12 : World, w12 = wc := ⟨_, rfl⟩
      subst hw12
      have hB12 := hb11.trans (hb12.mono hb11.size)
      clear HEr HTo y0 y1
      go_wp2_with fail
      refine (HTe.out w12 _ hB12 (Below.refl _ _)).mono ?_
      rintro x w13 ⟨b13, rfl, hv13, hb13⟩
      have h913 := (h911.trans (hb12.mono h911.size)).trans (hb13.mono (h911.trans (hb12.mono h911.size)).size)
      go_wp2_with fail
      refine (eqE_sl _ (hv9.out.below h913) hv13.out).mono ?_
      rintro x w14 ⟨rfl, hb14⟩
      have h1214 := hb13.trans (hb14.mono hb13.size)
      have h1114 := hb12.trans (h1214.mono hb12.size)
      have hB14 := hb11.trans (h1114.mono hb11.size)
      have h1014 := h1011.trans (h1114.mono h1011.size)
      have hlr4 : w.heap.size + 1 < w14.heap.size := Nat.lt_of_lt_of_le hz1 hB14.size
      have hly4 : w10.heap.size < w14.heap.size := Nat.lt_of_lt_of_le hly h1114.size
      clear HTe hv13
      have z0 : w14.cell? ⟨w.heap.size + 1, 0, none⟩ = some (.string e.id) := hca.out _ hB14 0
      have z1 : w14.cell? ⟨w.heap.size + 1, 1, none⟩ = some (.string e.sd) := hca.out _ hB14 1
      have z2 : w14.cell? ⟨w.heap.size + 1, 2, none⟩ = some (.string e.ty) := hca.out _ hB14 2
      have z3 : w14.cell? ⟨w.heap.size + 1, 3, none⟩ = some (.bool e.st) := hca.out _ hB14 3
      have z4 : w14.cell? ⟨w.heap.size + 1, 4, none⟩ = some (.string e.key) := hca.out _ hB14 4
      have z5 : w14.cell? ⟨w.heap.size + 1, 5, none⟩ = some (.int .i64 e.tm) := hca.out _ hB14 5
      have z6 : w14.cell? ⟨w.heap.size + 1, 6, none⟩ = some (.slice pa e.np cp) := hca.out _ hB14 6
      have z7 : w14.cell? ⟨w.heap.size + 1, 7, none⟩ = some (.slice aa e.na ca) := hca.out _ hB14 7
      have z8 : w14.cell? ⟨w.heap.size + 1, 8, none⟩ = some (.string e.val) := hca.out _ hB14 8
      have z9 : w14.cell? ⟨w.heap.size + 1, 9, none⟩ = some (.slice ga e.ng cg) := hca.out _ hB14 9
      have x0 : w14.cell? ⟨w10.heap.size, 0, none⟩ = some (.string e.id) := ((hby11.trans (h1114.mono hby11.size)).cell (by exact hsy)).trans (hcy.out 0)
      have x1 : w14.cell? ⟨w10.heap.size, 1, none⟩ = some (.string e.sd) := ((hby11.trans (h1114.mono hby11.size)).cell (by exact hsy)).trans (hcy.out 1)
      have x2 : w14.cell? ⟨w10.heap.size, 2, none⟩ = some (.string e.ty) := ((hby11.trans (h1114.mono hby11.size)).cell (by exact hsy)).trans (hcy.out 2)
      have x3 : w14.cell? ⟨w10.heap.size, 3, none⟩ = some (.bool e.st) := ((hby11.trans (h1114.mono hby11.size)).cell (by exact hsy)).trans (hcy.out 3)
      have x4 : w14.cell? ⟨w10.heap.size, 4, none⟩ = some (.string e.key) := ((hby11.trans (h1114.mono hby11.size)).cell (by exact hsy)).trans (hcy.out 4)
      have x5 : w14.cell? ⟨w10.heap.size, 5, none⟩ = some (.int .i64 e.tm) := ((hby11.trans (h1114.mono hby11.size)).cell (by exact hsy)).trans (hcy.out 5)
      have x6 : w14.cell? ⟨w10.heap.size, 6, none⟩ = some (.slice (some ⟨bp, 0, none⟩) e.np e.np) := ((hby11.trans (h1114.mono hby11.size)).cell (by exact hsy)).trans (hcy.out 6)
      have x7 : w14.cell? ⟨w10.heap.size, 7, none⟩ = some (.slice (some ⟨ba, 0, none⟩) e.na e.na) := ((hby11.trans (h1114.mono hby11.size)).cell (by exact hsy)).trans (hcy.out 7)
      have x8 : w14.cell? ⟨w10.heap.size, 8, none⟩ = some (.string e.val) := ((hby11.trans (h1114.mono hby11.size)).cell (by exact hsy)).trans (hcy.out 8)
      have x9 : w14.cell? ⟨w10.heap.size, 9, none⟩ = some (.slice (some ⟨bg, 0, none⟩) e.ng e.ng) := ((hby11.trans (h1114.mono hby11.size)).cell (by exact hsy)).trans (hcy.out 9)
      have hw14 := hba.trans (hB14.mono hba.size)
      go_wp2_with fail
      go_region_held3 (fun W => W.cell? ⟨w.heap.size + 1, 0, none⟩ = some (.string e.id) ∧ W.cell? ⟨w.heap.size + 1, 1, none⟩ = some (.string e.sd) ∧ W.cell? ⟨w.heap.size + 1, 2, none⟩ = some (.string e.ty) ∧ W.cell? ⟨w.heap.size + 1, 3, none⟩ = some (.bool e.st) ∧ W.cell? ⟨w.heap.size + 1, 4, none⟩ = some (.string e.key) ∧ W.cell? ⟨w.heap.size + 1, 5, none⟩ = some (.int .i64 e.tm) ∧ W.cell? ⟨w.heap.size + 1, 6, none⟩ = some (.slice pa e.np cp) ∧ W.cell? ⟨w.heap.size + 1, 7, none⟩ = some (.slice aa e.na ca) ∧ W.cell? ⟨w.heap.size + 1, 8, none⟩ = some (.string e.val) ∧ W.cell? ⟨w.heap.size + 1, 9, none⟩ = some (.slice ga e.ng cg) ∧ W.cell? ⟨w10.heap.size, 0, none⟩ = some (.string e.id) ∧ W.cell? ⟨w10.heap.size, 1, none⟩ = some (.string e.sd) ∧ W.cell? ⟨w10.heap.size, 2, none⟩ = some (.string e.ty) ∧ W.cell? ⟨w10.heap.size, 3, none⟩ = some (.bool e.st) ∧ W.cell? ⟨w10.heap.size, 4, none⟩ = some (.string e.key) ∧ W.cell? ⟨w10.heap.size, 5, none⟩ = some (.int .i64 e.tm) ∧ W.cell? ⟨w10.heap.size, 6, none⟩ = some (.slice (some ⟨bp, 0, none⟩) e.np e.np) ∧ W.cell? ⟨w10.heap.size, 7, none⟩ = some (.slice (some ⟨ba, 0, none⟩) e.na e.na) ∧ W.cell? ⟨w10.heap.size, 8, none⟩ = some (.string e.val) ∧ W.cell? ⟨w10.heap.size, 9, none⟩ = some (.slice (some ⟨bg, 0, none⟩) e.ng e.ng)) (first | (with_reducible exact ⟨z0, z1, z2, z3, z4, z5, z6, z7, z8, z9, x0, x1, x2, x3, x4, x5, x6, x7, x8, x9⟩) | go_keep)
        (first
          | (go_at_call 10; refine (HTv.out w14 _ hB14 (by first | with_reducible exact (Below.refl w14.heap.size w14) | with_reducible exact (Below.refl w14.heap.size w14).drew | with_reducible exact (Below.refl w14.heap.size w14).drew.drew | with_reducible exact (Below.refl w14.heap.size w14).drew.drew.drew | with_reducible exact (Below.refl w14.heap.size w14).drew.drew.drew.drew | with_reducible exact (Below.refl w14.heap.size w14).drew.drew.drew.drew.drew)).mono ?_; rintro x w15 ⟨bp2, ba2, bg2, rfl, hv15, hb15⟩; have q15z0 := (hb15.cell (by exact hlr4)).trans z0; have q15z1 := (hb15.cell (by exact hlr4)).trans z1; have q15z2 := (hb15.cell (by exact hlr4)).trans z2; have q15z3 := (hb15.cell (by exact hlr4)).trans z3; have q15z4 := (hb15.cell (by exact hlr4)).trans z4; have q15z5 := (hb15.cell (by exact hlr4)).trans z5; have q15z6 := (hb15.cell (by exact hlr4)).trans z6; have q15z7 := (hb15.cell (by exact hlr4)).trans z7; have q15z8 := (hb15.cell (by exact hlr4)).trans z8; have q15z9 := (hb15.cell (by exact hlr4)).trans z9; have q15x0 := (hb15.cell (by exact hly4)).trans x0; have q15x1 := (hb15.cell (by exact hly4)).trans x1; have q15x2 := (hb15.cell (by exact hly4)).trans x2; have q15x3 := (hb15.cell (by exact hly4)).trans x3; have q15x4 := (hb15.cell (by exact hly4)).trans x4; have q15x5 := (hb15.cell (by exact hly4)).trans x5; have q15x6 := (hb15.cell (by exact hly4)).trans x6; have q15x7 := (hb15.cell (by exact hly4)).trans x7; have q15x8 := (hb15.cell (by exact hly4)).trans x8; have q15x9 := (hb15.cell (by exact hly4)).trans x9)
          | (go_at_call 14; refine (HEv.out w10 w15 _ bp ba bg bp2 ba2 bg2 hv10 (h1014.trans (hb15.mono h1014.size)) hv15 (by first | with_reducible exact (Below.refl w15.heap.size w15) | with_reducible exact (Below.refl w15.heap.size w15).drew | with_reducible exact (Below.refl w15.heap.size w15).drew.drew | with_reducible exact (Below.refl w15.heap.size w15).drew.drew.drew | with_reducible exact (Below.refl w15.heap.size w15).drew.drew.drew.drew | with_reducible exact (Below.refl w15.heap.size w15).drew.drew.drew.drew.drew)).mono ?_; rintro x w16 ⟨rfl, hb16'⟩; have hb16 := hb15.trans (hb16'.mono hb15.size); have q16z0 := (hb16.cell (by exact hlr4)).trans z0; have q16z1 := (hb16.cell (by exact hlr4)).trans z1; have q16z2 := (hb16.cell (by exact hlr4)).trans z2; have q16z3 := (hb16.cell (by exact hlr4)).trans z3; have q16z4 := (hb16.cell (by exact hlr4)).trans z4; have q16z5 := (hb16.cell (by exact hlr4)).trans z5; have q16z6 := (hb16.cell (by exact hlr4)).trans z6; have q16z7 := (hb16.cell (by exact hlr4)).trans z7; have q16z8 := (hb16.cell (by exact hlr4)).trans z8; have q16z9 := (hb16.cell (by exact hlr4)).trans z9; have q16x0 := (hb16.cell (by exact hly4)).trans x0; have q16x1 := (hb16.cell (by exact hly4)).trans x1; have q16x2 := (hb16.cell (by exact hly4)).trans x2; have q16x3 := (hb16.cell (by exact hly4)).trans x3; have q16x4 := (hb16.cell (by exact hly4)).trans x4; have q16x5 := (hb16.cell (by exact hly4)).trans x5; have q16x6 := (hb16.cell (by exact hly4)).trans x6; have q16x7 := (hb16.cell (by exact hly4)).trans x7; have q16x8 := (hb16.cell (by exact hly4)).trans x8; have q16x9 := (hb16.cell (by exact hly4)).trans x9))
      all_goals
        go_wp2
        go_ret
        exact ⟨rfl, hw14.trans (Below.mono (by first | with_reducible exact hb16 | with_reducible exact hb16.drew | with_reducible exact hb16.drew.drew | with_reducible exact hb16.drew.drew.drew | with_reducible exact hb16.drew.drew.drew.drew | with_reducible exact hb16.drew.drew.drew.drew.drew) hw14.size)⟩
end Go.Proofs.YtnkpikknkooblaaGreat
