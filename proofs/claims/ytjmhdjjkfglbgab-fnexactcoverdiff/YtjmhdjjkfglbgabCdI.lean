import Derived.Test.YtjmhdjjkfglbgabCdR
import Derived.Test.YtjmhdjjkfglbgabCdS
import Derived.Deep.DeepCutAuto
import Derived.Deep.CutBlock
namespace Go.Proofs.Ytjmhdjjkfglbgab
open Go.RowKit

theorem one_sliceR (a : Option Addr) (n c : Nat) (u : Value) (hu : u ∈ [Value.slice a n c]) : u.oneCell' = true := by
  simp only [List.mem_cons, List.not_mem_nil, or_false] at hu
  subst hu; rfl

set_option maxRecDepth 100000 in
set_option maxHeartbeats 6000000 in
theorem cdI_any {sa : Option Addr} {ns cs : Nat} {ra : Option Addr} {nr cr : Nat} {C Q : Nat → Int} {rn : Nat → Nat} {X : Nat → Nat → Int} {a : Option Addr} {m cap : Nat} {sn : Nat → Nat} {Y : Nat → Nat → Int} (w : World) (hns : ns ≤ 1048576) (hms : m ≤ 1048576) (hR : ∀ i, i < nr → rn i ≤ 1048576)
    (hp : SlP w sa ns cs C Q) (hl : SlL w ra nr cr rn X) (hs : SlL w a m cap sn Y) :
    Calls Try.prog 15 #[.agg #[.slice sa ns cs, .slice ra nr cr], .slice a m cap] w (CdPost w (dfB ns C Q nr rn X m sn Y) ns) := by
  obtain ⟨i0, hi, hz0, hz1, hz2⟩ := info_parts Try.infoIntO
  obtain ⟨i1, hi', hz0', hz1', hz2'⟩ := info_parts Try.infoIntsR
  have hb0 : ∀ o, Below w.heap.size w (w.alloc o) := fun o => (Below.refl _ _).alloc (Nat.le_refl _) _
  go_enter Try.func15, Try.ntmps15
  go_upto_block 0 with fail
  go_cut [5, 7] from 14 (fun v _ wx => RowsOwn wx (w.heap.size + 1) v m (fun j => jn nr rn (Y j) (sn j)) (fun j => jv nr rn X (Y j) (sn j)) ∧ Below (w.heap.size + 1) (w.alloc (.cells #[.slice sa ns cs, .slice ra nr cr] 44)) wx)
  case first =>
    go_wp2_with fail
    go_loopw [5, 16] (fun v i wr => ∃ j : Nat, j ≤ m ∧ i = .int .i64 j ∧ RowsOwn wr (w.heap.size + 1) v j (fun j => jn nr rn (Y j) (sn j)) (fun j => jv nr rn X (Y j) (sn j)) ∧ Below (w.heap.size + 1) (w.alloc (.cells #[.slice sa ns cs, .slice ra nr cr] 44)) wr) (fun _ i _ => m - (intOf i).toNat)
    case atStart => exact ⟨0, Nat.zero_le _, rfl, RowsOwn.nil _ _ _ _, Below.refl _ _⟩
    case round =>
      obtain ⟨j, hj, rfl, hrows, hbel⟩ := hrel
      have hbx := box_cells hbel
      have hbw := (hb0 _).trans (hbel.mono (Nat.le_succ _))
      have hszr : w.heap.size + 1 ≤ wr.heap.size := by simpa using hbel.size
      by_cases hjm : j < m
      · obtain ⟨bs, os, rfl, hbs, hrow⟩ := (hs.below hbw).at (j := j) hjm
        obtain ⟨rs, rc, hck, hsl⟩ := hrow
        go_wp2_with fail
        refine (joinI_sl _ hR (hl.below hbw) hsl).mono ?_
        rintro e w1 ⟨v1, rfl, hown1, hb1⟩
        obtain ⟨va, vc, rfl, _⟩ := hown1.sl
        obtain ⟨R, hRo, hRr⟩ := id hrows
        have hvlt : ∀ q, u5.ownBlock = some q → w.heap.size + 1 ≤ q ∧ q < wr.heap.size := fun q hq => World.ownsRow.lt hRo q hq
        have hRo1 := ownsRow_blwI hRo hb1
        have hm1 : j + 1 ≤ maxLen := by unfold maxLen; omega
        have hm2 : (j + 1) * 24 ≤ 140737488355328 := by omega
        have hm3 : ∀ o, w.heap.size + 1 ≤ (w1.alloc o).heap.size := fun o => by have := hb1.size; simp; omega
        have hbel1 := hbel.trans (hb1.mono hszr)
        have hsz1 : w.heap.size + 1 ≤ w1.heap.size := Nat.le_trans hszr hb1.size
        go_wp2_with (at_builtin; refine wpList_append_lies _ rfl _ _ 35 rfl (w.heap.size + 1) 40 i1 (.slice none 0 0) 1 24 Try.underlying35 hi' hz0' hz1' hz2' rfl (by decide) _ _ _ rfl (World.ownsRow.alloc hRo1 _) ⟨w1.heap.size, 0, none⟩ 1 1 [.slice va (jn nr rn (Y j) (sn j)) vc] rfl rfl (one_cellsI _ _ _) (one_sliceR _ _ _) (by decide) hm1 hm2 (hm3 _) (w1.heap.size + 1) (by simp) ?_; intro gg cap3 w4 hown4 hgrow hat hlt4)
        go_roundw
        case rel => exact ⟨j + 1, by omega, by go_num, hrows.snoc hb1 hown1 R hRr (fun q hq => (hvlt q hq).2) hown4 hgrow hat, (hbel1.alloc hsz1 _).grown hgrow (hm3 _) (fun q hq => (hvlt q hq).1)⟩
        case measure => simp [intOf]; omega
      · have hjm2 : j = m := by omega
        subst hjm2
        go_wp2
        go_meet
        case rel => exact ⟨hrows, hbel⟩
  case rest =>
    obtain ⟨hrows, hbel⟩ := hcut
    have hbx := box_cells hbel
    obtain ⟨va, vc, rfl, hrl⟩ := hrows.sl
    have hbc := (hb0 _).trans (hbel.mono (Nat.le_succ _))
    have hszc : w.heap.size ≤ wc.heap.size := hbc.size
    clear hrows
    go_wp2_with fail
    go_loopw [8, 31] (fun v i wr => ∃ p : Nat, p ≤ ns ∧ i = .int .i64 p ∧ OwnI wr wc.heap.size v (posL (dfB ns C Q nr rn X m sn Y) p).length (posX (dfB ns C Q nr rn X m sn Y) ns) ∧ Below wc.heap.size wc wr) (fun _ i _ => ns - (intOf i).toNat)
    case atStart => exact ⟨0, Nat.zero_le _, rfl, OwnI.nil _ _ _, Below.refl _ _⟩
    case round =>
      obtain ⟨p, hpn, rfl, hown, hbr⟩ := hrel
      have hbw := hbc.trans (hbr.mono hbc.size)
      by_cases hlt : p < ns
      · have hlen := posL_len (dfB ns C Q nr rn X m sn Y) p
        have hag : ∀ q, u8.ownBlock = some q → wc.heap.size ≤ q := fun q hq => (World.ownsRow.lt hown q hq).1
        obtain ⟨bp, op, rfl, hbp, hp0, hp1⟩ := (hp.below hbw).at (j := p) hlt
        have hbA : Below wr.heap.size wr (wr.alloc (.cells #[.int .i64 (C p), .int .i64 (Q p)] 74)) := (Below.refl _ _).alloc (Nat.le_refl _) _
        go_wp2_with fail
        go_loopw [11, 38] (fun c i wi => ∃ j : Nat, j ≤ m ∧ i = .int .i64 j ∧ c = .int .i64 (cntTo (fun j => fromB nr rn X (sn j) (Y j) (C p) (Q p)) j : Nat) ∧ Below (wr.heap.size + 1) (wr.alloc (.cells #[.int .i64 (C p), .int .i64 (Q p)] 74)) wi) (fun _ i _ => m - (intOf i).toNat)
        case atStart => exact ⟨0, Nat.zero_le _, rfl, rfl, Below.refl _ _⟩
        case round =>
          obtain ⟨j, hj, rfl, rfl, hbi⟩ := hrel
          have hbi0 := hbA.trans (hbi.mono (Nat.le_succ _))
          have hbi1 := hbr.trans (hbi0.mono hbr.size)
          have hbx1 := box_cells hbi
          have hcl := cntTo_le (fun j => fromB nr rn X (sn j) (Y j) (C p) (Q p)) j
          have hszi := hbi.size
          simp only [World.size_alloc] at hszi
          by_cases hjm : j < m
          · obtain ⟨bs, os, rfl, hbs, hrow⟩ := (hrl.below hbi1).at (j := j) hjm
            obtain ⟨rs, rc, hck, hsl⟩ := hrow
            go_wp2_with fail
            refine (inI_any _ _ _ _ (C p) (Q p) _ hsl).mono ?_
            rintro e w1 ⟨rfl, hb1⟩
            rw [inB_join]
            have hb1' := hbi.trans (hb1.mono hszi)
            cases hf : fromB nr rn X (sn j) (Y j) (C p) (Q p)
            · have hc2 : Hid (cntTo (fun j => fromB nr rn X (sn j) (Y j) (C p) (Q p)) (j + 1) = cntTo (fun j => fromB nr rn X (sn j) (Y j) (C p) (Q p)) j) := by
                unfold Hid; conv => lhs; unfold cntTo
                simp [hf]
              go_wp2
              go_roundw
              case rel => exact ⟨j + 1, by omega, by go_num, by rw [hc2.out], hb1'⟩
              case measure => simp [intOf]; omega
            · have hc2 : Hid (cntTo (fun j => fromB nr rn X (sn j) (Y j) (C p) (Q p)) (j + 1) = cntTo (fun j => fromB nr rn X (sn j) (Y j) (C p) (Q p)) j + 1) := by
                unfold Hid; conv => lhs; unfold cntTo
                simp [hf]
              go_wp2
              go_roundw
              case rel => exact ⟨j + 1, by omega, by go_num, by rw [hc2.out]; go_num, hb1'⟩
              case measure => simp [intOf]; omega
          · have hjm2 : j = m := by omega
            subst hjm2
            have hown1 := hown.below hbi0
            have hm1 : (posL (dfB ns C Q nr rn X j sn Y) p).length + 1 ≤ maxLen := by unfold maxLen; omega
            have hm2 : ((posL (dfB ns C Q nr rn X j sn Y) p).length + 1) * 8 ≤ 140737488355328 := by omega
            have hszi2 : wc.heap.size ≤ wr.heap.size := hbi1.size
            have hm3 : ∀ o, wc.heap.size ≤ (wr.alloc o).heap.size := fun o => by simp; omega
            cases hd : dfB ns C Q nr rn X j sn Y p
            · have hl2 : Hid (posL (dfB ns C Q nr rn X j sn Y) (p + 1) = posL (dfB ns C Q nr rn X j sn Y) p) := by unfold Hid; rw [posL_step, hd]; rfl
              have hd' : ¬ (0 < cntTo (fun j => fromB nr rn X (sn j) (Y j) (C p) (Q p)) j ∧ cntTo (fun j => fromB nr rn X (sn j) (Y j) (C p) (Q p)) j < j) := fun e => by
                unfold dfB someB at hd
                rw [decide_eq_true e.1, decide_eq_true e.2, decide_eq_true hlt] at hd
                cases hd
              generalize cntTo (fun j => fromB nr rn X (sn j) (Y j) (C p) (Q p)) j = c at *
              by_cases h0 : 0 < c
              · have h1 : ¬ c < j := fun e => hd' ⟨h0, e⟩
                go_wp2
                go_roundw
                case rel => exact ⟨p + 1, by omega, by go_num, by rw [hl2.out]; exact hown1, hbi1⟩
                case measure => simp [intOf]; omega
              · go_wp2
                go_roundw
                case rel => exact ⟨p + 1, by omega, by go_num, by rw [hl2.out]; exact hown1, hbi1⟩
                case measure => simp [intOf]; omega
            · have hl2 : Hid ((posL (dfB ns C Q nr rn X j sn Y) (p + 1)).length = (posL (dfB ns C Q nr rn X j sn Y) p).length + 1) := by unfold Hid; rw [posL_step, hd]; simp
              have hx : Hid ((p : Int) = posX (dfB ns C Q nr rn X j sn Y) ns (posL (dfB ns C Q nr rn X j sn Y) p).length) := posX_at _ ns p hlt hd
              have hd' : 0 < cntTo (fun j => fromB nr rn X (sn j) (Y j) (C p) (Q p)) j ∧ cntTo (fun j => fromB nr rn X (sn j) (Y j) (C p) (Q p)) j < j := by
                unfold dfB someB at hd
                simp only [Bool.and_eq_true, decide_eq_true_eq] at hd
                exact hd.1
              generalize cntTo (fun j => fromB nr rn X (sn j) (Y j) (C p) (Q p)) j = c at *
              obtain ⟨h0, h1⟩ := hd'
              go_wp2_with (at_builtin; refine wpList_append_own _ rfl _ _ 40 rfl wc.heap.size 3 i0 (.int .i64 0) 1 8 Try.underlying40 hi hz0 hz1 hz2 rfl (by decide) _ _ _ rfl (World.ownsRow.alloc hown1 _) ⟨wr.heap.size, 0, none⟩ 1 1 [.int .i64 p] rfl rfl (one_cellsI _ _ _) (one_oneI _) hm1 hm2 (hm3 _) ?_; intro v2 w2 hown2 hgrow2 _)
              go_roundw
              case rel => exact ⟨p + 1, by omega, by go_num, by rw [hl2.out]; exact OwnI.snoc hown2 hx.out, (hbi1.alloc hszi2 _).grown hgrow2 (hm3 _) hag⟩
              case measure => simp [intOf]; omega
      · have hpn : p = ns := by omega
        subst hpn
        go_wp2
        go_ret
        exact ⟨_, rfl, ownI_mono hown hszc, hbw⟩
end Go.Proofs.Ytjmhdjjkfglbgab
