import Derived.Test.YtjmhdjjkfglbgabCdP
import Derived.Test.YtjmhdjjkfglbgabOwnI
import Derived.Deep.RegionWith
namespace Go.Proofs.Ytjmhdjjkfglbgab
open Go.RowKit

theorem fromS_zero (v : Value) (a : Option Addr) (cap : Nat) (p : Int) (w : World) (sa : Option Addr) (ns cs : Nat) (ra : Option Addr) (nr cr : Nat) (hv : v = .agg #[.slice sa ns cs, .slice ra nr cr]) :
    Calls Try.prog 38 #[v, .slice a 0 cap, .int .i64 p] w fun e w' => e = .returned (.bool false) ∧ Below w.heap.size w w' := by
  subst hv
  go_enter Try.func38, Try.ntmps38
  go_wp2
  refine wp_loop_rounds 1 ?_
  rw [rounds_succ]
  go_wp2
  go_ret
  exact ⟨rfl, (Below.refl _ _).alloc (Nat.le_refl _) _⟩

set_option maxHeartbeats 2000000 in
theorem fromS_any {sa : Option Addr} {ns cs : Nat} {ra : Option Addr} {nr cr : Nat} {C Q : Nat → Int} {rn : Nat → Nat} {X : Nat → Nat → Int} (b off m cap : Nat) (Y : Nat → Int) (p : Nat) (w : World) (hm : m ≤ maxLen) (hb : b < w.heap.size)
    (hp : SlP w sa ns cs C Q) (hl : SlL w ra nr cr rn X) (hc : ∀ i, i < m → w.cell? ⟨b, off + i, none⟩ = some (.int .i64 (Y i))) :
    Calls Try.prog 38 #[.agg #[.slice sa ns cs, .slice ra nr cr], .slice (some ⟨b, off, none⟩) m cap, .int .i64 p] w fun e w' =>
      e = .returned (.bool (anyTo (fun i => reachB ns C Q nr rn X (Y i) p) m)) ∧ Below w.heap.size w w' := by
  unfold maxLen at hm
  have hb0 : ∀ o, Below w.heap.size w (w.alloc o) := fun o => (Below.refl _ _).alloc (Nat.le_refl _) _
  go_enter Try.func38, Try.ntmps38
  go_wp2
  go_loopw [7] (fun i wr => ∃ k : Nat, k ≤ m ∧ i = .int .i64 k ∧ Hid (anyTo (fun i => reachB ns C Q nr rn X (Y i) p) k = false) ∧ Below (w.heap.size + 1) (w.alloc (.cells #[.slice sa ns cs, .slice ra nr cr] 44)) wr) (fun i _ => m - (intOf i).toNat)
  case atStart => exact ⟨0, Nat.zero_le _, rfl, rfl, Below.refl _ _⟩
  case round =>
    obtain ⟨k, hk, rfl, hno, hbel⟩ := hrel
    have hbw := (hb0 _).trans (hbel.mono (Nat.le_succ _))
    by_cases hlt : k < m
    · have hck : wr.cell? ⟨b, off + k, none⟩ = some (.int .i64 (Y k)) := (hbw.cell (by exact hb)).trans (hc k hlt)
      have hbx := box_cells hbel
      have hszr : w.heap.size + 1 ≤ wr.heap.size := by simpa using hbel.size
      go_wp2_with fail
      go_region_with (go_at_call 53; refine (rchS_any _ _ _ _ _ _ C Q rn X (Y k) p _ (hp.below (by first | exact hbw | exact (hbw).drew | exact (hbw).drew.drew | exact (hbw).drew.drew.drew)) (hl.below (by first | exact hbw | exact (hbw).drew | exact (hbw).drew.drew | exact (hbw).drew.drew.drew))).mono ?_; rintro e w1 ⟨rfl, hb1⟩)
      all_goals
        have hb1' : Below wr.heap.size wr w1 := Below.trans (by first | exact Below.refl _ _ | exact (Below.refl _ _).drew | exact (Below.refl _ _).drew.drew | exact (Below.refl _ _).drew.drew.drew) hb1
        cases hr : reachB ns C Q nr rn X (Y k) p
        · have hno2 : Hid (anyTo (fun i => reachB ns C Q nr rn X (Y i) p) (k + 1) = false) := by unfold Hid anyTo; rw [hno.out, hr]; rfl
          go_wp2
          go_roundw
          case rel => exact ⟨k + 1, by omega, by go_num, hno2, hbel.trans (hb1'.mono hszr)⟩
          case measure => simp [intOf]; omega
        · have hv : Hid (true = anyTo (fun i => reachB ns C Q nr rn X (Y i) p) m) := (anyTo_hit (fun i => reachB ns C Q nr rn X (Y i) p) m k hlt hr).symm
          go_wp2
          go_ret
          exact ⟨ret_bool hv.out, hbw.trans (hb1'.mono hbw.size)⟩
    · go_wp2
      go_ret
      exact ⟨ret_bool (by rw [show m = k by omega, hno.out]), hbw⟩

theorem fromS_sl {sa : Option Addr} {ns cs : Nat} {ra : Option Addr} {nr cr : Nat} {C Q : Nat → Int} {rn : Nat → Nat} {X : Nat → Nat → Int} {a : Option Addr} {m cap : Nat} {Y : Nat → Int} (p : Nat) (w : World) (hp0 : p < ns)
    (hp : SlP w sa ns cs C Q) (hl : SlL w ra nr cr rn X) (hs : SlI w a m cap Y) :
    Calls Try.prog 38 #[.agg #[.slice sa ns cs, .slice ra nr cr], .slice a m cap, .int .i64 p] w fun e w' => e = .returned (.bool (fromB nr rn X m Y (C p) (Q p))) ∧ Below w.heap.size w w' := by
  rw [← from_reach hp0]
  rcases hs.cells with rfl | ⟨b, off, rfl, hb, hc⟩
  · exact fromS_zero _ a cap p w sa ns cs ra nr cr rfl
  · exact fromS_any b off m cap Y p w (Nat.le_trans hs.le hs.max) hb hp hl hc

theorem ownI_mono {w : World} {base base' n : Nat} {v : Value} {X : Nat → Int} (h : OwnI w base v n X) (hb : base' ≤ base) : OwnI w base' v n X :=
  ⟨h.1, h.2.imp id fun ⟨g, cap, cur, h1, h2, h3⟩ => ⟨g, cap, cur, h1, Nat.le_trans hb h2, h3⟩⟩
/-- the positions below ns with D, in memory of the call's own. -/
def CdPost (w : World) (D : Nat → Bool) (ns : Nat) (e : Ending) (w' : World) : Prop := ∃ v, e = .returned v ∧ OwnI w' w.heap.size v (posL D ns).length (posX D ns) ∧ Below w.heap.size w w'

set_option maxHeartbeats 4000000 in
theorem cdS_any {sa : Option Addr} {ns cs : Nat} {ra : Option Addr} {nr cr : Nat} {C Q : Nat → Int} {rn : Nat → Nat} {X : Nat → Nat → Int} {a : Option Addr} {m cap : Nat} {sn : Nat → Nat} {Y : Nat → Nat → Int} (w : World) (hns : ns ≤ 1048576)
    (hp : SlP w sa ns cs C Q) (hl : SlL w ra nr cr rn X) (hs : SlL w a m cap sn Y) :
    Calls Try.prog 12 #[.agg #[.slice sa ns cs, .slice ra nr cr], .slice a m cap] w (CdPost w (dfB ns C Q nr rn X m sn Y) ns) := by
  obtain ⟨i0, hi, hz0, hz1, hz2⟩ := info_parts Try.infoIntO
  have hm := Nat.le_trans hs.le hs.max
  unfold maxLen at hm
  have hb0 : ∀ o, Below w.heap.size w (w.alloc o) := fun o => (Below.refl _ _).alloc (Nat.le_refl _) _
  go_enter Try.func12, Try.ntmps12
  go_wp2
  go_loopw [5, 6] (fun v i wr => ∃ p : Nat, p ≤ ns ∧ i = .int .i64 p ∧ OwnI wr (w.heap.size + 1) v (posL (dfB ns C Q nr rn X m sn Y) p).length (posX (dfB ns C Q nr rn X m sn Y) ns) ∧ Below (w.heap.size + 1) (w.alloc (.cells #[.slice sa ns cs, .slice ra nr cr] 44)) wr) (fun _ i _ => ns - (intOf i).toNat)
  case atStart => exact ⟨0, Nat.zero_le _, rfl, by have := OwnI.new (w.alloc (.cells #[.slice sa ns cs, .slice ra nr cr] 44)) (w.heap.size + 1) (by simp) (posX (dfB ns C Q nr rn X m sn Y) ns); simp only [World.size_alloc] at this; exact this, (Below.refl _ _).alloc (by simp) _⟩
  case round =>
    obtain ⟨p, hpn, rfl, hown, hbel⟩ := hrel
    have hbx := box_cells hbel
    have hbw := (hb0 _).trans (hbel.mono (Nat.le_succ _))
    have hszr : w.heap.size + 1 ≤ wr.heap.size := by simpa using hbel.size
    by_cases hlt : p < ns
    · have hlen := posL_len (dfB ns C Q nr rn X m sn Y) p
      have hag : ∀ q, u5.ownBlock = some q → w.heap.size + 1 ≤ q := fun q hq => (World.ownsRow.lt hown q hq).1
      go_wp2_with fail
      go_loopw [7, 8] (fun c i wi => ∃ j : Nat, j ≤ m ∧ i = .int .i64 j ∧ c = .int .i64 (cntTo (fun j => fromB nr rn X (sn j) (Y j) (C p) (Q p)) j : Nat) ∧ Below wr.heap.size wr wi) (fun _ i _ => m - (intOf i).toNat)
      case atStart => exact ⟨0, Nat.zero_le _, rfl, rfl, Below.refl _ _⟩
      case round =>
        obtain ⟨j, hj, rfl, rfl, hbi⟩ := hrel
        have hbi0 := hbw.trans (hbi.mono hbw.size)
        have hbi1 := hbel.trans (hbi.mono hszr)
        have hbx1 := box_cells hbi1
        have hcl := cntTo_le (fun j => fromB nr rn X (sn j) (Y j) (C p) (Q p)) j
        clear hbx
        by_cases hjm : j < m
        · obtain ⟨bs, os, rfl, hbs, hrow⟩ := (hs.below hbi0).at (j := j) hjm
          obtain ⟨rs, rc, hck, hsl⟩ := hrow
          have hp1 := hp.below hbi0
          have hl1 := hl.below hbi0
          go_wp2_with fail
          go_region_with (go_at_call 38; refine (fromS_sl (C := C) (Q := Q) (Y := Y j) p _ hlt (hp1.below (by first | exact Below.refl _ _ | exact (Below.refl _ _).drew | exact (Below.refl _ _).drew.drew | exact (Below.refl _ _).drew.drew.drew)) (hl1.below (by first | exact Below.refl _ _ | exact (Below.refl _ _).drew | exact (Below.refl _ _).drew.drew | exact (Below.refl _ _).drew.drew.drew)) (hsl.below (by first | exact Below.refl _ _ | exact (Below.refl _ _).drew | exact (Below.refl _ _).drew.drew | exact (Below.refl _ _).drew.drew.drew))).mono ?_; rintro e w1 ⟨rfl, hb1⟩)
          all_goals
            have hb1' := hbi.trans (Below.mono (Below.trans (by first | exact Below.refl _ _ | exact (Below.refl _ _).drew | exact (Below.refl _ _).drew.drew | exact (Below.refl _ _).drew.drew.drew) hb1) hbi.size)
            cases hf : fromB nr rn X (sn j) (Y j) (C p) (Q p)
            · have hc2 : Hid (cntTo (fun j => fromB nr rn X (sn j) (Y j) (C p) (Q p)) (j + 1) = cntTo (fun j => fromB nr rn X (sn j) (Y j) (C p) (Q p)) j) := by
                unfold Hid; conv => lhs; unfold cntTo
                simp [hf]
              go_wp2
              go_roundw
              case rel => exact ⟨j + 1, by omega, by go_num, by rw [hc2.out], hb1'⟩
              case measure => simp [intOf]; omega
            · have hc2 : Hid (cntTo (fun j => fromB nr rn X (sn j) (Y j) (C p) (Q p)) (j + 1) = cntTo (fun j => fromB nr rn X (sn j) (Y j) (C p) (Q p)) j + 1) := by
                unfold Hid; conv => lhs; unfold cntTo
                simp [hf]
              go_wp2
              go_roundw
              case rel => exact ⟨j + 1, by omega, by go_num, by rw [hc2.out]; go_num, hb1'⟩
              case measure => simp [intOf]; omega
        · have hjm2 : j = m := by omega
          subst hjm2
          have hown1 := hown.below hbi
          have hm1 : (posL (dfB ns C Q nr rn X j sn Y) p).length + 1 ≤ maxLen := by unfold maxLen; omega
          have hm2 : ((posL (dfB ns C Q nr rn X j sn Y) p).length + 1) * 8 ≤ 140737488355328 := by omega
          have hszi : w.heap.size + 1 ≤ wr.heap.size := Nat.le_trans hszr hbi.size
          have hm3 : ∀ o, w.heap.size + 1 ≤ (wr.alloc o).heap.size := fun o => by simp; omega
          cases hd : dfB ns C Q nr rn X j sn Y p
          · have hl2 : Hid (posL (dfB ns C Q nr rn X j sn Y) (p + 1) = posL (dfB ns C Q nr rn X j sn Y) p) := by unfold Hid; rw [posL_step, hd]; rfl
            have hd' : ¬ (0 < cntTo (fun j => fromB nr rn X (sn j) (Y j) (C p) (Q p)) j ∧ cntTo (fun j => fromB nr rn X (sn j) (Y j) (C p) (Q p)) j < j) := fun e => by
              unfold dfB someB at hd
              rw [decide_eq_true e.1, decide_eq_true e.2, decide_eq_true hlt] at hd
              cases hd
            generalize cntTo (fun j => fromB nr rn X (sn j) (Y j) (C p) (Q p)) j = c at *
            by_cases h0 : 0 < c
            · have h1 : ¬ c < j := fun e => hd' ⟨h0, e⟩
              go_wp2
              go_roundw
              case rel => exact ⟨p + 1, by omega, by go_num, by rw [hl2.out]; exact hown1, hbi1⟩
              case measure => simp [intOf]; omega
            · go_wp2
              go_roundw
              case rel => exact ⟨p + 1, by omega, by go_num, by rw [hl2.out]; exact hown1, hbi1⟩
              case measure => simp [intOf]; omega
          · have hl2 : Hid ((posL (dfB ns C Q nr rn X j sn Y) (p + 1)).length = (posL (dfB ns C Q nr rn X j sn Y) p).length + 1) := by unfold Hid; rw [posL_step, hd]; simp
            have hx : Hid ((p : Int) = posX (dfB ns C Q nr rn X j sn Y) ns (posL (dfB ns C Q nr rn X j sn Y) p).length) := posX_at _ ns p hlt hd
            have hd' : 0 < cntTo (fun j => fromB nr rn X (sn j) (Y j) (C p) (Q p)) j ∧ cntTo (fun j => fromB nr rn X (sn j) (Y j) (C p) (Q p)) j < j := by
              unfold dfB someB at hd
              simp only [Bool.and_eq_true, decide_eq_true_eq] at hd
              exact hd.1
            generalize cntTo (fun j => fromB nr rn X (sn j) (Y j) (C p) (Q p)) j = c at *
            obtain ⟨h0, h1⟩ := hd'
            go_wp2_with (at_builtin; refine wpList_append_own _ rfl _ _ 40 rfl (w.heap.size + 1) 3 i0 (.int .i64 0) 1 8 Try.underlying40 hi hz0 hz1 hz2 rfl (by decide) _ _ _ rfl (World.ownsRow.alloc hown1 _) ⟨wr.heap.size, 0, none⟩ 1 1 [.int .i64 p] rfl rfl (one_cellsI _ _ _) (one_oneI _) hm1 hm2 (hm3 _) ?_; intro v2 w2 hown2 hgrow2 _)
            go_roundw
            case rel => exact ⟨p + 1, by omega, by go_num, by rw [hl2.out]; exact OwnI.snoc hown2 hx.out, (hbi1.alloc hszi _).grown hgrow2 (hm3 _) hag⟩
            case measure => simp [intOf]; omega
    · have hpn : p = ns := by omega
      subst hpn
      go_wp2
      go_ret
      exact ⟨_, rfl, ownI_mono hown (Nat.le_succ _), hbw⟩
end Go.Proofs.Ytjmhdjjkfglbgab
