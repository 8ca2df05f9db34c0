import Derived.Test.YtjmhdjjkfglbgabDoorJoinS
import Derived.Test.YtjmhdjjkfglbgabDoorDecS
import Derived.Test.YtjmhdjjkfglbgabDoorOwnT
import Derived.Test.YtjmhdjjkfglbgabDoorPureA
import Derived.Deep.DeepCutAuto
import Derived.Deep.CutBlock
import Derived.Deep.RegionHeld3
namespace Go.Proofs.YtjmhdjjkfglbgabDoor
open Go.RowKit

theorem decS_B (z : Int) (w : World) (h0 : -1000000000000 ≤ z) (h1 : z ≤ 1000000000000) :
    Calls Tryd.prog 38 #[.int .i64 z] w fun e w' => e = .returned (.string (itoaB z)) ∧ Below w.heap.size w w' := decS_any z w (by omega) (by omega)

theorem refsTextS_sl {a : Option Addr} {n cap : Nat} {S : Nat → ByteArray} (w : World) (h : SlS w a n cap S) (hn : n ≤ 10) (hs : ∀ i, i < n → (S i).size ≤ 40) :
    Calls Tryd.prog 40 #[.slice a n cap] w fun e w' => e = .returned (.string (refsT S n)) ∧ w' = w := by
  by_cases h0 : n = 0
  · subst h0
    go_enter Tryd.func40, Tryd.ntmps40
    go_wp2
    go_ret
    exact ⟨rfl, rfl⟩
  · have hsz : (joinB S ⟨#[44]⟩ n).size ≤ 140737488355328 := by
      have := joinB_bound S ⟨#[44]⟩ 40 (by decide) n hs; omega
    have hd : ¬ ((n : Int) = 0) := by omega
    go_enter Tryd.func40, Tryd.ntmps40
    go_wp2_with fail
    refine (joinS_sl _ w hsz h).mono ?_
    rintro e w1 ⟨rfl, rfl⟩
    go_wp2
    go_ret
    exact ⟨ret_str (by rw [refsT, if_neg h0]), rfl⟩

/-- an event's cells. -/
abbrev evC (id sd ty key val : ByteArray) (st : Bool) (tm : Int) (pa : Option Addr) (np cp : Nat) (aa : Option Addr) (na ca : Nat) (ga : Option Addr) (ng cg : Nat) : Array Value :=
  #[.string id, .string sd, .string ty, .bool st, .string key, .int .i64 tm, .slice pa np cp, .slice aa na ca, .string val, .slice ga ng cg]

section
variable (id sd ty key val : ByteArray) (st : Bool) (tm : Int) (pa : Option Addr) (np cp : Nat) (aa : Option Addr) (na ca : Nat) (ga : Option Addr) (ng cg : Nat) (Pv Av M : Nat → ByteArray) (L : Nat → Int) (w : World)

set_option maxRecDepth 100000 in
set_option maxHeartbeats 3200000 in
theorem txtS_good (hp : SlS w pa np cp Pv) (ha : SlS w aa na ca Av) (hg : SlG w ga ng cg M L) (hB : Bds id sd ty key val tm np na ng Pv Av M L)
    (hev : Hid (∀ W, W = w.alloc (.cells (evC id sd ty key val st tm pa np cp aa na ca ga ng cg) 26) → Calls Tryd.prog 7 #[evV id sd ty key val st tm pa np cp aa na ca ga ng cg] W fun e w' => e = .returned (.int .i64 0) ∧ Below W.heap.size W w')) :
    Calls Tryd.prog 13 #[evV id sd ty key val st tm pa np cp aa na ca ga ng cg] w fun e w' =>
      e = .returned (.tuple #[.string (evText id sd ty key val st tm np na ng Pv Av M L), .bool true]) ∧ Below w.heap.size w w' := by
  obtain ⟨i0, hi, hz0, hz1, hz2⟩ := info_parts Tryd.infoString
  have hb0 : ∀ o, Below w.heap.size w (w.alloc o) := fun o => (Below.refl _ _).alloc (Nat.le_refl _) _
  go_enter Tryd.func13, Tryd.ntmps13
  go_wp2_with fail
  refine (hev.out _ rfl).mono ?_
  rintro e w1 ⟨rfl, hb1⟩
  have hB1 : Below (w.heap.size + 1) (w.alloc (.cells (evC id sd ty key val st tm pa np cp aa na ca ga ng cg) 26)) w1 := hb1.mono (by simp)
  clear hb1 hev
  have hcl := box_cells hB1
  have k3 : w1.cell? ⟨w.heap.size, 3, none⟩ = some (.bool st) := hcl 3
  have k4 : w1.cell? ⟨w.heap.size, 4, none⟩ = some (.string key) := hcl 4
  have k8 : w1.cell? ⟨w.heap.size, 8, none⟩ = some (.string val) := hcl 8
  clear hcl
  go_upto_if 13 with fail
  go_cut [4] from 9 (fun v wx => v = .string (keyT st key) ∧ wx = w1)
  case first =>
    have hx : ¬ 9223372036854775807 < 1 + key.size := by have := hB.hkey; omega
    cases st
    all_goals
      go_wp2
      go_meet
      case rel => exact ⟨rfl, rfl⟩
  case rest =>
    obtain ⟨rfl, rfl⟩ := hcut
    go_upto_block 0 with fail
    have hsz1 : w.heap.size + 1 ≤ wc.heap.size := by simpa using hB1.size
    go_cut [6, 7] from 9 (fun v _ wx => OwnT wx (w.heap.size + 1) v ng (grT M L) ∧ Below (w.heap.size + 1) (w.alloc (.cells (evC id sd ty key val st tm pa np cp aa na ca ga ng cg) 26)) wx)
    case first =>
      clear k3 k4 k8
      go_wp2_with fail
      go_loopw [6, 7] (fun v i wr => ∃ k : Nat, k ≤ ng ∧ i = .int .i64 k ∧ OwnT wr (w.heap.size + 1) v k (grT M L) ∧ Below (w.heap.size + 1) (w.alloc (.cells (evC id sd ty key val st tm pa np cp aa na ca ga ng cg) 26)) wr) (fun _ i _ => ng - (intOf i).toNat)
      case atStart => exact ⟨0, Nat.zero_le _, rfl, OwnT.new wc _ hsz1 _, hB1.alloc hsz1 _⟩
      case round =>
        clear hB1 hsz1
        obtain ⟨k, hk, rfl, hown, hbel⟩ := hrel
        have hcl := box_cells hbel
        have c9 : wr.cell? ⟨w.heap.size, 9, none⟩ = some (.slice ga ng cg) := hcl 9
        clear hcl
        by_cases hlt : k < ng
        · rcases hg.cells with h0 | ⟨b, off, rfl, hb, hcm, hcv⟩
          · omega
          have q1 : wr.cell? ⟨b, off + k * 2, none⟩ = some (.string (M k)) := (hbel.cell (by show b < _; omega)).trans ((World.cell?_alloc_past _ _ _ hb).trans (hcm k hlt))
          have q2 : wr.cell? ⟨b, off + k * 2 + 1, none⟩ = some (.int .i64 (L k)) := (hbel.cell (by show b < _; omega)).trans ((World.cell?_alloc_past _ _ _ hb).trans (hcv k hlt))
          have hszr : w.heap.size + 1 ≤ wr.heap.size := by simpa using hbel.size
          have hl0 : -1000000000000 ≤ L k := by have := hB.l0 k hlt; omega
          have hl1 : L k ≤ 1000000000000 := by have := hB.l1 k hlt; omega
          have hm := hB.m k hlt
          have hts := itoaB_size hl0 hl1
          have hx1 : ¬ 9223372036854775807 < (M k).size + 1 := by omega
          have hx2 : ¬ 9223372036854775807 < (M k).size + 1 + (itoaB (L k)).size := by omega
          have hng := hB.hng
          have hm1 : k + 1 ≤ maxLen := by unfold maxLen; omega
          have hm2 : (k + 1) * 16 ≤ 140737488355328 := by omega
          have hag : ∀ j, u6.ownBlock = some j → w.heap.size + 1 ≤ j := fun j hj => (World.ownsRow.lt hown j hj).1
          have hn1 : some w.heap.size ≠ u6.ownBlock := fun e => by have := hag _ e.symm; omega
          have hn2 : some b ≠ u6.ownBlock := fun e => by have := hag _ e.symm; omega
          clear hcm hcv hm hts hng
          go_wp2_with fail
          go_region_held3 (fun W => W.cell? ⟨w.heap.size, 9, none⟩ = some (.slice (some ⟨b, off, none⟩) ng cg) ∧ W.cell? ⟨b, off + k * 2, none⟩ = some (.string (M k)) ∧ W.cell? ⟨b, off + k * 2 + 1, none⟩ = some (.int .i64 (L k)))
            (first
              | go_keep
              | (go_split_ands
                 refine ⟨?_, ?_, ?_⟩
                 · (rw [hb2.cell (by simp; omega)]; assumption)
                 · (rw [hb2.cell (by simp; omega)]; assumption)
                 · (rw [hb2.cell (by simp; omega)]; assumption))
              | (go_split_ands
                 refine ⟨?_, ?_, ?_⟩
                 · (rw [hgrow.cell_far _ (by simp; omega) hn1]; assumption)
                 · (rw [hgrow.cell_far _ (by simp; omega) hn2]; assumption)
                 · (rw [hgrow.cell_far _ (by simp; omega) hn2]; assumption)))
            (first
              | (go_at_call 38; go_fit (decS_B (L k) _ hl0 hl1); rintro e w2 ⟨rfl, hb2⟩; have hb3 : Below wr.heap.size wr w2 := Below.trans (by first | exact Below.refl _ _ | exact (Below.refl _ _).drew | exact (Below.refl _ _).drew.drew) hb2; have hown2 := hown.below hb3; have hbel2 := hbel.trans (hb3.mono hszr); have hsz2 : w.heap.size + 1 ≤ w2.heap.size := Nat.le_trans hszr hb3.size)
              | (refine step_append_lies _ (by rfl) _ _ _ (by rfl) (w.heap.size + 1) 9 i0 _ 1 16 Tryd.underlying23 hi hz0 hz1 hz2 rfl (by decide) u6 k (strs (grT M L) k) (by rfl) (by first | exact World.ownsRow.alloc hown2 _ | exact (World.ownsRow.alloc hown2 _).drew | exact (World.ownsRow.alloc (World.ownsRow.drew hown2) _)) ⟨w2.heap.size, 0, none⟩ 1 1 [.string (grT M L k)] (by rfl) (by rfl) (by first | exact one_cells _ _ _ | exact fun j u h => one_cells w2 _ _ j u h) (one_one _) (by decide) hm1 hm2 (by first | (simp; omega) | omega) (w2.heap.size + 1) (by simp) ?_; intro gg cap w3 hown3 hgrow hat hlt3))
          have hbel3 := (by first | exact (hbel2.alloc hsz2 _) | exact (hbel2.alloc hsz2 _).drew : Below (w.heap.size + 1) (w.alloc (.cells (evC id sd ty key val st tm (pa) np cp aa na ca (some ⟨b, off, none⟩) ng cg) 26)) _).grown hgrow (by simp; omega) hag
          clear hgrow hat hbel2 hown2 hb3 hb2 q1 q2 c9 hn1 hn2 hag hown hbel
          go_wp2
          go_roundw
          case rel => exact ⟨k + 1, by omega, by go_num, OwnT.snoc hown3 rfl, hbel3⟩
          case measure => simp [intOf]; omega
        · go_wp2
          go_meet
          case rel => exact ⟨by rw [show ng = k by omega]; exact hown, hbel⟩
    case rest =>
      clear hB1 hsz1 k3 k4 k8
      obtain ⟨hown, hbel⟩ := hcut
      have hsg : ∀ i, i < ng → (grT M L i).size ≤ maxLen := fun i hi => by have := hB.gr i hi; unfold maxLen; omega
      obtain ⟨va, vc, rfl, hsl⟩ := hown.sl hsg
      clear hown
      go_upto_if 47 with fail
      go_cut [5] from 9 (fun v wx => v = .string (valT val M L ng) ∧ wx = wc)
      case first =>
        have hjs : (joinB (grT M L) ⟨#[44]⟩ ng).size ≤ 140737488355328 := by
          have := joinB_bound (grT M L) ⟨#[44]⟩ 63 (by decide) ng hB.gr
          have := hB.hng
          omega
        by_cases h0 : ng = 0
        · have hv : Hid (valT val M L ng = if val.toList.isEmpty then dashB else val) := by unfold Hid; rw [valT, if_pos h0]
          have h0' : ¬ 0 < ng := by omega
          cases hve : val.toList.isEmpty
          all_goals
            go_wp2
            go_meet
            case rel => exact ⟨by rw [hv.out, hve]; rfl, rfl⟩
        · have hv : Hid (valT val M L ng = joinB (grT M L) ⟨#[44]⟩ ng) := by unfold Hid; rw [valT, if_neg h0]
          have h0' : 0 < ng := by omega
          go_wp2_with fail
          refine (joinS_sl _ _ hjs hsl).mono ?_
          rintro e w2 ⟨rfl, rfl⟩
          go_wp2
          go_meet
          case rel => exact ⟨by rw [hv.out], rfl⟩
      case rest =>
        obtain ⟨rfl, rfl⟩ := hcut
        have hcl := box_cells hbel
        have c0 : wc.cell? ⟨w.heap.size, 0, none⟩ = some (.string id) := hcl 0
        have c1 : wc.cell? ⟨w.heap.size, 1, none⟩ = some (.string sd) := hcl 1
        have c2 : wc.cell? ⟨w.heap.size, 2, none⟩ = some (.string ty) := hcl 2
        have c5 : wc.cell? ⟨w.heap.size, 5, none⟩ = some (.int .i64 tm) := hcl 5
        have c6 : wc.cell? ⟨w.heap.size, 6, none⟩ = some (.slice pa np cp) := hcl 6
        have c7 : wc.cell? ⟨w.heap.size, 7, none⟩ = some (.slice aa na ca) := hcl 7
        clear hcl hsl hsg
        have hszc : w.heap.size + 1 ≤ wc.heap.size := by simpa using hbel.size
        have hb4 : Below w.heap.size w wc := (hb0 _).trans (hbel.mono (Nat.le_succ _))
        go_wp2_with fail
        go_region_held3 (fun W => W.cell? ⟨w.heap.size, 0, none⟩ = some (.string id) ∧ W.cell? ⟨w.heap.size, 1, none⟩ = some (.string sd) ∧ W.cell? ⟨w.heap.size, 2, none⟩ = some (.string ty) ∧ W.cell? ⟨w.heap.size, 5, none⟩ = some (.int .i64 tm) ∧ W.cell? ⟨w.heap.size, 6, none⟩ = some (.slice pa np cp) ∧ W.cell? ⟨w.heap.size, 7, none⟩ = some (.slice aa na ca))
          (first
            | go_keep
            | (go_split_ands
               refine ⟨?_, ?_, ?_, ?_, ?_, ?_⟩
               · (rw [hb2.cell (by simp; omega)]; assumption)
               · (rw [hb2.cell (by simp; omega)]; assumption)
               · (rw [hb2.cell (by simp; omega)]; assumption)
               · (rw [hb2.cell (by simp; omega)]; assumption)
               · (rw [hb2.cell (by simp; omega)]; assumption)
               · (rw [hb2.cell (by simp; omega)]; assumption)))
          (first
            | (go_at_call 38; go_fit (decS_B tm _ (by have := hB.t0; omega) hB.t1); rintro e w2 ⟨rfl, hb2⟩; have hb3 : Below wc.heap.size wc w2 := Below.trans (by first | exact Below.refl _ _ | exact (Below.refl _ _).drew | exact (Below.refl _ _).drew.drew) hb2; have hbel2 := hbel.trans (hb3.mono hszc); have hsz2 : w.heap.size + 1 ≤ w2.heap.size := Nat.le_trans hszc hb3.size; have hbw := hb4.trans (hb3.mono hb4.size))
            | (go_at_call 40; refine (refsTextS_sl _ (hp.below (by first | exact hbw | exact hbw.drew | exact hbw.drew.drew)) hB.hnp hB.p).mono ?_; rintro e w' ⟨rfl, rfl⟩)
            | (go_at_call 40; refine (refsTextS_sl _ (ha.below (by first | exact hbw | exact hbw.drew | exact hbw.drew.drew)) hB.hna hB.a).mono ?_; rintro e w' ⟨rfl, rfl⟩))
        go_wp2_with fail
        refine (joinS_sl ⟨#[32]⟩ _ hB.text (eight_sl _ _ _ _ _ _ _ _ _ _ (fun i => hB.eight i))).mono ?_
        rintro e w5 ⟨rfl, rfl⟩
        go_wp2
        go_ret2
        exact ⟨rfl, hbw.alloc hbw.size _⟩
end
end Go.Proofs.YtjmhdjjkfglbgabDoor
