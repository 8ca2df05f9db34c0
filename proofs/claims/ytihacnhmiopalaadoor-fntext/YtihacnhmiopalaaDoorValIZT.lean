import Derived.Test.YtihacnhmiopalaaDoorTxIT
import Derived.Deep.RegionHeld3
import Derived.Test.YtihacnhmiopalaaDoorJoinST
import Derived.Test.YtihacnhmiopalaaDoorRmZT
import Derived.Deep.DeepCutAuto
import Derived.Deep.CutBlock
import Derived.Test.YtihacnhmiopalaaDoorEvST
namespace Go.Proofs.YtihacnhmiopalaaDoor
open Go.RowKit
set_option maxRecDepth 100000 in
set_option maxHeartbeats 1600000 in
theorem valI_zero (val : ByteArray) (ga : Option Addr) (cg : Nat) (M : Nat -> ByteArray) (L : Nat -> Int) (w : World) :
  Calls Tryd.prog 20 #[.string val, .slice ga 0 cg] w fun e w' => e = .returned (.string (valT val M L 0)) ∧ Below w.heap.size w w' := by
 have hv : Hid (valT val M L 0 = if val.toList.isEmpty then dashB else val) := by unfold Hid; rw [valT, if_pos rfl]
 cases hve : val.toList.isEmpty
 all_goals
  go_enter Tryd.func20, Tryd.ntmps20
  go_wp2
  go_ret
  exact ⟨ret_str (by rw [hv.out, hve]; rfl), Below.refl _ _⟩
set_option maxRecDepth 100000 in
set_option maxHeartbeats 1600000 in
theorem valI_pos (val : ByteArray) (b off ng cg : Nat) (M : Nat -> ByteArray) (L : Nat -> Int) (w : World) (h0 : ng ≠ 0) (hng : ng <= 50) (hb : b < w.heap.size)
    (hm : ∀ i, i < ng -> (M i).size <= 41) (l0 : ∀ i, i < ng -> -1000000 <= L i) (l1 : ∀ i, i < ng -> L i <= 1000000)
    (hcm : ∀ i, i < ng -> w.cell? ⟨b, off + i * 2, none⟩ = some (.string (M i))) (hcv : ∀ i, i < ng -> w.cell? ⟨b, off + i * 2 + 1, none⟩ = some (.int .i64 (L i))) (ht : Tab w) :
    Calls Tryd.prog 20 #[.string val, .slice (some ⟨b, off, none⟩) ng cg] w fun e w' => e = .returned (.string (valT val M L ng)) ∧ Below w.heap.size w w' := by
  obtain ⟨i0, hi, hz0, hz1, hz2⟩ := info_parts Tryd.infoString
  have hv : Hid (valT val M L ng = joinB (grT M L) ⟨#[44]⟩ ng) := by unfold Hid; rw [valT, if_neg h0]
  have hsg : ∀ i, i < ng -> (grT M L i).size <= 63 := fun i hi => grT_size (hm i hi) (l0 i hi) (l1 i hi)
  have hjs : (joinB (grT M L) ⟨#[44]⟩ ng).size <= 140737488355328 := by
    have := joinB_bound (grT M L) ⟨#[44]⟩ 63 (by decide) ng hsg
    omega
  have hd : ((ng : Int) == 0) = false := by rw [beq_eq_false_iff_ne]; omega
  go_enter Tryd.func20, Tryd.ntmps20
  go_wp2_with fail
  go_loopw [5, 21] (fun v i wr => ∃ k : Nat, k <= ng ∧ i = .int .i64 k ∧ OwnT wr w.heap.size v k (grT M L) ∧ Below w.heap.size w wr) (fun _ i _ => ng - (intOf i).toNat)
  case atStart => exact ⟨0, Nat.zero_le _, rfl, OwnT.nil _ _ _, Below.refl _ _⟩
  case round =>
    obtain ⟨k, hk, rfl, hown, hbel⟩ := hrel
    by_cases hlt : k < ng
    · have q1 : wr.cell? ⟨b, off + k * 2, none⟩ = some (.string (M k)) := (hbel.cell (by exact hb)).trans (hcm k hlt)
      have q2 : wr.cell? ⟨b, off + k * 2 + 1, none⟩ = some (.int .i64 (L k)) := (hbel.cell (by exact hb)).trans (hcv k hlt)
      have hszr := hbel.size
      have hown0 : OwnT (wr.alloc (.cells #[.string (M k), .int .i64 (L k)] 57)) w.heap.size u5 k (grT M L) := World.ownsRow.alloc hown _
      have hbel0 : Below w.heap.size w (wr.alloc (.cells #[.string (M k), .int .i64 (L k)] 57)) := hbel.alloc hszr _
      have c0 : (wr.alloc (.cells #[.string (M k), .int .i64 (L k)] 57)).cell? ⟨wr.heap.size, 0, none⟩ = some (.string (M k)) := World.cell?_alloc_at _ _ _ _ rfl
      have c1 : (wr.alloc (.cells #[.string (M k), .int .i64 (L k)] 57)).cell? ⟨wr.heap.size, 1, none⟩ = some (.int .i64 (L k)) := World.cell?_alloc_at _ _ _ _ rfl
      have hl0 : -1000000000000 <= L k := by have := l0 k hlt; omega
      have hl1 : L k <= 1000000000000 := by have := l1 k hlt; omega
      have hmk := hm k hlt
      have hts := itoaB_size hl0 hl1
      have hx1 : ¬ 9223372036854775807 < (M k).size + 1 := by omega
      have hx2 : ¬ 9223372036854775807 < (M k).size + 1 + (itoaB (L k)).size := by omega
      have hm1 : k + 1 <= maxLen := by unfold maxLen; omega
      have hm2 : (k + 1) * 16 <= 140737488355328 := by omega
      have hag : ∀ j, u5.ownBlock = some j -> w.heap.size <= j := fun j hj => (World.ownsRow.lt hown j hj).1
      have hn1 : some wr.heap.size ≠ u5.ownBlock := fun e => by have := (World.ownsRow.lt hown _ e.symm).2; omega
      clear hcm hcv hmk hts hm l0 l1 hsg hjs
      go_wp2_with fail
      go_region_held3 (fun W => W.cell? ⟨wr.heap.size, 0, none⟩ = some (.string (M k)) ∧ W.cell? ⟨wr.heap.size, 1, none⟩ = some (.int .i64 (L k)))
        (first
          | go_keep
          | (go_split_ands
             refine ⟨?_, ?_⟩
             · (rw [hb2.cell (by simp)]; assumption)
             · (rw [hb2.cell (by simp)]; assumption))
          | (go_split_ands
             refine ⟨?_, ?_⟩
             · (rw [hgrow.cell_far _ (by simp; omega) hn1]; assumption)
             · (rw [hgrow.cell_far _ (by simp; omega) hn1]; assumption)))
        (first
          | (go_at_call 18; refine (itoa_any (L k) _ hl0 hl1 (ht.below (by first | exact hbel0 | exact hbel0.drew | exact hbel0.drew.drew))).mono ?_; rintro e w2 ⟨rfl, hb2⟩; have hb3 : Below (wr.alloc (.cells #[.string (M k), .int .i64 (L k)] 57)).heap.size (wr.alloc (.cells #[.string (M k), .int .i64 (L k)] 57)) w2 := Below.trans (by first | exact Below.refl _ _ | exact (Below.refl _ _).drew | exact (Below.refl _ _).drew.drew) hb2; have hown2 := hown0.below hb3; have hbel2 := hbel0.trans (hb3.mono hbel0.size); have hsz2 : wr.heap.size + 1 <= w2.heap.size := by have := hb3.size; simpa using this)
          | (refine step_append_lies _ (by rfl) _ _ _ (by rfl) w.heap.size 9 i0 _ 1 16 Tryd.underlying23 hi hz0 hz1 hz2 rfl (by decide) u5 k (strs (grT M L) k) (by rfl) (by first | exact World.ownsRow.alloc hown2 _ | exact (World.ownsRow.alloc hown2 _).drew | exact (World.ownsRow.alloc (World.ownsRow.drew hown2) _)) ⟨w2.heap.size, 0, none⟩ 1 1 [.string (grT M L k)] (by rfl) (by rfl) (by first | exact one_cells _ _ _ | exact fun j u h => one_cells w2 _ _ j u h) (one_one _) (by decide) hm1 hm2 (by first | (simp; omega) | omega) (w2.heap.size + 1) (by simp) ?_; intro gg cap w3 hown3 hgrow hat hlt3))
      have hbel3 := (by first | exact (hbel2.alloc hbel2.size _) | exact (hbel2.alloc hbel2.size _).drew : Below w.heap.size w _).grown hgrow (by simp; omega) hag
      clear hgrow hat hbel2 hown2 hb3 hb2 q1 q2 hn1 hag hown hbel c0 c1 hown0 hbel0
      go_wp2
      go_roundw
      case rel => exact ⟨k + 1, by omega, by go_num, OwnT.snoc hown3 rfl, hbel3⟩
      case measure => simp [intOf]; omega
    · obtain ⟨va, vc, rfl, hsl⟩ := hown.sl (fun i hi => Nat.le_trans (hsg i (by omega)) (by decide))
      have hkn : ng = k := by omega
      subst hkn
      clear hown
      go_wp2_with fail
      refine (join_sl ⟨#[44]⟩ _ hjs hsl (by omega)).mono ?_
      rintro e w2 ⟨rfl, hb2⟩
      go_wp2
      go_ret
      exact ⟨ret_str hv.out.symm, hbel.trans (hb2.mono hbel.size)⟩
theorem valI_sl (val : ByteArray) {ga : Option Addr} {ng cg : Nat} {M : Nat -> ByteArray} {L : Nat -> Int} (w : World) (hng : ng <= 50)
  (hm : ∀ i, i < ng -> (M i).size <= 41) (l0 : ∀ i, i < ng -> -1000000 <= L i) (l1 : ∀ i, i < ng -> L i <= 1000000) (hg : SlG w ga ng cg M L) (ht : Tab w) :
  Calls Tryd.prog 20 #[.string val, .slice ga ng cg] w fun e w' => e = .returned (.string (valT val M L ng)) ∧ Below w.heap.size w w' := by
 by_cases h0 : ng = 0
 ·subst h0
  exact valI_zero val ga cg M L w
 ·rcases hg.cells with h | ⟨b, off, rfl, hb, hcm, hcv⟩
  ·exact absurd h h0
  ·exact valI_pos val b off ng cg M L w h0 hng hb hm l0 l1 hcm hcv ht
abbrev evC (id sd ty key val : ByteArray) (st : Bool) (tm : Int) (pa : Option Addr) (np cp : Nat) (aa : Option Addr) (na ca : Nat) (ga : Option Addr) (ng cg : Nat) : Array Value :=
 #[.string id, .string sd, .string ty, .bool st, .string key, .int .i64 tm, .slice pa np cp, .slice aa na ca, .string val, .slice ga ng cg]
section
variable (id sd ty key val : ByteArray) (st : Bool) (tm : Int) (pa : Option Addr) (np cp : Nat) (aa : Option Addr) (na ca : Nat) (ga : Option Addr) (ng cg : Nat) (Pv Av M : Nat -> ByteArray) (L : Nat -> Int) (w : World)
end
section
variable (id sd ty key val : ByteArray) (st : Bool) (tm : Int) (pa : Option Addr) (np cp : Nat) (aa : Option Addr) (na ca : Nat) (ga : Option Addr) (ng cg : Nat) (Pv Av M : Nat -> ByteArray) (L : Nat -> Int) (w : World)
def txT : ByteArray := if evCode id sd ty key val st tm np na ng Pv Av M L = 0 then evText id sd ty key val st tm np na ng Pv Av M L else ByteArray.empty
def txB : Bool := if evCode id sd ty key val st tm np na ng Pv Av M L = 0 then true else false
end
end Go.Proofs.YtihacnhmiopalaaDoor
