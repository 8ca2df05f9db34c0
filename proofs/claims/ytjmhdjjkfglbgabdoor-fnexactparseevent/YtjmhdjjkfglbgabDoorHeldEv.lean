import Derived.Test.YtjmhdjjkfglbgabDoorMkEv
namespace Go.Proofs.YtjmhdjjkfglbgabDoor
open Go.RowKit

section
variable (id sd ty key val : ByteArray) (st : Bool) (tm : Int) (pa : Option Addr) (np cp : Nat) (aa : Option Addr) (na ca : Nat) (ga : Option Addr) (ng cg : Nat) (w : World)

set_option maxRecDepth 100000 in
set_option maxHeartbeats 400000 in
theorem heldEv_any (k0 : Nat) (s1 : SlS w pa np cp (fun i => mkT (k0 + i))) (s2 : SlS w aa na ca (fun i => mkT (k0 + np + i))) (s3 : SlG w ga ng cg (mgM (k0 + np + na)) (mgL (k0 + np + na))) (hnp : np ≤ 100000000) (hna : na ≤ 100000000) (hng : ng ≤ 100000000) (hk : k0 ≤ 100000000) :
    Calls Tryd.prog 18 #[evV id sd ty key val st tm pa np cp aa na ca ga ng cg, .int .i64 (k0 : Int)] w fun e w' => e = .returned (.int .i64 ((k0 + np + na + ng * 2 : Nat) : Int)) ∧ Below w.heap.size w w' := by
  have hb0 : Below w.heap.size w (w.alloc (.cells (evC id sd ty key val st tm pa np cp aa na ca ga ng cg) 26)) := (Below.refl _ _).alloc (Nat.le_refl _) _
  go_enter Tryd.func18, Tryd.ntmps18
  go_wp2_with fail
  refine (heldS_sl (k0 := k0) _ (show np ≤ 1000000000 by omega) (show k0 ≤ 1000000000 by omega) (s1.below hb0)).mono ?_
  rintro e w1 ⟨rfl, b1⟩
  have hbx := box_cells (b1.mono (B' := w.heap.size + 1) (by simp))
  have hB1 := hb0.trans (b1.mono hb0.size)
  have e7 : w1.cell? ⟨w.heap.size, 7, none⟩ = some (.slice aa na ca) := hbx 7
  have n1 : ¬ ((k0 : Int) + (np : Int) < 0) := by omega
  go_wp2_with fail
  refine (heldS_sl (k0 := k0 + np) _ (show na ≤ 1000000000 by omega) (show k0 + np ≤ 1000000000 by omega) (s2.below hB1)).mono ?_
  rintro e w2 ⟨rfl, b2⟩
  have hB2 := hB1.trans (b2.mono hB1.size)
  have hsz1 : w.heap.size < w1.heap.size := by have := b1.size; simp at this; omega
  have e9 : w2.cell? ⟨w.heap.size, 9, none⟩ = some (.slice ga ng cg) := (b2.cell (by exact hsz1)).trans (hbx 9)
  have n2 : ¬ ((k0 : Int) + (np : Int) + (na : Int) < 0) := by omega
  clear e7 hbx
  go_wp2_with fail
  refine (heldG_sl (k0 := k0 + np + na) _ (show ng ≤ 1000000000 by omega) (show k0 + np + na ≤ 1000000000 by omega) (s3.below hB2)).mono ?_
  rintro e w3 ⟨rfl, b3⟩
  have hB3 := hB2.trans (b3.mono hB2.size)
  have n3 : ¬ ((k0 : Int) + (np : Int) + (na : Int) + (ng : Int) * 2 < 0) := by omega
  clear e9 s1 s2 s3 b1 b2 b3
  go_wp2
  go_ret
  exact ⟨rfl, hB3⟩
end
end Go.Proofs.YtjmhdjjkfglbgabDoor
