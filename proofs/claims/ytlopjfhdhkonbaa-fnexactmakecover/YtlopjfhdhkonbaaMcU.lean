/-
  impl.MakeCover: from the ends to the spots.
-/
import Derived.Test.YtlopjfhdhkonbaaMcT
namespace Go.Proofs.Ytlopjfhdhkonbaa
open Go.RowKit

/-- what is known behind the ends, in world w6; w4's size is the spot's box. -/
structure TL (w2 w4 w6 : World) (sa : Option Addr) (scap k : Nat) (ra8 : Option Addr) (rc8 eg ec ch : Nat) (spk : Sp) (G : Nat → Nat) (f : Nat → Sp) (rn : Nat → Nat) (X : Nat → Nat → Int) (T : Nat → Lr) : Prop where
  e0 : ∃ v, w6.cell? ⟨eg, spk.c, none⟩ = some v
  e1 : w6.frozen? ⟨eg, spk.c, none⟩ = false
  p0 : w6.cell? ⟨w4.heap.size, 0, none⟩ = some (.int .i64 ((spk.c : Nat) : Int))
  p1 : w6.cell? ⟨w4.heap.size, 1, none⟩ = some (.int .i64 ((spk.q : Nat) : Int))
  y0 : (w6.setCell ⟨eg, spk.c, none⟩ (.int .i64 ((spk.q : Nat) : Int))).cell? ⟨w2.heap.size, 0, none⟩ = some (.slice sa k scap)
  y1 : (w6.setCell ⟨eg, spk.c, none⟩ (.int .i64 ((spk.q : Nat) : Int))).cell? ⟨w4.heap.size, 0, none⟩ = some (.int .i64 ((spk.c : Nat) : Int))
  y2 : (w6.setCell ⟨eg, spk.c, none⟩ (.int .i64 ((spk.q : Nat) : Int))).cell? ⟨w4.heap.size, 1, none⟩ = some (.int .i64 ((spk.q : Nat) : Int))
  own : (w6.setCell ⟨eg, spk.c, none⟩ (.int .i64 ((spk.q : Nat) : Int))).ownsRow (w2.heap.size + 1) 44 2 (.slice sa k scap) k (encS f k)
  gc : ∀ (j : Nat) (u : Value), (spV spk)[j]? = some u → ((w6.setCell ⟨eg, spk.c, none⟩ (.int .i64 ((spk.q : Nat) : Int))).alloc (.cells #[.int .i64 ((spk.c : Nat) : Int), .int .i64 ((spk.q : Nat) : Int)] 44)).cell? ((⟨w6.heap.size, 0, none⟩ : Addr).add j) = some u
  m0 : w2.heap.size + 1 ≤ ((w6.setCell ⟨eg, spk.c, none⟩ (.int .i64 ((spk.q : Nat) : Int))).alloc (.cells #[.int .i64 ((spk.c : Nat) : Int), .int .i64 ((spk.q : Nat) : Int)] 44)).heap.size
  W8 : Hid (∀ (wx : World) (gg cc : Nat), wx.ownsRow (w2.heap.size + 1) 44 2 (.slice (some ⟨gg, 0, none⟩) (k + 1) cc) (k + 1) (encS f k ++ spV spk) → ((w6.setCell ⟨eg, spk.c, none⟩ (.int .i64 ((spk.q : Nat) : Int))).alloc (.cells #[.int .i64 ((spk.c : Nat) : Int), .int .i64 ((spk.q : Nat) : Int)] 44)).grownBy wx (Value.slice sa k scap).ownBlock → ((Value.slice sa k scap).ownBlock = some gg ∨ gg = w6.heap.size + 1) → (wx.cell? ⟨w2.heap.size, 0, none⟩ = some (.slice sa k scap) ∧ wx.frozen? ⟨w2.heap.size, 0, none⟩ = false) ∧ St w2 (wx.setCell ⟨w2.heap.size, 0, none⟩ (.slice (some ⟨gg, 0, none⟩) (k + 1) cc)) (.slice (some ⟨gg, 0, none⟩) (k + 1) cc) (k + 1) (.slice ra8 k rc8) k (.slice (some ⟨eg, 0, none⟩) ch ec) ch G f rn X T ∧ ((wx.setCell ⟨w2.heap.size, 0, none⟩ (.slice (some ⟨gg, 0, none⟩) (k + 1) cc)).cell? ⟨w4.heap.size, 0, none⟩ = some (.int .i64 ((spk.c : Nat) : Int)) ∧ (wx.setCell ⟨w2.heap.size, 0, none⟩ (.slice (some ⟨gg, 0, none⟩) (k + 1) cc)).cell? ⟨w4.heap.size, 1, none⟩ = some (.int .i64 ((spk.q : Nat) : Int))) ∧ w4.heap.size < (wx.setCell ⟨w2.heap.size, 0, none⟩ (.slice (some ⟨gg, 0, none⟩) (k + 1) cc)).heap.size)

theorem tl_of {w2 w4 w6 : World} {sa : Option Addr} {scap k : Nat} {ra8 : Option Addr} {rc8 eg ec ch : Nat} {spk : Sp} {F G : Nat → Nat} {f : Nat → Sp} {rn : Nat → Nat} {X : Nat → Nat → Int} {T : Nat → Lr} (H6 : St w2 w6 (.slice sa k scap) k (.slice ra8 k rc8) k (.slice (some ⟨eg, 0, none⟩) ch ec) ch F f rn X T) (hf : f k = spk) (hsc : spk.c < ch) (hG : ∀ i, i < ch → G i = if i = spk.c then spk.q else F i)
    (p60 : w6.cell? ⟨w4.heap.size, 0, none⟩ = some (.int .i64 ((spk.c : Nat) : Int))) (p61 : w6.cell? ⟨w4.heap.size, 1, none⟩ = some (.int .i64 ((spk.q : Nat) : Int))) (hPe : w4.heap.size ≠ eg) (hP6 : w4.heap.size < w6.heap.size) (hSg : ∀ g, (Value.slice sa k scap).ownBlock = some g → g < w4.heap.size) (h24 : w2.heap.size < w4.heap.size) : TL w2 w4 w6 sa scap k ra8 rc8 eg ec ch spk G f rn X T := by
  obtain ⟨e60, e61⟩ := H6.cellE hsc
  have H7 : St w2 (w6.setCell ⟨eg, spk.c, none⟩ (.int .i64 ((spk.q : Nat) : Int))) (.slice sa k scap) k (.slice ra8 k rc8) k (.slice (some ⟨eg, 0, none⟩) ch ec) ch G f rn X T := H6.putE hG
  have p70 : (w6.setCell ⟨eg, spk.c, none⟩ (.int .i64 ((spk.q : Nat) : Int))).cell? ⟨w4.heap.size, 0, none⟩ = some (.int .i64 ((spk.c : Nat) : Int)) := by rw [far_block (fun e => hPe e.symm)]; exact p60
  have p71 : (w6.setCell ⟨eg, spk.c, none⟩ (.int .i64 ((spk.q : Nat) : Int))).cell? ⟨w4.heap.size, 1, none⟩ = some (.int .i64 ((spk.q : Nat) : Int)) := by rw [far_block (fun e => hPe e.symm)]; exact p61
  have hz : (w6.setCell ⟨eg, spk.c, none⟩ (.int .i64 ((spk.q : Nat) : Int))).heap.size = w6.heap.size := by simp [World.setCell]
  refine ⟨e60, e61, p60, p61, H7.b0, p70, p71, H7.co.s, fun j u hj => ?_, ?_, fun wx gg cc hown hgr hgg => ?_⟩
  · have := spV_cells (w6.setCell ⟨eg, spk.c, none⟩ (.int .i64 ((spk.q : Nat) : Int))) spk 44 j u hj
    rw [hz] at this
    exact this
  · have := H6.sz
    rw [World.size_alloc, hz]
    omega
  · generalize hw7 : (w6.setCell ⟨eg, spk.c, none⟩ (.int .i64 ((spk.q : Nat) : Int))) = w7 at *
    have hP7 : w4.heap.size < w7.heap.size := by omega
    have hX7 : Below w7.heap.size w7 (w7.alloc (.cells #[.int .i64 ((spk.c : Nat) : Int), .int .i64 ((spk.q : Nat) : Int)] 44)) := (Below.refl _ _).alloc (Nat.le_refl _) _
    obtain ⟨q1, q2, q3⟩ := H7.pushS hX7 (by rw [hf]; exact hown) hgr (hgg.imp id fun e => by rw [e, World.size_alloc, hz]; exact Nat.le_refl _)
    have hne : some w4.heap.size ≠ (Value.slice sa k scap).ownBlock := fun e => by have := hSg _ e.symm; omega
    have hPX : w4.heap.size < (w7.alloc (.cells #[.int .i64 ((spk.c : Nat) : Int), .int .i64 ((spk.q : Nat) : Int)] 44)).heap.size := by rw [World.size_alloc]; omega
    have far : ∀ o, wx.cell? ⟨w4.heap.size, o, none⟩ = w7.cell? ⟨w4.heap.size, o, none⟩ := fun o => (hgr.cell_far _ (by exact hPX) hne).trans (hX7.cell (by exact hP7))
    refine ⟨⟨q1, q2⟩, q3, ⟨by rw [far_block (by omega)]; exact (far 0).trans p70, by rw [far_block (by omega)]; exact (far 1).trans p71⟩, ?_⟩
    have := hgr.size
    rw [World.size_alloc] at this
    simp only [World.setCell, Array.size_modify]
    omega
end Go.Proofs.Ytlopjfhdhkonbaa
