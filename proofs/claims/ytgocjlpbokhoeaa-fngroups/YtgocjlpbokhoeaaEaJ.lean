import Derived.Test.YtgocjlpbokhoeaaEaI
namespace Go.Proofs.Ytgocjlpbokhoeaa
open Go.RowKit
set_option maxRecDepth 100000 in
set_option maxHeartbeats 1000000 in
theorem entryAt_sl {a : Option Addr} {cap : Nat} {l : List Ent} (s : Ent) (w : World) (hS : SrtE l) (hn : l.length ≤ 1000000000) (h : SlE w a cap l) :
    Calls Try.prog 57 #[.slice a l.length cap, slotV s] w fun e w' => e = .returned (.tuple #[entV (eaV l s), .bool (eaT l s)]) ∧ Grw w w' := by
  obtain ⟨wb, hwb⟩ : ∃ wb, wb = (w.alloc (.cells #[.string s.ty, .string s.key] 69)).alloc (.cells #[.string ⟨#[]⟩, .string ⟨#[]⟩, .string ⟨#[]⟩] 38) := ⟨_, rfl⟩
  have hg : Grw w wb := by rw [hwb]; exact ((Grw.refl _).alloc _).alloc _
  have hs2 : w.heap.size + 1 < wb.heap.size := by rw [hwb]; simp
  have hfz : ∀ o, wb.frozen? ⟨w.heap.size + 1, o, none⟩ = false := fun o => by rw [hwb]; exact World.frozen?_alloc_at _ _ _ _ (by simp)
  have hx0 : wb.cell? ⟨w.heap.size, 0, none⟩ = some (.string s.ty) := by rw [hwb]; exact (cell_two w _ _ _ _ 0).1
  have hx1 : wb.cell? ⟨w.heap.size, 1, none⟩ = some (.string s.key) := by rw [hwb]; exact (cell_two w _ _ _ _ 1).1
  have hy0 : wb.cell? ⟨w.heap.size + 1, 0, none⟩ = some (.string ⟨#[]⟩) := by rw [hwb]; exact (cell_two w _ _ _ _ 0).2
  have hy1 : wb.cell? ⟨w.heap.size + 1, 1, none⟩ = some (.string ⟨#[]⟩) := by rw [hwb]; exact (cell_two w _ _ _ _ 1).2
  have hy2 : wb.cell? ⟨w.heap.size + 1, 2, none⟩ = some (.string ⟨#[]⟩) := by rw [hwb]; exact (cell_two w _ _ _ _ 2).2
  go_enter Try.func57, Try.ntmps57
  go_wp2_with fail
  rw [← hwb]
  clear hwb
  refine (bs_sl s _ hS hn (h.below hg.below)).mono ?_
  rintro e w1 ⟨hg1, i, t, rfl, hpost⟩
  have z0 := (hg1.cell (by exact hs2)).trans hy0
  have z1 := (hg1.cell (by exact hs2)).trans hy1
  have z2 := (hg1.cell (by exact hs2)).trans hy2
  have f1 : ∀ o, w1.frozen? ⟨w.heap.size + 1, o, none⟩ = false := fun o => (hg1.below.frozen (by exact hs2)).trans (hfz o)
  have hgw := hg.trans hg1
  have hs3 : w.heap.size + 1 < w1.heap.size := Nat.lt_of_lt_of_le hs2 hg1.below.size
  clear hx0 hx1 hy0 hy1 hy2 hfz
  rcases hpost with ⟨rfl, hi, hlk⟩ | ⟨rfl, hlk⟩
  · have hv : Hid (eaV l s = eAt l i ∧ eaT l s = true) := ⟨by unfold eaV; rw [hlk]; rfl, by unfold eaT; rw [hlk]; rfl⟩
    clear hlk
    have h1w := h.below hgw.below
    rcases h1w.cells with h0 | ⟨b, off, rfl, hb, c1, c2, c3⟩
    · rw [h0] at hi; exact absurd hi (Nat.not_lt_zero _)
    have k1 := c1 i hi
    have k2 := c2 i hi
    have k3 := c3 i hi
    clear c1 c2 c3
    go_wp2
    refine bodyPost_ret (v := .tuple #[entV (eAt l i), .bool true]) (by simp [results, Try.results57, go_sem, z0, z1, z2]) rfl ⟨by rw [hv.out.1, hv.out.2], ?_⟩
    iterate 3 (refine Grw.setCell ?_ (by show _ ≤ w.heap.size + 1; omega) _)
    exact hgw
  · have hv : Hid (eaV l s = Ent.none ∧ eaT l s = false) := ⟨by unfold eaV; rw [hlk]; rfl, by unfold eaT; rw [hlk]; rfl⟩
    clear hlk
    go_wp2
    refine bodyPost_ret (v := .tuple #[.agg #[.string ⟨#[]⟩, .string ⟨#[]⟩, .string ⟨#[]⟩], .bool false]) (by simp [results, Try.results57, go_sem, z0, z1, z2]) rfl ⟨by rw [hv.out.1, hv.out.2]; rfl, ?_⟩
    iterate 3 (refine Grw.setCell ?_ (by show _ ≤ w.heap.size + 1; omega) _)
    exact hgw
end Go.Proofs.Ytgocjlpbokhoeaa
