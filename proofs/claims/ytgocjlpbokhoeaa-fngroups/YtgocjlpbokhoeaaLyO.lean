import Derived.Test.YtgocjlpbokhoeaaLyF
namespace Go.Proofs.Ytgocjlpbokhoeaa
open Go.RowKit
theorem not_t {b : Bool} (h : false = !b) : b = true := by cases b <;> simp_all
theorem not_f {b : Bool} (h : true = !b) : b = false := by cases b <;> simp_all
theorem len_case {ol nl : Nat} {a b : Bool} (h : (nl : Int) = ol + (if a = true then 0 else 1) - (if b = true then 1 else 0)) : (a = false → b = true → ol = nl) ∧ (a = true → b = true → ol = nl + 1) ∧ (a = false → b = false → nl = ol + 1) ∧ (a = true → b = false → ol = nl) := by
  cases a <;> cases b <;> simp at h ⊢ <;> omega
theorem firstL_any {x : Option Nat} {a : Option Addr} {cap : Nat} {l : List Ent} (w : World) (hx : ∀ q, x = some q → q < w.heap.size) (hx2 : ApS x a l) (h : SlE w a cap l) :
    Calls Try.prog 59 #[.slice a l.length cap] w fun e w' => ∃ b, e = .returned (.pointer (some ⟨b, 0, none⟩)) ∧ LayAt w' x (.pointer (some ⟨b, 0, none⟩)) [l] ∧ Grw w w' := by
  have hg : ∀ o, Grw w (w.alloc o) := fun o => (Grw.refl w).alloc o
  go_enter Try.func59, Try.ntmps59
  go_wp2
  go_ret
  exact ⟨w.heap.size, rfl, ⟨w.heap.size, .pointer none, a, cap, rfl, by simp, World.cell?_alloc_at _ _ _ _ rfl, World.cell?_alloc_at _ _ _ _ rfl, World.cell?_alloc_at _ _ _ _ rfl, World.cell?_alloc_at _ _ _ _ rfl, h.below (hg _).below, ⟨fun e => by have := hx _ e.symm; omega, hx2⟩, rfl⟩, hg _⟩
set_option maxRecDepth 100000 in
set_option maxHeartbeats 2000000 in
theorem layOver_any {x : Option Nat} {T : List Ent} {R : List (List Ent)} {p : Value} {a : Option Addr} {cap : Nat} {l : List Ent} (w : World) (hx : ∀ q, x = some q → q < w.heap.size) (hx2 : ApS x a l) (hL : LayAt w x p (T :: R)) (hO : ChOk (T :: R)) (hn : (T :: R).length ≤ 1000) (hl : SrtE l) (hll : l.length ≤ 600) (hz : (stOf (T :: R)).length ≤ 1000000) (h : SlE w a cap l) :
    Calls Try.prog 61 #[p, .slice a l.length cap] w fun e w' => ∃ b, e = .returned (.pointer (some ⟨b, 0, none⟩)) ∧ LayAt w' x (.pointer (some ⟨b, 0, none⟩)) (l :: T :: R) ∧ Grw w w' := by
  have HL : Hid (LayAt w x p (T :: R)) := hL
  have HX : Hid ((∀ q, x = some q → q < w.heap.size) ∧ ApS x a l) := ⟨hx, hx2⟩
  clear hx hx2
  have HO : Hid (ChOk (T :: R)) := hO
  have Hst : Hid (SrtE (stOf (T :: R)) ∧ Ids (stOf (T :: R)) ∧ AllOk (stOf (T :: R))) := stOf_ok hO
  have Hl : Hid (SrtE l) := hl
  have HF : Hid (∀ W y, Grw w W → Calls Try.prog 35 #[p, slotV y] W fun e w' => e = .returned (.tuple #[.string (lkL (T :: R) y).1, .int .i64 ((lkL (T :: R) y).2 : Int)]) ∧ Grw W w') := fun W y hW => findL_any (T :: R) p y W (hL.below hW.below) hO.alls (by omega)
  obtain ⟨b, pp, ta, tc, rfl, hblt, c0, c1, c2, c3, hts, _, hrest⟩ := hL
  clear hts hrest hO hl
  obtain ⟨stl, hstl⟩ : ∃ stl, stl = stOf (T :: R) := ⟨_, rfl⟩
  rw [← hstl] at c3 hz
  have Hstl : Hid (stl = stOf (T :: R)) := hstl
  clear hstl
  go_enter Try.func61, Try.ntmps61
  go_wp2_with fail
  go_loopw [5, 16] (fun s5 s16 wr => ∃ k : Nat, k ≤ l.length ∧ s16 = .int .i64 (k : Int) ∧ s5 = .int .i64 ((patL stl l k).length : Int) ∧ Grw w wr) (fun _ s16 _ => l.length - (intOf s16).toNat)
  case atStart => exact ⟨0, Nat.zero_le _, rfl, rfl, Grw.refl _⟩
  case round =>
    obtain ⟨k, hk, rfl, rfl, hgr⟩ := hrel
    by_cases hlt : k < l.length
    · have hlen : Hid (((patL stl l (k + 1)).length : Int) = (patL stl l k).length + (if (eAt l k).id.toList.isEmpty = true then 0 else 1) - (if (lookE stl (eAt l k)).isSome = true then 1 else 0)) := by
        rw [Hstl.out]; exact patL_len1 Hst.out.1 Hl.out hlt
      have hbd := patL_len stl l k
      have hsome : Hid ((lkL (T :: R) (eAt l k)).1.toList.isEmpty = !(lookE stl (eAt l k)).isSome) := by rw [Hstl.out]; exact lkL_some HO.out _
      have hfd : Hid (∀ W, Grw w W → Calls Try.prog 35 #[.pointer (some ⟨b, 0, none⟩), slotV (eAt l k)] W fun e w' => e = .returned (.tuple #[.string (lkL (T :: R) (eAt l k)).1, .int .i64 ((lkL (T :: R) (eAt l k)).2 : Int)]) ∧ Grw W w') := fun W hW => HF.out W _ hW
      rcases h.cells with rfl | ⟨lb, off, rfl, hlb, e1, e2, e3⟩
      · exact absurd hlt (Nat.not_lt_zero _)
      have a1 : wr.cell? ⟨lb, off + k * 3, none⟩ = some (.string (eAt l k).ty) := (hgr.cell (by exact hlb)).trans (e1 k hlt)
      have a2 : wr.cell? ⟨lb, off + k * 3 + 1, none⟩ = some (.string (eAt l k).key) := (hgr.cell (by exact hlb)).trans (e2 k hlt)
      have a3 : wr.cell? ⟨lb, off + k * 3 + 2, none⟩ = some (.string (eAt l k).id) := (hgr.cell (by exact hlb)).trans (e3 k hlt)
      have hgrz := hgr.below.size
      clear e1 e2 e3 c0 c1 c2 c3 HF
      generalize (lkL (T :: R) (eAt l k)).2 = v2 at *
      generalize (lkL (T :: R) (eAt l k)).1 = v1 at *
      generalize eAt l k = en at *
      go_wp2_with fail
      obtain ⟨wg, hwg⟩ : ∃ wg, wg = wr.alloc (.cells #[.string en.ty, .string en.key, .string en.id] 38) := ⟨_, rfl⟩
      rw [← hwg]
      have hgA : Grw wr wg := by rw [hwg]; exact (Grw.refl wr).alloc _
      have hgz : wr.heap.size < wg.heap.size := by rw [hwg]; simp
      have x2 : wg.cell? ⟨wr.heap.size, 2, none⟩ = some (.string en.id) := by rw [hwg]; exact World.cell?_alloc_at _ _ _ _ rfl
      clear hwg
      refine (slot_any en wg).mono ?_
      rintro e w1 ⟨rfl, hg1⟩
      go_wp2_with fail
      refine (hfd.out w1 ((hgr.trans hgA).trans hg1)).mono ?_
      rintro e w2 ⟨rfl, hg2⟩
      have hg12 := hg1.trans hg2
      have y2 := (hg12.cell (by exact hgz)).trans x2
      have hgw := (hgr.trans hgA).trans hg12
      clear hfd a1 a2 a3 x2 hg1 hg2 hg12 hgA hgz hgr
      obtain ⟨nl, hnl⟩ : ∃ nl : Nat, nl = (patL stl l (k + 1)).length := ⟨_, rfl⟩
      have HN : Hid (nl = (patL stl l (k + 1)).length) := hnl
      rw [← hnl] at hlen
      clear hnl
      generalize (patL stl l k).length = ol at *
      generalize (lookE stl en).isSome = so at *
      cases he1 : v1.toList.isEmpty <;> cases he2 : en.id.toList.isEmpty <;> rw [he1] at hsome <;> rw [he2] at hlen
      · have hso : so = true := not_t hsome.out
        subst hso
        have hnn : ol = nl := (len_case hlen.out).1 rfl rfl
        subst hnn
        clear hlen hsome
        go_wp2
        go_roundw
        case rel => exact ⟨k + 1, by omega, by go_num, by rw [HN.out], hgw⟩
        case measure => simp [intOf]; omega
      · have hso : so = true := not_t hsome.out
        subst hso
        have hnn : ol = nl + 1 := (len_case hlen.out).2.1 rfl rfl
        subst hnn
        clear hlen hsome
        go_wp2
        go_roundw
        case rel => exact ⟨k + 1, by omega, by go_num, by rw [← HN.out]; first | done | go_num, hgw⟩
        case measure => simp [intOf]; omega
      · have hso : so = false := not_f hsome.out
        subst hso
        have hnn : nl = ol + 1 := (len_case hlen.out).2.2.1 rfl rfl
        subst hnn
        clear hlen hsome
        go_wp2
        go_roundw
        case rel => exact ⟨k + 1, by omega, by go_num, by rw [← HN.out]; first | done | go_num, hgw⟩
        case measure => simp [intOf]; omega
      · have hso : so = false := not_f hsome.out
        subst hso
        have hnn : ol = nl := (len_case hlen.out).2.2.2 rfl rfl
        subst hnn
        clear hlen hsome
        go_wp2
        go_roundw
        case rel => exact ⟨k + 1, by omega, by go_num, by rw [HN.out], hgw⟩
        case measure => simp [intOf]; omega
    · have hkn : Hid (l.length = k) := by unfold Hid; omega
      have d2 : wr.cell? ⟨b, 2, none⟩ = some (.int .i64 (R.length : Int)) := (hgr.cell (by exact hblt)).trans c2
      have HL2 := HL.out.below hgr.below
      have hR : R.length ≤ 1000 := by simp only [List.length_cons] at hn; omega
      have hs2 := h.below hgr.below
      have hfin : Hid ((patL stl l k).length = (stOf (l :: T :: R)).length) := by
        unfold Hid
        rw [Hstl.out, ← hkn.out]
        rfl
      have hgA : ∀ o, Grw wr (wr.alloc o) := fun o => (Grw.refl wr).alloc o
      have HS2 : Hid (_) := hs2
      have HL3 : Hid (_) := HL2
      clear c0 c1 c2 c3 hs2 HL2
      go_wp2
      go_ret
      exact ⟨wr.heap.size, rfl, ⟨wr.heap.size, _, a, cap, rfl, by simp, World.cell?_alloc_at _ _ _ _ rfl, World.cell?_alloc_at _ _ _ _ rfl, by rw [World.cell?_alloc_at _ _ _ _ rfl]; simp, by rw [World.cell?_alloc_at _ _ _ _ rfl, ← hfin.out]; rfl, HS2.out.below (hgA _).below, ⟨fun e => by have := HX.out.1 _ e.symm; have := hgr.below.size; omega, HX.out.2⟩, LayAt.below (L := T :: R) HL3.out (hgA _).below⟩, hgr.trans (hgA _)⟩
end Go.Proofs.Ytgocjlpbokhoeaa
