import Derived.Test.YtgocjlpbokhoeaaInO
import Derived.Test.YtgocjlpbokhoeaaCsIM
namespace Go.Proofs.Ytgocjlpbokhoeaa
open Go.RowKit
theorem cell_two (w : World) (c1 c2 : Array Value) (t1 t2 : TypeId) (o : Nat) : ((w.alloc (.cells c1 t1)).alloc (.cells c2 t2)).cell? ⟨w.heap.size, o, none⟩ = c1[o]? ∧ ((w.alloc (.cells c1 t1)).alloc (.cells c2 t2)).cell? ⟨w.heap.size + 1, o, none⟩ = c2[o]? := by
  refine ⟨?_, World.cell?_alloc_at _ _ _ _ (by simp)⟩
  rw [World.cell?_alloc_past _ _ _ (by simp)]
  exact World.cell?_alloc_at _ _ _ _ rfl
theorem Grw.cell {w w' : World} (h : Grw w w') {p : Addr} (hp : p.block < w.heap.size) : w'.cell? p = w.cell? p := h.below.cell hp
set_option maxRecDepth 100000 in
set_option maxHeartbeats 1000000 in
theorem eaC_any (x s : Ent) (w : World) :
    Calls Try.prog 66 #[entV x, slotV s] w fun e w' => e = .returned (.int .i64 (cmpE x s)) ∧ Grw w w' := by
  obtain ⟨wb, hwb⟩ : ∃ wb, wb = (w.alloc (.cells #[.string x.ty, .string x.key, .string x.id] 38)).alloc (.cells #[.string s.ty, .string s.key] 69) := ⟨_, rfl⟩
  have hg : Grw w wb := by rw [hwb]; exact ((Grw.refl _).alloc _).alloc _
  have hs1 : w.heap.size < wb.heap.size := by rw [hwb]; simp; omega
  have hs2 : w.heap.size + 1 < wb.heap.size := by rw [hwb]; simp
  have c0 : ∀ n os, (Sort.grow (wb.drewN n) os).cell? ⟨w.heap.size, 0, none⟩ = some (.string x.ty) := cell_grown (by exact hs1) (by rw [hwb]; exact (cell_two w _ _ _ _ 0).1)
  have c1 : ∀ n os, (Sort.grow (wb.drewN n) os).cell? ⟨w.heap.size, 1, none⟩ = some (.string x.key) := cell_grown (by exact hs1) (by rw [hwb]; exact (cell_two w _ _ _ _ 1).1)
  have c2 : ∀ n os, (Sort.grow (wb.drewN n) os).cell? ⟨w.heap.size, 2, none⟩ = some (.string x.id) := cell_grown (by exact hs1) (by rw [hwb]; exact (cell_two w _ _ _ _ 2).1)
  have d0 : ∀ n os, (Sort.grow (wb.drewN n) os).cell? ⟨w.heap.size + 1, 0, none⟩ = some (.string s.ty) := cell_grown (by exact hs2) (by rw [hwb]; exact (cell_two w _ _ _ _ 0).2)
  have d1 : ∀ n os, (Sort.grow (wb.drewN n) os).cell? ⟨w.heap.size + 1, 1, none⟩ = some (.string s.key) := cell_grown (by exact hs2) (by rw [hwb]; exact (cell_two w _ _ _ _ 1).2)
  go_enter Try.func66, Try.ntmps66
  go_wp2_with fail
  rw [← hwb]
  clear hwb
  refine wp_region_quiet_grown (by kernel_rfl) (by kernel_rfl) ?_
  repeat (quiet_step (first
    | (go_at_call 51; exact Calls.grown_of (slot_gr x _))
    | (go_at_call 62; exact Calls.grown_of (cmpS_gr x s _))))
  refine wpQuiet_nil ?_
  intro _ hw'
  obtain ⟨⟨nq, osq⟩, hw''⟩ := hw'
  subst hw''
  clear c0 c1 c2 d0 d1
  go_wp2
  go_ret
  exact ⟨rfl, hg.trans (grw_grow _ _ _)⟩
def BsPost (l : List Ent) (s : Ent) (w : World) (e : Ending) (w' : World) : Prop := Grw w w' ∧
  ∃ (i : Nat) (t : Bool), e = .returned (.tuple #[.int .i64 (i : Int), .bool t]) ∧ ((t = true ∧ i < l.length ∧ lookE l s = some (eAt l i)) ∨ (t = false ∧ lookE l s = none))
theorem eaC_gr (x s : Ent) (w : World) : Calls Try.prog 66 #[entV x, slotV s] w fun e w' => e = .returned (.int .i64 (cmpE x s)) ∧ ∃ q os', w' = Sort.grow (w.drewN q) os' :=
  (eaC_any x s w).mono fun _ _ h => ⟨h.1, h.2.eq⟩
set_option maxRecDepth 100000 in
set_option maxHeartbeats 2000000 in
theorem bs_any (b off cap : Nat) (l : List Ent) (s : Ent) (w : World) (hS : SrtE l) (hn : l.length ≤ 1000000000) (hb : l ≠ [] → b < w.heap.size)
    (h1 : ∀ i, i < l.length → w.cell? ⟨b, off + i * 3, none⟩ = some (.string (eAt l i).ty)) (h2 : ∀ i, i < l.length → w.cell? ⟨b, off + i * 3 + 1, none⟩ = some (.string (eAt l i).key)) (h3 : ∀ i, i < l.length → w.cell? ⟨b, off + i * 3 + 2, none⟩ = some (.string (eAt l i).id)) :
    Calls Try.prog 67 #[.slice (some ⟨b, off, none⟩) l.length cap, slotV s, .func (.func 66) #[] #[]] w (BsPost l s w) := by
  obtain ⟨wb, hwb⟩ : ∃ wb, wb = w.alloc (.cells #[.string s.ty, .string s.key] 69) := ⟨_, rfl⟩
  have hg : Grw w wb := by rw [hwb]; exact (Grw.refl _).alloc _
  have hs1 : w.heap.size < wb.heap.size := by rw [hwb]; simp
  have hx0 : wb.cell? ⟨w.heap.size, 0, none⟩ = some (.string s.ty) := by rw [hwb]; exact World.cell?_alloc_at _ _ _ _ rfl
  have hx1 : wb.cell? ⟨w.heap.size, 1, none⟩ = some (.string s.key) := by rw [hwb]; exact World.cell?_alloc_at _ _ _ _ rfl
  have HS : Hid (SrtE l) := hS
  clear hS
  go_enter Try.func67, Try.ntmps67
  go_wp2_with fail
  rw [← hwb]
  clear hwb
  go_loopw [9, 10] (fun s9 s10 wr => ∃ lo hi : Nat, s9 = .int .i64 lo ∧ s10 = .int .i64 hi ∧ lo ≤ hi ∧ hi ≤ l.length ∧ Grw wb wr ∧ Hid ((∀ t, t < lo → cmpE (eAt l t) s < 0) ∧ (∀ t, hi ≤ t → t < l.length → 0 ≤ cmpE (eAt l t) s))) (fun s9 s10 _ => (intOf s10).toNat - (intOf s9).toNat)
  case atStart => exact ⟨0, l.length, rfl, rfl, Nat.zero_le _, Nat.le_refl _, Grw.refl _, fun t ht => absurd ht (Nat.not_lt_zero _), fun t h1 h2 => by omega⟩
  case round =>
    obtain ⟨lo, hi, rfl, rfl, hlh, hin, hgr, hI⟩ := hrel
    have hgw := hg.trans hgr
    have hsr : w.heap.size < wr.heap.size := Nat.lt_of_lt_of_le hs1 hgr.below.size
    have d0 : ∀ n os, (Sort.grow (wr.drewN n) os).cell? ⟨w.heap.size, 0, none⟩ = some (.string s.ty) := cell_grown (by exact hsr) ((hgr.cell (by exact hs1)).trans hx0)
    have d1 : ∀ n os, (Sort.grow (wr.drewN n) os).cell? ⟨w.heap.size, 1, none⟩ = some (.string s.key) := cell_grown (by exact hsr) ((hgr.cell (by exact hs1)).trans hx1)
    have hcell : Hid (∀ i, i < l.length → ∀ n os, (Sort.grow (wr.drewN n) os).cell? ⟨b, off + i * 3, none⟩ = some (.string (eAt l i).ty) ∧ (Sort.grow (wr.drewN n) os).cell? ⟨b, off + i * 3 + 1, none⟩ = some (.string (eAt l i).key) ∧ (Sort.grow (wr.drewN n) os).cell? ⟨b, off + i * 3 + 2, none⟩ = some (.string (eAt l i).id)) := fun i hi n os => by
      have hbw := hb (fun e => by rw [e] at hi; exact absurd hi (Nat.not_lt_zero _))
      have hbr : b < wr.heap.size := Nat.lt_of_lt_of_le hbw hgw.below.size
      exact ⟨cell_grown (by exact hbr) ((hgw.cell (by exact hbw)).trans (h1 i hi)) n os, cell_grown (by exact hbr) ((hgw.cell (by exact hbw)).trans (h2 i hi)) n os, cell_grown (by exact hbr) ((hgw.cell (by exact hbw)).trans (h3 i hi)) n os⟩
    clear h1 h2 h3 hb hx0 hx1
    by_cases hlt : lo < hi
    · obtain ⟨m, hm⟩ : ∃ m : Nat, m = (lo + hi) / 2 := ⟨_, rfl⟩
      have em : ((lo : Int) + (hi : Int)) / 2 = (m : Int) := by omega
      have hm1 : lo ≤ m := by omega
      have hm2 : m < hi := by omega
      have hml : m < l.length := by omega
      have a1 : ∀ n os, (Sort.grow (wr.drewN n) os).cell? ⟨b, off + m * 3, none⟩ = some (.string (eAt l m).ty) := fun n os => (hcell.out m hml n os).1
      have a2 : ∀ n os, (Sort.grow (wr.drewN n) os).cell? ⟨b, off + m * 3 + 1, none⟩ = some (.string (eAt l m).key) := fun n os => (hcell.out m hml n os).2.1
      have a3 : ∀ n os, (Sort.grow (wr.drewN n) os).cell? ⟨b, off + m * 3 + 2, none⟩ = some (.string (eAt l m).id) := fun n os => (hcell.out m hml n os).2.2
      clear hm
      go_wp2_with fail
      refine wp_region_quiet_grown (by kernel_rfl) (by kernel_rfl) ?_
      repeat (quiet_step (first
        | (go_at_call 66; exact Calls.grown_of (eaC_gr (eAt l m) s _))))
      refine wpQuiet_nil ?_
      intro _ hw'
      obtain ⟨⟨nq, osq⟩, hw''⟩ := hw'
      subst hw''
      have hgz := hgr.trans (grw_grow wr nq osq)
      have hc0 : Hid (∀ t, t ≤ m → cmpE (eAt l m) s < 0 → cmpE (eAt l t) s < 0) := fun t ht hc => bs_mono HS.out ht hml hc
      have hc1 : Hid (∀ t, m ≤ t → t < l.length → 0 ≤ cmpE (eAt l m) s → 0 ≤ cmpE (eAt l t) s) := fun t ht htl hc => Int.not_lt.1 fun h => by have := bs_mono HS.out ht htl h; omega
      clear a1 a2 a3 d0 d1 hcell
      generalize Sort.grow (wr.drewN nq) osq = wz at *
      generalize cmpE (eAt l m) s = c at *
      by_cases hc : c < 0
      · have I2 : Hid ((∀ t, t < m + 1 → cmpE (eAt l t) s < 0) ∧ (∀ t, hi ≤ t → t < l.length → 0 ≤ cmpE (eAt l t) s)) := ⟨fun t ht => hc0.out t (by omega) hc, hI.out.2⟩
        clear hc0 hc1 hI
        go_wp2
        go_roundw
        case rel => exact ⟨m + 1, hi, by go_num, rfl, by omega, by omega, hgz, I2⟩
        case measure => simp [intOf]; omega
      · have I2 : Hid ((∀ t, t < lo → cmpE (eAt l t) s < 0) ∧ (∀ t, m ≤ t → t < l.length → 0 ≤ cmpE (eAt l t) s)) := ⟨hI.out.1, fun t ht htl => hc1.out t ht htl (by omega)⟩
        clear hc0 hc1 hI
        go_wp2
        go_roundw
        case rel => exact ⟨lo, m, rfl, rfl, by omega, by omega, hgz, I2⟩
        case measure => simp [intOf]; omega
    · obtain rfl : hi = lo := by omega
      by_cases hil : hi < l.length
      · have a1 : ∀ n os, (Sort.grow (wr.drewN n) os).cell? ⟨b, off + hi * 3, none⟩ = some (.string (eAt l hi).ty) := fun n os => (hcell.out hi hil n os).1
        have a2 : ∀ n os, (Sort.grow (wr.drewN n) os).cell? ⟨b, off + hi * 3 + 1, none⟩ = some (.string (eAt l hi).key) := fun n os => (hcell.out hi hil n os).2.1
        have a3 : ∀ n os, (Sort.grow (wr.drewN n) os).cell? ⟨b, off + hi * 3 + 2, none⟩ = some (.string (eAt l hi).id) := fun n os => (hcell.out hi hil n os).2.2
        have hyes : Hid (cmpE (eAt l hi) s = 0 → lookE l s = some (eAt l hi)) := fun e => bs_hit HS.out hil e
        have hno : Hid (cmpE (eAt l hi) s ≠ 0 → lookE l s = none) := fun e => bs_miss HS.out hI.out.1 hI.out.2 (fun _ => e)
        go_wp2_with fail
        refine wp_region_quiet_grown (by kernel_rfl) (by kernel_rfl) ?_
        repeat (quiet_step (first
          | (go_at_call 66; exact Calls.grown_of (eaC_gr (eAt l hi) s _))))
        refine wpQuiet_nil ?_
        intro _ hw'
        obtain ⟨⟨nq, osq⟩, hw''⟩ := hw'
        subst hw''
        have hgz := hgw.trans (grw_grow wr nq osq)
        clear a1 a2 a3 d0 d1 hcell
        generalize Sort.grow (wr.drewN nq) osq = wz at *
        generalize cmpE (eAt l hi) s = c at *
        go_wp2
        refine bodyPost_ret (v := .tuple #[.int .i64 (hi : Int), .bool (c == 0)]) (by simp [results, Try.results67, go_sem]) rfl ⟨hgz, hi, (c == 0), rfl, ?_⟩
        by_cases hc : c = 0
        · exact Or.inl ⟨by simpa using hc, hil, hyes.out hc⟩
        · exact Or.inr ⟨by simpa using hc, hno.out hc⟩
      · have hno : Hid (lookE l s = none) := bs_miss HS.out hI.out.1 hI.out.2 (fun h => absurd h hil)
        obtain rfl : hi = l.length := by omega
        clear hcell hI hlt hil hlh hin
        go_wp2_with fail
        go_region
        clear d0 d1
        go_wp2
        exact bodyPost_ret (v := .tuple #[.int .i64 (l.length : Int), .bool false]) (by simp [results, Try.results67, go_sem]) rfl ⟨hgw.drew, l.length, false, rfl, Or.inr ⟨rfl, hno.out⟩⟩
theorem bs_none (a : Option Addr) (cap : Nat) (s : Ent) (w : World) :
    Calls Try.prog 67 #[.slice a 0 cap, slotV s, .func (.func 66) #[] #[]] w (BsPost [] s w) := by
  have hg : Grw w (w.alloc (.cells #[.string s.ty, .string s.key] 69)) := (Grw.refl _).alloc _
  go_enter Try.func67, Try.ntmps67
  go_wp2_with fail
  refine wp_loop_rounds 1 ?_
  rw [rounds_succ]
  go_wp2_with fail
  go_region
  go_wp2
  exact bodyPost_ret (v := .tuple #[.int .i64 ((0 : Nat) : Int), .bool false]) (by simp [results, Try.results67, go_sem]) rfl ⟨hg.drew, 0, false, rfl, Or.inr ⟨rfl, rfl⟩⟩
theorem bs_sl {a : Option Addr} {cap : Nat} {l : List Ent} (s : Ent) (w : World) (hS : SrtE l) (hn : l.length ≤ 1000000000) (h : SlE w a cap l) :
    Calls Try.prog 67 #[.slice a l.length cap, slotV s, .func (.func 66) #[] #[]] w (BsPost l s w) := by
  rcases h.cells with rfl | ⟨b, off, rfl, hb, h1, h2, h3⟩
  · exact bs_none a cap s w
  · exact bs_any b off cap l s w hS hn (fun _ => hb) h1 h2 h3
end Go.Proofs.Ytgocjlpbokhoeaa
