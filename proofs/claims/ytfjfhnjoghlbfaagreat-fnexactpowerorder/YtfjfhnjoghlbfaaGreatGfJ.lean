/-
  impl's greatestFirst: what it compares.
-/
import Derived.Test.YtfjfhnjoghlbfaaGreatProg
import Derived.Test.YtfjfhnjoghlbfaaGreatGfQ
import Derived.Test.YtfjfhnjoghlbfaaGreatCsA
import Derived.Test.YtfjfhnjoghlbfaaGreatCovA
import Derived.Test.YtfjfhnjoghlbfaaGreatBase
import Derived.Deep.RegionHeld3
import Derived.Lib.Walk
namespace Go.Proofs.YtfjfhnjoghlbfaaGreat
open Go.RowKit

set_option maxRecDepth 100000 in
theorem cmpI_any (x y : Int) (w : World) :
    Calls Tryz.prog 63 #[.int .i64 x, .int .i64 y] w fun e w' => e = .returned (.int .i64 (cC x y)) ∧ w' = w := by
  have hnan : ∀ (z : Int) (W : World), Calls Tryz.prog 84 #[.int .i64 z] W fun e w' => e = .returned (.bool false) ∧ w' = W := fun z W => by
    go_enter Tryz.func84, Tryz.ntmps84
    go_wp2
    go_ret
    exact ⟨by simp, rfl⟩
  by_cases h1 : x < y
  · go_enter Tryz.func63, Tryz.ntmps63
    go_wp2_with (go_at_call 84; refine (hnan _ _).mono ?_; rintro e w' ⟨rfl, rfl⟩)
    go_ret
    exact ⟨ret_int (by unfold cC; rw [if_pos h1]), rfl⟩
  · by_cases h2 : y < x
    · go_enter Tryz.func63, Tryz.ntmps63
      go_wp2_with (go_at_call 84; refine (hnan _ _).mono ?_; rintro e w' ⟨rfl, rfl⟩)
      go_ret
      exact ⟨ret_int (by unfold cC; rw [if_neg (by omega), if_pos h2]), rfl⟩
    · go_enter Tryz.func63, Tryz.ntmps63
      go_wp2_with (go_at_call 84; refine (hnan _ _).mono ?_; rintro e w' ⟨rfl, rfl⟩)
      go_ret
      exact ⟨ret_int (by unfold cC; rw [if_neg (by omega), if_neg (by omega)]), rfl⟩

set_option maxRecDepth 100000 in
theorem bcmpG_any (a b : ByteArray) (w : World) :
    Calls Tryz.prog 85 #[.string a, .string b] w fun e w' => e = .returned (.int .i64 (cB a b)) ∧ w' = w := by
  go_enter Tryz.func85, Tryz.ntmps85
  go_wp2
  rw [run_callFunc_extern Tryz.func96 (by kernel_rfl) (by kernel_rfl) (by kernel_rfl) (e := Extern.BytealgCompare.compare) (by kernel_rfl), Lib.run_compareString]
  simp only [Result.andThen]
  rw [Oper.upon_value]
  go_wp2
  go_ret
  exact ⟨rfl, rfl⟩

theorem scmpG_any (a b : ByteArray) (w : World) :
    Calls Tryz.prog 64 #[.string a, .string b] w fun e w' => e = .returned (.int .i64 (cB a b)) ∧ w' = w := by
  go_enter Tryz.func64, Tryz.ntmps64
  go_wp2_with (go_at_call 85; refine (bcmpG_any a b _).mono ?_; rintro e w' ⟨rfl, rfl⟩)
  go_ret
  exact ⟨rfl, rfl⟩

set_option maxHeartbeats 400000 in
theorem or3_any (b cap : Nat) (x y z : Int) (w : World) (h0 : w.cell? ⟨b, 0, none⟩ = some (.int .i64 x)) (h1 : w.cell? ⟨b, 1, none⟩ = some (.int .i64 y)) (h2 : w.cell? ⟨b, 2, none⟩ = some (.int .i64 z)) :
    Calls Tryz.prog 62 #[.slice (some ⟨b, 0, none⟩) 3 cap] w fun e w' => e = .returned (.int .i64 (or3 x y z)) ∧ w' = w := by
  by_cases hx : x = 0
  · subst hx
    by_cases hy : y = 0
    · subst hy
      by_cases hz : z = 0
      · subst hz
        go_enter Tryz.func62, Tryz.ntmps62
        go_wp2
        refine wp_loop_rounds 4 ?_
        rw [rounds_succ]
        go_wp2
        rw [rounds_succ]
        go_wp2
        rw [rounds_succ]
        go_wp2
        rw [rounds_succ]
        go_wp2
        go_ret
        exact ⟨rfl, rfl⟩
      · go_enter Tryz.func62, Tryz.ntmps62
        go_wp2
        refine wp_loop_rounds 4 ?_
        rw [rounds_succ]
        go_wp2
        rw [rounds_succ]
        go_wp2
        rw [rounds_succ]
        go_wp2
        go_ret
        exact ⟨rfl, rfl⟩
    · go_enter Tryz.func62, Tryz.ntmps62
      go_wp2
      refine wp_loop_rounds 4 ?_
      rw [rounds_succ]
      go_wp2
      rw [rounds_succ]
      go_wp2
      go_ret
      exact ⟨ret_int (by unfold or3; rw [if_pos rfl, if_neg hy]), rfl⟩
  · go_enter Tryz.func62, Tryz.ntmps62
    go_wp2
    refine wp_loop_rounds 4 ?_
    rw [rounds_succ]
    go_wp2
    go_ret
    exact ⟨ret_int (by unfold or3; rw [if_neg hx]), rfl⟩

/-- what greatestFirst answers: the function with the room and the weights in boxes of their own. -/
def GfPost (w : World) (a : Option Addr) (n cap : Nat) (da : Option Addr) (dn dc : Nat) (e : Ending) (w' : World) : Prop := ∃ bg bw,
  e = .returned (.func (.func 61) #[] #[.pointer (some ⟨bg, 0, none⟩), .pointer (some ⟨bw, 0, none⟩)]) ∧ w.heap.size ≤ bg ∧ w.heap.size ≤ bw ∧
  w'.cell? ⟨bg, 0, none⟩ = some (.slice a n cap) ∧ w'.cell? ⟨bw, 0, none⟩ = some (.slice da dn dc) ∧ Below w.heap.size w w'
theorem gf_any (a : Option Addr) (n cap : Nat) (mm : Option Nat) (ra : Option Addr) (nr rc : Nat) (da : Option Addr) (dn dc : Nat) (w : World) :
    Calls Tryz.prog 41 #[.agg #[.slice a n cap, .map mm, .slice ra nr rc], .slice da dn dc] w (GfPost w a n cap da dn dc) := by
  have hf : Hid (GfPost w a n cap da dn dc (.returned (.func (.func 61) #[] #[.pointer (some ⟨w.heap.size, 0, none⟩), .pointer (some ⟨w.heap.size + 1, 0, none⟩)])) ((w.alloc (.cells #[.slice a n cap, .map mm, .slice ra nr rc] 48)).alloc (.cells #[.slice da dn dc] 51))) := by
    have hB := ((Below.refl (w.heap.size + 1) (w.alloc (.cells #[.slice a n cap, .map mm, .slice ra nr rc] 48))).alloc (by simp) (.cells #[.slice da dn dc] 51))
    exact ⟨w.heap.size, w.heap.size + 1, rfl, Nat.le_refl _, by omega, box_cells hB 0, World.cell?_alloc_at _ _ _ _ (by simp), ((Below.refl _ _).alloc (Nat.le_refl _) _).alloc (by simp) _⟩
  go_enter Tryz.func41, Tryz.ntmps41
  go_wp2
  go_ret
  exact hf.out

/-- what the function reads. -/
structure GfAt (W : World) (bg bw b off n cap db dc : Nat) (E : Nat → Ev) (D : Nat → Int) : Prop where
  g0 : W.cell? ⟨bg, 0, none⟩ = some (.slice (some ⟨b, off, none⟩) n cap)
  w0 : W.cell? ⟨bw, 0, none⟩ = some (.slice (some ⟨db, 0, none⟩) n dc)
  id : ∀ p, p < n → W.cell? ⟨b, off + p * 10, none⟩ = some (.string (E p).id)
  tm : ∀ p, p < n → W.cell? ⟨b, off + p * 10 + 5, none⟩ = some (.int .i64 (E p).tm)
  wt : ∀ p, p < n → W.cell? ⟨db, 0 + p, none⟩ = some (.int .i64 (D p))

theorem cell_box1 {w : World} (cs : Array Value) (t : TypeId) (o : Nat) : (w.alloc (.cells cs t)).drew.cell? ⟨w.heap.size, o, none⟩ = cs[o]? := by
  show (w.alloc (.cells cs t)).cell? _ = _
  exact World.cell?_alloc_at _ _ _ _ rfl

set_option maxRecDepth 100000 in
set_option maxHeartbeats 2000000 in
theorem gfc_any {W : World} {bg bw b off n cap db dc : Nat} {E : Nat → Ev} {D : Nat → Int} (p q : Nat) (hp : p < n) (hq : q < n) (h : GfAt W bg bw b off n cap db dc E D) :
    Calls Tryz.prog 61 #[.int .i64 (p : Int), .int .i64 (q : Int), .pointer (some ⟨bg, 0, none⟩), .pointer (some ⟨bw, 0, none⟩)] W fun e w' => e = .returned (.int .i64 (cmpG E D p q)) ∧ Grw W w' := by
  obtain ⟨c0, c1, hid, htm, hwt⟩ := h
  have p1 := hid p hp
  have p2 := htm p hp
  have p3 := hwt p hp
  have q1 := hid q hq
  have q2 := htm q hq
  have q3 := hwt q hq
  have hv : Hid (or3 (cC (D q) (D p)) (cC (E p).tm (E q).tm) (cB (E p).id (E q).id) = cmpG E D p q) := rfl
  have hi0 : (0 : Int) ≤ (p : Int) := by omega
  have hi1 : (p : Int) < (n : Int) := by omega
  have hi2 : (0 : Int) ≤ (q : Int) := by omega
  have hi3 : (q : Int) < (n : Int) := by omega
  generalize (E p).id = ip at *
  generalize (E q).id = iq at *
  generalize (E p).tm = tp at *
  generalize (E q).tm = tq at *
  generalize D p = dp' at *
  generalize D q = dq' at *
  clear hid htm hwt
  go_enter Tryz.func61, Tryz.ntmps61
  go_wp2_with fail
  go_region_held3 (fun W => W.cell? ⟨bg, 0, none⟩ = some (.slice (some ⟨b, off, none⟩) n cap)) (go_keep) (fail)
  obtain ⟨W1, hW1⟩ : ∃ W1, W1 = W.drew := ⟨_, rfl⟩
  have hG1 : Hid (Grw W W1) := by unfold Hid; rw [hW1]; exact (Grw.refl W).drew
  have hc1 : W1.cell? ⟨bw, 0, none⟩ = some (.slice (some ⟨db, 0, none⟩) n dc) := by rw [hW1]; exact c1
  have hp1 : W1.cell? ⟨b, off + p * 10, none⟩ = some (.string ip) := by rw [hW1]; exact p1
  have hp2 : W1.cell? ⟨b, off + p * 10 + 5, none⟩ = some (.int .i64 tp) := by rw [hW1]; exact p2
  have hp3 : W1.cell? ⟨db, p, none⟩ = some (.int .i64 dp') := by rw [hW1, ← Nat.zero_add p]; exact p3
  have hq1 : W1.cell? ⟨b, off + q * 10, none⟩ = some (.string iq) := by rw [hW1]; exact q1
  have hq2 : W1.cell? ⟨b, off + q * 10 + 5, none⟩ = some (.int .i64 tq) := by rw [hW1]; exact q2
  have hq3 : W1.cell? ⟨db, q, none⟩ = some (.int .i64 dq') := by rw [hW1, ← Nat.zero_add q]; exact q3
  rw [← hW1]
  clear hW1 c0 c1 p1 p2 p3 q1 q2 q3
  go_wp2_with fail
  go_region_held3 (fun W => W.cell? ⟨bw, 0, none⟩ = some (.slice (some ⟨db, 0, none⟩) n dc) ∧ W.cell? ⟨b, off + p * 10, none⟩ = some (.string ip) ∧ W.cell? ⟨b, off + p * 10 + 5, none⟩ = some (.int .i64 tp) ∧ W.cell? ⟨db, p, none⟩ = some (.int .i64 dp') ∧ W.cell? ⟨b, off + q * 10, none⟩ = some (.string iq) ∧ W.cell? ⟨b, off + q * 10 + 5, none⟩ = some (.int .i64 tq) ∧ W.cell? ⟨db, q, none⟩ = some (.int .i64 dq'))
    (go_keep)
    (first
      | (go_at_call 64; refine (scmpG_any _ _ _).mono ?_; rintro e w' ⟨rfl, rfl⟩)
      | (go_at_call 63; refine (cmpI_any _ _ _).mono ?_; rintro e w' ⟨rfl, rfl⟩)
      | (go_at_call 62; refine (or3_any _ _ _ _ _ _ (cell_box1 _ _ 0) (cell_box1 _ _ 1) (cell_box1 _ _ 2)).mono ?_; rintro e w' ⟨rfl, rfl⟩))
  all_goals
    go_wp2
    go_ret
    exact ⟨ret_int hv.out, hG1.out.trans ((Grw.refl W1).alloc _).drew⟩
end Go.Proofs.YtfjfhnjoghlbfaaGreat
