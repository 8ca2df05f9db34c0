import Derived.Test.YtfjfhnjoghlbfaaGreatBase
import Derived.Sort.Grow
import Derived.Test.YtfjfhnjoghlbfaaGreatProg
import Derived.Test.YtfjfhnjoghlbfaaGreatCmA
import Derived.Deep.RegionHeld3
import Derived.Lib.Walk
import Derived.Shelf.SlSortCmp.QuietGrown
/-
  New blocks and draws alone.
-/
namespace Go.Proofs.YtfjfhnjoghlbfaaGreat
open Go.RowKit

/-- w' is w with new blocks and draws. -/
def Grw (w w' : World) : Prop := Below w.heap.size w w' ∧ w.drawn ≤ w'.drawn
theorem Grw.below {w w' : World} (h : Grw w w') : Below w.heap.size w w' := h.1
theorem Grw.refl (w : World) : Grw w w := ⟨Below.refl _ _, Nat.le_refl _⟩
theorem Grw.trans {a b c : World} (h : Grw a b) (k : Grw b c) : Grw a c := ⟨h.1.trans (k.1.mono h.1.size), Nat.le_trans h.2 k.2⟩
theorem Grw.alloc {a b : World} (h : Grw a b) (o : Obj) : Grw a (b.alloc o) := ⟨h.1.alloc h.1.size o, h.2⟩
theorem Grw.drew {a b : World} (h : Grw a b) : Grw a b.drew := ⟨h.1.drew, Nat.le_succ_of_le h.2⟩
theorem Grw.drewN {a b : World} (h : Grw a b) (n : Nat) : Grw a (b.drewN n) := ⟨h.1.trans ⟨rfl, rfl, rfl, Nat.le_refl _, fun _ _ => rfl⟩, Nat.le_trans h.2 (Nat.le_add_right _ _)⟩
theorem Grw.setCell {a b : World} (h : Grw a b) {p : Addr} (hp : a.heap.size ≤ p.block) (u : Value) : Grw a (b.setCell p u) := ⟨h.1.setCell hp u, h.2⟩
theorem Grw.eq {w w' : World} (h : Grw w w') : ∃ q os, w' = Sort.grow (w.drewN q) os := by
  obtain ⟨⟨h1, h2, h3, h4, h5⟩, h6⟩ := h
  refine ⟨w'.drawn - w.drawn, w'.heap.extract w.heap.size w'.heap.size, ?_⟩
  have e1 : w'.heap = w.heap ++ w'.heap.extract w.heap.size w'.heap.size := by
    apply Array.ext_getElem?
    intro i
    rw [Array.getElem?_append]
    split
    · exact h5 i ‹_›
    · rw [Array.getElem?_extract]
      split
      · congr 1; omega
      · rw [Array.getElem?_eq_none]; omega
  have e2 : w'.drawn = w.drawn + (w'.drawn - w.drawn) := by omega
  obtain ⟨heap, tape, drawn, os, output⟩ := w'
  simp only [Sort.grow, World.drewN] at *
  subst h1 h2 h3
  congr 1
theorem grw_grow (w : World) (n : Nat) (os : Array Obj) : Grw w (Sort.grow (w.drewN n) os) :=
  ⟨⟨rfl, rfl, rfl, by simp [Sort.grow], fun k hk => by show (w.heap ++ os)[k]? = _; rw [Array.getElem?_append, if_pos hk]⟩, Nat.le_add_right _ _⟩
end Go.Proofs.YtfjfhnjoghlbfaaGreat
/-
  impl.compareSlots, (impl.Entry).slot and what they call.
-/
namespace Go.Proofs.YtfjfhnjoghlbfaaGreat
open Go.RowKit

/-- a slot as a value. -/
abbrev slotV (e : Ent) : Value := .agg #[.string e.ty, .string e.key]

set_option maxRecDepth 100000 in
theorem bcmp_any (a b : ByteArray) (w : World) :
    Calls Tryz.prog 85 #[.string a, .string b] w fun e w' => e = .returned (.int .i64 (cB a b)) ∧ w' = w := by
  go_enter Tryz.func85, Tryz.ntmps85
  go_wp2
  rw [run_callFunc_extern Tryz.func96 (by kernel_rfl) (by kernel_rfl) (by kernel_rfl) (e := Extern.BytealgCompare.compare) (by kernel_rfl), Lib.run_compareString]
  simp only [Result.andThen]
  rw [Oper.upon_value]
  go_wp2
  go_ret
  exact ⟨rfl, rfl⟩

theorem scmp_any (a b : ByteArray) (w : World) :
    Calls Tryz.prog 64 #[.string a, .string b] w fun e w' => e = .returned (.int .i64 (cB a b)) ∧ w' = w := by
  go_enter Tryz.func64, Tryz.ntmps64
  go_wp2_with (go_at_call 85; refine (bcmp_any a b _).mono ?_; rintro e w' ⟨rfl, rfl⟩)
  go_ret
  exact ⟨rfl, rfl⟩

def orV (x y : Int) : Int := if x = 0 then y else x
set_option maxHeartbeats 400000 in
theorem or_any (b cap : Nat) (x y : Int) (w : World) (h0 : w.cell? ⟨b, 0, none⟩ = some (.int .i64 x)) (h1 : w.cell? ⟨b, 1, none⟩ = some (.int .i64 y)) :
    Calls Tryz.prog 62 #[.slice (some ⟨b, 0, none⟩) 2 cap] w fun e w' => e = .returned (.int .i64 (orV x y)) ∧ w' = w := by
  by_cases hx : x = 0
  · subst hx
    by_cases hy : y = 0
    · subst hy
      go_enter Tryz.func62, Tryz.ntmps62
      go_wp2
      refine wp_loop_rounds 3 ?_
      rw [rounds_succ]
      go_wp2
      rw [rounds_succ]
      go_wp2
      rw [rounds_succ]
      go_wp2
      go_ret
      exact ⟨rfl, rfl⟩
    · go_enter Tryz.func62, Tryz.ntmps62
      go_wp2
      refine wp_loop_rounds 3 ?_
      rw [rounds_succ]
      go_wp2
      rw [rounds_succ]
      go_wp2
      go_ret
      exact ⟨rfl, rfl⟩
  · go_enter Tryz.func62, Tryz.ntmps62
    go_wp2
    refine wp_loop_rounds 3 ?_
    rw [rounds_succ]
    go_wp2
    go_ret
    exact ⟨ret_int (by unfold orV; rw [if_neg hx]), rfl⟩

theorem cell_box3 {w : World} {o1 o2 : Obj} (cs : Array Value) (t : TypeId) (o : Nat) : (((w.alloc o1).alloc o2).alloc (.cells cs t)).drew.cell? ⟨w.heap.size + 1 + 1, o, none⟩ = cs[o]? := by
  show (((w.alloc o1).alloc o2).alloc (.cells cs t)).cell? _ = _
  exact World.cell?_alloc_at _ _ _ _ (by simp)

set_option maxRecDepth 100000 in
set_option maxHeartbeats 1000000 in
theorem cmpS_any (x y : Ent) (w : World) :
    Calls Tryz.prog 131 #[slotV x, slotV y] w fun e w' => e = .returned (.int .i64 (cmpE x y)) ∧ Grw w w' := by
  have hv : Hid (orV (cB x.ty y.ty) (cB x.key y.key) = cmpE x y) := by unfold Hid; rw [cmpE, orV]
  go_enter Tryz.func131, Tryz.ntmps131
  go_wp2_with fail
  go_region_held3 (fun W => W.cell? ⟨w.heap.size, 0, none⟩ = some (.string x.ty) ∧ W.cell? ⟨w.heap.size, 1, none⟩ = some (.string x.key) ∧ W.cell? ⟨w.heap.size + 1, 0, none⟩ = some (.string y.ty) ∧ W.cell? ⟨w.heap.size + 1, 1, none⟩ = some (.string y.key))
    (go_keep)
    (first
      | (go_at_call 64; refine (scmp_any _ _ _).mono ?_; rintro e w' ⟨rfl, rfl⟩)
      | (go_at_call 62; refine (or_any _ _ _ _ _ (cell_box3 _ _ 0) (cell_box3 _ _ 1)).mono ?_; rintro e w' ⟨rfl, rfl⟩))
  all_goals
    go_wp2
    go_ret
    exact ⟨ret_int hv.out, ((((Grw.refl w).alloc _).alloc _).alloc _).drew⟩

set_option maxHeartbeats 400000 in
theorem slot_any (x : Ent) (w : World) :
    Calls Tryz.prog 127 #[entV x] w fun e w' => e = .returned (slotV x) ∧ Grw w w' := by
  go_enter Tryz.func127, Tryz.ntmps127
  go_wp2
  exact bodyPost_ret (v := slotV x) (by simp [results, Tryz.results127, go_sem]) rfl ⟨rfl, by repeat' (first | exact Grw.refl _ | (refine Grw.alloc ?_ _) | (refine Grw.setCell ?_ (by simp) _))⟩
end Go.Proofs.YtfjfhnjoghlbfaaGreat
/-
  impl.inOrder, impl.changesOk, impl.StateOk.
-/
namespace Go.Proofs.YtfjfhnjoghlbfaaGreat
open Go.RowKit

theorem slot_gr (x : Ent) (w : World) : Calls Tryz.prog 127 #[entV x] w fun e w' => e = .returned (slotV x) ∧ ∃ q os', w' = Sort.grow (w.drewN q) os' :=
  (slot_any x w).mono fun _ _ h => ⟨h.1, h.2.eq⟩
theorem cmpS_gr (x y : Ent) (w : World) : Calls Tryz.prog 131 #[slotV x, slotV y] w fun e w' => e = .returned (.int .i64 (cmpE x y)) ∧ ∃ q os', w' = Sort.grow (w.drewN q) os' :=
  (cmpS_any x y w).mono fun _ _ h => ⟨h.1, h.2.eq⟩

theorem inOrderI_zero (a : Option Addr) (cap : Nat) (w : World) :
    Calls Tryz.prog 129 #[.slice a 0 cap] w fun e w' => e = .returned (.bool true) ∧ w' = w := by
  go_enter Tryz.func129, Tryz.ntmps129
  go_wp2
  refine wp_loop_rounds 1 ?_
  rw [rounds_succ]
  go_wp2
  go_ret
  exact ⟨rfl, rfl⟩

set_option maxRecDepth 100000 in
set_option maxHeartbeats 1000000 in
theorem inOrderI_any (b off cap : Nat) (l : List Ent) (w : World) (hl0 : 0 < l.length) (hn : l.length ≤ maxLen) (hb : b < w.heap.size)
    (h1 : ∀ i, i < l.length → w.cell? ⟨b, off + i * 3, none⟩ = some (.string (eAt l i).ty)) (h2 : ∀ i, i < l.length → w.cell? ⟨b, off + i * 3 + 1, none⟩ = some (.string (eAt l i).key)) (h3 : ∀ i, i < l.length → w.cell? ⟨b, off + i * 3 + 2, none⟩ = some (.string (eAt l i).id)) :
    Calls Tryz.prog 129 #[.slice (some ⟨b, off, none⟩) l.length cap] w fun e w' => e = .returned (.bool (ordB l)) ∧ Below w.heap.size w w' := by
  unfold maxLen at hn
  go_enter Tryz.func129, Tryz.ntmps129
  go_wp2
  go_loopw [3] (fun i wr => ∃ k : Nat, k + 1 ≤ l.length ∧ i = .int .i64 ((k : Int) + 1) ∧ Hid (ordTo l (k + 1) = true) ∧ Below w.heap.size w wr) (fun i _ => l.length - (intOf i).toNat)
  case atStart => exact ⟨0, hl0, rfl, rfl, Below.refl _ _⟩
  case round =>
    obtain ⟨k, hk, rfl, hto, hbel⟩ := hrel
    by_cases hlt : k + 1 < l.length
    · have hbr : b < wr.heap.size := Nat.lt_of_lt_of_le hb hbel.size
      have a1 : ∀ n os, (Sort.grow (wr.drewN n) os).cell? ⟨b, off + k * 3, none⟩ = some (.string (eAt l k).ty) := cell_grown (by exact hbr) ((hbel.cell (by exact hb)).trans (h1 k (by omega)))
      have a2 : ∀ n os, (Sort.grow (wr.drewN n) os).cell? ⟨b, off + k * 3 + 1, none⟩ = some (.string (eAt l k).key) := cell_grown (by exact hbr) ((hbel.cell (by exact hb)).trans (h2 k (by omega)))
      have a3 : ∀ n os, (Sort.grow (wr.drewN n) os).cell? ⟨b, off + k * 3 + 2, none⟩ = some (.string (eAt l k).id) := cell_grown (by exact hbr) ((hbel.cell (by exact hb)).trans (h3 k (by omega)))
      have b1 : ∀ n os, (Sort.grow (wr.drewN n) os).cell? ⟨b, off + (k + 1) * 3, none⟩ = some (.string (eAt l (k + 1)).ty) := cell_grown (by exact hbr) ((hbel.cell (by exact hb)).trans (h1 (k + 1) (by omega)))
      have b2 : ∀ n os, (Sort.grow (wr.drewN n) os).cell? ⟨b, off + (k + 1) * 3 + 1, none⟩ = some (.string (eAt l (k + 1)).key) := cell_grown (by exact hbr) ((hbel.cell (by exact hb)).trans (h2 (k + 1) (by omega)))
      have b3 : ∀ n os, (Sort.grow (wr.drewN n) os).cell? ⟨b, off + (k + 1) * 3 + 2, none⟩ = some (.string (eAt l (k + 1)).id) := cell_grown (by exact hbr) ((hbel.cell (by exact hb)).trans (h3 (k + 1) (by omega)))
      have hkl : k < l.length := by omega
      have ew : IntKind.i64.wrap (k : Int) = (k : Int) := by rw [IntKind.wrap_i64]; omega
      have z1 : (0 : Int) ≤ (k : Int) + 1 := by omega
      have z2 : (k : Int) + 1 < (l.length : Int) := by omega
      have z3 : ((k : Int) + 1).toNat = k + 1 := by omega
      have hbf : Hid (befB (eAt l k) (eAt l (k + 1)) = decide (cmpE (eAt l k) (eAt l (k + 1)) < 0)) := cmpE_bef _ _
      clear h1 h2 h3
      go_wp2_with fail
      refine wp_region_quiet_grown (by kernel_rfl) (by kernel_rfl) ?_
      repeat (quiet_step (first
        | (go_at_call 127; exact Calls.grown_of (slot_gr _ _))
        | (go_at_call 131; exact Calls.grown_of (cmpS_gr _ _ _))))
      refine wpQuiet_nil ?_
      intro _ hw'
      obtain ⟨⟨nq, osq⟩, hw''⟩ := hw'
      subst hw''
      have hbw := hbel.trans ((grw_grow wr nq osq).below.mono hbel.size)
      clear a1 a2 a3 b1 b2 b3
      generalize Sort.grow (wr.drewN nq) osq = wz at *
      generalize cmpE (eAt l k) (eAt l (k + 1)) = c at *
      by_cases hc : c < 0
      · have hc2 : ¬ (0 ≤ c) := by omega
        have hB : befB (eAt l k) (eAt l (k + 1)) = true := by rw [hbf.out]; exact decide_eq_true hc
        have hto2 : Hid (ordTo l (k + 1 + 1) = true) := by unfold Hid; rw [ordTo, hto.out, show k + 1 - 1 = k from rfl, hB]; simp
        clear hB hbf
        go_wp2
        go_roundw
        case rel => exact ⟨k + 1, by omega, by go_num, hto2, hbw⟩
        case measure => simp [intOf]; omega
      · have hc2 : 0 ≤ c := by omega
        have hB : befB (eAt l k) (eAt l (k + 1)) = false := by rw [hbf.out]; exact decide_eq_false hc
        have hto2 : Hid (ordB l = false) := by unfold Hid; rw [ordB, ordTo_le l l.length (k + 1) hlt (by rw [ordTo, show k + 1 - 1 = k from rfl, hB]; simp)]
        clear hB hbf
        go_wp2
        go_ret
        exact ⟨ret_bool hto2.out.symm, hbw⟩
    · go_wp2
      go_ret
      exact ⟨ret_bool (by rw [ordB, show l.length = k + 1 by omega, hto.out]), hbel⟩

theorem inOrderI_sl {a : Option Addr} {cap : Nat} {l : List Ent} (w : World) (h : SlE w a cap l) :
    Calls Tryz.prog 129 #[.slice a l.length cap] w fun e w' => e = .returned (.bool (ordB l)) ∧ Below w.heap.size w w' := by
  rcases h.cells with rfl | ⟨b, off, rfl, hb, h1, h2, h3⟩
  · refine (inOrderI_zero a cap w).mono ?_
    rintro e w' ⟨rfl, rfl⟩
    exact ⟨rfl, Below.refl _ _⟩
  · by_cases h0 : 0 < l.length
    · exact inOrderI_any b off cap l w h0 (Nat.le_trans h.le h.max) hb h1 h2 h3
    · obtain rfl : l = [] := List.eq_nil_of_length_eq_zero (by omega)
      refine (inOrderI_zero _ cap w).mono ?_
      rintro e w' ⟨rfl, rfl⟩
      exact ⟨rfl, Below.refl _ _⟩

set_option maxHeartbeats 400000 in
theorem takenOut_any (x : Ent) (w : World) :
    Calls Tryz.prog 128 #[entV x] w fun e w' => e = .returned (.bool (x.id.toList.isEmpty)) ∧ Below w.heap.size w w' := by
  cases h : x.id.toList.isEmpty
  all_goals
    go_enter Tryz.func128, Tryz.ntmps128
    go_wp2
    go_ret
    exact ⟨ret_bool (by first | rfl | simp [h]), (Below.refl _ _).alloc (Nat.le_refl _) _⟩

theorem idxF_zero (a : Option Addr) (cap : Nat) (fv : Value) (w : World) :
    Calls Tryz.prog 130 #[.slice a 0 cap, fv] w fun e w' => e = .returned (.int .i64 (-1)) ∧ w' = w := by
  go_enter Tryz.func130, Tryz.ntmps130
  go_wp2
  refine wp_loop_rounds 1 ?_
  rw [rounds_succ]
  go_wp2
  go_ret
  exact ⟨rfl, rfl⟩

set_option maxRecDepth 100000 in
set_option maxHeartbeats 1000000 in
/-- the first entry without an Id. -/
theorem idxF_any (b off cap : Nat) (l : List Ent) (w : World) (hn : l.length ≤ maxLen) (hb : b < w.heap.size)
    (h1 : ∀ i, i < l.length → w.cell? ⟨b, off + i * 3, none⟩ = some (.string (eAt l i).ty)) (h2 : ∀ i, i < l.length → w.cell? ⟨b, off + i * 3 + 1, none⟩ = some (.string (eAt l i).key)) (h3 : ∀ i, i < l.length → w.cell? ⟨b, off + i * 3 + 2, none⟩ = some (.string (eAt l i).id)) :
    Calls Tryz.prog 130 #[.slice (some ⟨b, off, none⟩) l.length cap, .func (.func 128) #[] #[]] w fun e w' => ∃ z : Int, e = .returned (.int .i64 z) ∧ Hid (decide (0 ≤ z) = !idsTo l l.length) ∧ Below w.heap.size w w' := by
  unfold maxLen at hn
  go_enter Tryz.func130, Tryz.ntmps130
  go_wp2
  go_loopw [8] (fun i wr => ∃ k : Nat, k ≤ l.length ∧ i = .int .i64 k ∧ Hid (idsTo l k = true) ∧ Below w.heap.size w wr) (fun i _ => l.length - (intOf i).toNat)
  case atStart => exact ⟨0, Nat.zero_le _, rfl, rfl, Below.refl _ _⟩
  case round =>
    obtain ⟨k, hk, rfl, hto, hbel⟩ := hrel
    by_cases hlt : k < l.length
    · have a1 : wr.cell? ⟨b, off + k * 3, none⟩ = some (.string (eAt l k).ty) := (hbel.cell (by exact hb)).trans (h1 k hlt)
      have a2 : wr.cell? ⟨b, off + k * 3 + 1, none⟩ = some (.string (eAt l k).key) := (hbel.cell (by exact hb)).trans (h2 k hlt)
      have a3 : wr.cell? ⟨b, off + k * 3 + 2, none⟩ = some (.string (eAt l k).id) := (hbel.cell (by exact hb)).trans (h3 k hlt)
      clear h1 h2 h3
      cases he : (eAt l k).id.toList.isEmpty
      · have hto2 : Hid (idsTo l (k + 1) = true) := by unfold Hid; rw [idsTo, hto.out, he]; rfl
        go_wp2_with (go_at_call 128; refine (takenOut_any (eAt l k) _).mono ?_; rintro e w1 ⟨rfl, hb1⟩; rw [he])
        go_roundw
        case rel => exact ⟨k + 1, by omega, by go_num, hto2, hbel.trans (hb1.mono hbel.size)⟩
        case measure => simp [intOf]; omega
      · have hto2 : Hid (idsTo l l.length = false) := idsTo_le l l.length k hlt (by rw [idsTo, he]; simp)
        go_wp2_with (go_at_call 128; refine (takenOut_any (eAt l k) _).mono ?_; rintro e w1 ⟨rfl, hb1⟩; rw [he])
        go_ret
        exact ⟨(k : Int), rfl, by unfold Hid; rw [hto2.out]; simp, hbel.trans (hb1.mono hbel.size)⟩
    · have hkn : l.length = k := by omega
      have hto2 : Hid (idsTo l l.length = true) := by rw [hkn]; exact hto
      clear h1 h2 h3 hto
      go_wp2
      go_ret
      exact ⟨-1, rfl, by unfold Hid; rw [hto2.out]; rfl, hbel⟩

theorem idxF_sl {a : Option Addr} {cap : Nat} {l : List Ent} (w : World) (h : SlE w a cap l) :
    Calls Tryz.prog 130 #[.slice a l.length cap, .func (.func 128) #[] #[]] w fun e w' => ∃ z : Int, e = .returned (.int .i64 z) ∧ Hid (decide (0 ≤ z) = !idsTo l l.length) ∧ Below w.heap.size w w' := by
  rcases h.cells with rfl | ⟨b, off, rfl, hb, h1, h2, h3⟩
  · refine (idxF_zero a cap _ w).mono ?_
    rintro e w' ⟨rfl, rfl⟩
    exact ⟨-1, rfl, rfl, Below.refl _ _⟩
  · exact idxF_any b off cap l w (Nat.le_trans h.le h.max) hb h1 h2 h3

set_option maxHeartbeats 400000 in
theorem contF_sl {a : Option Addr} {cap : Nat} {l : List Ent} (w : World) (h : SlE w a cap l) :
    Calls Tryz.prog 125 #[.slice a l.length cap, .func (.func 128) #[] #[]] w fun e w' => e = .returned (.bool (!idsTo l l.length)) ∧ Below w.heap.size w w' := by
  go_enter Tryz.func125, Tryz.ntmps125
  go_wp2_with fail
  refine (idxF_sl _ h).mono ?_
  rintro e w1 ⟨z, rfl, hz, hb1⟩
  go_wp2
  go_ret
  exact ⟨ret_bool hz.out, hb1⟩

set_option maxHeartbeats 1000000 in
theorem stateI_sl {a : Option Addr} {cap : Nat} {l : List Ent} (w : World) (h : SlE w a cap l) :
    Calls Tryz.prog 124 #[.slice a l.length cap] w fun e w' => e = .returned (.bool (stB l)) ∧ Below w.heap.size w w' := by
  have hn := Nat.le_trans h.le h.max
  unfold maxLen at hn
  by_cases h3 : l.length ≤ 300
  · have hv : Hid (stB l = (ordB l && idsTo l l.length)) := by unfold Hid stB; rw [decide_eq_true h3, Bool.true_and, Bool.and_comm]
    cases ho : ordB l
    · have hv2 : Hid (stB l = false) := by rw [ho, Bool.false_and] at hv; exact hv
      go_enter Tryz.func124, Tryz.ntmps124
      go_wp2_with (go_at_call 129; refine (inOrderI_sl _ h).mono ?_; rintro e w1 ⟨rfl, hb1⟩; rw [ho])
      go_ret
      exact ⟨ret_bool hv2.out.symm, hb1⟩
    · have hv2 : Hid (stB l = idsTo l l.length) := by rw [ho, Bool.true_and] at hv; exact hv
      go_enter Tryz.func124, Tryz.ntmps124
      go_wp2_with (first
        | (go_at_call 129; refine (inOrderI_sl _ h).mono ?_; rintro e w1 ⟨rfl, hb1⟩; rw [ho])
        | (go_at_call 125; refine (contF_sl _ (h.below hb1)).mono ?_; rintro e w2 ⟨rfl, hb2⟩))
      go_ret
      exact ⟨ret_bool hv2.out.symm, hb1.trans (hb2.mono hb1.size)⟩
  · have hv : Hid (stB l = false) := by unfold Hid stB; rw [decide_eq_false h3]; simp
    go_enter Tryz.func124, Tryz.ntmps124
    go_wp2
    go_ret
    exact ⟨ret_bool hv.out.symm, Below.refl _ _⟩
end Go.Proofs.YtfjfhnjoghlbfaaGreat
