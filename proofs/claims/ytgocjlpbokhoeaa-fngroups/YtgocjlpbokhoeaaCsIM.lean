import Derived.Test.YtgocjlpbokhoeaaCmpP
import Derived.Test.YtgocjlpbokhoeaaEntM
import Derived.Sort.Grow
import Derived.Test.YtgocjlpbokhoeaaProg
import Derived.Deep.RegionHeld3
import Derived.Lib.Walk
namespace Go.Proofs.Ytgocjlpbokhoeaa
open Go.RowKit
def eaV (l : List Ent) (s : Ent) : Ent := (lookE l s).getD Ent.none
def eaT (l : List Ent) (s : Ent) : Bool := (lookE l s).isSome
theorem findIdx_find (p : Ent → Bool) : ∀ l : List Ent, (l.find? p = none ∧ l.findIdx p = l.length) ∨ (∃ e, l.find? p = some e ∧ l.findIdx p < l.length ∧ eAt l (l.findIdx p) = e)
  | [] => Or.inl ⟨rfl, rfl⟩
  | a :: l => by
    rw [List.find?_cons, List.findIdx_cons]
    cases h : p a
    · rcases findIdx_find p l with ⟨h1, h2⟩ | ⟨e, h1, h2, h3⟩
      · exact Or.inl ⟨h1, by simp [h2]⟩
      · exact Or.inr ⟨e, h1, Nat.succ_lt_succ h2, by simpa [eAt] using h3⟩
    · exact Or.inr ⟨a, rfl, by simp, by simp [eAt]⟩
theorem posI_look (l : List Ent) (s : Ent) : (lookE l s = none ∧ posI l s = -1) ∨ (∃ e, lookE l s = some e ∧ 0 ≤ posI l s ∧ eAt l (posI l s).toNat = e) := by
  unfold posI lookE
  rcases findIdx_find (fun x => samB x s) l with ⟨h1, h2⟩ | ⟨e, h1, h2, h3⟩
  · exact Or.inl ⟨h1, by rw [if_neg (by omega)]⟩
  · exact Or.inr ⟨e, h1, by rw [if_pos h2]; omega, by rw [if_pos h2, Int.toNat_natCast]; exact h3⟩
theorem idsTo_mem {l : List Ent} : ∀ {n}, idsTo l n = true → ∀ i, i < n → (eAt l i).id.toList.isEmpty = false
  | 0, _, i, hi => absurd hi (Nat.not_lt_zero _)
  | n + 1, h, i, hi => by
    unfold idsTo at h
    rw [Bool.and_eq_true] at h
    by_cases e : i = n
    · subst e; simpa using h.2
    · exact idsTo_mem h.1 i (by omega)
theorem st_parts {l : List Ent} (h : stB l = true) : l.length ≤ 300 ∧ SrtE l ∧ ∀ x ∈ l, x.id.toList.isEmpty = false := by
  unfold stB at h
  rw [Bool.and_eq_true, Bool.and_eq_true] at h
  refine ⟨of_decide_eq_true h.2.1, srt_of h.2.2, fun x hx => ?_⟩
  obtain ⟨i, hi, rfl⟩ := List.mem_iff_getElem.1 hx
  rw [← eAt_get l i hi]
  exact idsTo_mem h.1 i hi
end Go.Proofs.Ytgocjlpbokhoeaa
namespace Go.Proofs.Ytgocjlpbokhoeaa
open Go.RowKit
def Grw (w w' : World) : Prop := Below w.heap.size w w' ∧ w.drawn ≤ w'.drawn
theorem Grw.below {w w' : World} (h : Grw w w') : Below w.heap.size w w' := h.1
theorem Grw.refl (w : World) : Grw w w := ⟨Below.refl _ _, Nat.le_refl _⟩
theorem Grw.trans {a b c : World} (h : Grw a b) (k : Grw b c) : Grw a c := ⟨h.1.trans (k.1.mono h.1.size), Nat.le_trans h.2 k.2⟩
theorem Grw.alloc {a b : World} (h : Grw a b) (o : Obj) : Grw a (b.alloc o) := ⟨h.1.alloc h.1.size o, h.2⟩
theorem Grw.drew {a b : World} (h : Grw a b) : Grw a b.drew := ⟨h.1.drew, Nat.le_succ_of_le h.2⟩
theorem Grw.setCell {a b : World} (h : Grw a b) {p : Addr} (hp : a.heap.size ≤ p.block) (u : Value) : Grw a (b.setCell p u) := ⟨h.1.setCell hp u, h.2⟩
theorem Grw.eq {w w' : World} (h : Grw w w') : ∃ q os, w' = Sort.grow (w.drewN q) os := by
  obtain ⟨⟨h1, h2, h3, h4, h5⟩, h6⟩ := h
  refine ⟨w'.drawn - w.drawn, w'.heap.extract w.heap.size w'.heap.size, ?_⟩
  have e1 : w'.heap = w.heap ++ w'.heap.extract w.heap.size w'.heap.size := by
    apply Array.ext_getElem?
    intro i
    rw [Array.getElem?_append]
    split
    · exact h5 i ‹_›
    · rw [Array.getElem?_extract]
      split
      · congr 1; omega
      · rw [Array.getElem?_eq_none]; omega
  have e2 : w'.drawn = w.drawn + (w'.drawn - w.drawn) := by omega
  obtain ⟨heap, tape, drawn, os, output⟩ := w'
  simp only [Sort.grow, World.drewN] at *
  subst h1 h2 h3
  congr 1
theorem grw_grow (w : World) (n : Nat) (os : Array Obj) : Grw w (Sort.grow (w.drewN n) os) :=
  ⟨⟨rfl, rfl, rfl, by simp [Sort.grow], fun k hk => by show (w.heap ++ os)[k]? = _; rw [Array.getElem?_append, if_pos hk]⟩, Nat.le_add_right _ _⟩
end Go.Proofs.Ytgocjlpbokhoeaa
namespace Go.Proofs.Ytgocjlpbokhoeaa
open Go.RowKit
abbrev slotV (e : Ent) : Value := .agg #[.string e.ty, .string e.key]
set_option maxRecDepth 100000 in
theorem bcmp_any (a b : ByteArray) (w : World) :
    Calls Try.prog 72 #[.string a, .string b] w fun e w' => e = .returned (.int .i64 (cB a b)) ∧ w' = w := by
  go_enter Try.func72, Try.ntmps72
  go_wp2
  rw [run_callFunc_extern Try.func83 (by kernel_rfl) (by kernel_rfl) (by kernel_rfl) (e := Extern.BytealgCompare.compare) (by kernel_rfl), Lib.run_compareString]
  simp only [Result.andThen]
  rw [Oper.upon_value]
  go_wp2
  go_ret
  exact ⟨rfl, rfl⟩
theorem scmp_any (a b : ByteArray) (w : World) :
    Calls Try.prog 69 #[.string a, .string b] w fun e w' => e = .returned (.int .i64 (cB a b)) ∧ w' = w := by
  go_enter Try.func69, Try.ntmps69
  go_wp2_with (go_at_call 72; refine (bcmp_any a b _).mono ?_; rintro e w' ⟨rfl, rfl⟩)
  go_ret
  exact ⟨rfl, rfl⟩
def orV (x y : Int) : Int := if x = 0 then y else x
set_option maxHeartbeats 400000 in
theorem or_any (b cap : Nat) (x y : Int) (w : World) (h0 : w.cell? ⟨b, 0, none⟩ = some (.int .i64 x)) (h1 : w.cell? ⟨b, 1, none⟩ = some (.int .i64 y)) :
    Calls Try.prog 68 #[.slice (some ⟨b, 0, none⟩) 2 cap] w fun e w' => e = .returned (.int .i64 (orV x y)) ∧ w' = w := by
  by_cases hx : x = 0
  · subst hx
    by_cases hy : y = 0
    · subst hy
      go_enter Try.func68, Try.ntmps68
      go_wp2
      refine wp_loop_rounds 3 ?_
      rw [rounds_succ]
      go_wp2
      rw [rounds_succ]
      go_wp2
      rw [rounds_succ]
      go_wp2
      go_ret
      exact ⟨rfl, rfl⟩
    · go_enter Try.func68, Try.ntmps68
      go_wp2
      refine wp_loop_rounds 3 ?_
      rw [rounds_succ]
      go_wp2
      rw [rounds_succ]
      go_wp2
      go_ret
      exact ⟨rfl, rfl⟩
  · go_enter Try.func68, Try.ntmps68
    go_wp2
    refine wp_loop_rounds 3 ?_
    rw [rounds_succ]
    go_wp2
    go_ret
    exact ⟨ret_int (by unfold orV; rw [if_neg hx]), rfl⟩
theorem cell_box3 {w : World} {o1 o2 : Obj} (cs : Array Value) (t : TypeId) (o : Nat) : (((w.alloc o1).alloc o2).alloc (.cells cs t)).drew.cell? ⟨w.heap.size + 1 + 1, o, none⟩ = cs[o]? := by
  show (((w.alloc o1).alloc o2).alloc (.cells cs t)).cell? _ = _
  exact World.cell?_alloc_at _ _ _ _ (by simp)
set_option maxRecDepth 100000 in
set_option maxHeartbeats 1000000 in
theorem cmpS_any (x y : Ent) (w : World) :
    Calls Try.prog 62 #[slotV x, slotV y] w fun e w' => e = .returned (.int .i64 (cmpE x y)) ∧ Grw w w' := by
  have hv : Hid (orV (cB x.ty y.ty) (cB x.key y.key) = cmpE x y) := by unfold Hid; rw [cmpE, orV]
  go_enter Try.func62, Try.ntmps62
  go_wp2_with fail
  go_region_held3 (fun W => W.cell? ⟨w.heap.size, 0, none⟩ = some (.string x.ty) ∧ W.cell? ⟨w.heap.size, 1, none⟩ = some (.string x.key) ∧ W.cell? ⟨w.heap.size + 1, 0, none⟩ = some (.string y.ty) ∧ W.cell? ⟨w.heap.size + 1, 1, none⟩ = some (.string y.key))
    (go_keep)
    (first
      | (go_at_call 69; refine (scmp_any _ _ _).mono ?_; rintro e w' ⟨rfl, rfl⟩)
      | (go_at_call 68; refine (or_any _ _ _ _ _ (cell_box3 _ _ 0) (cell_box3 _ _ 1)).mono ?_; rintro e w' ⟨rfl, rfl⟩))
  all_goals
    go_wp2
    go_ret
    exact ⟨ret_int hv.out, ((((Grw.refl w).alloc _).alloc _).alloc _).drew⟩
set_option maxHeartbeats 400000 in
theorem slot_any (x : Ent) (w : World) :
    Calls Try.prog 51 #[entV x] w fun e w' => e = .returned (slotV x) ∧ Grw w w' := by
  go_enter Try.func51, Try.ntmps51
  go_wp2
  exact bodyPost_ret (v := slotV x) (by simp [results, Try.results51, go_sem]) rfl ⟨rfl, by repeat' (first | exact Grw.refl _ | (refine Grw.alloc ?_ _) | (refine Grw.setCell ?_ (by simp) _))⟩
end Go.Proofs.Ytgocjlpbokhoeaa
