/-
  slices.Compact at a row of slots of the call's own.
-/
import Derived.Test.YtjfeloagimljoaaSlt
import Derived.Laws.OwnMore
import Derived.Laws.StructEq
import Derived.Laws.IdiomCopy
import Derived.BigQuiet
namespace Go.Proofs.Ytjfeloagimljoaa
open Go.RowKit

theorem OwnO.at {w : World} {base g n cap : Nat} {l : List Ent} (h : OwnO w base (.slice (some ⟨g, 0, none⟩) n cap) l) {i : Nat} (hi : i < l.length) : w.cell? ⟨g, i * 2, none⟩ = some (.string (eAt l i).ty) ∧ w.cell? ⟨g, i * 2 + 1, none⟩ = some (.string (eAt l i).key) := by
  obtain ⟨h1, h2⟩ := h
  rcases h2 with ⟨e, _⟩ | ⟨g', cap', cur, e, hg, hh, hn, hc, hcs, hx⟩
  · cases e
  · injection e with e _ _; injection e with e; injection e with e _ _
    subst e
    have hcell : ∀ j, j < l.length * 2 → w.cell? ⟨g, j, none⟩ = (encOL l)[j]? := by
      intro j hj
      rw [← hx, List.getElem?_take, if_pos hj]
      simp [World.cell?, hh]
    exact ⟨by rw [hcell _ (by omega)]; exact (encOL_get l i hi).1, by rw [hcell _ (by omega)]; exact (encOL_get l i hi).2⟩
theorem OwnO.fz {w : World} {base g n cap : Nat} {l : List Ent} (h : OwnO w base (.slice (some ⟨g, 0, none⟩) n cap) l) (o : Nat) : w.frozen? ⟨g, o, none⟩ = false := by
  obtain ⟨h1, h2⟩ := h
  rcases h2 with ⟨e, _⟩ | ⟨g', cap', cur, e, hg, hh, hn, hc, hcs, hx⟩
  · cases e
  · injection e with e _ _; injection e with e; injection e with e _ _
    subst e
    simp [World.frozen?, hh]
theorem encOL_take (l : List Ent) (m : Nat) : (encOL l).take (m * 2) = encOL (l.take m) := by
  induction l generalizing m with
  | nil => simp [encOL]
  | cons x l ih =>
    cases m with
    | zero => simp [encOL]
    | succ m =>
      have e1 : encOL (x :: l) = .string x.ty :: .string x.key :: encOL l := by simp [encOL, encO]
      have e2 : encOL (x :: l.take m) = .string x.ty :: .string x.key :: encOL (l.take m) := by simp [encOL, encO]
      rw [e1, List.take_succ_cons, e2, show (m + 1) * 2 = m * 2 + 2 by omega, List.take_succ_cons, List.take_succ_cons, ih]
theorem OwnO.take {w : World} {base g n cap : Nat} {l : List Ent} (h : OwnO w base (.slice (some ⟨g, 0, none⟩) n cap) l) {m : Nat} (hm : m ≤ l.length) : OwnO w base (.slice (some ⟨g, 0, none⟩) m cap) (l.take m) := by
  obtain ⟨h1, h2⟩ := h
  have e0 : (l.take m).length = m := by rw [List.length_take]; omega
  refine ⟨by rw [encOL_len], ?_⟩
  rcases h2 with ⟨e, _⟩ | ⟨g', cap', cur, e, hg, hh, hn, hc, hcs, hx⟩
  · cases e
  · injection e with e e2 e3; injection e with e; injection e with e _ _
    subst e e3
    refine Or.inr ⟨g, cap, cur, by rw [e0], hg, hh, by omega, hc, hcs, ?_⟩
    rw [e0, ← encOL_take, ← hx, List.take_take]
    congr 1
    omega
theorem encOL_set (l : List Ent) (k : Nat) (z : Ent) : ((encOL l).set (k * 2) (.string z.ty)).set (k * 2 + 1) (.string z.key) = encOL (l.set k z) := by
  induction l generalizing k with
  | nil => simp [encOL]
  | cons x l ih =>
    have e1 : ∀ y : Ent, ∀ r, encOL (y :: r) = .string y.ty :: .string y.key :: encOL r := fun y r => by simp [encOL, encO]
    cases k with
    | zero => rw [List.set_cons_zero, e1, e1]; rfl
    | succ k => rw [List.set_cons_succ, e1, e1, show (k + 1) * 2 = k * 2 + 2 by omega, List.set_cons_succ, List.set_cons_succ, List.set_cons_succ, List.set_cons_succ, ih]
theorem OwnO.put {w : World} {base g n cap : Nat} {l : List Ent} (h : OwnO w base (.slice (some ⟨g, 0, none⟩) n cap) l) (hn : n = l.length) (k : Nat) (z : Ent) :
    OwnO ((w.setCell ⟨g, k * 2, none⟩ (.string z.ty)).setCell ⟨g, k * 2 + 1, none⟩ (.string z.key)) base (.slice (some ⟨g, 0, none⟩) n cap) (l.set k z) := by
  subst hn
  unfold OwnO at h ⊢
  rw [List.length_set, ← encOL_set]
  exact (World.ownsRow.stored (World.ownsRow.stored h (k * 2) (.string z.ty)).1 (k * 2 + 1) (.string z.key)).1

set_option maxRecDepth 100000 in
theorem eqSlt (x y : Ent) (w : World) : Sem.run Try.prog (Go.binOp BinOp.eql 42 (slotV x) (slotV y)) w = .ok (Value.bool (samB x y)) w := by
  have u9 := Try.underlying9
  have a9 := Try.isAgg9
  have z9 := Try.sizeOf9
  have hS : Try.prog.underlying 42 = some (.struct (Try.prog.fieldsOf 42)) := by kernel_rfl
  have hp : Try.prog.stoodInHeld 42 = false := by kernel_rfl
  rw [run_eql_struct, show (10000 : Nat) = 9999 + 1 from rfl, run_equalIn_agg w 9999 42 _ _ hS hp]
  simp only [Program.fieldsOf, Try.underlying42]
  go_simp
  unfold samB
  by_cases h1 : x.ty.toList = y.ty.toList <;> by_cases h2 : x.key.toList = y.key.toList <;> simp [h1, h2]

set_option maxRecDepth 100000 in
theorem neSlt (x y : Ent) (w : World) : Sem.run Try.prog (Go.binOp BinOp.neq 42 (slotV x) (slotV y)) w = .ok (Value.bool (!samB x y)) w := by
  have h := eqSlt x y w
  rw [run_eql_struct] at h
  rw [run_neq_struct]
  cases hr : (Op.equalIn 10000 42 (slotV x) (slotV y)).run Try.prog w with
  | ok b w' =>
    rw [hr] at h
    simp only [Result.andThen, Result.ok.injEq, Value.bool.injEq] at h
    simp [Result.andThen, h.1, h.2]
  | halt _ => rw [hr] at h; cases h
theorem clrO (w : World) (ty : TypeId) (b o c : Nat) (hc0 : (w.cell? ⟨b, o, none⟩).isSome = true) (hc1 : (w.cell? ⟨b, o + 1, none⟩).isSome = true) (hf : ∀ j, w.frozen? ⟨b, j, none⟩ = false) :
    (Builtin.clear_ #[27] ty #[.slice (some ⟨b, o, none⟩) 1 c]).run Try.prog w = .ok (.tuple #[]) ((w.setCell ⟨b, o, none⟩ (.string ByteArray.empty)).setCell ⟨b, o + 1, none⟩ (.string ByteArray.empty)) := by
  have hv : ∀ w, (zeroValue 42).run Try.prog w = .ok (.agg #[.string ByteArray.empty, .string ByteArray.empty]) w := fun _ => by kernel_rfl
  have hst := run_storeCells_cells (P := Try.prog) b o [.string ByteArray.empty, .string ByteArray.empty] 0 w (fun j hj => by
    match j, hj with
    | 0, _ => exact hc0
    | 1, _ => exact hc1) (fun j _ => hf _) (fun v hv' => by
    simp only [List.mem_cons, List.not_mem_nil, or_false] at hv'
    rcases hv' with rfl | rfl <;> rfl)
  simp only [Nat.add_zero] at hst
  have hz : (Builtin.zeroCells (Value.agg #[.string ByteArray.empty, .string ByteArray.empty]).cells 1).toList = [.string ByteArray.empty, .string ByteArray.empty] := by kernel_rfl
  simp [Builtin.clear_, run_underlying Try.underlying27, hv, hz, hst]
  rfl

/-- what Compact answers: the list l' in the row of v. -/
def CpPost (w : World) (base : Nat) (l' : List Ent) (e : Ending) (w' : World) : Prop := ∃ v', e = .returned v' ∧ OwnO w' base v' l' ∧ Below base w w'

theorem ent_ne {x y : Ent} (h : ¬ (x.ty = y.ty ∧ x.key = y.key)) : (x.ty.toList == y.ty.toList && x.key.toList == y.key.toList) = false := by
  cases hb : (x.ty.toList == y.ty.toList && x.key.toList == y.key.toList)
  · rfl
  · rw [Bool.and_eq_true] at hb
    exact absurd ((samB_iff x y).1 (by unfold samB; rw [hb.1, hb.2]; rfl)) h

set_option maxRecDepth 100000 in
set_option maxHeartbeats 2000000 in
theorem cpO_strict {w : World} {base g n cap : Nat} {l : List Ent} (h : OwnO w base (.slice (some ⟨g, 0, none⟩) n cap) l) (hn : n = l.length) (hl : l.length ≤ 1000) (hbg : base ≤ w.heap.size)
    (hne : ∀ i, i + 1 < l.length → ¬ ((eAt l (i + 1)).ty = (eAt l i).ty ∧ (eAt l (i + 1)).key = (eAt l i).key)) :
    Calls Try.prog 24 #[.slice (some ⟨g, 0, none⟩) n cap] w (CpPost w base l) := by
  by_cases h2 : n < 2
  · go_enter Try.func24, Try.ntmps24
    go_wp2
    go_ret
    exact ⟨_, rfl, h, Below.refl _ _⟩
  · have hn3 : n ≤ 1000 := by omega
    have Hn : Hid (n = l.length) := hn
    have Hne : Hid (_) := hne
    clear hne hn
    go_enter Try.func24, Try.ntmps24
    go_wp2_with fail
    go_loopw [3] (fun s3 wr => ∃ k : Nat, 1 ≤ k ∧ k ≤ n ∧ s3 = .int .i64 (k : Int) ∧ Below w.heap.size w wr) (fun s3 _ => n - (intOf s3).toNat)
    case atStart => exact ⟨1, Nat.le_refl _, by omega, rfl, Below.refl _ _⟩
    case round =>
      obtain ⟨k, hk1, hk, rfl, hb⟩ := hrel
      by_cases hlt : k < n
      · have hr := h.below hb
        obtain ⟨a1, a2⟩ := hr.at (i := k) (by rw [← Hn.out]; exact hlt)
        obtain ⟨b1, b2⟩ := hr.at (i := k - 1) (by rw [← Hn.out]; omega)
        have hd : ¬ ((eAt l k).ty = (eAt l (k - 1)).ty ∧ (eAt l k).key = (eAt l (k - 1)).key) := by
          have := Hne.out (k - 1) (by rw [← Hn.out]; omega)
          rw [show k - 1 + 1 = k by omega] at this
          exact this
        have hd2 : samB (eAt l k) (eAt l (k - 1)) = false := ent_ne hd
        clear hd hr
        generalize eAt l k = x at *
        generalize eAt l (k - 1) = y at *
        have hq : ∀ W : World, Sem.run Try.prog (Go.binOp BinOp.eql 42 (.agg #[.string x.ty, .string x.key]) (.agg #[.string y.ty, .string y.key])) W = .ok (Value.bool false) W := fun W => by rw [← hd2]; exact eqSlt x y W
        clear hd2
        go_wp2_with fail
        go_quiet (fail)
        have hwq : Below w.heap.size w (wr.drewN nq) := hb.trans (Dr.below ⟨nq, rfl⟩ _)
        go_wp2
        go_roundw
        case rel => exact ⟨k + 1, by omega, by omega, by go_num, hwq⟩
        case measure => simp [intOf]; omega
      · go_wp2
        go_ret
        exact ⟨_, rfl, h.below hb, hb.mono hbg⟩

set_option maxRecDepth 100000 in
set_option maxHeartbeats 4000000 in
theorem cpO_dup {w : World} {base g k0 cap : Nat} {l : List Ent} (h : OwnO w base (.slice (some ⟨g, 0, none⟩) (k0 + 2) cap) l) (hn : k0 + 2 = l.length) (hk0 : 1 ≤ k0) (hl : l.length ≤ 1000) (hbg : base ≤ w.heap.size) (hg : base ≤ g)
    (hne : ∀ i, i + 1 < k0 → samB (eAt l (i + 1)) (eAt l i) = false) (heq : samB (eAt l k0) (eAt l (k0 - 1)) = true) (hlast : samB (eAt l (k0 + 1)) (eAt l k0) = false) :
    Calls Try.prog 24 #[.slice (some ⟨g, 0, none⟩) (k0 + 2) cap] w (CpPost w base ((l.set k0 (eAt l (k0 + 1))).take (k0 + 1))) := by
  have hn3 : k0 ≤ 1000 := by omega
  have Hn : Hid (k0 + 2 = l.length) := hn
  have Hne : Hid (_) := hne
  have Hcap : Hid (k0 + 2 ≤ cap) := by
    rcases h.2 with ⟨e, _⟩ | ⟨g', cap', cur, e, _, _, h3, _⟩
    · cases e
    · injection e with _ _ e3
      subst e3
      show k0 + 2 ≤ cap
      omega
  have hcap := Hcap.out
  clear hne hn
  go_enter Try.func24, Try.ntmps24
  go_wp2_with fail
  go_loopw [3] (fun s3 wr => ∃ k : Nat, 1 ≤ k ∧ k ≤ k0 ∧ s3 = .int .i64 (k : Int) ∧ Below w.heap.size w wr) (fun s3 _ => k0 - (intOf s3).toNat)
  case atStart => exact ⟨1, Nat.le_refl _, by omega, rfl, Below.refl _ _⟩
  case round =>
    obtain ⟨k, hk1, hk, rfl, hb⟩ := hrel
    have hr := h.below hb
    have hltn : k < k0 + 2 := by omega
    by_cases hlt : k < k0
    · obtain ⟨a1, a2⟩ := hr.at (i := k) (by rw [← Hn.out]; exact hltn)
      obtain ⟨b1, b2⟩ := hr.at (i := k - 1) (by rw [← Hn.out]; omega)
      have hd2 : samB (eAt l k) (eAt l (k - 1)) = false := by
        have := Hne.out (k - 1) (by omega)
        rw [show k - 1 + 1 = k by omega] at this
        exact this
      clear hr
      generalize eAt l k = x at *
      generalize eAt l (k - 1) = y at *
      have hq : ∀ W : World, Sem.run Try.prog (Go.binOp BinOp.eql 42 (.agg #[.string x.ty, .string x.key]) (.agg #[.string y.ty, .string y.key])) W = .ok (Value.bool false) W := fun W => by rw [← hd2]; exact eqSlt x y W
      clear hd2
      go_wp2_with fail
      go_quiet (fail)
      have hwq : Below w.heap.size w (wr.drewN nq) := hb.trans (Dr.below ⟨nq, rfl⟩ _)
      go_wp2
      go_roundw
      case rel => exact ⟨k + 1, by omega, by omega, by go_num, hwq⟩
      case measure => simp [intOf]; omega
    · have hkk : k = k0 := by omega
      subst hkk
      obtain ⟨a1, a2⟩ := hr.at (i := k) (by rw [← Hn.out]; exact hltn)
      obtain ⟨b1, b2⟩ := hr.at (i := k - 1) (by rw [← Hn.out]; omega)
      obtain ⟨c1, c2⟩ := hr.at (i := k + 1) (by rw [← Hn.out]; omega)
      rw [show (k + 1) * 2 = k * 2 + 2 by omega] at c1 c2
      have c3 : wr.cell? ⟨g, k * 2 + 3, none⟩ = some (.string (eAt l (k + 1)).key) := c2
      have hfz := hr.fz
      have Hset : Hid (∀ q, OwnO (((((wr.drewN q).setCell ⟨g, k * 2, none⟩ (.string (eAt l (k + 1)).ty)).setCell ⟨g, k * 2 + 1, none⟩ (.string (eAt l (k + 1)).key)).setCell ⟨g, (k + 1) * 2, none⟩ (.string ByteArray.empty)).setCell ⟨g, (k + 1) * 2 + 1, none⟩ (.string ByteArray.empty)) base (.slice (some ⟨g, 0, none⟩) (k + 1) cap) ((l.set k (eAt l (k + 1))).take (k + 1))) := fun q => by
        have o1 := (hr.below (Dr.below ⟨q, rfl⟩ _)).put Hn.out k (eAt l (k + 1))
        have o2 := o1.put (by rw [List.length_set]; exact Hn.out) (k + 1) ⟨ByteArray.empty, ByteArray.empty, ByteArray.empty⟩
        have o3 := o2.take (m := k + 1) (by rw [List.length_set, List.length_set, ← Hn.out]; omega)
        rw [List.take_set_of_le (Nat.le_refl _)] at o3
        exact o3
      have hcl : ∀ (q : Nat) (ty : TypeId) (c : Nat), (Builtin.clear_ #[27] ty #[.slice (some ⟨g, (k + 1) * 2, none⟩) 1 c]).run Try.prog (((wr.drewN q).setCell ⟨g, k * 2, none⟩ (.string (eAt l (k + 1)).ty)).setCell ⟨g, k * 2 + 1, none⟩ (.string (eAt l (k + 1)).key)) = .ok (.tuple #[]) (((((wr.drewN q).setCell ⟨g, k * 2, none⟩ (.string (eAt l (k + 1)).ty)).setCell ⟨g, k * 2 + 1, none⟩ (.string (eAt l (k + 1)).key)).setCell ⟨g, (k + 1) * 2, none⟩ (.string ByteArray.empty)).setCell ⟨g, (k + 1) * 2 + 1, none⟩ (.string ByteArray.empty)) := fun q ty c => by
        refine clrO _ ty g ((k + 1) * 2) c ?_ ?_ (fun j => ?_)
        · rw [set_far (by omega), set_far (by omega), show (k + 1) * 2 = k * 2 + 2 by omega]
          show (wr.cell? _).isSome = true
          rw [c1]; rfl
        · rw [set_far (by omega), set_far (by omega), show (k + 1) * 2 + 1 = k * 2 + 2 + 1 by omega]
          show (wr.cell? _).isSome = true
          rw [c2]; rfl
        · rw [World.frozen?_setCell, World.frozen?_setCell]
          exact hfz j
      have hq : ∀ W : World, Sem.run Try.prog (Go.binOp BinOp.eql 42 (.agg #[.string (eAt l k).ty, .string (eAt l k).key]) (.agg #[.string (eAt l (k - 1)).ty, .string (eAt l (k - 1)).key])) W = .ok (Value.bool true) W := fun W => by rw [← heq]; exact eqSlt _ _ W
      have hq2 : ∀ W : World, Sem.run Try.prog (Go.binOp BinOp.neq 42 (.agg #[.string (eAt l (k + 1)).ty, .string (eAt l (k + 1)).key]) (.agg #[.string (eAt l k).ty, .string (eAt l k).key])) W = .ok (Value.bool true) W := fun W => by have := neSlt (eAt l (k + 1)) (eAt l k) W; rw [hlast] at this; exact this
      clear heq hlast hr h
      generalize (l.set k (eAt l (k + 1))).take (k + 1) = l2 at *
      generalize eAt l (k + 1) = z at *
      generalize eAt l (k - 1) = y at *
      generalize eAt l k = x at *
      go_wp2_with fail
      go_quiet (fail)
      go_wp2_with fail
      refine wp_loop_rounds 2 ?_
      rw [rounds_succ]
      go_wp2_with fail
      go_quiet (fail)
      go_wp2_with fail
      rw [rounds_succ]
      go_wp2
      go_ret
      refine ⟨_, rfl, Hset.out _, ?_⟩
      iterate 4 (refine Below.setCell ?_ (by exact hg) _)
      exact (hb.trans (Dr.below ⟨_, rfl⟩ _)).mono hbg
end Go.Proofs.Ytjfeloagimljoaa
