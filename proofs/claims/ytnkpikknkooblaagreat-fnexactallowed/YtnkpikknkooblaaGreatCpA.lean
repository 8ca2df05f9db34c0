import Derived.Test.YtnkpikknkooblaaGreatSlt
import Derived.Laws.OwnMore
import Derived.Laws.StructEq
import Derived.Laws.IdiomCopy
import Derived.BigQuiet
import Derived.Test.YtnkpikknkooblaaGreatShelf
/-
  slices.Compact at a row of slots of the call's own.
-/
namespace Go.Proofs.YtnkpikknkooblaaGreat
open Go.RowKit

theorem OwnO.at {w : World} {base g n cap : Nat} {l : List Ent} (h : OwnO w base (.slice (some ⟨g, 0, none⟩) n cap) l) {i : Nat} (hi : i < l.length) : w.cell? ⟨g, i * 2, none⟩ = some (.string (eAt l i).ty) ∧ w.cell? ⟨g, i * 2 + 1, none⟩ = some (.string (eAt l i).key) := by
  obtain ⟨h1, h2⟩ := h
  rcases h2 with ⟨e, _⟩ | ⟨g', cap', cur, e, hg, hh, hn, hc, hcs, hx⟩
  · cases e
  · injection e with e _ _; injection e with e; injection e with e _ _
    subst e
    have hcell : ∀ j, j < l.length * 2 → w.cell? ⟨g, j, none⟩ = (encOL l)[j]? := by
      intro j hj
      rw [← hx, List.getElem?_take, if_pos hj]
      simp [World.cell?, hh]
    exact ⟨by rw [hcell _ (by omega)]; exact (encOL_get l i hi).1, by rw [hcell _ (by omega)]; exact (encOL_get l i hi).2⟩
theorem OwnO.fz {w : World} {base g n cap : Nat} {l : List Ent} (h : OwnO w base (.slice (some ⟨g, 0, none⟩) n cap) l) (o : Nat) : w.frozen? ⟨g, o, none⟩ = false := by
  obtain ⟨h1, h2⟩ := h
  rcases h2 with ⟨e, _⟩ | ⟨g', cap', cur, e, hg, hh, hn, hc, hcs, hx⟩
  · cases e
  · injection e with e _ _; injection e with e; injection e with e _ _
    subst e
    simp [World.frozen?, hh]
theorem encOL_take (l : List Ent) (m : Nat) : (encOL l).take (m * 2) = encOL (l.take m) := by
  induction l generalizing m with
  | nil => simp [encOL]
  | cons x l ih =>
    cases m with
    | zero => simp [encOL]
    | succ m =>
      have e1 : encOL (x :: l) = .string x.ty :: .string x.key :: encOL l := by simp [encOL, encO]
      have e2 : encOL (x :: l.take m) = .string x.ty :: .string x.key :: encOL (l.take m) := by simp [encOL, encO]
      rw [e1, List.take_succ_cons, e2, show (m + 1) * 2 = m * 2 + 2 by omega, List.take_succ_cons, List.take_succ_cons, ih]
theorem OwnO.take {w : World} {base g n cap : Nat} {l : List Ent} (h : OwnO w base (.slice (some ⟨g, 0, none⟩) n cap) l) {m : Nat} (hm : m ≤ l.length) : OwnO w base (.slice (some ⟨g, 0, none⟩) m cap) (l.take m) := by
  obtain ⟨h1, h2⟩ := h
  have e0 : (l.take m).length = m := by rw [List.length_take]; omega
  refine ⟨by rw [encOL_len], ?_⟩
  rcases h2 with ⟨e, _⟩ | ⟨g', cap', cur, e, hg, hh, hn, hc, hcs, hx⟩
  · cases e
  · injection e with e e2 e3; injection e with e; injection e with e _ _
    subst e e3
    refine Or.inr ⟨g, cap, cur, by rw [e0], hg, hh, by omega, hc, hcs, ?_⟩
    rw [e0, ← encOL_take, ← hx, List.take_take]
    congr 1
    omega
theorem encOL_set (l : List Ent) (k : Nat) (z : Ent) : ((encOL l).set (k * 2) (.string z.ty)).set (k * 2 + 1) (.string z.key) = encOL (l.set k z) := by
  induction l generalizing k with
  | nil => simp [encOL]
  | cons x l ih =>
    have e1 : ∀ y : Ent, ∀ r, encOL (y :: r) = .string y.ty :: .string y.key :: encOL r := fun y r => by simp [encOL, encO]
    cases k with
    | zero => rw [List.set_cons_zero, e1, e1]; rfl
    | succ k => rw [List.set_cons_succ, e1, e1, show (k + 1) * 2 = k * 2 + 2 by omega, List.set_cons_succ, List.set_cons_succ, List.set_cons_succ, List.set_cons_succ, ih]
theorem OwnO.put {w : World} {base g n cap : Nat} {l : List Ent} (h : OwnO w base (.slice (some ⟨g, 0, none⟩) n cap) l) (hn : n = l.length) (k : Nat) (z : Ent) :
    OwnO ((w.setCell ⟨g, k * 2, none⟩ (.string z.ty)).setCell ⟨g, k * 2 + 1, none⟩ (.string z.key)) base (.slice (some ⟨g, 0, none⟩) n cap) (l.set k z) := by
  subst hn
  unfold OwnO at h ⊢
  rw [List.length_set, ← encOL_set]
  exact (World.ownsRow.stored (World.ownsRow.stored h (k * 2) (.string z.ty)).1 (k * 2 + 1) (.string z.key)).1

set_option maxRecDepth 100000 in
theorem eqSlt (x y : Ent) (w : World) : Sem.run Tryz.prog (Go.binOp BinOp.eql 121 (slotV x) (slotV y)) w = .ok (Value.bool (samB x y)) w := by
  have u9 := Tryz.underlying9
  have a9 := Tryz.isAgg9
  have z9 := Tryz.sizeOf9
  have hS : Tryz.prog.underlying 121 = some (.struct (Tryz.prog.fieldsOf 121)) := by kernel_rfl
  have hp : Tryz.prog.stoodInHeld 121 = false := by kernel_rfl
  rw [run_eql_struct, show (10000 : Nat) = 9999 + 1 from rfl, run_equalIn_agg w 9999 121 _ _ hS hp]
  simp only [Program.fieldsOf, Tryz.underlying121]
  go_simp
  unfold samB
  by_cases h1 : x.ty.toList = y.ty.toList <;> by_cases h2 : x.key.toList = y.key.toList <;> simp [h1, h2]

set_option maxRecDepth 100000 in
theorem neSlt (x y : Ent) (w : World) : Sem.run Tryz.prog (Go.binOp BinOp.neq 121 (slotV x) (slotV y)) w = .ok (Value.bool (!samB x y)) w := by
  have h := eqSlt x y w
  rw [run_eql_struct] at h
  rw [run_neq_struct]
  cases hr : (Op.equalIn 10000 121 (slotV x) (slotV y)).run Tryz.prog w with
  | ok b w' =>
    rw [hr] at h
    simp only [Result.andThen, Result.ok.injEq, Value.bool.injEq] at h
    simp [Result.andThen, h.1, h.2]
  | halt _ => rw [hr] at h; cases h
theorem clrO (w : World) (ty : TypeId) (b o c : Nat) (hc0 : (w.cell? ⟨b, o, none⟩).isSome = true) (hc1 : (w.cell? ⟨b, o + 1, none⟩).isSome = true) (hf : ∀ j, w.frozen? ⟨b, j, none⟩ = false) :
    (Builtin.clear_ #[75] ty #[.slice (some ⟨b, o, none⟩) 1 c]).run Tryz.prog w = .ok (.tuple #[]) ((w.setCell ⟨b, o, none⟩ (.string ByteArray.empty)).setCell ⟨b, o + 1, none⟩ (.string ByteArray.empty)) := by
  have hv : ∀ w, (zeroValue 121).run Tryz.prog w = .ok (.agg #[.string ByteArray.empty, .string ByteArray.empty]) w := fun _ => by kernel_rfl
  have hst := run_storeCells_cells (P := Tryz.prog) b o [.string ByteArray.empty, .string ByteArray.empty] 0 w (fun j hj => by
    match j, hj with
    | 0, _ => exact hc0
    | 1, _ => exact hc1) (fun j _ => hf _) (fun v hv' => by
    simp only [List.mem_cons, List.not_mem_nil, or_false] at hv'
    rcases hv' with rfl | rfl <;> rfl)
  simp only [Nat.add_zero] at hst
  have hz : (Builtin.zeroCells (Value.agg #[.string ByteArray.empty, .string ByteArray.empty]).cells 1).toList = [.string ByteArray.empty, .string ByteArray.empty] := by kernel_rfl
  simp [Builtin.clear_, run_underlying Tryz.underlying75, hv, hz, hst]
  rfl

/-- what Compact answers: the list l' in the row of v. -/
def CpPost (w : World) (base : Nat) (l' : List Ent) (e : Ending) (w' : World) : Prop := ∃ v', e = .returned v' ∧ OwnO w' base v' l' ∧ Below base w w'

theorem ent_ne {x y : Ent} (h : ¬ (x.ty = y.ty ∧ x.key = y.key)) : (x.ty.toList == y.ty.toList && x.key.toList == y.key.toList) = false := by
  cases hb : (x.ty.toList == y.ty.toList && x.key.toList == y.key.toList)
  · rfl
  · rw [Bool.and_eq_true] at hb
    exact absurd ((samB_iff x y).1 (by unfold samB; rw [hb.1, hb.2]; rfl)) h

set_option maxRecDepth 100000 in
set_option maxHeartbeats 2000000 in
theorem cpO_strict {w : World} {base g n cap : Nat} {l : List Ent} (h : OwnO w base (.slice (some ⟨g, 0, none⟩) n cap) l) (hn : n = l.length) (hl : l.length ≤ 1000) (hbg : base ≤ w.heap.size)
    (hne : ∀ i, i + 1 < l.length → ¬ ((eAt l (i + 1)).ty = (eAt l i).ty ∧ (eAt l (i + 1)).key = (eAt l i).key)) :
    Calls Tryz.prog 71 #[.slice (some ⟨g, 0, none⟩) n cap] w (CpPost w base l) := by
  by_cases h2 : n < 2
  · go_enter Tryz.func71, Tryz.ntmps71
    go_wp2
    go_ret
    exact ⟨_, rfl, h, Below.refl _ _⟩
  · have hn3 : n ≤ 1000 := by omega
    have Hn : Hid (n = l.length) := hn
    have Hne : Hid (_) := hne
    clear hne hn
    go_enter Tryz.func71, Tryz.ntmps71
    go_wp2_with fail
    go_loopw [3] (fun s3 wr => ∃ k : Nat, 1 ≤ k ∧ k ≤ n ∧ s3 = .int .i64 (k : Int) ∧ Below w.heap.size w wr) (fun s3 _ => n - (intOf s3).toNat)
    case atStart => exact ⟨1, Nat.le_refl _, by omega, rfl, Below.refl _ _⟩
    case round =>
      obtain ⟨k, hk1, hk, rfl, hb⟩ := hrel
      by_cases hlt : k < n
      · have hr := h.below hb
        obtain ⟨a1, a2⟩ := hr.at (i := k) (by rw [← Hn.out]; exact hlt)
        obtain ⟨b1, b2⟩ := hr.at (i := k - 1) (by rw [← Hn.out]; omega)
        have hd : ¬ ((eAt l k).ty = (eAt l (k - 1)).ty ∧ (eAt l k).key = (eAt l (k - 1)).key) := by
          have := Hne.out (k - 1) (by rw [← Hn.out]; omega)
          rw [show k - 1 + 1 = k by omega] at this
          exact this
        have hd2 : samB (eAt l k) (eAt l (k - 1)) = false := ent_ne hd
        clear hd hr
        generalize eAt l k = x at *
        generalize eAt l (k - 1) = y at *
        have hq : ∀ W : World, Sem.run Tryz.prog (Go.binOp BinOp.eql 121 (.agg #[.string x.ty, .string x.key]) (.agg #[.string y.ty, .string y.key])) W = .ok (Value.bool false) W := fun W => by rw [← hd2]; exact eqSlt x y W
        clear hd2
        go_wp2_with fail
        go_quiet (fail)
        have hwq : Below w.heap.size w (wr.drewN nq) := hb.trans (Dr.below ⟨nq, rfl⟩ _)
        go_wp2
        go_roundw
        case rel => exact ⟨k + 1, by omega, by omega, by go_num, hwq⟩
        case measure => simp [intOf]; omega
      · go_wp2
        go_ret
        exact ⟨_, rfl, h.below hb, hb.mono hbg⟩

set_option maxRecDepth 100000 in
set_option maxHeartbeats 4000000 in
theorem cpO_dup {w : World} {base g k0 cap : Nat} {l : List Ent} (h : OwnO w base (.slice (some ⟨g, 0, none⟩) (k0 + 2) cap) l) (hn : k0 + 2 = l.length) (hk0 : 1 ≤ k0) (hl : l.length ≤ 1000) (hbg : base ≤ w.heap.size) (hg : base ≤ g)
    (hne : ∀ i, i + 1 < k0 → samB (eAt l (i + 1)) (eAt l i) = false) (heq : samB (eAt l k0) (eAt l (k0 - 1)) = true) (hlast : samB (eAt l (k0 + 1)) (eAt l k0) = false) :
    Calls Tryz.prog 71 #[.slice (some ⟨g, 0, none⟩) (k0 + 2) cap] w (CpPost w base ((l.set k0 (eAt l (k0 + 1))).take (k0 + 1))) := by
  have hn3 : k0 ≤ 1000 := by omega
  have Hn : Hid (k0 + 2 = l.length) := hn
  have Hne : Hid (_) := hne
  have Hcap : Hid (k0 + 2 ≤ cap) := by
    rcases h.2 with ⟨e, _⟩ | ⟨g', cap', cur, e, _, _, h3, _⟩
    · cases e
    · injection e with _ _ e3
      subst e3
      show k0 + 2 ≤ cap
      omega
  have hcap := Hcap.out
  clear hne hn
  go_enter Tryz.func71, Tryz.ntmps71
  go_wp2_with fail
  go_loopw [3] (fun s3 wr => ∃ k : Nat, 1 ≤ k ∧ k ≤ k0 ∧ s3 = .int .i64 (k : Int) ∧ Below w.heap.size w wr) (fun s3 _ => k0 - (intOf s3).toNat)
  case atStart => exact ⟨1, Nat.le_refl _, by omega, rfl, Below.refl _ _⟩
  case round =>
    obtain ⟨k, hk1, hk, rfl, hb⟩ := hrel
    have hr := h.below hb
    have hltn : k < k0 + 2 := by omega
    by_cases hlt : k < k0
    · obtain ⟨a1, a2⟩ := hr.at (i := k) (by rw [← Hn.out]; exact hltn)
      obtain ⟨b1, b2⟩ := hr.at (i := k - 1) (by rw [← Hn.out]; omega)
      have hd2 : samB (eAt l k) (eAt l (k - 1)) = false := by
        have := Hne.out (k - 1) (by omega)
        rw [show k - 1 + 1 = k by omega] at this
        exact this
      clear hr
      generalize eAt l k = x at *
      generalize eAt l (k - 1) = y at *
      have hq : ∀ W : World, Sem.run Tryz.prog (Go.binOp BinOp.eql 121 (.agg #[.string x.ty, .string x.key]) (.agg #[.string y.ty, .string y.key])) W = .ok (Value.bool false) W := fun W => by rw [← hd2]; exact eqSlt x y W
      clear hd2
      go_wp2_with fail
      go_quiet (fail)
      have hwq : Below w.heap.size w (wr.drewN nq) := hb.trans (Dr.below ⟨nq, rfl⟩ _)
      go_wp2
      go_roundw
      case rel => exact ⟨k + 1, by omega, by omega, by go_num, hwq⟩
      case measure => simp [intOf]; omega
    · have hkk : k = k0 := by omega
      subst hkk
      obtain ⟨a1, a2⟩ := hr.at (i := k) (by rw [← Hn.out]; exact hltn)
      obtain ⟨b1, b2⟩ := hr.at (i := k - 1) (by rw [← Hn.out]; omega)
      obtain ⟨c1, c2⟩ := hr.at (i := k + 1) (by rw [← Hn.out]; omega)
      rw [show (k + 1) * 2 = k * 2 + 2 by omega] at c1 c2
      have c3 : wr.cell? ⟨g, k * 2 + 3, none⟩ = some (.string (eAt l (k + 1)).key) := c2
      have hfz := hr.fz
      have Hset : Hid (∀ q, OwnO (((((wr.drewN q).setCell ⟨g, k * 2, none⟩ (.string (eAt l (k + 1)).ty)).setCell ⟨g, k * 2 + 1, none⟩ (.string (eAt l (k + 1)).key)).setCell ⟨g, (k + 1) * 2, none⟩ (.string ByteArray.empty)).setCell ⟨g, (k + 1) * 2 + 1, none⟩ (.string ByteArray.empty)) base (.slice (some ⟨g, 0, none⟩) (k + 1) cap) ((l.set k (eAt l (k + 1))).take (k + 1))) := fun q => by
        have o1 := (hr.below (Dr.below ⟨q, rfl⟩ _)).put Hn.out k (eAt l (k + 1))
        have o2 := o1.put (by rw [List.length_set]; exact Hn.out) (k + 1) ⟨ByteArray.empty, ByteArray.empty, ByteArray.empty⟩
        have o3 := o2.take (m := k + 1) (by rw [List.length_set, List.length_set, ← Hn.out]; omega)
        rw [List.take_set_of_le (Nat.le_refl _)] at o3
        exact o3
      have hcl : ∀ (q : Nat) (ty : TypeId) (c : Nat), (Builtin.clear_ #[75] ty #[.slice (some ⟨g, (k + 1) * 2, none⟩) 1 c]).run Tryz.prog (((wr.drewN q).setCell ⟨g, k * 2, none⟩ (.string (eAt l (k + 1)).ty)).setCell ⟨g, k * 2 + 1, none⟩ (.string (eAt l (k + 1)).key)) = .ok (.tuple #[]) (((((wr.drewN q).setCell ⟨g, k * 2, none⟩ (.string (eAt l (k + 1)).ty)).setCell ⟨g, k * 2 + 1, none⟩ (.string (eAt l (k + 1)).key)).setCell ⟨g, (k + 1) * 2, none⟩ (.string ByteArray.empty)).setCell ⟨g, (k + 1) * 2 + 1, none⟩ (.string ByteArray.empty)) := fun q ty c => by
        refine clrO _ ty g ((k + 1) * 2) c ?_ ?_ (fun j => ?_)
        · rw [set_far (by omega), set_far (by omega), show (k + 1) * 2 = k * 2 + 2 by omega]
          show (wr.cell? _).isSome = true
          rw [c1]; rfl
        · rw [set_far (by omega), set_far (by omega), show (k + 1) * 2 + 1 = k * 2 + 2 + 1 by omega]
          show (wr.cell? _).isSome = true
          rw [c2]; rfl
        · rw [World.frozen?_setCell, World.frozen?_setCell]
          exact hfz j
      have hq : ∀ W : World, Sem.run Tryz.prog (Go.binOp BinOp.eql 121 (.agg #[.string (eAt l k).ty, .string (eAt l k).key]) (.agg #[.string (eAt l (k - 1)).ty, .string (eAt l (k - 1)).key])) W = .ok (Value.bool true) W := fun W => by rw [← heq]; exact eqSlt _ _ W
      have hq2 : ∀ W : World, Sem.run Tryz.prog (Go.binOp BinOp.neq 121 (.agg #[.string (eAt l (k + 1)).ty, .string (eAt l (k + 1)).key]) (.agg #[.string (eAt l k).ty, .string (eAt l k).key])) W = .ok (Value.bool true) W := fun W => by have := neSlt (eAt l (k + 1)) (eAt l k) W; rw [hlast] at this; exact this
      clear heq hlast hr h
      generalize (l.set k (eAt l (k + 1))).take (k + 1) = l2 at *
      generalize eAt l (k + 1) = z at *
      generalize eAt l (k - 1) = y at *
      generalize eAt l k = x at *
      go_wp2_with fail
      go_quiet (fail)
      go_wp2_with fail
      refine wp_loop_rounds 2 ?_
      rw [rounds_succ]
      go_wp2_with fail
      go_quiet (fail)
      go_wp2_with fail
      rw [rounds_succ]
      go_wp2
      go_ret
      refine ⟨_, rfl, Hset.out _, ?_⟩
      iterate 4 (refine Below.setCell ?_ (by exact hg) _)
      exact (hb.trans (Dr.below ⟨_, rfl⟩ _)).mono hbg
end Go.Proofs.YtnkpikknkooblaaGreat
/-
  slices.SortFunc at a row of slots of the call's own.
-/
namespace Go.Proofs.YtnkpikknkooblaaGreat
open Go.RowKit

instance : Inhabited Ent := ⟨Ent.none⟩

theorem ltE (x y : Ent) : ltOf cmpE x y = befB x y := by rw [cmpE_bef]; rfl
theorem ltE_t {x y : Ent} : ltOf cmpE x y = true ↔ Lt x y := by rw [ltE, befB_iff]
theorem ltE_f {x y : Ent} : ltOf cmpE x y = false ↔ ¬ Lt x y := by rw [ltE, ← befB_iff]; cases befB x y <;> simp
theorem swoE : Sort.SWO (ltOf cmpE) where
  irrefl x := ltE_f.2 (Lt.irrefl x)
  trans x y z h1 h2 := ltE_t.2 ((ltE_t.1 h1).trans (ltE_t.1 h2))
  ntrans x y z h1 h2 := by
    rw [ltE_f] at h1 h2 ⊢
    intro h
    rcases tri x y with ⟨h3, _⟩ | ⟨h3, _⟩ | ⟨h3, _⟩
    · exact h1 h3
    · refine h2 ?_
      unfold Lt at h ⊢
      rw [h3.1, h3.2] at h
      exact h
    · exact h2 (h3.trans h)

theorem flatO_enc (l : List Ent) : Sort.flatK encO 2 l.toArray = (encOL l).toArray := by
  refine Sort.ext_get! (by simp [encOL_len]) fun t ht => ?_
  have ht' : t < l.length * 2 := by simpa using ht
  rw [Sort.get_flatK _ _ _ t (by simpa using ht')]
  have hi : t / 2 < l.length := by omega
  obtain ⟨g0, g1⟩ := encOL_get l (t / 2) hi
  have e1 : (l.toArray)[t / 2]! = eAt l (t / 2) := by
    rw [eAt_get l _ hi]
    simp [hi]
  rw [e1]
  have hlen : t < (encOL l).length := by rw [encOL_len]; exact ht'
  have e2 : (encOL l).toArray[t]! = (encOL l)[t] := by
    rw [getElem!_pos (encOL l).toArray t (by simpa using hlen)]; simp
  rw [e2]
  have e3 : ∀ v, (encOL l)[t]? = some v → (encOL l)[t] = v := fun v hv => by
    rw [List.getElem?_eq_getElem hlen] at hv
    injection hv
  have hm := Nat.div_add_mod t 2
  have hc : t % 2 = 0 ∨ t % 2 = 1 := by omega
  rcases hc with hc | hc
  · rw [hc]; exact (e3 _ (by rw [show t = t / 2 * 2 by omega]; rw [show t / 2 * 2 / 2 = t / 2 by omega]; exact g0)).symm
  · rw [hc]; exact (e3 _ (by rw [show t = t / 2 * 2 + 1 by omega]; rw [show (t / 2 * 2 + 1) / 2 = t / 2 by omega]; exact g1)).symm

theorem sort_heap {w : World} {g n : Nat} {os : Array Obj} {cur : Array Value} {e : TypeId} {fr : Nat × Nat} (d : Array Value) (hb : w.heap[g]? = some (.cells cur e fr)) :
    (Sort.grow (Sort.putRow id (Sort.ahead w n) g 0 d) os).heap[g]? = some (.cells (Sort.putCells id 0 d cur) e fr) := by
  have hg : g < w.heap.size := (Array.getElem?_eq_some_iff.1 hb).1
  show ((Sort.putRow id (Sort.ahead w n) g 0 d).heap ++ os)[g]? = _
  rw [Array.getElem?_append, if_pos (by simpa [Sort.putRow, Sort.mapBlock, Sort.ahead] using hg)]
  simp [Sort.putRow, Sort.mapBlock, Sort.ahead, Array.getElem?_modify, hb, Sort.onCells]
theorem sort_grown {w : World} {g n : Nat} {os : Array Obj} (d : Array Value) : w.grownBy (Sort.grow (Sort.putRow id (Sort.ahead w n) g 0 d) os) (some g) := by
  refine ⟨rfl, rfl, rfl, by simp [Sort.grow, Sort.putRow, Sort.mapBlock, Sort.ahead], fun k hk hne => ?_⟩
  show ((Sort.putRow id (Sort.ahead w n) g 0 d).heap ++ os)[k]? = _
  rw [Array.getElem?_append, if_pos (by simpa [Sort.putRow, Sort.mapBlock, Sort.ahead] using hk)]
  have : g ≠ k := fun e => hne (by rw [e])
  simp [Sort.putRow, Sort.mapBlock, Sort.ahead, Array.getElem?_modify, this]
theorem take_put (cur : Array Value) (ts : List Value) (h : ts.length ≤ cur.size) : (Sort.putCells id 0 ts.toArray cur).toList.take ts.length = ts := by
  apply List.ext_getElem?
  intro j
  by_cases hj : j < ts.length
  · rw [List.getElem?_take_of_lt hj, Array.getElem?_toList]
    simp [Sort.putCells, hj, show j < cur.size by omega]
  · rw [List.getElem?_take_eq_none (by omega), List.getElem?_eq_none (by omega)]

/-- what the sort leaves. -/
def SoPostO (w : World) (base : Nat) (v : Value) (l : List Ent) (e : Ending) (w' : World) : Prop := e = .returned (.tuple #[]) ∧ ∃ l' : List Ent, OwnO w' base v l' ∧ l'.Perm l ∧ l'.Pairwise (fun a b => ¬ Lt b a) ∧ w.grownBy w' v.ownBlock
theorem grownBy_refl (w : World) (row : Option Nat) : w.grownBy w row := ⟨rfl, rfl, rfl, Nat.le_refl _, fun _ _ _ => rfl⟩

set_option maxRecDepth 100000 in
theorem sortO_own {w : World} {base : Nat} {v : Value} {l : List Ent} (h : OwnO w base v l) (hl : l.length ≤ 1000000) :
    Calls Tryz.prog 69 #[v, .func (.func 70) #[] #[]] w (SoPostO w base v l) := by
  have h' := h
  obtain ⟨h1, h2⟩ := h
  rcases h2 with ⟨rfl, h0⟩ | ⟨g, cap, cur, rfl, hg, hh, hn, hc, hcs, hx⟩
  · have : l = [] := List.eq_nil_of_length_eq_zero h0
    subst this
    have hcon := AnyF.slices_SortFunc_none Tryz.sortO none 0 (.func (.func 70) #[] #[]) w
    change Calls Tryz.prog 69 _ _ _ at hcon
    refine hcon.mono ?_
    rintro e w' ⟨rfl, rfl⟩
    exact ⟨rfl, [], h', List.Perm.refl _, List.Pairwise.nil, grownBy_refl _ _⟩
  · have hlt : g < w.heap.size := (Array.getElem?_eq_some_iff.1 hh).1
    have eg : ∀ args w, (callFunc 70 args).run Tryz.prog w = .ok (.enter 70 args) w := enters_of Tryz.func70 (by kernel_rfl) rfl
    have hcmp : CmpLays Tryz.prog 70 #[] encO 2 cmpE g 0 l.toArray.size w := fun _ _ _ _ x y => (cmpS_any x y _).mono fun _ _ h => ⟨h.1, h.2.eq⟩
    have hH : Sort.HoldsK encO 2 w g 0 l.toArray := by
      unfold Sort.HoldsK
      rw [flatO_enc]
      intro j hj
      have hj' : j < l.length * 2 := by simpa [encOL_len] using hj
      refine ⟨?_, by simp [World.frozen?, hh]⟩
      have h1 : (cur.toList.take (l.length * 2))[j]? = (encOL l)[j]? := by rw [hx]
      rw [List.getElem?_take_of_lt hj'] at h1
      simp only [World.cell?, hh, Nat.zero_add]
      simp only [Option.isSome_none, Bool.false_eq_true, if_false]
      rw [← Array.getElem?_toList, h1]
      have hlen : j < (encOL l).length := by rw [encOL_len]; exact hj'
      rw [getElem!_pos (encOL l).toArray j (by simpa using hlen)]
      simp [hlen]
    have hcon := AnyQ.slices_SortFunc Tryz.sortO 2 Tryz.isAgg121 Tryz.sizeOf121 encO (fun _ => rfl) (fun x u hu => by
      simp only [encO, List.mem_cons, List.not_mem_nil, or_false] at hu
      rcases hu with rfl | rfl <;> rfl) cmpE swoE 70 #[] g 0 cap l.toArray w eg hcmp hH hlt (by simp; omega)
    change Calls Tryz.prog 69 _ _ _ at hcon
    rw [List.size_toArray] at hcon
    refine hcon.mono ?_
    rintro e w' ⟨rfl, d', n, os, hp, hs, rfl⟩
    obtain ⟨d'⟩ := d'
    obtain ⟨p1, _, p3⟩ := hp
    have hlen : d'.length = l.length := by simpa using p1
    have hperm : d'.Perm l := by
      have e1 : ((⟨d'⟩ : Array Ent).extract 0 l.length).toList = d' := by simp [← hlen]
      have e2 : (l.toArray.extract 0 l.length).toList = l := by simp
      rw [e1, e2] at p3
      exact p3
    refine ⟨rfl, d', ?_, hperm, ?_, ?_⟩
    · refine ⟨by rw [encOL_len], Or.inr ⟨g, cap, Sort.putCells id 0 (encOL d').toArray cur, by rw [hlen], hg, ?_, by omega, hc, by simp [Sort.putCells, hcs], ?_⟩⟩
      · show (Sort.grow (Sort.putRow id (Sort.ahead w n) g 0 (Sort.flatK encO 2 d'.toArray)) os).heap[g]? = _
        rw [flatO_enc]
        exact sort_heap _ hh
      · have := take_put cur (encOL d') (by rw [encOL_len, hlen, hcs]; omega)
        rw [encOL_len] at this
        exact this
    · refine List.pairwise_iff_getElem.2 fun i j hi hj hij => ?_
      have := hs i j (Nat.zero_le _) hij (by omega)
      rw [ltE_f] at this
      have e1 : (⟨d'⟩ : Array Ent)[i]! = d'[i] := by rw [getElem!_pos (⟨d'⟩ : Array Ent) i (by simpa using hi)]; rfl
      have e2 : (⟨d'⟩ : Array Ent)[j]! = d'[j] := by rw [getElem!_pos (⟨d'⟩ : Array Ent) j (by simpa using hj)]; rfl
      rw [e1, e2] at this
      exact this
    · exact sort_grown _
end Go.Proofs.YtnkpikknkooblaaGreat
