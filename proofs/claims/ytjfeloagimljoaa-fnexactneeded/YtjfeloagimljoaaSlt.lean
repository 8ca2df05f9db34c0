/-
  Rows of slots (the Id of an Ent is idle): as they lie in memory; what the laws do with them.
-/
import Derived.Test.YtjfeloagimljoaaCsI
import Derived.Test.YtjfeloagimljoaaMkD
import Derived.Test.YtjfeloagimljoaaMkT
import Derived.Test.YtjfeloagimljoaaFar
import Derived.OwnWalk
import Derived.Deep.DeepFit
namespace Go.Proofs.Ytjfeloagimljoaa
open Go.RowKit

def encO (e : Ent) : List Value := [.string e.ty, .string e.key]
def encOL (l : List Ent) : List Value := l.flatMap encO
theorem encOL_len (l : List Ent) : (encOL l).length = l.length * 2 := by
  induction l with
  | nil => rfl
  | cons x l ih => simp only [encOL, List.flatMap_cons, List.length_append, List.length_cons] at ih ⊢; rw [ih]; simp [encO]; omega
theorem encOL_snoc (l : List Ent) (e : Ent) : encOL l ++ encO e = encOL (l ++ [e]) := by simp [encOL]
theorem encOL_app (l k : List Ent) : encOL l ++ encOL k = encOL (l ++ k) := by simp [encOL]
theorem encOL_get (l : List Ent) (i : Nat) (h : i < l.length) : (encOL l)[i * 2]? = some (.string (eAt l i).ty) ∧ (encOL l)[i * 2 + 1]? = some (.string (eAt l i).key) := by
  induction l generalizing i with
  | nil => exact absurd h (Nat.not_lt_zero _)
  | cons x l ih =>
    cases i with
    | zero => simp [encOL, encO, eAt]
    | succ i =>
      have := ih i (by simpa using h)
      have e1 : encOL (x :: l) = .string x.ty :: .string x.key :: encOL l := by simp [encOL, encO]
      have e2 : eAt (x :: l) (i + 1) = eAt l i := by simp [eAt]
      rw [e1, e2, show (i + 1) * 2 = i * 2 + 2 by omega]
      simpa using this

/-- the slice (a, length of l, cap) holds the slots l. -/
structure SlO (w : World) (a : Option Addr) (cap : Nat) (l : List Ent) : Prop where
  le : l.length ≤ cap
  max : cap ≤ maxLen
  cells : l = [] ∨ ∃ b off, a = some ⟨b, off, none⟩ ∧ b < w.heap.size ∧
    (∀ i, i < l.length → w.cell? ⟨b, off + i * 2, none⟩ = some (.string (eAt l i).ty)) ∧ (∀ i, i < l.length → w.cell? ⟨b, off + i * 2 + 1, none⟩ = some (.string (eAt l i).key))
theorem SlO.below {w w' : World} {a : Option Addr} {cap : Nat} {l : List Ent} (h : SlO w a cap l) (hb : Below w.heap.size w w') : SlO w' a cap l := by
  refine ⟨h.le, h.max, ?_⟩
  rcases h.cells with h0 | ⟨b, off, e, hlt, h1, h2⟩
  · exact Or.inl h0
  · exact Or.inr ⟨b, off, e, Nat.lt_of_lt_of_le hlt hb.size, fun i hi => (hb.cell (by exact hlt)).trans (h1 i hi), fun i hi => (hb.cell (by exact hlt)).trans (h2 i hi)⟩

/-- the value v owns the slots l, among the blocks from base on. -/
def OwnO (w : World) (base : Nat) (v : Value) (l : List Ent) : Prop := w.ownsRow base 42 2 v l.length (encOL l)
theorem OwnO.below {w w' : World} {base : Nat} {v : Value} {l : List Ent} (h : OwnO w base v l) (hb : Below w.heap.size w w') : OwnO w' base v l := by
  obtain ⟨h1, h2⟩ := h
  refine ⟨h1, ?_⟩
  rcases h2 with h2 | ⟨g, cap, cur, hv, hg, hh, r⟩
  · exact Or.inl h2
  · have hlt : g < w.heap.size := (Array.getElem?_eq_some_iff.1 hh).1
    exact Or.inr ⟨g, cap, cur, hv, hg, by rw [hb.block g hlt]; exact hh, r⟩
theorem OwnO.mono {w : World} {base base' : Nat} {v : Value} {l : List Ent} (h : OwnO w base v l) (hb : base' ≤ base) : OwnO w base' v l := by
  obtain ⟨h1, h2⟩ := h
  exact ⟨h1, h2.imp id fun ⟨g, cap, cur, e, hg, r⟩ => ⟨g, cap, cur, e, Nat.le_trans hb hg, r⟩⟩
theorem OwnO.new (w : World) (base : Nat) (hb : base ≤ w.heap.size) : OwnO (w.alloc (.cells #[] 42)) base (.slice (some ⟨w.heap.size, 0, none⟩) 0 0) [] :=
  ⟨rfl, Or.inr ⟨w.heap.size, 0, #[], rfl, hb, by show (w.heap.push _)[w.heap.size]? = _; simp, Nat.le_refl _, by decide, rfl, rfl⟩⟩
theorem OwnO.one (w : World) (base : Nat) (hb : base ≤ w.heap.size) (x : Ent) : OwnO (w.alloc (.cells #[.string x.ty, .string x.key] 42)) base (.slice (some ⟨w.heap.size, 0, none⟩) 1 1) [x] :=
  ⟨rfl, Or.inr ⟨w.heap.size, 1, #[.string x.ty, .string x.key], rfl, hb, by show (w.heap.push _)[w.heap.size]? = _; simp, Nat.le_refl _, by decide, rfl, rfl⟩⟩
theorem OwnO.sl {w : World} {base : Nat} {v : Value} {l : List Ent} (h : OwnO w base v l) : ∃ a cap, v = .slice a l.length cap ∧ SlO w a cap l := by
  obtain ⟨h1, h2⟩ := h
  rcases h2 with ⟨rfl, h0⟩ | ⟨g, cap, cur, rfl, hg, hh, hn, hc, hcs, hx⟩
  · have : l = [] := List.eq_nil_of_length_eq_zero h0
    subst this
    exact ⟨none, 0, rfl, ⟨Nat.le_refl _, by decide, Or.inl rfl⟩⟩
  · refine ⟨_, cap, rfl, ⟨hn, hc, ?_⟩⟩
    by_cases h0 : l = []
    · exact Or.inl h0
    · have hlt : g < w.heap.size := (Array.getElem?_eq_some_iff.1 hh).1
      have hcell : ∀ j, j < l.length * 2 → w.cell? ⟨g, 0 + j, none⟩ = (encOL l)[j]? := by
        intro j hj
        rw [← hx, List.getElem?_take, if_pos hj, Nat.zero_add]
        simp [World.cell?, hh]
      exact Or.inr ⟨g, 0, rfl, hlt, fun i hi => by rw [hcell _ (by omega)]; exact (encOL_get l i hi).1, fun i hi => by rw [Nat.add_assoc, hcell _ (by omega)]; exact (encOL_get l i hi).2⟩
theorem Try.infoSlot : (Try.prog.info? 42).map (fun i => (i.zero, i.size, i.bytes)) = some (some (.agg #[.string ByteArray.empty, .string ByteArray.empty]), 2, 32) := by kernel_rfl
theorem encO_cells (W : World) (x : Ent) (t : TypeId) (j : Nat) (u : Value) (h : (encO x)[j]? = some u) : (W.alloc (.cells #[.string x.ty, .string x.key] t)).cell? ((⟨W.heap.size, 0, none⟩ : Addr).add j) = some u := by
  have hj : j < 2 := by
    rcases Nat.lt_or_ge j 2 with h' | h'
    · exact h'
    · rw [List.getElem?_eq_none (by simpa [encO] using h')] at h; cases h
  match j, hj, h with
  | 0, _, h => rw [show (⟨W.heap.size, 0, none⟩ : Addr).add 0 = ⟨W.heap.size, 0, none⟩ from rfl, World.cell?_alloc_at _ _ _ _ rfl]; exact h
  | 1, _, h => rw [show (⟨W.heap.size, 0, none⟩ : Addr).add 1 = ⟨W.heap.size, 1, none⟩ from rfl, World.cell?_alloc_at _ _ _ _ rfl]; exact h
theorem encO_one (x : Ent) (u : Value) (h : u ∈ encO x) : u.oneCell' = true := by
  simp only [encO, List.mem_cons, List.not_mem_nil, or_false] at h
  rcases h with rfl | rfl <;> rfl
theorem OwnO.wr0 {w : World} {base : Nat} {v : Value} {l : List Ent} (h : OwnO w base v l) {a : Option Addr} {n cap : Nat} (e : v = .slice a n cap) : Wr0 w base a (l.length * 2) := by
  subst e
  obtain ⟨h1, h2⟩ := h
  rcases h2 with ⟨e, h0⟩ | ⟨g, cap', cur, e, hg, hh, hn, hc, hcs, hx⟩
  · exact Or.inl (by omega)
  · injection e with e1 _ _
    have hlt : g < w.heap.size := (Array.getElem?_eq_some_iff.1 hh).1
    refine Or.inr ⟨g, 0, e1, hg, hlt, fun i hi => ⟨⟨cur[i]'(by omega), ?_⟩, by simp [World.frozen?, hh]⟩⟩
    simp [World.cell?, hh, show i < cur.size by omega]
theorem SlO.low {w : World} {a : Option Addr} {cap base : Nat} {l : List Ent} (h : SlO w a cap l) (hb : w.heap.size ≤ base) : LowS a l.length base :=
  h.cells.imp (fun e => by rw [e]; rfl) fun ⟨b, off, e, hlt, _⟩ => ⟨b, off, e, by omega⟩
theorem Wr0.farO {w : World} {a : Option Addr} {n base lo hi : Nat} (h : Wr0 w base a (n * 2)) (hb : hi ≤ base) : FarS a n lo hi :=
  h.imp (fun e => by omega) fun ⟨b, off, e, hlt, _⟩ => ⟨b, off, e, Or.inr (by omega)⟩
theorem SlO.mkd {w w' : World} {a : Option Addr} {cap lo hi : Nat} {l : List Ent} (h : SlO w a cap l) (hm : Mkd lo hi w w') (hf : FarS a l.length lo hi) : SlO w' a cap l := by
  refine ⟨h.le, h.max, ?_⟩
  rcases h.cells with h0 | ⟨b, off, rfl, hlt, c1, c2⟩
  · exact Or.inl h0
  · rcases hf with h0 | ⟨b', off', e, hf⟩
    · exact Or.inl (List.eq_nil_of_length_eq_zero h0)
    · injection e with e; injection e with e1 e2 _
      subst e1 e2
      exact Or.inr ⟨b, off, rfl, Nat.lt_of_lt_of_le hlt hm.size, fun i hi => by rw [hm.cell hlt hf]; exact c1 i hi, fun i hi => by rw [hm.cell hlt hf]; exact c2 i hi⟩

theorem eqO1_any (x : Ent) (w : World) :
    Calls Try.prog 25 #[slotV x, slotV x] w fun e w' => e = .returned (.bool true) ∧ Below w.heap.size w w' := by
  go_enter Try.func25, Try.ntmps25
  go_wp2
  go_ret
  exact ⟨rfl, ((Below.refl _ _).alloc (Nat.le_refl _) _).alloc (by simp) _⟩

theorem eqO_zero (a a' : Option Addr) (cap cap' : Nat) (w : World) :
    Calls Try.prog 8 #[.slice a 0 cap, .slice a' 0 cap'] w fun e w' => e = .returned (.bool true) ∧ w' = w := by
  go_enter Try.func8, Try.ntmps8
  go_wp2
  refine wp_loop_rounds 1 ?_
  rw [rounds_succ]
  go_wp2
  go_ret
  exact ⟨rfl, rfl⟩

set_option maxHeartbeats 1000000 in
theorem eqO_any (b off cap b' off' cap' : Nat) (l : List Ent) (w : World) (hn : l.length ≤ maxLen) (hb : b < w.heap.size) (hb' : b' < w.heap.size)
    (c1 : ∀ i, i < l.length → w.cell? ⟨b, off + i * 2, none⟩ = some (.string (eAt l i).ty)) (c2 : ∀ i, i < l.length → w.cell? ⟨b, off + i * 2 + 1, none⟩ = some (.string (eAt l i).key))
    (d1 : ∀ i, i < l.length → w.cell? ⟨b', off' + i * 2, none⟩ = some (.string (eAt l i).ty)) (d2 : ∀ i, i < l.length → w.cell? ⟨b', off' + i * 2 + 1, none⟩ = some (.string (eAt l i).key)) :
    Calls Try.prog 8 #[.slice (some ⟨b, off, none⟩) l.length cap, .slice (some ⟨b', off', none⟩) l.length cap'] w fun e w' => e = .returned (.bool true) ∧ Below w.heap.size w w' := by
  unfold maxLen at hn
  go_enter Try.func8, Try.ntmps8
  go_wp2
  go_loopw [5] (fun i wr => ∃ k : Nat, k ≤ l.length ∧ i = .int .i64 k ∧ Below w.heap.size w wr) (fun i _ => l.length - (intOf i).toNat)
  case atStart => exact ⟨0, Nat.zero_le _, rfl, Below.refl _ _⟩
  case round =>
    obtain ⟨k, hk, rfl, hbel⟩ := hrel
    by_cases hlt : k < l.length
    · have a1 : wr.cell? ⟨b, off + k * 2, none⟩ = some (.string (eAt l k).ty) := (hbel.cell (by exact hb)).trans (c1 k hlt)
      have a2 : wr.cell? ⟨b, off + k * 2 + 1, none⟩ = some (.string (eAt l k).key) := (hbel.cell (by exact hb)).trans (c2 k hlt)
      have b1 : wr.cell? ⟨b', off' + k * 2, none⟩ = some (.string (eAt l k).ty) := (hbel.cell (by exact hb')).trans (d1 k hlt)
      have b2 : wr.cell? ⟨b', off' + k * 2 + 1, none⟩ = some (.string (eAt l k).key) := (hbel.cell (by exact hb')).trans (d2 k hlt)
      go_wp2_with fail
      go_region_with (go_at_call 25; refine (eqO1_any (eAt l k) _).mono ?_; rintro e w1 ⟨rfl, hb1⟩)
      all_goals
        go_wp2
        go_roundw
        case rel => exact ⟨k + 1, by omega, by go_num, Below.trans (by first | exact hbel | exact hbel.drew | exact hbel.drew.drew) (hb1.mono (by exact hbel.size))⟩
        case measure => simp [intOf]; omega
    · go_wp2
      go_ret
      exact ⟨rfl, hbel⟩

theorem eqO_sl {a a' : Option Addr} {cap cap' : Nat} {l : List Ent} (w : World) (h : SlO w a cap l) (h' : SlO w a' cap' l) :
    Calls Try.prog 8 #[.slice a l.length cap, .slice a' l.length cap'] w fun e w' => e = .returned (.bool true) ∧ Below w.heap.size w w' := by
  rcases h.cells with rfl | ⟨b, off, rfl, hb, c1, c2⟩
  · refine (eqO_zero a a' cap cap' w).mono ?_
    rintro e w' ⟨rfl, rfl⟩
    exact ⟨rfl, Below.refl _ _⟩
  · rcases h'.cells with rfl | ⟨b', off', rfl, hb', d1, d2⟩
    · refine (eqO_zero _ a' cap cap' w).mono ?_
      rintro e w' ⟨rfl, rfl⟩
      exact ⟨rfl, Below.refl _ _⟩
    · exact eqO_any b off cap b' off' cap' l w (Nat.le_trans h.le h.max) hb hb' c1 c2 d1 d2
/-- n entries that bear marks from k0 on. -/
def mkO (k0 n : Nat) : List Ent := (List.range n).map fun i => ⟨mkT (k0 + i * 2), mkT (k0 + i * 2 + 1), ByteArray.empty⟩
theorem mkO_len (k0 n : Nat) : (mkO k0 n).length = n := by simp [mkO]
theorem mkO_at {k0 n i : Nat} (h : i < n) : eAt (mkO k0 n) i = ⟨mkT (k0 + i * 2), mkT (k0 + i * 2 + 1), ByteArray.empty⟩ := by
  rw [eAt_get _ _ (by rw [mkO_len]; exact h)]
  simp [mkO]

theorem markO_zero (a : Option Addr) (cap k : Nat) (w : World) :
    Calls Try.prog 11 #[.slice a 0 cap, .int .i64 (k : Int)] w fun e w' => e = .returned (.int .i64 (k : Int)) ∧ w' = w := by
  go_enter Try.func11, Try.ntmps11
  go_wp2
  refine wp_loop_rounds 1 ?_
  rw [rounds_succ]
  go_wp2
  go_ret
  exact ⟨rfl, rfl⟩

/-- behind a call and a store, what was done stands. -/
theorem doneO_set {w w1 : World} {b off d : Nat} {F : Nat → Value} (hb : b < w.heap.size) (hB : Below w.heap.size w w1) (h : ∀ i, i < d → w.cell? ⟨b, off + i, none⟩ = some (F i)) (hv : ∃ v, w1.cell? ⟨b, off + d, none⟩ = some v) :
    ∀ i, i < d + 1 → (w1.setCell ⟨b, off + d, none⟩ (F d)).cell? ⟨b, off + i, none⟩ = some (F i) := fun i hi => by
  by_cases e : i = d
  · subst e; exact set_same hv
  · rw [set_far (by omega)]; exact (hB.cell (by exact hb)).trans (h i (by omega))

set_option maxRecDepth 100000 in
set_option maxHeartbeats 1600000 in
theorem markO_any (lo hi b off n cap k0 : Nat) (w : World) (hn : n ≤ 100000000) (hk0 : k0 ≤ 1000000000) (hl : lo ≤ b) (hh : b < hi) (hb : b < w.heap.size)
    (hf : ∀ i, i < n * 2 → (∃ v, w.cell? ⟨b, off + i, none⟩ = some v) ∧ w.frozen? ⟨b, off + i, none⟩ = false) :
    Calls Try.prog 11 #[.slice (some ⟨b, off, none⟩) n cap, .int .i64 (k0 : Int)] w fun e w' =>
      e = .returned (.int .i64 ((k0 + n * 2 : Nat) : Int)) ∧ (∀ i, i < n * 2 → w'.cell? ⟨b, off + i, none⟩ = some (.string (mkT (k0 + i)))) ∧ Mkd lo hi w w' := by
  have hmk : Hid (∀ W (z : Int) (q : Nat), z = (q : Int) → q ≤ 1000000000000 → Calls Try.prog 30 #[.int .i64 z] W fun e w' => e = .returned (.string (mkT q)) ∧ Below W.heap.size W w') := fun W z q hz hq => by subst hz; exact mkT_any q W hq
  have Hf : Hid (_) := hf
  clear hf
  go_enter Try.func11, Try.ntmps11
  go_wp2_with fail
  go_loopw [1, 5] (fun kv iv wr => ∃ j : Nat, j ≤ n ∧ kv = .int .i64 ((k0 + j * 2 : Nat) : Int) ∧ iv = .int .i64 (j : Int) ∧ Hid (∀ i, i < j * 2 → wr.cell? ⟨b, off + i, none⟩ = some (.string (mkT (k0 + i)))) ∧ Mkd lo hi w wr) (fun _ iv _ => n - (intOf iv).toNat)
  case atStart => exact ⟨0, Nat.zero_le _, by simp, rfl, fun i hi => absurd hi (by omega), Mkd.refl _ _ _⟩
  case round =>
    obtain ⟨j, hj, rfl, rfl, hdone, hm⟩ := hrel
    have hbr : b < wr.heap.size := Nat.lt_of_lt_of_le hb hm.size
    by_cases hlt : j < n
    · have hfree : Hid (∀ W, Mkd lo hi w W → ∀ i, i < n * 2 → (∃ v, W.cell? ⟨b, off + i, none⟩ = some v) ∧ W.frozen? ⟨b, off + i, none⟩ = false) := fun W hW i hi => ⟨hW.there ⟨b, off + i, none⟩ hb (Hf.out i hi).1, (hW.frz ⟨b, off + i, none⟩ hb).trans (Hf.out i hi).2⟩
      go_wp2_with fail
      refine (hmk.out _ _ (k0 + j * 2) (by omega) (by omega)).mono ?_
      rintro e w1 ⟨rfl, hb1⟩
      have hm1 := hm.blw hb1
      obtain ⟨⟨v1, hv1⟩, hz1⟩ := hfree.out _ hm1 (j * 2) (by omega)
      have hd1 : Hid (∀ i, i < j * 2 + 1 → (w1.setCell ⟨b, off + j * 2, none⟩ (.string (mkT (k0 + j * 2)))).cell? ⟨b, off + i, none⟩ = some (.string (mkT (k0 + i)))) := doneO_set (F := fun i => .string (mkT (k0 + i))) hbr hb1 hdone.out ⟨v1, hv1⟩
      have hm1' : Mkd lo hi w (w1.setCell ⟨b, off + j * 2, none⟩ (.string (mkT (k0 + j * 2)))) := hm1.set hl hh ⟨v1, hv1⟩
      clear hdone hb1
      go_wp2_with fail
      clear hv1 hz1
      generalize w1.setCell ⟨b, off + j * 2, none⟩ (.string (mkT (k0 + j * 2))) = W1 at *
      have hbW1 : b < W1.heap.size := Nat.lt_of_lt_of_le hb hm1'.size
      refine (hmk.out _ _ (k0 + (j * 2 + 1)) (by omega) (by omega)).mono ?_
      rintro e w2 ⟨rfl, hb2⟩
      have hm2 := hm1'.blw hb2
      obtain ⟨⟨v2, hv2⟩, hz2⟩ := hfree.out _ hm2 (j * 2 + 1) (by omega)
      have hd2 := doneO_set (F := fun i => .string (mkT (k0 + i))) hbW1 hb2 hd1.out ⟨v2, hv2⟩
      have hm2' := hm2.set (x := .string (mkT (k0 + (j * 2 + 1)))) hl hh ⟨v2, hv2⟩
      rw [← Nat.add_assoc off] at hv2 hz2 hm2'
      simp only [← Nat.add_assoc off (j * 2) 1] at hd2
      have Hd2 : Hid (_) := hd2
      clear hd1 hb2 hd2
      go_wp2
      go_roundw
      case rel => exact ⟨j + 1, by omega, by go_num, by go_num, fun i hi => Hd2.out i (by omega), hm2'⟩
      case measure => simp [intOf]; omega
    · have hje : j = n := by omega
      subst hje
      go_wp2
      go_ret
      exact ⟨by first | rfl | (congr 2), hdone.out, hm⟩

theorem flat_slO {w : World} {b off n cap k0 : Nat} (hb : b < w.heap.size) (hle : n ≤ cap) (hmax : cap ≤ maxLen) (h : ∀ i, i < n * 2 → w.cell? ⟨b, off + i, none⟩ = some (.string (mkT (k0 + i)))) : SlO w (some ⟨b, off, none⟩) cap (mkO k0 n) := by
  refine ⟨by rw [mkO_len]; exact hle, hmax, Or.inr ⟨b, off, rfl, hb, fun i hi => ?_, fun i hi => ?_⟩⟩
  all_goals rw [mkO_len] at hi
  · rw [mkO_at hi, h _ (by omega)]
  · rw [mkO_at hi, Nat.add_assoc off, h _ (by omega)]; rfl

theorem markO_sl {lo hi : Nat} {a : Option Addr} {n cap k0 : Nat} (w : World) (hn : n ≤ 100000000) (hk0 : k0 ≤ 1000000000) (hle : n ≤ cap) (hmax : cap ≤ maxLen) (hw : Wr w lo hi a (n * 2)) :
    Calls Try.prog 11 #[.slice a n cap, .int .i64 (k0 : Int)] w fun e w' =>
      e = .returned (.int .i64 ((k0 + n * 2 : Nat) : Int)) ∧ SlO w' a cap (mkO k0 n) ∧ Mkd lo hi w w' := by
  by_cases h0 : n = 0
  · subst h0
    refine (markO_zero a cap k0 w).mono ?_
    rintro e w' ⟨rfl, rfl⟩
    exact ⟨rfl, ⟨Nat.zero_le _, hmax, Or.inl (by simp [mkO])⟩, Mkd.refl _ _ _⟩
  · rcases hw with h' | ⟨b, off, rfl, hl, hh, hb, hf⟩
    · omega
    · refine (markO_any lo hi b off n cap k0 w hn hk0 hl hh hb hf).mono ?_
      rintro e w' ⟨rfl, hc, hm⟩
      exact ⟨rfl, flat_slO (Nat.lt_of_lt_of_le hb hm.size) hle hmax hc, hm⟩

/-! ### heldOntryS -/

theorem heldO_zero (a : Option Addr) (cap k : Nat) (w : World) :
    Calls Try.prog 12 #[.slice a 0 cap, .int .i64 (k : Int)] w fun e w' => e = .returned (.int .i64 (k : Int)) ∧ w' = w := by
  go_enter Try.func12, Try.ntmps12
  go_wp2
  refine wp_loop_rounds 1 ?_
  rw [rounds_succ]
  go_wp2
  go_ret
  exact ⟨rfl, rfl⟩

set_option maxRecDepth 100000 in
set_option maxHeartbeats 1600000 in
theorem heldO_any (b off n cap k0 : Nat) (w : World) (hn : n ≤ 100000000) (hk0 : k0 ≤ 1000000000) (hb : b < w.heap.size)
    (hc : ∀ i, i < n * 2 → w.cell? ⟨b, off + i, none⟩ = some (.string (mkT (k0 + i)))) :
    Calls Try.prog 12 #[.slice (some ⟨b, off, none⟩) n cap, .int .i64 (k0 : Int)] w fun e w' =>
      e = .returned (.int .i64 ((k0 + n * 2 : Nat) : Int)) ∧ Below w.heap.size w w' := by
  have hmk : Hid (∀ W (z : Int) (q : Nat), z = (q : Int) → q ≤ 1000000000000 → Calls Try.prog 30 #[.int .i64 z] W fun e w' => e = .returned (.string (mkT q)) ∧ Below W.heap.size W w') := fun W z q hz hq => by subst hz; exact mkT_any q W hq
  go_enter Try.func12, Try.ntmps12
  go_wp2_with fail
  go_loopw [1, 5] (fun kv iv wr => ∃ j : Nat, j ≤ n ∧ kv = .int .i64 ((k0 + j * 2 : Nat) : Int) ∧ iv = .int .i64 (j : Int) ∧ Below w.heap.size w wr) (fun _ iv _ => n - (intOf iv).toNat)
  case atStart => exact ⟨0, Nat.zero_le _, by simp, rfl, Below.refl _ _⟩
  case round =>
    obtain ⟨j, hj, rfl, rfl, hbel⟩ := hrel
    by_cases hlt : j < n
    · have hbr : b < wr.heap.size := Nat.lt_of_lt_of_le hb hbel.size
      have hk1 : wr.cell? ⟨b, off + j * 2, none⟩ = some (.string (mkT (k0 + j * 2))) := (hbel.cell (by exact hb)).trans (hc (j * 2) (by omega))
      have hk2 : wr.cell? ⟨b, off + j * 2 + 1, none⟩ = some (.string (mkT (k0 + j * 2 + 1))) := (hbel.cell (by exact hb)).trans (hc (j * 2 + 1) (by omega))
      clear hc
      go_wp2_with fail
      go_region_with (go_at_call 30; refine (hmk.out _ _ (k0 + j * 2) (by omega) (by omega)).mono ?_; rintro e w1 ⟨rfl, hb1⟩; have hB1 : Below wr.heap.size wr w1 := Below.trans (by first | exact Below.refl _ _ | exact (Below.refl _ _).drew | exact (Below.refl _ _).drew.drew) hb1; have hk1 := (hB1.cell (by exact hbr)).trans hk1)
      all_goals
        have hbr1 : b < w1.heap.size := Nat.lt_of_lt_of_le hbr hB1.size
        have hk21 := (hB1.cell (by exact hbr)).trans hk2
        go_wp2_with fail
        go_region_with (go_at_call 30; refine (hmk.out _ _ (k0 + j * 2 + 1) (by omega) (by omega)).mono ?_; rintro e w2 ⟨rfl, hb2⟩; have hB2 : Below w1.heap.size w1 w2 := Below.trans (by first | exact Below.refl _ _ | exact (Below.refl _ _).drew | exact (Below.refl _ _).drew.drew) hb2; have hk21 := (hB2.cell (by exact hbr1)).trans hk21)
        all_goals
          have hB12 := hB1.trans (hB2.mono hB1.size)
          go_wp2
          go_roundw
          case rel => exact ⟨j + 1, by omega, by go_num, by go_num, hbel.trans (hB12.mono hbel.size)⟩
          case measure => simp [intOf]; omega
    · have hje : j = n := by omega
      subst hje
      go_wp2
      go_ret
      exact ⟨rfl, hbel⟩

theorem flatO_of {w : World} {b off n cap k0 : Nat} (h : SlO w (some ⟨b, off, none⟩) cap (mkO k0 n)) (hn : n ≠ 0) : b < w.heap.size ∧ ∀ i, i < n * 2 → w.cell? ⟨b, off + i, none⟩ = some (.string (mkT (k0 + i))) := by
  rcases h.cells with h0 | ⟨b', off', e, hb, h1, h2⟩
  · have := mkO_len k0 n
    rw [h0] at this
    exact absurd this.symm hn
  · injection e with e; injection e with e1 e2 _
    subst e1 e2
    refine ⟨hb, fun i hi => ?_⟩
    obtain ⟨q, c, hc, rfl⟩ : ∃ q c, c < 2 ∧ i = q * 2 + c := ⟨i / 2, i % 2, by omega, by omega⟩
    have hq : q < n := by omega
    have hq' : q < (mkO k0 n).length := by rw [mkO_len]; exact hq
    match c, hc with
    | 0, _ => have := h1 q hq'; rw [mkO_at hq] at this; exact this
    | 1, _ => have := h2 q hq'; rw [mkO_at hq] at this; exact this

theorem heldO_sl {a : Option Addr} {n cap k0 : Nat} (w : World) (hn : n ≤ 100000000) (hk0 : k0 ≤ 1000000000) (h : SlO w a cap (mkO k0 n)) :
    Calls Try.prog 12 #[.slice a n cap, .int .i64 (k0 : Int)] w fun e w' => e = .returned (.int .i64 ((k0 + n * 2 : Nat) : Int)) ∧ Below w.heap.size w w' := by
  by_cases h0 : n = 0
  · subst h0
    refine (heldO_zero a cap k0 w).mono ?_
    rintro e w' ⟨rfl, rfl⟩
    exact ⟨rfl, Below.refl _ _⟩
  · rcases h.cells with h' | ⟨b, off, rfl, _⟩
    · have := mkO_len k0 n
      rw [h'] at this
      exact absurd this.symm h0
    · obtain ⟨hb, hc⟩ := flatO_of h h0
      exact heldO_any b off n cap k0 w hn hk0 hb hc

end Go.Proofs.Ytjfeloagimljoaa
