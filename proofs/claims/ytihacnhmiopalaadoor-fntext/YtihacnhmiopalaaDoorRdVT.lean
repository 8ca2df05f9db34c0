import Derived.Test.YtihacnhmiopalaaDoorRdJT
namespace Go.Proofs.YtihacnhmiopalaaDoor
open Go.RowKit
def MaxL (w : World) : Prop := ∃ m : Int, w.cell? ⟨1, 0, none⟩ = some (.int .i64 m)
theorem MaxL.below {w w' : World} (h : MaxL w) (hb : Below w.heap.size w w') : MaxL w' := by
 obtain ⟨m, hm⟩ := h
 exact ⟨m, (hb.cell (World.block_lt_of_cell? _ _ hm)).trans hm⟩
theorem split_any (s : ByteArray) (c : UInt8) (w : World) (hs : s.size <= 1048576) (hm : MaxL w) :
  Calls Tryd.prog 40 #[.string s, .string ⟨#[c]⟩] w fun e w' => e = .returned (.slice (some ⟨w.heap.size, 0, none⟩) (cN c s) (cN c s)) ∧ w' = w.alloc (.cells ((cutB c s).map Value.string).toArray 9) := by
 obtain ⟨m, hm⟩ := hm
 have := Tryd.strings_Split s ⟨#[c]⟩ m w (by omega) hm (Nat.le_refl 1)
 rw [splitB_cut, cN_count] at this
 exact this
theorem split_sl (c : UInt8) (s : ByteArray) (w : World) (t : TypeId) (hs : s.size <= 1048576) :
  SlS (w.alloc (.cells ((cutB c s).map Value.string).toArray t)) (some ⟨w.heap.size, 0, none⟩) (cN c s) (cN c s) (cS c s) ∧ SlW (w.alloc (.cells ((cutB c s).map Value.string).toArray t)) w.heap.size (some ⟨w.heap.size, 0, none⟩) (cN c s) 1 := by
 have hN := cN_le c s
 have hget : ∀ i, i < cN c s -> (w.alloc (.cells ((cutB c s).map Value.string).toArray t)).cell? ⟨w.heap.size, 0 + i, none⟩ = some (.string (cS c s i)) := fun i hi => by
  rw [World.cell?_alloc_at _ _ _ _ rfl, Nat.zero_add]
  simp [List.getElem?_map, cutB_get c s i hi]
 refine ⟨⟨Nat.le_refl _, by unfold maxLen; omega, fun i hi => Nat.le_trans (cS_size c s i hi) (by unfold maxLen; omega), Or.inr ⟨_, 0, rfl, by simp, hget⟩⟩, Or.inr ⟨_, 0, rfl, Nat.le_refl _, by simp, fun i hi => ⟨⟨_, hget i (by omega)⟩, World.frozen?_alloc_at _ _ _ _ rfl⟩⟩⟩
def RefPost (s : ByteArray) (w : World) (e : Ending) (w' : World) : Prop := ∃ a cap, e = .returned (.slice a (rN s) cap) ∧ SlS w' a (rN s) cap (cS 44 s) ∧ SlW w' w.heap.size a (rN s) 1 ∧ Below w.heap.size w w'
theorem rdRefs_any (s : ByteArray) (w : World) (hs : s.size <= 1048576) (hm : MaxL w) :
  Calls Tryd.prog 44 #[.string s] w (RefPost s w) := by
 cases hd : dashQ s
 ·have hr : Hid (rN s = cN 44 s) := by unfold Hid rN; rw [hd]; rfl
  have hd' : (s.toList == [45]) = false := hd
  go_enter Tryd.func44, Tryd.ntmps44
  go_wp2_with fail
  refine (split_any s 44 w hs hm).mono ?_
  rintro e w1 ⟨rfl, rfl⟩
  go_wp2
  go_ret
  have := split_sl 44 s w 9 hs
  exact ⟨some ⟨w.heap.size, 0, none⟩, cN 44 s, by rw [hr.out]; rfl, by rw [hr.out]; exact this.1, by rw [hr.out]; exact this.2, (Below.refl _ _).alloc (Nat.le_refl _) _⟩
 ·have hr : Hid (rN s = 0) := by unfold Hid rN; rw [hd]; rfl
  have hd' : (s.toList == [45]) = true := hd
  go_enter Tryd.func44, Tryd.ntmps44
  go_wp2
  go_ret
  exact ⟨none, 0, by rw [hr.out]; rfl, ⟨by rw [hr.out]; exact Nat.le_refl _, by decide, fun i hi => by rw [hr.out] at hi; exact absurd hi (Nat.not_lt_zero _), Or.inl hr.out⟩, Or.inl hr.out, Below.refl _ _⟩
def vGr (s : ByteArray) : Bool := decide (1 < cN 58 s)
def vV (s : ByteArray) : ByteArray := if vGr s || dashQ s then ByteArray.empty else s
def vN (s : ByteArray) : Nat := if vGr s then cN 44 s else 0
noncomputable def vOk (s : ByteArray) : Bool := !vGr s || gAp s
theorem indexByte_mem (c : UInt8) : ∀ l : List UInt8, (0 <= Lib.indexByte l c) ↔ c ∈ l
 | [] => by simp [Lib.indexByte]
 | b :: l => by
  have ih := indexByte_mem c l
  have hg := Lib.indexByte_ge l c
  unfold Lib.indexByte
  by_cases hb : b = c
  ·subst hb; simp
  ·have : (b == c) = false := by simpa using hb
   rw [this]
   simp only [Bool.false_eq_true, if_false, List.mem_cons, Ne.symm hb, false_or]
   rw [<- ih]
   by_cases h1 : Lib.indexByte l c = -1
   ·simp [h1]
   ·have : (Lib.indexByte l c == -1) = false := by simpa using h1
    rw [this]; simp only [Bool.false_eq_true, if_false]; omega
theorem has_cN (c : UInt8) (s : ByteArray) : decide (0 <= Lib.indexByte s.data.toList c) = decide (1 < cN c s) := by
 have : cN c s = s.data.toList.count c + 1 := cutL_count c _
 rw [Bool.eq_iff_iff, decide_eq_true_iff, decide_eq_true_iff, indexByte_mem, this, <- List.count_pos_iff]
 omega
theorem numV_mem {l : List UInt8} {z : Int} (h : numV l = some z) : (58 : UInt8) ∉ l := by
 obtain ⟨_, h2⟩ := numV_itoa h
 intro hm
 rcases h2 with ⟨_, _, hp, _⟩ | ⟨r, rfl, _, hp, _⟩
 ·have := hp.2.1 _ hm; exact absurd this (by decide)
 ·rcases List.mem_cons.1 hm with h | h
  ·exact absurd h (by decide)
  ·have := hp.2.1 _ h; exact absurd this (by decide)
theorem cut_none {p : ByteArray} (h : (58 : UInt8) ∉ p.data.toList) : Lib.cut p.data.toList [58] = (p.data.toList, [], false) := by
 unfold Lib.cut
 rw [(index_one 58 _).1 h]; rfl
theorem cut_some {p : ByteArray} {x y : List UInt8} (h : p.data.toList = x ++ 58 :: y) (hx : (58 : UInt8) ∉ x) : Lib.cut p.data.toList [58] = (x, y, true) := by
 unfold Lib.cut
 rw [(index_one 58 _).2 x y h hx, h, if_pos (by omega)]
 simp
theorem gOk_none {s : ByteArray} {k : Nat} (h : (58 : UInt8) ∉ (cS 44 s k).data.toList) : gOp s k = false := by
 unfold gOp
 have : cN 58 (cS 44 s k) = 1 := by unfold cN; rw [cutL_one h]; rfl
 rw [this]; rfl
theorem gOk_some {s : ByteArray} {k : Nat} {x y : List UInt8} (h : (cS 44 s k).data.toList = x ++ 58 :: y) (hx : (58 : UInt8) ∉ x) :
  (gOp s k = (numV y).isSome) ∧ ((numV y).isSome = true -> gMp s k = ⟨x.toArray⟩ ∧ gLp s k = (numV y).getD 0) := by
 by_cases hy : (58 : UInt8) ∈ y
 ·have hn : numV y = none := by
   cases hv : numV y with
   | none => rfl
   | some z => exact absurd hy (numV_mem hv)
  rw [hn]
  refine ⟨?_, fun h => by cases h⟩
  unfold gOp
  have : cN 58 (cS 44 s k) ≠ 2 := by
   unfold cN
   rw [h, cutL_first hx, List.length_cons, cutL_count]
   have := List.count_pos_iff.2 hy
   omega
  simp [this]
 ·have hc : cutL 58 (cS 44 s k).data.toList = [x, y] := by rw [h, cutL_first hx, cutL_one hy]
  have h2 : cN 58 (cS 44 s k) = 2 := by unfold cN; rw [hc]; rfl
  have h1 : (cS 58 (cS 44 s k) 1).data.toList = y := by
   show ((⟨((cutL 58 (cS 44 s k).data.toList).getD 1 []).toArray⟩ : ByteArray)).data.toList = y
   rw [hc]; rfl
  have h0 : cS 58 (cS 44 s k) 0 = ⟨x.toArray⟩ := by
   show (⟨((cutL 58 (cS 44 s k).data.toList).getD 0 []).toArray⟩ : ByteArray) = _
   rw [hc]; rfl
  refine ⟨?_, fun _ => ⟨h0, ?_⟩⟩
  ·unfold gOp; rw [h2, h1]; rfl
  ·unfold gLp; rw [h1]
def ValPost (s : ByteArray) (w : World) (e : Ending) (w' : World) : Prop :=
 Below w.heap.size w w' ∧ ((vOk s = false ∧ e = .returned (.tuple #[.string ByteArray.empty, .slice none 0 0, .bool false])) ∨
  (vOk s = true ∧ ∃ a cap, e = .returned (.tuple #[.string (vV s), .slice a (vN s) cap, .bool true]) ∧ SlG w' a (vN s) cap (gMp s) (gLp s) ∧ SlW w' w.heap.size a (vN s) 2))
set_option maxRecDepth 100000 in
set_option maxHeartbeats 800000 in
theorem rdVal_plain (s : ByteArray) (w : World) (hgr : vGr s = false) :
  Calls Tryd.prog 43 #[.string s] w (ValPost s w) := by
 have hok : vOk s = true := by unfold vOk; rw [hgr]; rfl
 have hn : vN s = 0 := by unfold vN; rw [hgr]; rfl
 have hsg : SlG w none (vN s) 0 (gMp s) (gLp s) := ⟨by rw [hn]; exact Nat.le_refl _, by decide, fun i hi => by rw [hn] at hi; exact absurd hi (Nat.not_lt_zero _), Or.inl hn⟩
 have hcon : Hid (∀ W, Calls Tryd.prog 55 #[.string s, .string ⟨#[58]⟩] W fun e w' => e = .returned (.bool false) ∧ w' = W) := fun W => by
  have := Tryd.strings_Contains_one s 58 W
  rw [has_cN] at this
  have h2 : decide (1 < cN 58 s) = false := hgr
  rw [h2] at this
  exact this
 cases hd : dashQ s
 ·have hd' : (s.toList == [45]) = false := hd
  have hv : vV s = s := by unfold vV; rw [hgr, hd]; rfl
  go_enter Tryd.func43, Tryd.ntmps43
  go_wp2_with fail
  refine (hcon.out _).mono ?_
  rintro e w' ⟨rfl, rfl⟩
  go_wp2
  refine bodyPost_ret (v := .tuple #[.string s, .slice none 0 0, .bool true]) (by simp [results, Tryd.results43, go_sem]) rfl ⟨Below.refl _ _, Or.inr ⟨hok, none, 0, by rw [hn, hv], hsg, Or.inl hn⟩⟩
 ·have hd' : (s.toList == [45]) = true := hd
  have hv : vV s = ByteArray.empty := by unfold vV; rw [hgr, hd]; rfl
  go_enter Tryd.func43, Tryd.ntmps43
  go_wp2
  refine bodyPost_ret (v := .tuple #[.string ByteArray.empty, .slice none 0 0, .bool true]) (by simp [results, Tryd.results43, go_sem]; rfl) rfl ⟨Below.refl _ _, Or.inr ⟨hok, none, 0, by rw [hn, hv], hsg, Or.inl hn⟩⟩
end Go.Proofs.YtihacnhmiopalaaDoor
