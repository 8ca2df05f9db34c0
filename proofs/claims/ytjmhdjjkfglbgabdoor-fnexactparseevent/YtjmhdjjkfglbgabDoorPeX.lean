import Derived.Test.YtjmhdjjkfglbgabDoorPe
import Derived.Test.YtjmhdjjkfglbgabDoorEvS
import Derived.Test.YtjmhdjjkfglbgabDoorHas
import Derived.Test.YtjmhdjjkfglbgabDoorOwnG
import Derived.Deep.DeepFit
import Derived.Deep.RegionHeld3
import Derived.Deep.DeepCutAuto
import Derived.Deep.CutBlock
import Derived.Test.YtjmhdjjkfglbgabDoorTxtG
import Derived.Test.YtjmhdjjkfglbgabDoorFormI
namespace Go.Proofs.YtjmhdjjkfglbgabDoor
open Go.RowKit

/-- an empty event's cells. -/
abbrev zeC : Array Value := #[.string ByteArray.empty, .string ByteArray.empty, .string ByteArray.empty, .bool false, .string ByteArray.empty, .int .i64 0, .slice none 0 0, .slice none 0 0, .string ByteArray.empty, .slice none 0 0]
/-- in ParseEvent: the result's box and the empty event's. -/
structure PS (w wx : World) : Prop where
  r : ∀ o, o < 10 → ∃ v, wx.cell? ⟨w.heap.size, o, none⟩ = some v
  rf : ∀ o, wx.frozen? ⟨w.heap.size, o, none⟩ = false
  z : ∀ o, wx.cell? ⟨w.heap.size + 1, o, none⟩ = zeC[o]?
  size : w.heap.size + 1 < wx.heap.size
  below : Below w.heap.size w wx
theorem PS.mono {w wx wy : World} (h : PS w wx) (hb : Below wx.heap.size wx wy) : PS w wy :=
  have hs := h.size
  ⟨fun o ho => (h.r o ho).imp fun _ hv => (hb.cell (by show w.heap.size < _; omega)).trans hv, fun o => (hb.frozen (by show w.heap.size < _; omega)).trans (h.rf o), fun o => (hb.cell (by exact hs)).trans (h.z o), Nat.lt_of_lt_of_le hs hb.size, h.below.trans (hb.mono h.below.size)⟩
theorem PS.start (w : World) (t t' : TypeId) : PS w ((w.alloc (.cells zeC t)).alloc (.cells zeC t')) := by
  refine ⟨fun o ho => ⟨zeC[o], ?_⟩, fun o => ?_, fun o => World.cell?_alloc_at _ _ _ _ (by simp), by simp, ((Below.refl _ _).alloc (Nat.le_refl _) _).alloc (by simp) _⟩
  · rw [World.cell?_alloc_past _ _ _ (by simp), World.cell?_alloc_at _ _ _ _ rfl]
    exact Array.getElem?_eq_getElem (by simpa using ho)
  · rw [World.frozen?_alloc_past _ _ _ (by simp)]
    exact World.frozen?_alloc_at _ _ _ _ rfl
theorem PS.set {w wx : World} (h : PS w wx) {B j : Nat} {x : Value} (hB : w.heap.size + 1 < B) : PS w (wx.setCell ⟨B, j, none⟩ x) :=
  ⟨fun o ho => by rw [far_block (by omega)]; exact h.r o ho, fun o => by rw [World.frozen?_setCell]; exact h.rf o, fun o => by rw [far_block (by omega)]; exact h.z o, by simpa [World.setCell] using h.size, h.below.setCell (by show _ ≤ B; omega) _⟩

abbrev zeL : Array Value := #[.string ⟨#[]⟩, .string ⟨#[]⟩, .string ⟨#[]⟩, .bool false, .string ⟨#[]⟩, .int .i64 0, .slice none 0 0, .slice none 0 0, .string ⟨#[]⟩, .slice none 0 0]
/-- block B holds the cells cs, and may be written. -/
def BX (w : World) (B : Nat) (cs : Array Value) : Prop := (∀ o, w.cell? ⟨B, o, none⟩ = cs[o]?) ∧ (∀ o, w.frozen? ⟨B, o, none⟩ = false) ∧ B < w.heap.size
theorem bx_mk {w : World} {B : Nat} {cs : Array Value} (h1 : ∀ o, w.cell? ⟨B, o, none⟩ = cs[o]?) (h2 : ∀ o, w.frozen? ⟨B, o, none⟩ = false) (h3 : B < w.heap.size) : BX w B cs := ⟨h1, h2, h3⟩
theorem BX.mono {w w2 : World} {B : Nat} {cs : Array Value} (h : BX w B cs) (hb : Below w.heap.size w w2) : BX w2 B cs :=
  ⟨fun o => (hb.cell (by exact h.2.2)).trans (h.1 o), fun o => (hb.frozen (by exact h.2.2)).trans (h.2.1 o), Nat.lt_of_lt_of_le h.2.2 hb.size⟩
theorem bx_new (w : World) (cs : Array Value) (t : TypeId) : BX (w.alloc (.cells cs t)) w.heap.size cs :=
  ⟨fun o => World.cell?_alloc_at _ _ _ _ rfl, fun o => World.frozen?_alloc_at _ _ _ _ rfl, by simp⟩
theorem BX.alloc {w : World} {B : Nat} {cs : Array Value} (h : BX w B cs) (o : Obj) : BX (w.alloc o) B cs := h.mono ((Below.refl _ _).alloc (Nat.le_refl _) _)
theorem bx_at {w0 w2 : World} {cs : Array Value} {t : TypeId} (hb : Below (w0.alloc (.cells cs t)).heap.size (w0.alloc (.cells cs t)) w2) : BX w2 w0.heap.size cs := (bx_new w0 cs t).mono hb
theorem bx_past {w0 w2 : World} {cs : Array Value} {t : TypeId} {o' : Obj} (hb : Below ((w0.alloc (.cells cs t)).alloc o').heap.size ((w0.alloc (.cells cs t)).alloc o') w2) : BX w2 w0.heap.size cs := ((bx_new w0 cs t).alloc o').mono hb
theorem bx_at1 {w0 w2 : World} {cs : Array Value} {t : TypeId} {o' : Obj} (hb : Below ((w0.alloc o').alloc (.cells cs t)).heap.size ((w0.alloc o').alloc (.cells cs t)) w2) : BX w2 (w0.heap.size + 1) cs := by
  have := bx_at hb
  simpa using this
theorem bx_atD {w0 w2 : World} {cs : Array Value} {t : TypeId} (hb : Below (w0.alloc (.cells cs t)).drew.heap.size (w0.alloc (.cells cs t)).drew w2) : BX w2 w0.heap.size cs := BX.mono (w := (w0.alloc (.cells cs t)).drew) (bx_new w0 cs t) hb
theorem bx_pastD {w0 w2 : World} {cs : Array Value} {t : TypeId} {o' : Obj} (hb : Below ((w0.alloc (.cells cs t)).alloc o').drew.heap.size ((w0.alloc (.cells cs t)).alloc o').drew w2) : BX w2 w0.heap.size cs := BX.mono (w := ((w0.alloc (.cells cs t)).alloc o').drew) ((bx_new w0 cs t).alloc o') hb
theorem bx_at1D {w0 w2 : World} {cs : Array Value} {t : TypeId} {o' : Obj} (hb : Below ((w0.alloc o').alloc (.cells cs t)).drew.heap.size ((w0.alloc o').alloc (.cells cs t)).drew w2) : BX w2 (w0.heap.size + 1) cs := by
  have := bx_atD hb
  simpa using this
theorem BX.set {w : World} {B : Nat} {cs : Array Value} (h : BX w B cs) (j : Nat) (hj : j < cs.size) (x : Value) : BX (w.setCell ⟨B, j, none⟩ x) B (cs.setIfInBounds j x) := by
  refine ⟨fun o => ?_, fun o => by rw [World.frozen?_setCell]; exact h.2.1 o, by simpa [World.setCell] using h.2.2⟩
  by_cases e : o = j
  · subst e
    rw [set_same ⟨cs[o], by rw [h.1]; exact Array.getElem?_eq_getElem hj⟩]
    simp [hj]
  · rw [set_far e, h.1, Array.getElem?_setIfInBounds_ne (by omega)]

theorem far10 {W : World} {B g o : Nat} {v0 v1 v2 v3 v4 v5 v6 v7 v8 v9 : Value} (h : B ≠ g) :
    ((((((((((W.setCell ⟨B, 0, none⟩ v0).setCell ⟨B, 1, none⟩ v1).setCell ⟨B, 2, none⟩ v2).setCell ⟨B, 3, none⟩ v3).setCell ⟨B, 4, none⟩ v4).setCell ⟨B, 5, none⟩ v5).setCell ⟨B, 6, none⟩ v6).setCell ⟨B, 7, none⟩ v7).setCell ⟨B, 8, none⟩ v8).setCell ⟨B, 9, none⟩ v9).cell? ⟨g, o, none⟩ = W.cell? ⟨g, o, none⟩ := by
  rw [far_block h, far_block h, far_block h, far_block h, far_block h, far_block h, far_block h, far_block h, far_block h, far_block h]
theorem past_far10 {W : World} {B g o : Nat} {x : Obj} {v0 v1 v2 v3 v4 v5 v6 v7 v8 v9 : Value} (h : B ≠ g) (hg : g < W.heap.size) :
    (((((((((((W.setCell ⟨B, 0, none⟩ v0).setCell ⟨B, 1, none⟩ v1).setCell ⟨B, 2, none⟩ v2).setCell ⟨B, 3, none⟩ v3).setCell ⟨B, 4, none⟩ v4).setCell ⟨B, 5, none⟩ v5).setCell ⟨B, 6, none⟩ v6).setCell ⟨B, 7, none⟩ v7).setCell ⟨B, 8, none⟩ v8).setCell ⟨B, 9, none⟩ v9).alloc x).cell? ⟨g, o, none⟩ = W.cell? ⟨g, o, none⟩ := by
  rw [World.cell?_alloc_past _ _ _ (by simpa [World.setCell] using hg), far10 h]
/-- in ParseEvent behind the composite: the event's box B with the cells cs, its two lists, and what was there. -/
structure PD (l : ByteArray) (w w0 : World) (g B : Nat) (a2 : Option Addr) (c2 : Nat) (a3 : Option Addr) (c3 : Nat) (cs : Array Value) (wx : World) : Prop where
  hB : w.heap.size + 1 < B
  bx : BX wx B cs
  l2 : SlS wx a2 (rN (cS 32 l 5)) c2 (cS 44 (cS 32 l 5))
  l3 : SlS wx a3 (rN (cS 32 l 6)) c3 (cS 44 (cS 32 l 6))
  A2 : Apart a2 (rN (cS 32 l 5)) B
  A3 : Apart a3 (rN (cS 32 l 6)) B
  R2 : Apart a2 (rN (cS 32 l 5)) w.heap.size
  R3 : Apart a3 (rN (cS 32 l 6)) w.heap.size
  ps : PS w wx
  gc : ∀ o, wx.cell? ⟨g, o, none⟩ = w0.cell? ⟨g, o, none⟩
  gB : g ≠ B
  gl : g < wx.heap.size
theorem PD.mono {l : ByteArray} {w w0 : World} {g B : Nat} {a2 : Option Addr} {c2 : Nat} {a3 : Option Addr} {c3 : Nat} {cs : Array Value} {wx wy : World} (h : PD l w w0 g B a2 c2 a3 c3 cs wx) (hb : Below wx.heap.size wx wy) : PD l w w0 g B a2 c2 a3 c3 cs wy :=
  ⟨h.hB, h.bx.mono hb, h.l2.below hb, h.l3.below hb, h.A2, h.A3, h.R2, h.R3, h.ps.mono hb, fun o => (hb.cell (by exact h.gl)).trans (h.gc o), h.gB, Nat.lt_of_lt_of_le h.gl hb.size⟩
theorem PD.set {l : ByteArray} {w w0 : World} {g B : Nat} {a2 : Option Addr} {c2 : Nat} {a3 : Option Addr} {c3 : Nat} {cs : Array Value} {wx : World} (h : PD l w w0 g B a2 c2 a3 c3 cs wx) (j : Nat) (hj : j < cs.size) (x : Value) : PD l w w0 g B a2 c2 a3 c3 (cs.setIfInBounds j x) (wx.setCell ⟨B, j, none⟩ x) :=
  ⟨h.hB, h.bx.set j hj x, h.l2.setA h.A2, h.l3.setA h.A3, h.A2, h.A3, h.R2, h.R3, h.ps.set h.hB, fun o => by rw [far_block (Ne.symm h.gB)]; exact h.gc o, h.gB, by simpa [World.setCell] using h.gl⟩

/-- what is known behind both calls. -/
structure PL (l : ByteArray) (w w0 : World) (g : Nat) (a2 : Option Addr) (c2 : Nat) (a3 : Option Addr) (c3 : Nat) (W : World) : Prop where
  l2 : SlS W a2 (rN (cS 32 l 5)) c2 (cS 44 (cS 32 l 5))
  l3 : SlS W a3 (rN (cS 32 l 6)) c3 (cS 44 (cS 32 l 6))
  R2 : Apart a2 (rN (cS 32 l 5)) w.heap.size
  R3 : Apart a3 (rN (cS 32 l 6)) w.heap.size
  ps : PS w W
  gc : ∀ o, W.cell? ⟨g, o, none⟩ = w0.cell? ⟨g, o, none⟩
  gl : g < W.heap.size
theorem PL.mono {l : ByteArray} {w w0 : World} {g : Nat} {a2 : Option Addr} {c2 : Nat} {a3 : Option Addr} {c3 : Nat} {W W2 : World} (h : PL l w w0 g a2 c2 a3 c3 W) (hb : Below W.heap.size W W2) : PL l w w0 g a2 c2 a3 c3 W2 :=
  ⟨h.l2.below hb, h.l3.below hb, h.R2, h.R3, h.ps.mono hb, fun o => (hb.cell (by exact h.gl)).trans (h.gc o), Nat.lt_of_lt_of_le h.gl hb.size⟩
theorem PL.pd {l : ByteArray} {w w0 : World} {g : Nat} {a2 : Option Addr} {c2 : Nat} {a3 : Option Addr} {c3 : Nat} {W : World} {B : Nat} {cs : Array Value} (h : PL l w w0 g a2 c2 a3 c3 W) (hB : w.heap.size + 1 < B) (hx : BX W B cs) (A2 : Apart a2 (rN (cS 32 l 5)) B) (A3 : Apart a3 (rN (cS 32 l 6)) B) (gB : g ≠ B) : PD l w w0 g B a2 c2 a3 c3 cs W :=
  ⟨hB, hx, h.l2, h.l3, A2, A3, h.R2, h.R3, h.ps, h.gc, gB, h.gl⟩
section
variable {l : ByteArray} {w w0 : World} {g : Nat} {a2 : Option Addr} {c2 : Nat} {a3 : Option Addr} {c3 : Nat} {W : World}
theorem leafA {sl : Obj} {cs : Array Value} {t : TypeId} (h : PL l w w0 g a2 c2 a3 c3 W) (A2 : Apart a2 (rN (cS 32 l 5)) (W.heap.size + 1)) (A3 : Apart a3 (rN (cS 32 l 6)) (W.heap.size + 1)) : PD l w w0 g (W.heap.size + 1) a2 c2 a3 c3 cs ((W.alloc sl).alloc (.cells cs t)) := by
  have hx := bx_new (W.alloc sl) cs t
  rw [World.size_alloc] at hx
  have h1 := h.ps.size
  have h2 := h.gl
  exact (h.mono (((Below.refl _ _).alloc (Nat.le_refl _) _).alloc (by rw [World.size_alloc]; omega) _)).pd (by omega) hx A2 A3 (by omega)
theorem leafB {sl : Obj} {cs : Array Value} {t : TypeId} (h : PL l w w0 g a2 c2 a3 c3 W) (A2 : Apart a2 (rN (cS 32 l 5)) W.heap.size) (A3 : Apart a3 (rN (cS 32 l 6)) W.heap.size) : PD l w w0 g W.heap.size a2 c2 a3 c3 cs ((W.alloc (.cells cs t)).alloc sl) := by
  have h1 := h.ps.size
  have h2 := h.gl
  exact (h.mono (((Below.refl _ _).alloc (Nat.le_refl _) _).alloc (by rw [World.size_alloc]; omega) _)).pd (by omega) ((bx_new W cs t).alloc sl) A2 A3 (by omega)
theorem leafC {cs : Array Value} {t : TypeId} (h : PL l w w0 g a2 c2 a3 c3 W) (A2 : Apart a2 (rN (cS 32 l 5)) W.heap.size) (A3 : Apart a3 (rN (cS 32 l 6)) W.heap.size) : PD l w w0 g W.heap.size a2 c2 a3 c3 cs (W.alloc (.cells cs t)) := by
  have h1 := h.ps.size
  have h2 := h.gl
  exact (h.mono ((Below.refl _ _).alloc (Nat.le_refl _) _)).pd (by omega) (bx_new W cs t) A2 A3 (by omega)
theorem leafD {B : Nat} {v0 v1 v2 v3 v4 v5 v6 v7 v8 v9 : Value} (h : PL l w w0 g a2 c2 a3 c3 W) (hB : w.heap.size + 1 < B) (hx : BX W B zeL) (A2 : Apart a2 (rN (cS 32 l 5)) B) (A3 : Apart a3 (rN (cS 32 l 6)) B) (gB : g ≠ B) :
    PD l w w0 g B a2 c2 a3 c3 #[v0, v1, v2, v3, v4, v5, v6, v7, v8, v9] ((((((((((W.setCell ⟨B, 0, none⟩ v0).setCell ⟨B, 1, none⟩ v1).setCell ⟨B, 2, none⟩ v2).setCell ⟨B, 3, none⟩ v3).setCell ⟨B, 4, none⟩ v4).setCell ⟨B, 5, none⟩ v5).setCell ⟨B, 6, none⟩ v6).setCell ⟨B, 7, none⟩ v7).setCell ⟨B, 8, none⟩ v8).setCell ⟨B, 9, none⟩ v9) := by
  have := (((((((((((h.pd hB hx A2 A3 gB).set 0 (by simp) v0).set 1 (by simp) v1).set 2 (by simp) v2).set 3 (by simp) v3).set 4 (by simp) v4).set 5 (by simp) v5).set 6 (by simp) v6).set 7 (by simp) v7).set 8 (by simp) v8).set 9 (by simp) v9)
  simpa using this
theorem leafE {B : Nat} {sl : Obj} {v0 v1 v2 v3 v4 v5 v6 v7 v8 v9 : Value} (h : PL l w w0 g a2 c2 a3 c3 W) (hB : w.heap.size + 1 < B) (hx : BX W B zeL) (A2 : Apart a2 (rN (cS 32 l 5)) B) (A3 : Apart a3 (rN (cS 32 l 6)) B) (gB : g ≠ B) :
    PD l w w0 g B a2 c2 a3 c3 #[v0, v1, v2, v3, v4, v5, v6, v7, v8, v9] (((((((((((W.setCell ⟨B, 0, none⟩ v0).setCell ⟨B, 1, none⟩ v1).setCell ⟨B, 2, none⟩ v2).setCell ⟨B, 3, none⟩ v3).setCell ⟨B, 4, none⟩ v4).setCell ⟨B, 5, none⟩ v5).setCell ⟨B, 6, none⟩ v6).setCell ⟨B, 7, none⟩ v7).setCell ⟨B, 8, none⟩ v8).setCell ⟨B, 9, none⟩ v9).alloc sl) :=
  (leafD h hB hx A2 A3 gB).mono ((Below.refl _ _).alloc (Nat.le_refl _) _)
end

theorem piece_pos {S : Nat → ByteArray} {n : Nat} (h : hasB S n ByteArray.empty = false) (k : Nat) (hk : k < n) : 0 < (S k).size := by
  rcases Nat.eq_zero_or_pos (S k).size with h0 | h0
  · have e : (S k).toList = [] := by rw [ByteArray.toList_eq]; exact List.eq_nil_of_length_eq_zero (by rw [Array.length_toList]; exact h0)
    have := hasB_of S ByteArray.empty n k hk (by rw [e, ByteArray.toList_eq]; rfl)
    rw [this] at h; cases h
  · exact h0
theorem head_of {s : ByteArray} (h : 0 < s.size) : s.data.toList.head? = some s[0] := by
  have := drop_byte s 0 h
  rw [List.drop_zero] at this
  rw [this]; rfl
theorem head_ne {l : ByteArray} (h : 0 < (cS 32 l 3).size) (hst : peSt l = false) : (((cS 32 l 3)[0].toNat : Int) == 61) = false := by
  unfold peSt at hst
  rw [head_of h] at hst
  rw [beq_eq_false_iff_ne] at hst ⊢
  intro e
  exact hst (congrArg some (UInt8.toNat_inj.1 (by have : (cS 32 l 3)[0].toNat = 61 := by exact_mod_cast e
                                                  exact this)))
theorem head_eq {l : ByteArray} (h : 0 < (cS 32 l 3).size) (hst : peSt l = true) : (((cS 32 l 3)[0].toNat : Int) == 61) = true := by
  unfold peSt at hst
  rw [head_of h, beq_iff_eq, Option.some.injEq] at hst
  rw [hst]; rfl
theorem tm_no {l : ByteArray} {v : Int} (h : NumR (cS 32 l 4).data.toList v false) : (peTm l).isSome = false := by
  unfold peTm
  cases hn : numV (cS 32 l 4).data.toList with
  | none => rfl
  | some z => have := (h.1 z hn).2; cases this
theorem tm_neg {l : ByteArray} {v : Int} (h : NumR (cS 32 l 4).data.toList v true) (hv : v < 0) : (peTm l).isSome = false := by
  unfold peTm
  cases hn : numV (cS 32 l 4).data.toList with
  | none => rfl
  | some z =>
    have := (h.1 z hn).1
    subst this
    simp [hv]
theorem tm_yes {l : ByteArray} {v : Int} (h : NumR (cS 32 l 4).data.toList v true) (hv : ¬ v < 0) : peTm l = some v ∧ peTime l = v := by
  have e : peTm l = some v := by
    unfold peTm
    cases hn : numV (cS 32 l 4).data.toList with
    | none => have := h.2 hn; cases this
    | some z =>
      have := (h.1 z hn).1
      subst this
      simp [hv]
  exact ⟨e, by unfold peTime; rw [e]; rfl⟩
theorem evCode_bd (id sd ty key val : ByteArray) (st : Bool) (tm : Int) (np na ng : Nat) (Pv Av M : Nat → ByteArray) (L : Nat → Int) : 0 ≤ evCode id sd ty key val st tm np na ng Pv Av M L ∧ evCode id sd ty key val st tm np na ng Pv Av M L ≤ 5 := by
  unfold evCode
  split; · decide
  split; · decide
  split; · decide
  split; · decide
  split <;> decide
/-- the cells behind the composite. -/
abbrev pcC (l : ByteArray) (a2 : Option Addr) (c2 : Nat) (a3 : Option Addr) (c3 : Nat) (ga : Nat) : Array Value :=
  evC (cS 32 l 0) (cS 32 l 1) (cS 32 l 2) ⟨#[]⟩ ⟨#[]⟩ false 0 a2 (rN (cS 32 l 5)) c2 a3 (rN (cS 32 l 6)) c3 (some ⟨ga, 0, none⟩) 0 0
def PC (l : ByteArray) (w w0 wx : World) (g : Nat) (vp : Value) : Prop := ∃ B a2 c2 a3 c3 ga, vp = .pointer (some ⟨B, 0, none⟩) ∧ PD l w w0 g B a2 c2 a3 c3 (pcC l a2 c2 a3 c3 ga) wx

section
variable {l : ByteArray} {w w' w2 w3 : World} {g b2 b3 ga : Nat} {a2 : Option Addr} {c2 : Nat} {a3 : Option Addr} {c3 : Nat}
theorem pl_of (hgl : g < w'.heap.size) (hps : PS w w') (hB2 : Below w'.heap.size w' w2) (hB3 : Below w2.heap.size w2 w3) (hl2 : g < w2.heap.size) (hl3 : g < w3.heap.size) (hsl2 : SlS w2 a2 (rN (cS 32 l 5)) c2 (cS 44 (cS 32 l 5))) (hsl3 : SlS w3 a3 (rN (cS 32 l 6)) c3 (cS 44 (cS 32 l 6))) (hsw2 : SlW w2 b2 a2 (rN (cS 32 l 5)) 1) (hsw3 : SlW w3 b3 a3 (rN (cS 32 l 6)) 1) (h2 : w'.heap.size ≤ b2) (h3 : w2.heap.size ≤ b3) : PL l w w' g a2 c2 a3 c3 w3 := by
  have hs2 := hB2.size
  have hps0 := hps.size
  exact ⟨hsl2.below hB3, hsl3, hsw2.apart (by omega), hsw3.apart (by omega), (hps.mono hB2).mono hB3, fun o => (hB3.cell (by exact hl2)).trans (hB2.cell (by exact hgl)), hl3⟩
theorem lemA {sl : Obj} {t : TypeId} (hgl : g < w'.heap.size) (hps : PS w w') (hB2 : Below w'.heap.size w' w2) (hB3 : Below w2.heap.size w2 w3) (hl2 : g < w2.heap.size) (hl3 : g < w3.heap.size) (hsl2 : SlS w2 a2 (rN (cS 32 l 5)) c2 (cS 44 (cS 32 l 5))) (hsl3 : SlS w3 a3 (rN (cS 32 l 6)) c3 (cS 44 (cS 32 l 6))) (hsw2 : SlW w2 b2 a2 (rN (cS 32 l 5)) 1) (hsw3 : SlW w3 b3 a3 (rN (cS 32 l 6)) 1) (h2 : w'.heap.size ≤ b2) (h3 : w2.heap.size ≤ b3) : PC l w w' ((w3.alloc sl).alloc (.cells (pcC l a2 c2 a3 c3 ga) t)) g (.pointer (some ⟨w3.heap.size + 1, 0, none⟩)) := by
  have hs2 := hB2.size
  have hs3 := hB3.size
  have hps0 := hps.size
  have hPL := pl_of hgl hps hB2 hB3 hl2 hl3 hsl2 hsl3 hsw2 hsw3 h2 h3
  exact ⟨_, a2, c2, a3, c3, ga, rfl, leafA hPL (hsw2.apart (by omega)) (hsw3.apart (by omega))⟩
theorem lemB {sl : Obj} {t : TypeId} (hgl : g < w'.heap.size) (hps : PS w w') (hB2 : Below w'.heap.size w' w2) (hB3 : Below w2.heap.size w2 w3) (hl2 : g < w2.heap.size) (hl3 : g < w3.heap.size) (hsl2 : SlS w2 a2 (rN (cS 32 l 5)) c2 (cS 44 (cS 32 l 5))) (hsl3 : SlS w3 a3 (rN (cS 32 l 6)) c3 (cS 44 (cS 32 l 6))) (hsw2 : SlW w2 b2 a2 (rN (cS 32 l 5)) 1) (hsw3 : SlW w3 b3 a3 (rN (cS 32 l 6)) 1) (h2 : w'.heap.size ≤ b2) (h3 : w2.heap.size ≤ b3) : PC l w w' ((w3.alloc (.cells (pcC l a2 c2 a3 c3 ga) t)).alloc sl) g (.pointer (some ⟨w3.heap.size, 0, none⟩)) := by
  have hs2 := hB2.size
  have hs3 := hB3.size
  have hps0 := hps.size
  have hPL := pl_of hgl hps hB2 hB3 hl2 hl3 hsl2 hsl3 hsw2 hsw3 h2 h3
  exact ⟨_, a2, c2, a3, c3, ga, rfl, leafB hPL (hsw2.apart (by omega)) (hsw3.apart (by omega))⟩
theorem lemC {t : TypeId} (hgl : g < w'.heap.size) (hps : PS w w') (hB2 : Below w'.heap.size w' w2) (hB3 : Below w2.heap.size w2 w3) (hl2 : g < w2.heap.size) (hl3 : g < w3.heap.size) (hsl2 : SlS w2 a2 (rN (cS 32 l 5)) c2 (cS 44 (cS 32 l 5))) (hsl3 : SlS w3 a3 (rN (cS 32 l 6)) c3 (cS 44 (cS 32 l 6))) (hsw2 : SlW w2 b2 a2 (rN (cS 32 l 5)) 1) (hsw3 : SlW w3 b3 a3 (rN (cS 32 l 6)) 1) (h2 : w'.heap.size ≤ b2) (h3 : w2.heap.size ≤ b3) : PC l w w' (w3.alloc (.cells (pcC l a2 c2 a3 c3 ga) t)) g (.pointer (some ⟨w3.heap.size, 0, none⟩)) := by
  have hs2 := hB2.size
  have hs3 := hB3.size
  have hps0 := hps.size
  have hPL := pl_of hgl hps hB2 hB3 hl2 hl3 hsl2 hsl3 hsw2 hsw3 h2 h3
  exact ⟨_, a2, c2, a3, c3, ga, rfl, leafC hPL (hsw2.apart (by omega)) (hsw3.apart (by omega))⟩
theorem lemD {B : Nat} (za : ∀ o, w3.cell? ⟨B, o, none⟩ = zeL[o]?) (zb : ∀ o, w3.frozen? ⟨B, o, none⟩ = false) (zc : B < w3.heap.size) (hgl : g < w'.heap.size) (hps : PS w w') (hB2 : Below w'.heap.size w' w2) (hB3 : Below w2.heap.size w2 w3) (hl2 : g < w2.heap.size) (hl3 : g < w3.heap.size) (hsl2 : SlS w2 a2 (rN (cS 32 l 5)) c2 (cS 44 (cS 32 l 5))) (hsl3 : SlS w3 a3 (rN (cS 32 l 6)) c3 (cS 44 (cS 32 l 6))) (hsw2 : SlW w2 b2 a2 (rN (cS 32 l 5)) 1) (hsw3 : SlW w3 b3 a3 (rN (cS 32 l 6)) 1) (h2 : w'.heap.size ≤ b2) (h3 : w2.heap.size ≤ b3) (hBw : w'.heap.size ≤ B) (k2 : B < b2 ∨ w2.heap.size ≤ B) (k3 : B < b3 ∨ w3.heap.size ≤ B) : PC l w w' ((((((((((w3.setCell ⟨B, 0, none⟩ (.string (cS 32 l 0))).setCell ⟨B, 1, none⟩ (.string (cS 32 l 1))).setCell ⟨B, 2, none⟩ (.string (cS 32 l 2))).setCell ⟨B, 3, none⟩ (.bool false)).setCell ⟨B, 4, none⟩ (.string ⟨#[]⟩)).setCell ⟨B, 5, none⟩ (.int .i64 0)).setCell ⟨B, 6, none⟩ (.slice a2 (rN (cS 32 l 5)) c2)).setCell ⟨B, 7, none⟩ (.slice a3 (rN (cS 32 l 6)) c3)).setCell ⟨B, 8, none⟩ (.string ⟨#[]⟩)).setCell ⟨B, 9, none⟩ (.slice (some ⟨ga, 0, none⟩) 0 0)) g (.pointer (some ⟨B, 0, none⟩)) := by
  have hs2 := hB2.size
  have hs3 := hB3.size
  have hps0 := hps.size
  have hPL := pl_of hgl hps hB2 hB3 hl2 hl3 hsl2 hsl3 hsw2 hsw3 h2 h3
  exact ⟨_, a2, c2, a3, c3, ga, rfl, leafD hPL (by omega) (bx_mk za zb zc) (hsw2.apart k2) (hsw3.apart k3) (by omega)⟩
theorem lemE {B : Nat} {sl : Obj} (za : ∀ o, w3.cell? ⟨B, o, none⟩ = zeL[o]?) (zb : ∀ o, w3.frozen? ⟨B, o, none⟩ = false) (zc : B < w3.heap.size) (hgl : g < w'.heap.size) (hps : PS w w') (hB2 : Below w'.heap.size w' w2) (hB3 : Below w2.heap.size w2 w3) (hl2 : g < w2.heap.size) (hl3 : g < w3.heap.size) (hsl2 : SlS w2 a2 (rN (cS 32 l 5)) c2 (cS 44 (cS 32 l 5))) (hsl3 : SlS w3 a3 (rN (cS 32 l 6)) c3 (cS 44 (cS 32 l 6))) (hsw2 : SlW w2 b2 a2 (rN (cS 32 l 5)) 1) (hsw3 : SlW w3 b3 a3 (rN (cS 32 l 6)) 1) (h2 : w'.heap.size ≤ b2) (h3 : w2.heap.size ≤ b3) (hBw : w'.heap.size ≤ B) (k2 : B < b2 ∨ w2.heap.size ≤ B) (k3 : B < b3 ∨ w3.heap.size ≤ B) : PC l w w' (((((((((((w3.setCell ⟨B, 0, none⟩ (.string (cS 32 l 0))).setCell ⟨B, 1, none⟩ (.string (cS 32 l 1))).setCell ⟨B, 2, none⟩ (.string (cS 32 l 2))).setCell ⟨B, 3, none⟩ (.bool false)).setCell ⟨B, 4, none⟩ (.string ⟨#[]⟩)).setCell ⟨B, 5, none⟩ (.int .i64 0)).setCell ⟨B, 6, none⟩ (.slice a2 (rN (cS 32 l 5)) c2)).setCell ⟨B, 7, none⟩ (.slice a3 (rN (cS 32 l 6)) c3)).setCell ⟨B, 8, none⟩ (.string ⟨#[]⟩)).setCell ⟨B, 9, none⟩ (.slice (some ⟨ga, 0, none⟩) 0 0)).alloc sl) g (.pointer (some ⟨B, 0, none⟩)) := by
  have hs2 := hB2.size
  have hs3 := hB3.size
  have hps0 := hps.size
  have hPL := pl_of hgl hps hB2 hB3 hl2 hl3 hsl2 hsl3 hsw2 hsw3 h2 h3
  exact ⟨_, a2, c2, a3, c3, ga, rfl, leafE hPL (by omega) (bx_mk za zb zc) (hsw2.apart k2) (hsw3.apart k3) (by omega)⟩
end

set_option maxRecDepth 100000 in
set_option maxHeartbeats 60000000 in
theorem peS_any (l : ByteArray) (w : World) (hs : l.size ≤ 1048576) :
    Calls Tryd.prog 16 #[.string l] w (PePost l w) := by
  have hcut : Hid (∀ W, Calls Tryd.prog 45 #[.string l, .int .u8 32] W fun e w' => ∃ v, e = .returned v ∧ OwnT w' W.heap.size v (cN 32 l) (cS 32 l) ∧ Below W.heap.size W w') := fun W => cutS_any l 32 W hs
  have hN := cN_le 32 l
  have hNp := cN_pos 32 l
  go_enter Tryd.func16, Tryd.ntmps16
  go_wp2_with fail
  refine (hcut.out _).mono ?_
  rintro e w1 ⟨v, rfl, hown, hb1⟩
  rcases hown.cells with ⟨_, h0⟩ | ⟨g, cap, rfl, hg, hgl, hgn, hgc, hgx⟩
  · omega
  have hps : PS w w1 := (PS.start w _ _).mono hb1
  have hg' : w.heap.size + 2 ≤ g := by simpa using hg
  clear hown hcut hg hb1
  by_cases h8 : cN 32 l = 8
  · have hc : ∀ i, i < 8 → w1.cell? ⟨g, 0 + i, none⟩ = some (.string (cS 32 l i)) := fun i hi => hgx i (by omega)
    simp only [h8] at hgn ⊢
    have Hh : Hid (∀ W, (∀ i, i < 8 → W.cell? ⟨g, 0 + i, none⟩ = some (.string (cS 32 l i))) → Calls Tryd.prog 46 #[.slice (some ⟨g, 0, none⟩) 8 cap, .string ByteArray.empty] W fun e w' => e = .returned (.bool (hasB (cS 32 l) 8 ByteArray.empty)) ∧ w' = W) := fun W hW => has_any g 0 8 cap (cS 32 l) ByteArray.empty W (by decide) hW
    cases hh : hasB (cS 32 l) 8 ByteArray.empty
    · have Hhead : Hid (peHead l = true) := by unfold Hid peHead; rw [h8, hh]; rfl
      have hsz : ∀ i, i < 8 → (cS 32 l i).size ≤ 1048576 := fun i hi => Nat.le_trans (cS_size 32 l i (by omega)) hs
      have s5 := hsz 5 (by decide)
      have s6 := hsz 6 (by decide)
      have m5 : ∀ i, i < rN (cS 32 l 5) → (cS 44 (cS 32 l 5) i).size ≤ maxLen := fun i hi => Nat.le_trans (rS_size _ i hi) (Nat.le_trans s5 (by decide))
      have m6 : ∀ i, i < rN (cS 32 l 6) → (cS 44 (cS 32 l 6) i).size ≤ maxLen := fun i hi => Nat.le_trans (rS_size _ i hi) (Nat.le_trans s6 (by decide))
      clear h8 hN hNp hgx
      go_wp2_with fail
      refine (Hh.out _ hc).mono ?_
      rintro e w' ⟨rfl, rfl⟩
      rw [hh]
      clear Hh
      have p0 : w'.cell? ⟨g, 0, none⟩ = some (.string (cS 32 l 0)) := hc 0 (by decide)
      have p1 : w'.cell? ⟨g, 1, none⟩ = some (.string (cS 32 l 1)) := hc 1 (by decide)
      have p2 : w'.cell? ⟨g, 2, none⟩ = some (.string (cS 32 l 2)) := hc 2 (by decide)
      have p3 : w'.cell? ⟨g, 3, none⟩ = some (.string (cS 32 l 3)) := hc 3 (by decide)
      have p4 : w'.cell? ⟨g, 4, none⟩ = some (.string (cS 32 l 4)) := hc 4 (by decide)
      have p5 : w'.cell? ⟨g, 5, none⟩ = some (.string (cS 32 l 5)) := hc 5 (by decide)
      have p6 : w'.cell? ⟨g, 6, none⟩ = some (.string (cS 32 l 6)) := hc 6 (by decide)
      have p7 : w'.cell? ⟨g, 7, none⟩ = some (.string (cS 32 l 7)) := hc 7 (by decide)
      clear hc
      go_upto_region 5 with fail
      go_cut [6] from 12 (fun vp wx => PC l w w' wx g vp)
      case first =>
        go_region_held3 (fun W => W.cell? ⟨g, 0, none⟩ = some (.string (cS 32 l 0)) ∧ W.cell? ⟨g, 1, none⟩ = some (.string (cS 32 l 1)) ∧ W.cell? ⟨g, 2, none⟩ = some (.string (cS 32 l 2)) ∧ W.cell? ⟨g, 5, none⟩ = some (.string (cS 32 l 5)) ∧ W.cell? ⟨g, 6, none⟩ = some (.string (cS 32 l 6)))
          (first
            | (with_reducible exact ⟨p0, p1, p2, p5, p6⟩)
            | (go_split_ands
               refine ⟨?_, ?_, ?_, ?_, ?_⟩ <;> (rw [far10 (by omega)]; with_reducible assumption))
            | (go_split_ands
               refine ⟨?_, ?_, ?_, ?_, ?_⟩ <;> (rw [far10 (by omega)]; rw [World.cell?_alloc_past _ _ _ (by simp; omega)]; with_reducible assumption))
            | (go_split_ands
               refine ⟨?_, ?_, ?_, ?_, ?_⟩ <;> (rw [past_far10 (by omega) (by omega)]; with_reducible assumption))
            | (go_split_ands
               refine ⟨?_, ?_, ?_, ?_, ?_⟩ <;> (rw [hb3.cell (by simp; omega)]; with_reducible assumption))
            | (go_split_ands
               refine ⟨?_, ?_, ?_, ?_, ?_⟩ <;> (rw [hb2.cell (by simp; omega)]; with_reducible assumption))
            | (go_split_ands
               refine ⟨?_, ?_, ?_, ?_, ?_⟩ <;> (rw [World.cell?_alloc_past _ _ _ (by simp; omega)]; with_reducible assumption))
            | (go_split_ands
               refine ⟨?_, ?_, ?_, ?_, ?_⟩ <;> (rw [World.cell?_alloc_past _ _ _ (by simp; omega), World.cell?_alloc_past _ _ _ (by simp; omega)]; with_reducible assumption))
            | go_keep)
          (first
          | (go_at_call 47; go_fit (refsL_any (cS 32 l 5) _ s5); rintro e w2 ⟨v2, rfl, hown2, hb2⟩; obtain ⟨a2, c2, rfl, hsl2, hsw2⟩ := hown2.slw m5; have hB2 : Below w'.heap.size w' w2 := Below.trans (by repeat' (first | exact Below.refl _ _ | exact Nat.le_refl _ | (refine Below.drew ?_) | (refine Below.alloc ?_ ?_ _) | (simp <;> omega))) (hb2.mono (by first | exact Nat.le_refl _ | (simp <;> omega))); have hl2 : g < w2.heap.size := Nat.lt_of_lt_of_le hgl hB2.size; have p0 := (hB2.cell (by exact hgl)).trans p0; have p1 := (hB2.cell (by exact hgl)).trans p1; have p2 := (hB2.cell (by exact hgl)).trans p2; have p6 := (hB2.cell (by exact hgl)).trans p6; have p5 := (hB2.cell (by exact hgl)).trans p5; first | ((with_reducible have zy2 := bx_atD (w0 := w') hb2); have zz2 : BX w2 w'.heap.size zeL := zy2; obtain ⟨za2, zb2, zc2⟩ := zz2) | ((with_reducible have zy2 := bx_pastD (w0 := w') hb2); have zz2 : BX w2 w'.heap.size zeL := zy2; obtain ⟨za2, zb2, zc2⟩ := zz2) | ((with_reducible have zy2 := bx_at1D (w0 := w') hb2); have zz2 : BX w2 (w'.heap.size + 1) zeL := zy2; obtain ⟨za2, zb2, zc2⟩ := zz2) | skip)
          | (go_at_call 47; go_fit (refsL_any (cS 32 l 6) _ s6); rintro e w3 ⟨v3, rfl, hown3, hb3⟩; obtain ⟨a3, c3, rfl, hsl3, hsw3⟩ := hown3.slw m6; have hB3 : Below w2.heap.size w2 w3 := Below.trans (by repeat' (first | exact Below.refl _ _ | exact Nat.le_refl _ | (refine Below.drew ?_) | (refine Below.alloc ?_ ?_ _) | (simp <;> omega))) (hb3.mono (by first | exact Nat.le_refl _ | (simp <;> omega))); have hl3 : g < w3.heap.size := Nat.lt_of_lt_of_le hl2 hB3.size; have p0 := (hB3.cell (by exact hl2)).trans p0; have p1 := (hB3.cell (by exact hl2)).trans p1; have p2 := (hB3.cell (by exact hl2)).trans p2; have p5 := (hB3.cell (by exact hl2)).trans p5; have p6 := (hB3.cell (by exact hl2)).trans p6; first | (have zz3 : BX w3 w'.heap.size zeL := BX.mono (show BX w2 w'.heap.size zeL from ⟨za2, zb2, zc2⟩) hB3; have zd3 := fun o' => (BX.alloc zz3 o').1; have ze3 := fun o' => (BX.alloc zz3 o').2.1; obtain ⟨za3, zb3, zc3⟩ := zz3) | (have zz3 : BX w3 (w'.heap.size + 1) zeL := BX.mono (show BX w2 (w'.heap.size + 1) zeL from ⟨za2, zb2, zc2⟩) hB3; have zd3 := fun o' => (BX.alloc zz3 o').1; have ze3 := fun o' => (BX.alloc zz3 o').2.1; obtain ⟨za3, zb3, zc3⟩ := zz3) | ((with_reducible have zy3 := bx_at (w0 := w2) hb3); have zz3 : BX w3 w2.heap.size zeL := zy3; have zd3 := fun o' => (BX.alloc zz3 o').1; have ze3 := fun o' => (BX.alloc zz3 o').2.1; obtain ⟨za3, zb3, zc3⟩ := zz3) | ((with_reducible have zy3 := bx_past (w0 := w2) hb3); have zz3 : BX w3 w2.heap.size zeL := zy3; have zd3 := fun o' => (BX.alloc zz3 o').1; have ze3 := fun o' => (BX.alloc zz3 o').2.1; obtain ⟨za3, zb3, zc3⟩ := zz3) | ((with_reducible have zy3 := bx_at1 (w0 := w2) hb3); have zz3 : BX w3 (w2.heap.size + 1) zeL := zy3; have zd3 := fun o' => (BX.alloc zz3 o').1; have ze3 := fun o' => (BX.alloc zz3 o').2.1; obtain ⟨za3, zb3, zc3⟩ := zz3) | skip))
        all_goals
          go_wp2
          go_meet
          case rel =>
            have hs2 := hB2.size
            have hs3 := hB3.size
            first
              | (with_reducible refine lemA hgl hps hB2 hB3 hl2 hl3 hsl2 hsl3 hsw2 hsw3 ?_ ?_)
              | (with_reducible refine lemB hgl hps hB2 hB3 hl2 hl3 hsl2 hsl3 hsw2 hsw3 ?_ ?_)
              | (with_reducible refine lemC hgl hps hB2 hB3 hl2 hl3 hsl2 hsl3 hsw2 hsw3 ?_ ?_)
              | (with_reducible refine lemD za3 zb3 zc3 hgl hps hB2 hB3 hl2 hl3 hsl2 hsl3 hsw2 hsw3 ?_ ?_ ?_ ?_ ?_)
              | (with_reducible refine lemE za3 zb3 zc3 hgl hps hB2 hB3 hl2 hl3 hsl2 hsl3 hsw2 hsw3 ?_ ?_ ?_ ?_ ?_)
            all_goals first
              | exact Nat.le_refl _
              | (simp; done)
              | (simp; omega)
              | omega
      case rest =>
        obtain ⟨B, a2, c2, a3, c3, ga, rfl, hD⟩ := hcut
        have hk3 : 0 < (cS 32 l 3).size := piece_pos hh 3 (by decide)
        have P3 := fun (wy : World) (h : ∀ o, wy.cell? ⟨g, o, none⟩ = w'.cell? ⟨g, o, none⟩) => (h 3).trans p3
        have P4 := fun (wy : World) (h : ∀ o, wy.cell? ⟨g, o, none⟩ = w'.cell? ⟨g, o, none⟩) => (h 4).trans p4
        have P7 := fun (wy : World) (h : ∀ o, wy.cell? ⟨g, o, none⟩ = w'.cell? ⟨g, o, none⟩) => (h 7).trans p7
        have HP3 : Hid (_) := P3
        have HP4 : Hid (_) := P4
        have HP7 : Hid (_) := P7
        have hgw : w.heap.size + 1 < g := by omega
        clear P3 P4 P7 p0 p1 p2 p3 p4 p5 p6 p7 hps hgl
        have q3 := HP3.out _ hD.gc
        go_upto_if 46 with fail
        go_cut [6] from 12 (fun vp wx => vp = .pointer (some ⟨B, 0, none⟩) ∧ PD l w w' g B a2 c2 a3 c3 (evC (cS 32 l 0) (cS 32 l 1) (cS 32 l 2) (peKey l) ⟨#[]⟩ (peSt l) 0 a2 (rN (cS 32 l 5)) c2 a3 (rN (cS 32 l 6)) c3 (some ⟨ga, 0, none⟩) 0 0) wx ∧ (peSt l || dashQ (cS 32 l 3)) = true)
        case first =>
          cases hst : peSt l
          · have h61 : (((cS 32 l 3)[0].toNat : Int) == 61) = false := head_ne hk3 hst
            cases hd : dashQ (cS 32 l 3)
            · have hd' : ((cS 32 l 3).toList == [45]) = false := hd
              have hbad : Hid (1 = peCode l) := (pe_bad (form_key hst hd)).symm
              have hps := hD.ps
              have r' := hps.r
              obtain ⟨x0, y0⟩ := r' 0 (by decide)
              obtain ⟨x1, y1⟩ := r' 1 (by decide)
              obtain ⟨x2, y2⟩ := r' 2 (by decide)
              obtain ⟨x3, y3⟩ := r' 3 (by decide)
              obtain ⟨x4, y4⟩ := r' 4 (by decide)
              obtain ⟨x5, y5⟩ := r' 5 (by decide)
              obtain ⟨x6, y6⟩ := r' 6 (by decide)
              obtain ⟨x7, y7⟩ := r' 7 (by decide)
              obtain ⟨x8, y8⟩ := r' 8 (by decide)
              obtain ⟨x9, y9⟩ := r' 9 (by decide)
              have f1 := hps.rf
              have z' := hps.z
              have hbB := hps.below
              clear r'
              go_wp2
              refine bodyPost_ret (v := .tuple #[noV, .int .i64 (1)]) (by simp [results, Tryd.results16, go_sem, y0, y1, y2, y3, y4, y5, y6, y7, y8, y9]) rfl (Or.inl ⟨1, by decide, hbad.out, rfl, ?_⟩)
              iterate 10 (refine Below.setCell ?_ (show _ ≤ w.heap.size from Nat.le_refl _) _)
              exact hbB
            · have hd' : ((cS 32 l 3).toList == [45]) = true := hd
              have hkey : Hid (peKey l = ⟨#[]⟩) := by unfold Hid peKey; rw [hst]; rfl
              go_wp2
              go_meet
              case rel => exact ⟨rfl, by rw [hkey.out, hst]; exact hD, by rw [hst, hd]; rfl⟩
          · have h61 : (((cS 32 l 3)[0].toNat : Int) == 61) = true := head_eq hk3 hst
            have hkey : Hid (peKey l = (cS 32 l 3).extract 1 (cS 32 l 3).size) := by unfold Hid peKey; rw [hst]; rfl
            have bx := hD.bx.1
            have bf := hD.bx.2.1
            have gB := hD.gB
            have hD2 := (hD.set 3 (by simp) (.bool true)).set 4 (by simp) (.string ((cS 32 l 3).extract 1 (cS 32 l 3).size))
            have q3' := HP3.out _ (hD.set 3 (by simp) (.bool true)).gc
            go_wp2
            go_meet
            case rel => exact ⟨rfl, by rw [hkey.out, hst]; simpa using hD2, by rw [hst]; rfl⟩
        case rest =>
          obtain ⟨rfl, hD, hkey0⟩ := hcut
          have HK : Hid ((peSt l || dashQ (cS 32 l 3)) = true) := hkey0
          clear hkey0
          have q4 := HP4.out _ hD.gc
          have hcut7 : Hid (∀ W, Calls Tryd.prog 45 #[.string (cS 32 l 7), .int .u8 58] W fun e w' => ∃ v, e = .returned v ∧ OwnT w' W.heap.size v (cN 58 (cS 32 l 7)) (cS 58 (cS 32 l 7)) ∧ Below W.heap.size W w') := fun W => cutS_any (cS 32 l 7) 58 W (hsz 7 (by decide))
          go_wp2_with fail
          refine (numS_any (cS 32 l 4) _ (hsz 4 (by decide))).mono ?_
          rintro e w5 ⟨nv, nok, rfl, hnr, hb5⟩
          have hD5 := hD.mono hb5
          clear q4 q3 hD hb5
          cases nok
          · have hbad : Hid (1 = peCode l) := (pe_bad (form_tm (tm_no hnr))).symm
            have hps := hD5.ps
            have r' := hps.r
            obtain ⟨x0, y0⟩ := r' 0 (by decide)
            obtain ⟨x1, y1⟩ := r' 1 (by decide)
            obtain ⟨x2, y2⟩ := r' 2 (by decide)
            obtain ⟨x3, y3⟩ := r' 3 (by decide)
            obtain ⟨x4, y4⟩ := r' 4 (by decide)
            obtain ⟨x5, y5⟩ := r' 5 (by decide)
            obtain ⟨x6, y6⟩ := r' 6 (by decide)
            obtain ⟨x7, y7⟩ := r' 7 (by decide)
            obtain ⟨x8, y8⟩ := r' 8 (by decide)
            obtain ⟨x9, y9⟩ := r' 9 (by decide)
            have f1 := hps.rf
            have z' := hps.z
            have hbB := hps.below
            clear r'
            go_wp2
            refine bodyPost_ret (v := .tuple #[noV, .int .i64 (1)]) (by simp [results, Tryd.results16, go_sem, y0, y1, y2, y3, y4, y5, y6, y7, y8, y9]) rfl (Or.inl ⟨1, by decide, hbad.out, rfl, ?_⟩)
            iterate 10 (refine Below.setCell ?_ (show _ ≤ w.heap.size from Nat.le_refl _) _)
            exact hbB
          by_cases hneg : nv < 0
          · have hbad : Hid (1 = peCode l) := (pe_bad (form_tm (tm_neg hnr hneg))).symm
            have hps := hD5.ps
            have r' := hps.r
            obtain ⟨x0, y0⟩ := r' 0 (by decide)
            obtain ⟨x1, y1⟩ := r' 1 (by decide)
            obtain ⟨x2, y2⟩ := r' 2 (by decide)
            obtain ⟨x3, y3⟩ := r' 3 (by decide)
            obtain ⟨x4, y4⟩ := r' 4 (by decide)
            obtain ⟨x5, y5⟩ := r' 5 (by decide)
            obtain ⟨x6, y6⟩ := r' 6 (by decide)
            obtain ⟨x7, y7⟩ := r' 7 (by decide)
            obtain ⟨x8, y8⟩ := r' 8 (by decide)
            obtain ⟨x9, y9⟩ := r' 9 (by decide)
            have f1 := hps.rf
            have z' := hps.z
            have hbB := hps.below
            clear r'
            go_wp2
            refine bodyPost_ret (v := .tuple #[noV, .int .i64 (1)]) (by simp [results, Tryd.results16, go_sem, y0, y1, y2, y3, y4, y5, y6, y7, y8, y9]) rfl (Or.inl ⟨1, by decide, hbad.out, rfl, ?_⟩)
            iterate 10 (refine Below.setCell ?_ (show _ ≤ w.heap.size from Nat.le_refl _) _)
            exact hbB
          have htm : Hid (peTm l = some nv ∧ peTime l = nv) := tm_yes hnr hneg
          have hD6 := hD5.set 5 (by simp) (.int .i64 nv)
          have bx := hD5.bx.1
          have bf := hD5.bx.2.1
          have q7 := HP7.out _ hD6.gc
          go_wp2_with fail
          refine (hcut7.out _).mono ?_
          rintro e w6 ⟨v6, rfl, hown6, hb6⟩
          rcases hown6.cells with ⟨_, h0⟩ | ⟨g6, cap6, rfl, _⟩
          · have := cN_pos 58 (cS 32 l 7)
            omega
          have hD7 := hD6.mono hb6
          have hcn := cN_le 58 (cS 32 l 7)
          have hs7 := hsz 7 (by decide)
          clear bx bf q7 hown6 hb6 hD6 hD5 hcut7
          have q7 := HP7.out _ hD7.gc
          go_upto_if 79 with fail
          go_cut [6, 9, 10] from 12 (fun vp _ _ wx => vp = .pointer (some ⟨B, 0, none⟩) ∧ ∃ gv gc, PD l w w' g B a2 c2 a3 c3 (evC (cS 32 l 0) (cS 32 l 1) (cS 32 l 2) (peKey l) (peVal l) (peSt l) (peTime l) a2 (rN (cS 32 l 5)) c2 a3 (rN (cS 32 l 6)) c3 gv (peN l) gc) wx ∧ SlG wx gv (peN l) gc (gM (cS 32 l 7)) (gL (cS 32 l 7)) ∧ Apart gv (peN l) B ∧ Apart gv (peN l) w.heap.size ∧ peForm l = true)
          case first =>
            have HF : Hid (∀ q, (!peGr l || gAll (cS 32 l 7)) = q → peForm l = (true && (true && (true && q)))) := by
              intro q hq
              unfold peForm
              rw [Hhead.out, HK.out, htm.out.1, hq]; rfl
            cases hgr : peGr l
            · have hc1 : ¬ 1 < cN 58 (cS 32 l 7) := by unfold peGr at hgr; simpa using hgr
              have hform : Hid (peForm l = true) := HF.out true (by rw [hgr]; rfl)
              have hN : Hid (peN l = 0) := by unfold Hid peN; rw [hgr]; rfl
              have hzg : ∀ W, SlG W (some ⟨ga, 0, none⟩) 0 0 (gM (cS 32 l 7)) (gL (cS 32 l 7)) := fun W => ⟨Nat.le_refl _, by decide, fun i hi => absurd hi (Nat.not_lt_zero _), Or.inl rfl⟩
              have HZ : Hid (_) := hzg
              clear hzg
              cases hd : dashQ (cS 32 l 7)
              · have hd' : ((cS 32 l 7).toList == [45]) = false := hd
                have hval : Hid (peVal l = cS 32 l 7) := by unfold Hid peVal; rw [hgr, hd]; rfl
                have hD8 := hD7.set 8 (by simp) (.string (cS 32 l 7))
                have bx := hD7.bx.1
                have bf := hD7.bx.2.1
                go_wp2
                go_meet
                case rel => exact ⟨rfl, some ⟨ga, 0, none⟩, 0, by rw [hval.out, htm.out.2, hN.out]; simpa using hD8, by rw [hN.out]; exact HZ.out _, Or.inl hN.out, Or.inl hN.out, hform.out⟩
              · have hd' : ((cS 32 l 7).toList == [45]) = true := hd
                have hval : Hid (peVal l = ⟨#[]⟩) := by unfold Hid peVal; rw [hgr, hd]; rfl
                go_wp2
                go_meet
                case rel => exact ⟨rfl, some ⟨ga, 0, none⟩, 0, by rw [hval.out, htm.out.2, hN.out]; simpa using hD7, by rw [hN.out]; exact HZ.out _, Or.inl hN.out, Or.inl hN.out, hform.out⟩
            · have hc1 : 1 < cN 58 (cS 32 l 7) := by unfold peGr at hgr; simpa using hgr
              have hgm : ∀ i, i < cN 44 (cS 32 l 7) → (gM (cS 32 l 7) i).size ≤ maxLen := fun i hi => Nat.le_trans (Nat.le_trans (Nat.le_trans (cS_size 58 _ 0 (cN_pos 58 _)) (cS_size 44 _ i hi)) hs7) (by decide)
              go_wp2_with fail
              refine (rdGr_any (cS 32 l 7) _ hs7).mono ?_
              rintro e w8 ⟨v8, rfl, hog, hb8⟩
              cases hga : gAll (cS 32 l 7)
              · have hbad : Hid (1 = peCode l) := (pe_bad (form_gr hgr hga)).symm
                have hps := (hD7.mono hb8).ps
                have r' := hps.r
                obtain ⟨x0, y0⟩ := r' 0 (by decide)
                obtain ⟨x1, y1⟩ := r' 1 (by decide)
                obtain ⟨x2, y2⟩ := r' 2 (by decide)
                obtain ⟨x3, y3⟩ := r' 3 (by decide)
                obtain ⟨x4, y4⟩ := r' 4 (by decide)
                obtain ⟨x5, y5⟩ := r' 5 (by decide)
                obtain ⟨x6, y6⟩ := r' 6 (by decide)
                obtain ⟨x7, y7⟩ := r' 7 (by decide)
                obtain ⟨x8, y8⟩ := r' 8 (by decide)
                obtain ⟨x9, y9⟩ := r' 9 (by decide)
                have f1 := hps.rf
                have z' := hps.z
                have hbB := hps.below
                clear r'
                go_wp2
                refine bodyPost_ret (v := .tuple #[noV, .int .i64 (1)]) (by simp [results, Tryd.results16, go_sem, y0, y1, y2, y3, y4, y5, y6, y7, y8, y9]) rfl (Or.inl ⟨1, by decide, hbad.out, rfl, ?_⟩)
                iterate 10 (refine Below.setCell ?_ (show _ ≤ w.heap.size from Nat.le_refl _) _)
                exact hbB
              · have hform : Hid (peForm l = true) := HF.out true (by rw [hgr, hga]; rfl)
                have hN : Hid (peN l = cN 44 (cS 32 l 7)) := by unfold Hid peN; rw [hgr]; rfl
                have hval : Hid (peVal l = ⟨#[]⟩) := by unfold Hid peVal; rw [hgr]; rfl
                obtain ⟨gv, gc, rfl, hsg, hsw⟩ := (hog hga).sl hgm
                have hb6B := hD7.bx.2.2
                have hb6w := hD7.hB
                have hA : Apart gv (cN 44 (cS 32 l 7)) B := hsw.apart (Or.inl hb6B)
                have hR : Apart gv (cN 44 (cS 32 l 7)) w.heap.size := hsw.apart (Or.inl (by omega))
                have hsg2 := hsg.setA (j := 9) (x := .slice gv (cN 44 (cS 32 l 7)) gc) hA
                have hD8 := hD7.mono hb8
                have hD9 := hD8.set 9 (by simp) (.slice gv (cN 44 (cS 32 l 7)) gc)
                have bx := hD8.bx.1
                have bf := hD8.bx.2.1
                clear hsg hsw hog hb8 hD7
                go_wp2
                go_meet
                case rel => exact ⟨rfl, gv, gc, by rw [hval.out, htm.out.2, hN.out]; simpa using hD9, by rw [hN.out]; exact hsg2, by rw [hN.out]; exact hA, by rw [hN.out]; exact hR, hform.out⟩
          case rest =>
            obtain ⟨rfl, gv, gc, hD, hsg, hAg, hRg, hform⟩ := hcut
            have hszm : ∀ i, i < 8 → (cS 32 l i).size ≤ maxLen := fun i hi => Nat.le_trans (hsz i hi) (by decide)
            have hkl : (peKey l).size ≤ maxLen := by
              unfold peKey; split
              · rw [ByteArray.size_extract]; have := hszm 3 (by decide); omega
              · decide
            have hvl : (peVal l).size ≤ maxLen := by
              unfold peVal; split
              · decide
              · exact hszm 7 (by decide)
            have hev : Hid (∀ W, W = wc → Calls Tryd.prog 7 #[peV l a2 c2 a3 c3 gv gc] W fun e w' => e = .returned (.int .i64 (peEv l)) ∧ Below W.heap.size W w') := fun W hW => by
              subst hW
              exact evS_any _ _ _ _ _ _ _ _ _ _ _ _ _ _ _ _ _ _ _ _ W (hszm 0 (by decide)) (hszm 1 (by decide)) (hszm 2 (by decide)) hkl hvl hD.l2 hD.l3 hsg
            have hnn : 0 ≤ peEv l ∧ peEv l ≤ 5 := evCode_bd _ _ _ _ _ _ _ _ _ _ _ _ _ _
            have hcode : Hid (peCode l = if peEv l = 0 then 0 else peEv l + 1) := by unfold Hid peCode; rw [hform]; rfl
            generalize peEv l = c at hev hnn hcode
            have bx := hD.bx.1
            clear hszm hkl hvl hform q7 hsz s5 s6 m5 m6 HP3 HP4 HP7 HK htm Hhead
            go_wp2_with fail
            refine (hev.out _ rfl).mono ?_
            rintro e w9 ⟨rfl, hb9⟩
            have hD9 := hD.mono hb9
            have hsg9 := hsg.below hb9
            have hps := hD9.ps
            clear bx
            by_cases h0 : c = 0
            · have hc0 : Hid (peCode l = 0) := by unfold Hid; rw [hcode.out, if_pos h0]
              have bx := hD9.bx.1
              have r' := hps.r
              obtain ⟨x0, y0⟩ := r' 0 (by decide)
              obtain ⟨x1, y1⟩ := r' 1 (by decide)
              obtain ⟨x2, y2⟩ := r' 2 (by decide)
              obtain ⟨x3, y3⟩ := r' 3 (by decide)
              obtain ⟨x4, y4⟩ := r' 4 (by decide)
              obtain ⟨x5, y5⟩ := r' 5 (by decide)
              obtain ⟨x6, y6⟩ := r' 6 (by decide)
              obtain ⟨x7, y7⟩ := r' 7 (by decide)
              obtain ⟨x8, y8⟩ := r' 8 (by decide)
              obtain ⟨x9, y9⟩ := r' 9 (by decide)
              have f1 := hps.rf
              have hbB := hps.below
              have l2 := hD9.l2
              have l3 := hD9.l3
              have R2 := hD9.R2
              have R3 := hD9.R3
              clear r' hev hnn hcode hD hsg hb9
              subst h0
              go_wp2
              refine bodyPost_ret (v := .tuple #[peV l a2 c2 a3 c3 gv gc, .int .i64 0]) (by simp [results, Tryd.results16, go_sem, y0, y1, y2, y3, y4, y5, y6, y7, y8, y9]) rfl (Or.inr ⟨hc0.out, a2, c2, a3, c3, gv, gc, rfl, ?_, ?_, ?_, ?_⟩)
              · iterate 10 (refine SlS.setA R2 ?_)
                exact l2
              · iterate 10 (refine SlS.setA R3 ?_)
                exact l3
              · iterate 10 (refine SlG.setA hRg ?_)
                exact hsg9
              · iterate 10 (refine Below.setCell ?_ (show _ ≤ w.heap.size from Nat.le_refl _) _)
                exact hbB
            · have hcne : Hid (c + 1 ≠ 0) := by unfold Hid; omega
              have hbad : Hid (c + 1 = peCode l) := by unfold Hid; rw [hcode.out, if_neg h0]
              have h0' : (c == 0) = false := by rw [beq_eq_false_iff_ne]; exact h0
              have r' := hps.r
              obtain ⟨x0, y0⟩ := r' 0 (by decide)
              obtain ⟨x1, y1⟩ := r' 1 (by decide)
              obtain ⟨x2, y2⟩ := r' 2 (by decide)
              obtain ⟨x3, y3⟩ := r' 3 (by decide)
              obtain ⟨x4, y4⟩ := r' 4 (by decide)
              obtain ⟨x5, y5⟩ := r' 5 (by decide)
              obtain ⟨x6, y6⟩ := r' 6 (by decide)
              obtain ⟨x7, y7⟩ := r' 7 (by decide)
              obtain ⟨x8, y8⟩ := r' 8 (by decide)
              obtain ⟨x9, y9⟩ := r' 9 (by decide)
              have f1 := hps.rf
              have z' := hps.z
              have hbB := hps.below
              clear r'
              go_wp2
              refine bodyPost_ret (v := .tuple #[noV, .int .i64 (c + 1)]) (by simp [results, Tryd.results16, go_sem, y0, y1, y2, y3, y4, y5, y6, y7, y8, y9]) rfl (Or.inl ⟨c + 1, hcne.out, hbad.out, rfl, ?_⟩)
              iterate 10 (refine Below.setCell ?_ (show _ ≤ w.heap.size from Nat.le_refl _) _)
              exact hbB
    · have hbad : Hid (1 = peCode l) := (pe_bad (form_head (by unfold peHead; rw [hh]; simp))).symm
      clear h8 hN hNp hgx
      go_wp2_with fail
      refine (Hh.out _ hc).mono ?_
      rintro e w' ⟨rfl, rfl⟩
      rw [hh]
      clear Hh
      have r' := hps.r
      obtain ⟨x0, y0⟩ := r' 0 (by decide)
      obtain ⟨x1, y1⟩ := r' 1 (by decide)
      obtain ⟨x2, y2⟩ := r' 2 (by decide)
      obtain ⟨x3, y3⟩ := r' 3 (by decide)
      obtain ⟨x4, y4⟩ := r' 4 (by decide)
      obtain ⟨x5, y5⟩ := r' 5 (by decide)
      obtain ⟨x6, y6⟩ := r' 6 (by decide)
      obtain ⟨x7, y7⟩ := r' 7 (by decide)
      obtain ⟨x8, y8⟩ := r' 8 (by decide)
      obtain ⟨x9, y9⟩ := r' 9 (by decide)
      have f1 := hps.rf
      have z' := hps.z
      have hbB := hps.below
      clear r'
      go_wp2
      refine bodyPost_ret (v := .tuple #[noV, .int .i64 (1)]) (by simp [results, Tryd.results16, go_sem, y0, y1, y2, y3, y4, y5, y6, y7, y8, y9]) rfl (Or.inl ⟨1, by decide, hbad.out, rfl, ?_⟩)
      iterate 10 (refine Below.setCell ?_ (show _ ≤ w.heap.size from Nat.le_refl _) _)
      exact hbB
  · have h8' : (((cN 32 l : Nat) : Int) != 8) = true := by rw [bne_iff_ne]; omega
    have hbad : Hid (1 = peCode l) := (pe_bad (form_head (by unfold peHead; simp [h8]))).symm
    clear h8
    have r' := hps.r
    obtain ⟨x0, y0⟩ := r' 0 (by decide)
    obtain ⟨x1, y1⟩ := r' 1 (by decide)
    obtain ⟨x2, y2⟩ := r' 2 (by decide)
    obtain ⟨x3, y3⟩ := r' 3 (by decide)
    obtain ⟨x4, y4⟩ := r' 4 (by decide)
    obtain ⟨x5, y5⟩ := r' 5 (by decide)
    obtain ⟨x6, y6⟩ := r' 6 (by decide)
    obtain ⟨x7, y7⟩ := r' 7 (by decide)
    obtain ⟨x8, y8⟩ := r' 8 (by decide)
    obtain ⟨x9, y9⟩ := r' 9 (by decide)
    have f1 := hps.rf
    have z' := hps.z
    have hbB := hps.below
    clear r'
    go_wp2
    refine bodyPost_ret (v := .tuple #[noV, .int .i64 (1)]) (by simp [results, Tryd.results16, go_sem, y0, y1, y2, y3, y4, y5, y6, y7, y8, y9]) rfl (Or.inl ⟨1, by decide, hbad.out, rfl, ?_⟩)
    iterate 10 (refine Below.setCell ?_ (show _ ≤ w.heap.size from Nat.le_refl _) _)
    exact hbB
end Go.Proofs.YtjmhdjjkfglbgabDoor
