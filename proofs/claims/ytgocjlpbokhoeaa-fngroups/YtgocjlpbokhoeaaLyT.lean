import Derived.Test.YtgocjlpbokhoeaaLyS
import Derived.Deep.AppendLies
namespace Go.Proofs.Ytgocjlpbokhoeaa
open Go.RowKit
theorem Try.infoLayP : (Try.prog.info? 58).map (fun i => (i.zero, i.size, i.bytes)) = some (some (.pointer none), 1, 8) := by kernel_rfl
theorem make_lays (n : Nat) (h : n * 8 ≤ 140737488351232) (W : World) :
    (Instr.makeSlice 55 (.int .i64 0) (.int .i64 (n : Int))).run Try.prog W = .ok (.slice (some ⟨W.heap.size, 0, none⟩) 0 n) (W.alloc (.cells (madeCells #[.pointer none] n) 58)) := by
  obtain ⟨i0, hi, hz0, hz1, hz2⟩ := info_parts Try.infoLayP
  have := run_make (P := Try.prog) W 55 58 i0 (.pointer none) Try.underlying55 hi hz0 .i64 .i64 0 (n : Int) (by omega) (by omega) (by rw [hz2]; omega) (by omega)
  rw [this, hz1]
  simp [Value.cells]
def OwnQ (w : World) (base : Nat) (v : Value) (n : Nat) (X : Nat → Value) : Prop := w.ownsRow base 58 1 v n ((List.range n).map X)
theorem OwnQ.below {w w' : World} {base n : Nat} {v : Value} {X : Nat → Value} (h : OwnQ w base v n X) (hb : Below w.heap.size w w') : OwnQ w' base v n X := ownsRow_below h hb
theorem OwnQ.sl {w : World} {base n : Nat} {v : Value} {X : Nat → Value} (h : OwnQ w base v n X) : ∃ a cap, v = .slice a n cap ∧ SlQ w a n cap X := by
  obtain ⟨h1, h2⟩ := h
  rcases h2 with ⟨rfl, h0⟩ | ⟨g, cap, cur, rfl, hg, hh, hn, hc, hcs, hx⟩
  · subst h0; exact ⟨none, 0, rfl, ⟨Nat.le_refl _, by decide, Or.inl rfl⟩⟩
  · have hlt : g < w.heap.size := (Array.getElem?_eq_some_iff.1 hh).1
    refine ⟨_, cap, rfl, ⟨hn, hc, Or.inr ⟨g, 0, rfl, hlt, fun j hj => ?_⟩⟩⟩
    have e : ((List.range n).map X)[j]? = some (X j) := by simp [hj]
    rw [← e, ← hx, List.getElem?_take, if_pos (by omega), Nat.zero_add]
    simp [World.cell?, hh]
theorem OwnQ.row {w : World} {base n : Nat} {v : Value} {X : Nat → Value} (h : OwnQ w base v n X) (k : Nat) (hk : v.ownBlock = some k) : base ≤ k ∧ k < w.heap.size := by
  rcases h.2 with ⟨rfl, _⟩ | ⟨g, cap, cur, rfl, hg, hh, _⟩
  · cases hk
  · cases hk; exact ⟨hg, (Array.getElem?_eq_some_iff.1 hh).1⟩
theorem OwnQ.made (w : World) (base m : Nat) (cs : Array Value) (hm : m ≤ maxLen) (hc : cs.size = m) (hb : base ≤ w.heap.size) (X : Nat → Value) : OwnQ (w.alloc (.cells cs 58)) base (.slice (some ⟨w.heap.size, 0, none⟩) 0 m) 0 X :=
  ⟨rfl, Or.inr ⟨w.heap.size, m, cs, rfl, hb, by show (w.heap.push _)[w.heap.size]? = _; simp, Nat.zero_le _, hm, by rw [hc, Nat.mul_one], by simp⟩⟩
def addX (X : Nat → Value) (n : Nat) (p : Value) : Nat → Value := fun i => if i = n then p else X i
theorem OwnQ.snoc {w : World} {base n : Nat} {v : Value} {X : Nat → Value} {p : Value} (h : w.ownsRow base 58 1 v (n + 1) ((List.range n).map X ++ [p])) : OwnQ w base v (n + 1) (addX X n p) := by
  have : (List.range (n + 1)).map (addX X n p) = (List.range n).map X ++ [p] := by
    rw [List.range_succ, List.map_append]
    congr 1
    · exact List.map_congr_left fun i hi => by unfold addX; rw [if_neg (by have := List.mem_range.1 hi; omega)]
    · simp [addX]
  unfold OwnQ
  rw [this]
  exact h
theorem one_ptr (q : Option Addr) (u : Value) (h : u ∈ [Value.pointer q]) : u.oneCell' = true := by
  simp only [List.mem_cons, List.not_mem_nil, or_false] at h
  subst h; rfl
theorem one_cellsQ (w1 : World) (x : Value) (t : TypeId) (j : Nat) (u : Value) (h : [x][j]? = some u) : (w1.alloc (.cells #[x] t)).cell? ((⟨w1.heap.size, 0, none⟩ : Addr).add j) = some u := by
  have hj : j < 1 := by
    rcases Nat.lt_or_ge j 1 with h' | h'
    · exact h'
    · rw [List.getElem?_eq_none (by simpa using h')] at h; cases h
  match j, hj, h with
  | 0, _, h => rw [show (⟨w1.heap.size, 0, none⟩ : Addr).add 0 = ⟨w1.heap.size, 0, none⟩ from rfl, World.cell?_alloc_at _ _ _ _ rfl]; exact h
theorem LayAt.move {w w' : World} {x y : Option Nat} (hg : w.grownBy w' x) : ∀ {L : List (List Ent)} {p : Value}, LayAt w x p L → LayAt w y p L → LayAt w' y p L
  | [], _, h, _ => h
  | S :: R, p, h, h' => by
    obtain ⟨b, pp, a, cap, e, hlt, c0, c1, c2, c3, hs, hx, hr⟩ := h
    obtain ⟨b', pp', a', cap', e', hlt', c0', c1', c2', c3', hs', hx', hr'⟩ := h'
    rw [e] at e'
    injection e' with e'; injection e' with e'; injection e' with e1 _ _
    subst e1
    rw [c0] at c0'
    injection c0' with c0'
    subst c0'
    rw [c1] at c1'
    injection c1' with c1'; injection c1' with e2 _ e3
    subst e2 e3
    have hb := hg.block b hlt hx.1
    exact ⟨b, pp, a, cap, e, Nat.lt_of_lt_of_le hlt hg.size, (World.cell?_of_block (a := ⟨b, 0, none⟩) hb).trans c0, (World.cell?_of_block (a := ⟨b, 1, none⟩) hb).trans c1, (World.cell?_of_block (a := ⟨b, 2, none⟩) hb).trans c2, (World.cell?_of_block (a := ⟨b, 3, none⟩) hb).trans c3, hs.grownA hg hx.2, hx', LayAt.move hg hr hr'⟩
def LsPost (w : World) (G : Nat → Grp) (n : Nat) (e : Ending) (w' : World) : Prop := Below w.heap.size w w' ∧
  ((stoB G n = true ∧ ∃ a cap X, e = .returned (.tuple #[.slice a n cap, .bool true]) ∧ SlQ w' a n cap X ∧ ∀ i, i < n → LayAt w' none (X i) (csF G i)) ∨
   (stoB G n = false ∧ e = .returned (.tuple #[.slice none 0 0, .bool false])))
theorem SlT.oksets {w : World} {a : Option Addr} {n cap : Nat} {G : Nat → Grp} (h : SlT w a n cap G) : ∀ i, i < n → AllOk (G i).sets := fun i hi => by
  rcases h.cells with h0 | ⟨b, off, _, _, hc⟩
  · omega
  · obtain ⟨_, _, _, _, hs⟩ := hc i hi
    exact hs.ok
theorem SlE.apS {w : World} {a : Option Addr} {cap : Nat} {l : List Ent} (h : SlE w a cap l) {x : Option Nat} (hx : ∀ q, x = some q → w.heap.size ≤ q) : ApS x a l := by
  rcases h.cells with h0 | ⟨b', off, rfl, hlt', _⟩
  · exact Or.inl h0
  · exact Or.inr ⟨b', off, rfl, fun e => by have := hx b' e.symm; omega⟩
set_option maxRecDepth 100000 in
set_option maxHeartbeats 4000000 in
theorem layersOf_sl {a : Option Addr} {n cap : Nat} {G : Nat → Grp} (w : World) (h : SlT w a n cap G) :
    Calls Try.prog 26 #[.agg #[.slice a n cap]] w (LsPost w G n) := by
  have hnm := Nat.le_trans h.le h.max
  unfold maxLen at hnm
  obtain ⟨i0, hi, hz0, hz1, hz2⟩ := info_parts Try.infoLayP
  by_cases h1000 : n ≤ 1000
  · have hv0 : Hid (stoB G n = stoTo G n) := by unfold Hid stoB; rw [decide_eq_true h1000]; rfl
    have Hok : Hid (∀ i, i < n → AllOk (G i).sets) := h.oksets
    obtain ⟨wb, hwb⟩ : ∃ wb, wb = w.alloc (.cells #[.slice a n cap] 25) := ⟨_, rfl⟩
    have hwwb : Below w.heap.size w wb := by rw [hwb]; exact (Below.refl _ _).alloc (Nat.le_refl _) _
    have hsb : wb.heap.size = w.heap.size + 1 := by rw [hwb]; simp
    have hbx0 : wb.cell? ⟨w.heap.size, 0, none⟩ = some (.slice a n cap) := by rw [hwb]; exact World.cell?_alloc_at _ _ _ _ rfl
    have hmk := make_lays n (by omega) wb
    obtain ⟨wm, hwm⟩ : ∃ wm, wm = wb.alloc (.cells (madeCells #[.pointer none] n) 58) := ⟨_, rfl⟩
    rw [← hwm] at hmk
    have hbm : Below wb.heap.size wb wm := by rw [hwm]; exact (Below.refl _ _).alloc (Nat.le_refl _) _
    have hwwm := hwwb.trans (hbm.mono hwwb.size)
    have hown0 : Hid (OwnQ wm wb.heap.size (.slice (some ⟨wb.heap.size, 0, none⟩) 0 n) 0 (fun _ => .pointer none)) := by rw [hwm]; exact OwnQ.made wb _ n _ (by unfold maxLen; omega) (size_madeCells _ _) (Nat.le_refl _) _
    have hbxm : wm.cell? ⟨w.heap.size, 0, none⟩ = some (.slice a n cap) := (hbm.cell (by show w.heap.size < _; omega)).trans hbx0
    clear hwm
    go_enter Try.func26, Try.ntmps26
    go_wp2_with fail
    rw [← hwb]
    clear hwb
    rw [hmk]
    clear hmk
    simp only [Result.andThen]
    rw [Oper.upon_value]
    go_wp2_with fail
    go_loopw [4, 20] (fun v iv wr => ∃ (k : Nat) (X : Nat → Value), k ≤ n ∧ iv = .int .i64 (k : Int) ∧ Hid (stoTo G k = true) ∧ Hid (OwnQ wr wb.heap.size v k X) ∧ Hid (∀ i, i < k → LayAt wr v.ownBlock (X i) (csF G i)) ∧ Below wb.heap.size wb wr) (fun _ iv _ => n - (intOf iv).toNat)
    case atStart => exact ⟨0, fun _ => .pointer none, Nat.zero_le _, rfl, rfl, (by rw [← hsb]; exact hown0), fun i hi => absurd hi (Nat.not_lt_zero _), hbm⟩
    case round =>
      clear hown0
      obtain ⟨k, X, hk, rfl, hto, hown, hlay, hbr⟩ := hrel
      obtain ⟨va, vc, rfl, hsq⟩ := hown.out.sl
      have hbw := hwwb.trans (hbr.mono hwwb.size)
      have hbx : wr.cell? ⟨w.heap.size, 0, none⟩ = some (.slice a n cap) := (hbr.cell (by show w.heap.size < _; omega)).trans hbx0
      by_cases hlt : k < n
      · rcases h.cells with h0 | ⟨b, off, rfl, hb, hc⟩
        · omega
        obtain ⟨sa, sc, c1, c2, hsl⟩ := (hc k hlt).below hbw hb
        obtain ⟨sa', sc', c1', c2', hsl0⟩ := hc k hlt
        have esl : sa' = sa ∧ sc' = sc := by
          have := (hbw.cell (p := ⟨b, off + k * 2 + 1, none⟩) (by exact hb)).trans c2'
          rw [c2] at this
          injection this with this
          injection this with t1 _ t2
          exact ⟨t1.symm, t2.symm⟩
        obtain ⟨rfl, rfl⟩ := esl
        have hrow := hown.out.row
        have hap : Hid (ApS (Value.slice va k vc).ownBlock sa' (G k).sets) := hsl0.apS (fun q hq => by have := (hrow q hq).1; have := hwwb.size; omega)
        have HR : Hid (∀ q, (Value.slice va k vc).ownBlock = some q → wb.heap.size ≤ q ∧ q < wr.heap.size) := hrow
        have hlo : Hid (Calls Try.prog 47 #[.slice va k vc, .agg #[.int .i64 (G k).par, .slice sa' (G k).sets.length sc']] (wr.alloc (.cells #[.int .i64 (G k).par, .slice sa' (G k).sets.length sc'] 46)) (LoPost (wr.alloc (.cells #[.int .i64 (G k).par, .slice sa' (G k).sets.length sc'] 46)) (Value.slice va k vc).ownBlock G k)) := by
          have hbA : Below wr.heap.size wr (wr.alloc (.cells #[.int .i64 (G k).par, .slice sa' (G k).sets.length sc'] 46)) := (Below.refl _ _).alloc (Nat.le_refl _) _
          exact layerOf_any _ (fun q hq => by rw [World.size_alloc]; have := (hrow q hq).2; omega) hap.out hto.out (fun i hi => Hok.out i (by omega)) (by omega) (hsq.below hbA) (fun i hi => (hlay.out i hi).below hbA) (hsl.below hbA)
        clear hc c1' c2' hsl0 hrow hsq
        go_wp2_with fail
        refine (hlo.out).mono ?_
        rintro e w1 ⟨hb1, q, t, rfl, ht, hLt⟩
        have HLt : Hid (t = true → LayAt w1 (Value.slice va k vc).ownBlock (.pointer q) (csF G k)) := hLt
        have Ht : Hid (t = grpOk G k) := ht
        have hbA : Below wr.heap.size wr (wr.alloc (.cells #[.int .i64 (G k).par, .slice sa' (G k).sets.length sc'] 46)) := (Below.refl _ _).alloc (Nat.le_refl _) _
        have hb1w := hbA.trans (hb1.mono hbA.size)
        have hbw1 := hbw.trans (hb1w.mono hbw.size)
        have hbr1 := hbr.trans (hb1w.mono hbr.size)
        clear hLt ht hlo c1 c2 hbA hb1
        cases t
        · have hf : Hid (stoB G n = false) := by unfold Hid; rw [hv0.out, stoTo_le G n k hlt (by rw [stoTo, ← Ht.out, Bool.and_false])]
          go_wp2
          exact bodyPost_ret (v := .tuple #[.slice none 0 0, .bool false]) (by simp [results, Try.results26, go_sem]) rfl ⟨hbw1, Or.inr ⟨hf.out, rfl⟩⟩
        · have hto2 : Hid (stoTo G (k + 1) = true) := by unfold Hid; rw [stoTo, hto.out, ← Ht.out]; rfl
          have hown1 := hown.out.below hb1w
          have Hlay1 : Hid (∀ i, i < k + 1 → LayAt w1 (Value.slice va k vc).ownBlock (addX X k (.pointer q) i) (csF G i)) := fun i hi => by
            unfold addX
            by_cases e : i = k
            · subst e; rw [if_pos rfl]; exact HLt.out rfl
            · rw [if_neg e]; exact (hlay.out i (by omega)).below hb1w
          have hm1 : k + 1 ≤ maxLen := by unfold maxLen; omega
          have hm2 : (k + 1) * 8 ≤ 140737488355328 := by omega
          have hz1w := hb1w.size
          have hm3 : ∀ o, wb.heap.size ≤ (w1.alloc o).heap.size := fun o => by have := hbr1.size; simp; omega
          clear hown hlay HLt Ht hbx
          go_wp2_with (at_builtin; refine wpList_append_lies _ rfl _ _ 55 rfl wb.heap.size 58 i0 (.pointer none) 1 8 Try.underlying55 hi hz0 hz1 hz2 rfl (by decide) _ _ _ rfl (World.ownsRow.alloc hown1 _) ⟨w1.heap.size, 0, none⟩ 1 1 [.pointer q] rfl rfl (one_cellsQ _ _ _) (one_ptr _) (by decide) hm1 hm2 (hm3 _) (w1.heap.size + 1) (by simp) ?_; intro gg vc2 w2 hown2 hgrow2 hat2 hlt2)
          have hbAA : Below w1.heap.size w1 (w1.alloc (.cells #[.pointer q] 58)) := (Below.refl _ _).alloc (Nat.le_refl _) _
          have hgrow3 : (w1.alloc (.cells #[.pointer q] 58)).grownBy w2 (Value.slice va k vc).ownBlock := hgrow2
          have hat3 : (Value.slice va k vc).ownBlock = some gg ∨ gg = w1.heap.size + 1 := hat2
          have Hlay2 : Hid (∀ i, i < k + 1 → LayAt w2 (Value.slice (some ⟨gg, 0, none⟩) (k + 1) vc2).ownBlock (addX X k (.pointer q) i) (csF G i)) := fun i hi => by
            have hA := (Hlay1.out i hi).below hbAA
            show LayAt w2 (some gg) _ _
            rcases hat3 with e | e
            · rw [← e]; exact hA.grown hgrow3
            · refine LayAt.move hgrow3 hA (hA.base (fun q hq => ?_))
              injection hq with hq
              rw [World.size_alloc]; omega
          have hbr2 : Below wb.heap.size wb w2 := (hbr1.trans (hbAA.mono hbr1.size)).grown hgrow3 (by have := hbr1.size; rw [World.size_alloc]; omega) (fun q hq => (HR.out q hq).1)
          have Hown3 : Hid (_) := OwnQ.snoc hown2
          clear hown2 hgrow2 hat2 hlt2 hgrow3 hat3 Hlay1 hown1
          go_wp2
          refine ⟨⟨k + 1, addX X k (.pointer q), by omega, by go_num, hto2, Hown3, Hlay2, hbr2⟩, by simp [intOf]; omega⟩
      · have hkn : n = k := by omega
        subst hkn
        have hlay0 : Hid (∀ i, i < n → LayAt wr none (X i) (csF G i)) := fun i hi => (hlay.out i hi).base (fun q hq => by cases hq)
        go_wp2
        exact bodyPost_ret (v := .tuple #[.slice va n vc, .bool true]) (by simp [results, Try.results26, go_sem]) rfl ⟨hbw, Or.inl ⟨by rw [hv0.out]; exact hto.out, va, vc, X, rfl, hsq, hlay0.out⟩⟩
  · have hv0 : Hid (stoB G n = false) := by unfold Hid stoB; rw [decide_eq_false h1000]; rfl
    go_enter Try.func26, Try.ntmps26
    go_wp2
    exact bodyPost_ret (v := .tuple #[.slice none 0 0, .bool false]) (by simp [results, Try.results26, go_sem]) rfl ⟨(Below.refl _ _).alloc (Nat.le_refl _) _, Or.inr ⟨hv0.out, rfl⟩⟩
end Go.Proofs.Ytgocjlpbokhoeaa
