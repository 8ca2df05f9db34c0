import Derived.Test.YtjmhdjjkfglbgacInsC
import Derived.Test.YtjmhdjjkfglbgacGrL
namespace Go.Proofs.Ytjmhdjjkfglbgac
open Go.RowKit Go.Maps Go.ChangeMaps

theorem Try.infoIntsO : (Try.prog.info? 96).map (fun i => (i.zero, i.size, i.bytes)) = some (some (.slice none 0 0), 1, 24) := by kernel_rfl

/-- in graphOf, behind k events: the result's box, the map, the graph's box. -/
structure GB (w : World) (E : Nat → Ev) (sv : Value) (k : Nat) (wx : World) : Prop where
  r1 : ∀ o, o < 3 → ∃ v, wx.cell? ⟨w.heap.size + 1, o, none⟩ = some v
  f1 : ∀ o, wx.frozen? ⟨w.heap.size + 1, o, none⟩ = false
  mp : MapAt wx (w.heap.size + 1 + 1) k (knE E k) (posV E k)
  g0 : wx.cell? ⟨w.heap.size + 1 + 1 + 1, 0, none⟩ = some sv
  g1 : wx.cell? ⟨w.heap.size + 1 + 1 + 1, 1, none⟩ = some (.map (some (w.heap.size + 1 + 1)))
  g2 : ∃ v, wx.cell? ⟨w.heap.size + 1 + 1 + 1, 2, none⟩ = some v
  gf : ∀ o, wx.frozen? ⟨w.heap.size + 1 + 1 + 1, o, none⟩ = false
  size : w.heap.size + 1 + 1 + 1 < wx.heap.size
  below : Below w.heap.size w wx

theorem GB.mono4 {w : World} {E : Nat → Ev} {sv : Value} {k : Nat} {wx wy : World} (h : GB w E sv k wx) (hb : Below (w.heap.size + 1 + 1 + 1 + 1) wx wy) : GB w E sv k wy := by
  have hs := h.size
  exact ⟨fun o ho => (h.r1 o ho).imp fun _ hv => (hb.cell (by show w.heap.size + 1 < _; omega)).trans hv, fun o => (hb.frozen (by show w.heap.size + 1 < _; omega)).trans (h.f1 o), h.mp.kept (hb.block _ (by omega)),
    (hb.cell (by show w.heap.size + 1 + 1 + 1 < _; omega)).trans h.g0, (hb.cell (by show w.heap.size + 1 + 1 + 1 < _; omega)).trans h.g1, h.g2.imp fun _ hv => (hb.cell (by show w.heap.size + 1 + 1 + 1 < _; omega)).trans hv, fun o => (hb.frozen (by show w.heap.size + 1 + 1 + 1 < _; omega)).trans (h.gf o), Nat.lt_of_lt_of_le hs hb.size, h.below.trans (hb.mono (by omega))⟩
theorem GB.mono {w : World} {E : Nat → Ev} {sv : Value} {k : Nat} {wx wy : World} (h : GB w E sv k wx) (hb : Below wx.heap.size wx wy) : GB w E sv k wy := h.mono4 (hb.mono h.size)

theorem GB.set2 {w : World} {E : Nat → Ev} {sv : Value} {k : Nat} {wx : World} (h : GB w E sv k wx) (x : Value) : GB w E sv k (wx.setCell ⟨w.heap.size + 1 + 1 + 1, 2, none⟩ x) :=
  ⟨fun o ho => by rw [far_block (by omega)]; exact h.r1 o ho, fun o => by rw [World.frozen?_setCell]; exact h.f1 o, h.mp.set (by omega) _, by rw [set_far (by decide)]; exact h.g0, by rw [set_far (by decide)]; exact h.g1,
    ⟨x, set_same h.g2⟩, fun o => by rw [World.frozen?_setCell]; exact h.gf o, by simpa [World.setCell] using h.size, h.below.setCell (by show _ ≤ w.heap.size + 1 + 1 + 1; omega) _⟩

theorem GB.put {w : World} {E : Nat → Ev} {sv : Value} {k : Nat} {wx wy : World} (h : GB w E sv k wx) (hg : wx.grownBy wy (some (w.heap.size + 1 + 1))) (hm : MapAt wy (w.heap.size + 1 + 1) (k + 1) (knE E (k + 1)) (posV E (k + 1))) : GB w E sv (k + 1) wy := by
  have hs := h.size
  have e1 : wy.heap[w.heap.size + 1]? = wx.heap[w.heap.size + 1]? := hg.block _ (by omega) (fun e => by injection e; omega)
  have e3 : wy.heap[w.heap.size + 1 + 1 + 1]? = wx.heap[w.heap.size + 1 + 1 + 1]? := hg.block _ (by omega) (fun e => by injection e; omega)
  exact ⟨fun o ho => (h.r1 o ho).imp fun _ hv => (World.cell?_of_block e1).trans hv, fun o => (World.frozen?_of_block e1).trans (h.f1 o), hm, (World.cell?_of_block e3).trans h.g0, (World.cell?_of_block e3).trans h.g1,
    h.g2.imp fun _ hv => (World.cell?_of_block e3).trans hv, fun o => (World.frozen?_of_block e3).trans (h.gf o), Nat.lt_of_lt_of_le hs hg.size, h.below.grown hg h.below.size (fun q hq => by injection hq; omega)⟩

/-- the rows' value, in the graph's third cell. -/
def GR (w : World) (k : Nat) (wx : World) : Prop := ∃ rv xs, wx.cell? ⟨w.heap.size + 1 + 1 + 1, 2, none⟩ = some rv ∧ wx.ownsRow (w.heap.size + 1 + 1 + 1 + 1) 96 1 rv k xs

theorem ownsRow_kept {w w' : World} {base e size n : Nat} {v : Value} {xs : List Value} (h : w.ownsRow base e size v n xs) (hb : ∀ g, base ≤ g → g < w.heap.size → w'.heap[g]? = w.heap[g]?) : w'.ownsRow base e size v n xs := by
  obtain ⟨h1, h2⟩ := h
  refine ⟨h1, ?_⟩
  rcases h2 with h2 | ⟨g, cap, cur, hv, hg, hh, r⟩
  · exact Or.inl h2
  · have hlt : g < w.heap.size := by
      rcases Nat.lt_or_ge g w.heap.size with h' | h'
      · exact h'
      · rw [Array.getElem?_eq_none h'] at hh; cases hh
    exact Or.inr ⟨g, cap, cur, hv, hg, by rw [hb g hg hlt]; exact hh, r⟩

theorem GB.start (w : World) (E : Nat → Ev) (sv : Value) (t0 t1 t2 : TypeId) (c0 c1 : Array Value) (h1 : c1.size = 3) :
    GB w E sv 0 ((((w.alloc (.cells c0 t0)).alloc (.cells c1 t1)).alloc (.map #[] 0)).alloc (.cells #[sv, .map (some (w.heap.size + 1 + 1)), .slice none 0 0] t2)) := by
  refine ⟨fun o ho => ⟨c1[o], ?_⟩, fun o => ?_, ?_, ?_, ?_, ⟨.slice none 0 0, ?_⟩, fun o => ?_, by simp, ((((Below.refl _ _).alloc (Nat.le_refl _) _).alloc (by simp) _).alloc (by simp; omega) _).alloc (by simp; omega) _⟩
  · rw [World.cell?_alloc_past _ _ _ (by simp), World.cell?_alloc_past _ _ _ (by simp), World.cell?_alloc_at _ _ _ _ (by simp)]
    exact Array.getElem?_eq_getElem (by omega)
  · rw [World.frozen?_alloc_past _ _ _ (by simp), World.frozen?_alloc_past _ _ _ (by simp)]
    exact World.frozen?_alloc_at _ _ _ _ (by simp)
  · have := MapAt.made ((w.alloc (.cells c0 t0)).alloc (.cells c1 t1))
    have h2 := this.below ((Below.refl _ _).alloc (Nat.le_refl _) (.cells #[sv, .map (some (w.heap.size + 1 + 1)), .slice none 0 0] t2))
    simp only [World.size_alloc] at h2
    exact h2.congr (fun s => by simp [knE, posV]) (fun s hs => by simp [knE, posV] at hs)
  · exact World.cell?_alloc_at _ _ _ _ (by simp)
  · exact World.cell?_alloc_at _ _ _ _ (by simp)
  · exact World.cell?_alloc_at _ _ _ _ (by simp)
  · exact World.frozen?_alloc_at _ _ _ _ (by simp)
theorem GR.start (w : World) (sv : Value) (t0 t1 t2 : TypeId) (c0 c1 : Array Value) :
    GR w 0 ((((w.alloc (.cells c0 t0)).alloc (.cells c1 t1)).alloc (.map #[] 0)).alloc (.cells #[sv, .map (some (w.heap.size + 1 + 1)), .slice none 0 0] t2)) :=
  ⟨.slice none 0 0, [], World.cell?_alloc_at _ _ _ _ (by simp), ⟨rfl, Or.inl ⟨rfl, rfl⟩⟩⟩

theorem one_slice (x : Value) (h : ∃ a n c, x = .slice a n c) (u : Value) (hu : u ∈ [x]) : u.oneCell' = true := by
  simp only [List.mem_cons, List.not_mem_nil, or_false] at hu
  obtain ⟨a, n, c, rfl⟩ := h
  subst hu; rfl

theorem FindPost.slice {w w' : World} {Kn : ByteArray → Bool} {V : ByteArray → Int} {S : Nat → ByteArray} {k : Nat} {e : Ending} (h : FindPost w Kn V S k e w') : Below w.heap.size w w' ∧ ∃ a n c q, e = .returned (.tuple #[.slice a n c, .bool q]) := by
  refine ⟨h.1, ?_⟩
  rcases h.2 with ⟨_, v, rfl, ho⟩ | ⟨_, rfl⟩
  · obtain ⟨a, cap, rfl, _⟩ := ho.sl
    exact ⟨_, _, _, _, rfl⟩
  · exact ⟨_, _, _, _, rfl⟩

/-- what graphOf answers, as far as a room's validity goes. -/
def GrPost (w : World) (q : Bool) (e : Ending) (w' : World) : Prop := (∃ a1 n1 c1 mo a2 n2 c2, e = .returned (.tuple #[.agg #[.slice a1 n1 c1, .map mo, .slice a2 n2 c2], .bool q])) ∧ Below w.heap.size w w'

theorem own_shape {w : World} {base e size n : Nat} {v : Value} {xs : List Value} (h : w.ownsRow base e size v n xs) : ∃ a m c, v = .slice a m c := by
  rcases h.2 with ⟨e, _⟩ | ⟨_, _, _, e, _⟩ <;> exact ⟨_, _, _, e⟩

theorem gr_app {w w2 w3 : World} {E : Nat → Ev} {sv : Value} {k B : Nat} {o : Obj} {row : Option Nat} {x : Value} (hg2 : GB w E sv k w2) (hgrow : (w2.alloc o).grownBy w3 row)
    (hrow : ∀ q, row = some q → w.heap.size + 1 + 1 + 1 + 1 ≤ q ∧ q < B) (hB : B < w2.heap.size) (hB' : w.heap.size + 1 + 1 + 1 < B) (hid : w2.cell? ⟨B, 0, none⟩ = some x) (v : Value) :
    GB w E sv k w3 ∧ GB w E sv k (w3.setCell ⟨w.heap.size + 1 + 1 + 1, 2, none⟩ v) ∧ (w3.setCell ⟨w.heap.size + 1 + 1 + 1, 2, none⟩ v).cell? ⟨B, 0, none⟩ = some x := by
  have hbA : Below w2.heap.size w2 (w2.alloc o) := (Below.refl _ _).alloc (Nat.le_refl _) _
  have hs2 := hg2.size
  have hbl3 : Below (w.heap.size + 1 + 1 + 1 + 1) (w2.alloc o) w3 := (Below.refl _ _).grown hgrow (by rw [World.size_alloc]; omega) (fun q hq => (hrow q hq).1)
  have hg3 := (hg2.mono hbA).mono4 hbl3
  have e0 : w3.heap[B]? = w2.heap[B]? := (hgrow.block _ (by rw [World.size_alloc]; omega) (fun e => by have := (hrow _ e.symm).2; omega)).trans (hbA.block _ hB)
  refine ⟨hg3, hg3.set2 v, ?_⟩
  rw [far_block (by omega), World.cell?_of_block (a := ⟨B, 0, none⟩) e0]
  exact hid

set_option maxRecDepth 100000 in
set_option maxHeartbeats 4000000 in
theorem graph_any (b off n cap : Nat) (E : Nat → Ev) (w : World) (h : SlV w (some ⟨b, off, none⟩) n cap E) (hb : b < w.heap.size) (hc : ∀ i, i < n → EvAt w b (off + i * 10) (E i)) :
    Calls Try.prog 30 #[.agg #[.slice (some ⟨b, off, none⟩) n cap]] w (GrPost w (roomTo E n)) := by
  have hmm := @run_makeMap Try.prog
  have hn := Nat.le_trans h.le h.max
  unfold maxLen at hn
  obtain ⟨i0, hi, hz0, hz1, hz2⟩ := info_parts Try.infoIntsO
  go_enter Try.func30, Try.ntmps30
  go_wp2_with fail
  clear hmm
  go_loopw [16] (fun i wr => ∃ k : Nat, k ≤ n ∧ i = .int .i64 k ∧ Hid (roomTo E k = true) ∧ GB w E (.slice (some ⟨b, off, none⟩) n cap) k wr ∧ GR w k wr) (fun i _ => n - (intOf i).toNat)
  case atStart => exact ⟨0, Nat.zero_le _, rfl, rfl, GB.start w E _ _ _ _ _ _ rfl, GR.start w _ _ _ _ _ _⟩
  case round =>
    obtain ⟨k, hk, rfl, hto, hg, rv, xs, q1, q2⟩ := hrel
    obtain ⟨ra, rn, rc, rfl⟩ : ∃ a m c, rv = .slice a m c := by
      rcases q2.2 with ⟨e, _⟩ | ⟨_, _, _, e, _⟩ <;> exact ⟨_, _, _, e⟩
    by_cases hlt : k < n
    · obtain ⟨pa, cp, aa, ca, ga, cg, hcs, hok⟩ := hc k hlt
      have hcs1 := hcs.below hg.below hb
      obtain ⟨c0, c1, c2, c3, c4, c5, c6, c7, c8, c9⟩ := hcs1
      have hok1 := hok.below hg.below
      have g1 := hg.g1
      have gz := hg.size
      clear hcs hok hc
      have hbA : Below wr.heap.size wr (wr.alloc (.cells (evCs (E k) pa cp aa ca ga cg) 66)) := (Below.refl _ _).alloc (Nat.le_refl _) _
      have g1a := (hg.mono hbA).g1
      go_wp2_with fail
      refine (insC_any (w.heap.size + 1 + 1) k (knE E k) (posV E k) k (E k) pa cp aa ca ga cg _ (hg.mono hbA).mp (hok1.below hbA)).mono ?_
      rintro e w1 ⟨rfl, hb1⟩
      rw [insC_code]
      have hbX := hb1.mono (B' := wr.heap.size + 1) (by simp)
      have hb1' := hbA.trans (hb1.mono hbA.size)
      have hg1 := hg.mono hb1'
      clear c0 c1 c2 c3 c4 c5 c6 c7 c8 c9 g1 g1a hb1
      by_cases h0 : insCode E k (E k) = 0
      · obtain ⟨hfresh, hcode, h300⟩ := ins_fresh h0
        obtain ⟨_, hna⟩ := code_refs hcode
        have hbx := box_cells hbX
        have g1 := hg1.g1
        go_wp2_with fail
        refine (find_sl _ hg1.mp (by omega) (hok1.below hb1').ha).mono ?_
        intro e w2 hpost
        obtain ⟨hb2, a9, n9, c9, q9, rfl⟩ := hpost.slice
        have hg2 := hg1.mono hb2
        have hb12 := hb1'.trans (hb2.mono hb1'.size)
        have hbX2 := hbX.trans (hb2.mono (by simpa using hbX.size))
        have q1' : w2.cell? ⟨w.heap.size + 1 + 1 + 1, 2, none⟩ = some (.slice ra rn rc) := (hb12.cell (by exact gz)).trans q1
        have q2' := ownsRow_blwI q2 hb12
        have hlt2 := World.ownsRow.lt q2
        have hsz2 : wr.heap.size < w2.heap.size := by have := hbX2.size; simp at this; omega
        clear hbx g1 hg1 hb2 hpost q1 q2 hg hbX
        have hbx := box_cells hbX2
        have g1 := hg2.g1
        have gf := hg2.gf
        have hm1 : k + 1 ≤ maxLen := by unfold maxLen; omega
        have hm2 : (k + 1) * 24 ≤ 140737488355328 := by omega
        have hm3 : ∀ o, w.heap.size + 1 + 1 + 1 + 1 ≤ (w2.alloc o).heap.size := fun o => by have := hg2.size; simp; omega
        have hmx : k < maxLen := by unfold maxLen; omega
        have hwf : (Lit.int .i64 (k : Int)).wf = true := WalkArith.wf_i64 (by omega)
        have hkey : keyOf Try.prog 9 (.string (E k).id) = some (.string (E k).id.data.toList) := Go.WideMaps.keyOf_string_mk Try.underlying9 hok1.hid
        have hto2 : Hid (roomTo E (k + 1) = true) := by unfold Hid; rw [roomTo, hto.out, h0]; rfl
        have hid := hbx 0
        go_wp2_with (first
          | (at_builtin; refine wpList_append_own _ rfl _ _ 70 rfl (w.heap.size + 1 + 1 + 1 + 1) 96 i0 (.slice none 0 0) 1 24 Try.underlying70 hi hz0 hz1 hz2 rfl (by decide) _ _ _ rfl (World.ownsRow.alloc q2' _) ⟨w2.heap.size, 0, none⟩ 1 1 [.slice a9 n9 c9] rfl rfl (one_cellsI _ _ _) (one_slice _ ⟨_, _, _, rfl⟩) hm1 hm2 (hm3 _) ?_; intro v2 w3 hown3 hgrow3 _; obtain ⟨va, vn, vc, rfl⟩ := own_shape hown3; obtain ⟨hg3, hg4, e1⟩ := gr_app hg2 hgrow3 hlt2 hsz2 gz hid (.slice va vn vc); have k1 := hg4.g1; have gf3 := hg3.gf; obtain ⟨g2v, hg2v⟩ := hg3.g2; obtain ⟨D, hD, hK⟩ := hg4.mp)
          | (at_mapUpdate; refine wpList_mapUpdate_own _ rfl _ _ _ 69 rfl 9 3 lawStr Try.underlying69 _ (w.heap.size + 1 + 1) k D rfl hD hmx _ _ _ rfl rfl hkey _ [] (plainElem_int Try.underlying3 hwf) ?_; intro w5 hown5 hgrow5))
        go_roundw
        case rel =>
          refine ⟨k + 1, by omega, by go_num, hto2, hg4.put hgrow5 ((mapAt_put hD.isMap hown5 hK).congr (knE_succ E k) (fun s hs => posV_succ E k s hfresh hs)), .slice va vn vc, _, ?_, ownsRow_kept (ownsRow_kept hown3 (w' := w3.setCell ⟨w.heap.size + 1 + 1 + 1, 2, none⟩ (.slice va vn vc)) (fun g hg _ => RowKit.Below.heap_setCell _ _ _ _ (by show g ≠ w.heap.size + 1 + 1 + 1; omega))) (fun g hg hl => hgrow5.block g hl (fun e => by injection e; omega))⟩
          rw [World.cell?_of_block (hgrow5.block _ hg4.size (fun e => by injection e with e; have e' : w.heap.size + 1 + 1 + 1 = w.heap.size + 1 + 1 := e; omega))]
          exact set_same ⟨g2v, hg2v⟩
        case measure => simp [intOf]; omega
      · have h0b : (insCode E k (E k) != 0) = true := by simpa using h0
        have hv : Hid (false = roomTo E n) := (roomTo_le E n k hlt (by rw [roomTo]; simp [h0])).symm
        obtain ⟨x0, y0⟩ := hg1.r1 0 (by decide)
        obtain ⟨x1, y1⟩ := hg1.r1 1 (by decide)
        obtain ⟨x2, y2⟩ := hg1.r1 2 (by decide)
        have f1 := hg1.f1
        have hbw := hg1.below
        go_wp2
        refine bodyPost_ret (v := .tuple #[.agg #[.slice none 0 0, .map none, .slice none 0 0], .bool false]) (by simp [results, Try.results30, go_sem, y0, y1, y2]) rfl ⟨⟨_, _, _, _, _, _, _, by rw [← hv.out]⟩, ?_⟩
        iterate 3 (refine Below.setCell ?_ (show _ ≤ w.heap.size + 1 from Nat.le_succ _) _)
        exact hbw
    · have hkn : k = n := by omega
      subst hkn
      have hv : Hid (true = roomTo E k) := hto.out.symm
      have g0 := hg.g0
      have g1 := hg.g1
      obtain ⟨x0, y0⟩ := hg.r1 0 (by decide)
      obtain ⟨x1, y1⟩ := hg.r1 1 (by decide)
      obtain ⟨x2, y2⟩ := hg.r1 2 (by decide)
      have f1 := hg.f1
      have hbw := hg.below
      go_wp2
      refine bodyPost_ret (v := .tuple #[.agg #[.slice (some ⟨b, off, none⟩) k cap, .map (some (w.heap.size + 1 + 1)), .slice ra rn rc], .bool true]) (by simp [results, Try.results30, go_sem, y0, y1, y2]) rfl ⟨⟨_, _, _, _, _, _, _, by rw [← hv.out]⟩, ?_⟩
      iterate 3 (refine Below.setCell ?_ (show _ ≤ w.heap.size + 1 from Nat.le_succ _) _)
      exact hbw

set_option maxRecDepth 100000 in
set_option maxHeartbeats 1000000 in
theorem graph_zero (a : Option Addr) (cap : Nat) (w : World) :
    Calls Try.prog 30 #[.agg #[.slice a 0 cap]] w (GrPost w true) := by
  have hmm := @run_makeMap Try.prog
  go_enter Try.func30, Try.ntmps30
  go_wp2
  clear hmm
  refine wp_loop_rounds 1 ?_
  rw [rounds_succ]
  go_wp2
  refine bodyPost_ret (v := .tuple #[.agg #[.slice a 0 cap, .map (some (w.heap.size + 1 + 1)), .slice none 0 0], .bool true]) (by simp [results, Try.results30, go_sem]) rfl ⟨⟨_, _, _, _, _, _, _, rfl⟩, ?_⟩
  repeat' (first | exact Below.refl _ _ | exact Nat.le_refl _ | (refine Below.alloc ?_ ?_ _) | (simp; done) | (simp; omega))

theorem graph_sl {a : Option Addr} {n cap : Nat} {E : Nat → Ev} (w : World) (h : SlV w a n cap E) :
    Calls Try.prog 30 #[.agg #[.slice a n cap]] w (GrPost w (roomTo E n)) := by
  rcases h.cells with rfl | ⟨b, off, rfl, hb, hc⟩
  · exact graph_zero a cap w
  · exact graph_any b off n cap E w h hb hc

theorem roomI_sl {a : Option Addr} {n cap : Nat} {E : Nat → Ev} (w : World) (h : SlV w a n cap E) :
    Calls Try.prog 14 #[.agg #[.slice a n cap]] w fun e w' => e = .returned (.bool (roomTo E n)) ∧ Below w.heap.size w w' := by
  have hb0 : ∀ o, Below w.heap.size w (w.alloc o) := fun o => (Below.refl _ _).alloc (Nat.le_refl _) _
  go_enter Try.func14, Try.ntmps14
  go_wp2_with fail
  refine (graph_sl _ (h.below (hb0 _))).mono ?_
  rintro e w1 ⟨⟨a1, n1, c1, mo, a2, n2, c2, rfl⟩, hb1⟩
  have hw1 := (hb0 _).trans (hb1.mono (hb0 _).size)
  go_wp2
  go_ret
  exact ⟨rfl, hw1.alloc hw1.size _⟩
end Go.Proofs.Ytjmhdjjkfglbgac
