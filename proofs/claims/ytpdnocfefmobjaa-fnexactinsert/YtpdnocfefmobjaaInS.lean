/-
  spec.Insert.
-/
import Derived.Test.YtpdnocfefmobjaaCrS
import Derived.Test.YtpdnocfefmobjaaRmC
namespace Go.Proofs.Ytpdnocfefmobjaa
open Go.RowKit

theorem qsJ {w : World} {e : Ev} {t : Ls} {C j : Nat} {x : Value} (h : QJ w e t) (hC : C < t.lo ∨ t.hi ≤ C) : QJ (w.setCell ⟨C, j, none⟩ x) e t :=
  ⟨⟨h.ok.hid, h.ok.hsd, h.ok.hty, h.ok.hkey, h.ok.hval, h.ok.hp.setF h.ip hC x, h.ok.ha.setF h.ia hC x, h.ok.hg.setF h.ig hC x⟩, h.ip, h.ia, h.ig, h.hh.1, by simpa [World.setCell] using h.hh.2⟩
theorem RowV.setB {Q : World → Ev → Ls → Prop} (hs : ∀ {w : World} {e : Ev} {t : Ls} {C j : Nat} {x : Value}, Q w e t → (C < t.lo ∨ t.hi ≤ C) → Q (w.setCell ⟨C, j, none⟩ x) e t) {w : World} {base n C j : Nat} {v x : Value} {E : Nat → Ev} {T : Nat → Ls} (h : RowV Q w base v n E T) (h1 : ∀ g, v.ownBlock = some g → g ≠ C) (h2 : ∀ i, i < n → C < (T i).lo ∨ (T i).hi ≤ C) : RowV Q (w.setCell ⟨C, j, none⟩ x) base v n E T :=
  ⟨own_kept h.own (fun g hg => Below.heap_setCell _ _ _ _ (by exact h1 g hg)), fun i hi => hs (h.q i hi) (h2 i hi), h.low, h.ord, h.apart⟩
theorem RowV.base_le {Q : World → Ev → Ls → Prop} {w : World} {base base' n : Nat} {v : Value} {E : Nat → Ev} {T : Nat → Ls} (h : RowV Q w base v n E T) (hb : base' ≤ base) : RowV Q w base' v n E T := by
  refine ⟨?_, h.q, fun i hi => Nat.le_trans hb (h.low i hi), h.ord, h.apart⟩
  obtain ⟨h1, h2⟩ := h.own
  refine ⟨h1, ?_⟩
  rcases h2 with h2 | ⟨g, cap, cur, hv, hg, r⟩
  · exact Or.inl h2
  · exact Or.inr ⟨g, cap, cur, hv, Nat.le_trans hb hg, r⟩
/-- the room with the event behind it. -/
def extE (E : Nat → Ev) (n : Nat) (e : Ev) : Nat → Ev := fun i => if i = n then e else E i
theorem encV_congE {E E' : Nat → Ev} {T : Nat → Ls} : ∀ {n}, (∀ i, i < n → E i = E' i) → encV E T n = encV E' T n
  | 0, _ => rfl
  | n + 1, h => by rw [← encV_snoc, ← encV_snoc, encV_congE (fun i hi => h i (by omega)), h n (by omega)]
theorem RowV.congE {Q : World → Ev → Ls → Prop} {w : World} {base n : Nat} {v : Value} {E E' : Nat → Ev} {T : Nat → Ls} (h : RowV Q w base v n E T) (hE : ∀ i, i < n → E i = E' i) : RowV Q w base v n E' T :=
  ⟨by rw [← encV_congE hE]; exact h.own, fun i hi => by rw [← hE i hi]; exact h.q i hi, h.low, h.ord, h.apart⟩
/-- how many events Insert answers. -/
def insN (E : Nat → Ev) (n : Nat) (e : Ev) : Nat := if insCode E n e = 0 then n + 1 else n
/-- what Insert answers. -/
def InPost (Q : World → Ev → Ls → Prop) (E : Nat → Ev) (n : Nat) (e : Ev) (w : World) (x : Ending) (w' : World) : Prop :=
  ∃ v T, x = .returned (.tuple #[.agg #[v], .int .i64 (insCode E n e)]) ∧ Hid (RowV Q w' w.heap.size v (insN E n e) (extE E n e) T) ∧ Below w.heap.size w w'

set_option maxRecDepth 100000 in
set_option maxHeartbeats 4000000 in
theorem inS_any (b off n cap : Nat) (E : Nat → Ev) (e : Ev) {pa aa ga : Option Addr} {cp ca cg : Nat} (w : World) (hr : n * 168 ≤ 140737488351232) (hR : ∀ i, i < n → EvReach (E i)) (hRe : EvReach e) (h : SlV w (some ⟨b, off, none⟩) n cap E) (hb : 0 < n → b < w.heap.size) (hc : ∀ i, i < n → EvAt w b (off + i * 10) (E i)) (he : EvOk w e pa cp aa ca ga cg) :
    Calls Try.prog 6 #[.agg #[.slice (some ⟨b, off, none⟩) n cap], .agg #[.string e.id, .string e.sd, .string e.ty, .bool e.st, .string e.key, .int .i64 e.tm, .slice pa e.np cp, .slice aa e.na ca, .string e.val, .slice ga e.ng cg]] w (InPost QJ E n e w) := by
  obtain ⟨i0, hi, hz0, hz1, hz2⟩ := info_parts Try.infoEvent
  have hmx := Nat.le_trans h.le h.max
  have hnn := hmx
  unfold maxLen at hnn
  obtain ⟨wa, hwa⟩ : ∃ wa, wa = ((w.alloc (.cells #[.slice (some ⟨b, off, none⟩) n cap] 33)).alloc (.cells #[.string e.id, .string e.sd, .string e.ty, .bool e.st, .string e.key, .int .i64 e.tm, .slice pa e.np cp, .slice aa e.na ca, .string e.val, .slice ga e.ng cg] 39)).alloc (.cells #[.slice none 0 0] 33) := ⟨_, rfl⟩
  have hsa : wa.heap.size = w.heap.size + 3 := by rw [hwa]; simp
  have hba : Below w.heap.size w wa := by rw [hwa]; exact (((Below.refl _ _).alloc (Nat.le_refl _) _).alloc (by simp) _).alloc (by simp; omega) _
  have hca : Hid (∀ W, Below wa.heap.size wa W → (W.cell? ⟨w.heap.size, 0, none⟩ = some (.slice (some ⟨b, off, none⟩) n cap)) ∧ (∀ i, W.cell? ⟨w.heap.size + 1, i, none⟩ = (#[.string e.id, .string e.sd, .string e.ty, .bool e.st, .string e.key, .int .i64 e.tm, .slice pa e.np cp, .slice aa e.na ca, .string e.val, .slice ga e.ng cg] : Array Value)[i]?) ∧ W.cell? ⟨w.heap.size + 1 + 1, 0, none⟩ = some (.slice none 0 0) ∧ W.frozen? ⟨w.heap.size + 1 + 1, 0, none⟩ = false) := fun W hW => by
    refine ⟨(hW.cell (by show w.heap.size < wa.heap.size; omega)).trans ?_, fun i => (hW.cell (by show w.heap.size + 1 < wa.heap.size; omega)).trans ?_, (hW.cell (by show w.heap.size + 1 + 1 < wa.heap.size; omega)).trans ?_, (hW.frozen (by show w.heap.size + 1 + 1 < wa.heap.size; omega)).trans ?_⟩
    · rw [hwa, World.cell?_alloc_past _ _ _ (by simp; omega), World.cell?_alloc_past _ _ _ (by simp)]
      exact World.cell?_alloc_at _ _ _ _ rfl
    · rw [hwa, World.cell?_alloc_past _ _ _ (by simp)]
      exact World.cell?_alloc_at _ _ _ _ (by simp)
    · rw [hwa]; exact World.cell?_alloc_at _ _ _ _ (by simp)
    · rw [hwa]; exact World.frozen?_alloc_at _ _ _ _ (by simp)
  have r0 : (((w.alloc (.cells #[.slice (some ⟨b, off, none⟩) n cap] 33)).alloc (.cells #[.string e.id, .string e.sd, .string e.ty, .bool e.st, .string e.key, .int .i64 e.tm, .slice pa e.np cp, .slice aa e.na ca, .string e.val, .slice ga e.ng cg] 39)).alloc (.cells #[.slice none 0 0] 33)).cell? ⟨w.heap.size, 0, none⟩ = some (.slice (some ⟨b, off, none⟩) n cap) := by rw [← hwa]; exact (hca.out _ (Below.refl _ _)).1
  go_enter Try.func6, Try.ntmps6
  go_wp2_with fail
  rw [← hwa]
  clear hwa r0
  refine (l2Cr_any b off n cap E wa hr hR (h.below hba) (fun hn => Nat.lt_of_lt_of_le (hb hn) hba.size) (fun i hi => (hc i hi).below hba (hb (by omega)))).mono ?_
  rintro x w1 ⟨v0, T, rfl, hV0, hb1⟩
  have hV : Hid (RowV QJ w1 wa.heap.size v0 n E T) := hV0.out.base_le (Nat.le_add_right _ 2)
  clear hV0
  obtain ⟨va, vc, rfl, -⟩ := hV.out.slv qcJ
  obtain ⟨wb, hwb⟩ : ∃ wb, wb = w1.alloc (.cells #[.slice va n vc] 33) := ⟨_, rfl⟩
  have hs1 : wa.heap.size ≤ w1.heap.size := hb1.size
  have h1b : Below w1.heap.size w1 wb := by rw [hwb]; exact (Below.refl _ _).alloc (Nat.le_refl _) _
  have hsb : wb.heap.size = w1.heap.size + 1 := by rw [hwb]; simp
  have hab : Below wa.heap.size wa wb := hb1.trans (h1b.mono hb1.size)
  have hO : wb.cell? ⟨w1.heap.size, 0, none⟩ = some (.slice va n vc) := by rw [hwb]; exact World.cell?_alloc_at _ _ _ _ rfl
  have hOz : wb.frozen? ⟨w1.heap.size, 0, none⟩ = false := by rw [hwb]; exact World.frozen?_alloc_at _ _ _ _ rfl
  have z0 : (w1.alloc (.cells #[.slice va n vc] 33)).cell? ⟨w.heap.size, 0, none⟩ = some (.slice (some ⟨b, off, none⟩) n cap) := by rw [← hwb]; exact (hca.out _ hab).1
  have zc : ∀ i, (w1.alloc (.cells #[.slice va n vc] 33)).cell? ⟨w.heap.size + 1, i, none⟩ = (#[.string e.id, .string e.sd, .string e.ty, .bool e.st, .string e.key, .int .i64 e.tm, .slice pa e.np cp, .slice aa e.na ca, .string e.val, .slice ga e.ng cg] : Array Value)[i]? := fun i => by rw [← hwb]; exact (hca.out _ hab).2.1 i
  have z1 := zc 0
  have z2 := zc 1
  have z3 := zc 2
  have z4 := zc 3
  have z5 := zc 4
  have z6 := zc 5
  have z7 := zc 6
  have z8 := zc 7
  have z9 := zc 8
  have z10 := zc 9
  have hne0 : w.heap.size ≠ w1.heap.size := by omega
  have hne1 : w.heap.size + 1 ≠ w1.heap.size := by omega
  clear zc
  have hwb0 := hba.trans (hab.mono hba.size)
  have HC : Hid (Calls Try.prog 19 #[.agg #[.slice (some ⟨b, off, none⟩) n cap], .agg #[.string e.id, .string e.sd, .string e.ty, .bool e.st, .string e.key, .int .i64 e.tm, .slice pa e.np cp, .slice aa e.na ca, .string e.val, .slice ga e.ng cg]] wb fun x w' => x = .returned (.int .i64 (insCode E n e)) ∧ Below wb.heap.size wb w') := l2Code_any e wb (h.below hwb0) (he.below hwb0)
  have hT : Hid (∀ i, i < n → wa.heap.size ≤ (T i).lo ∧ (T i).hi ≤ w1.heap.size) := fun i hi => ⟨hV.out.low i hi, (qcJ.hi (hV.out.q i hi)).2⟩
  have hvg : Hid (∀ g, (Value.slice va n vc).ownBlock = some g → wa.heap.size ≤ g ∧ g < w1.heap.size) := fun g hg => by
    rcases hV.out.cells with ⟨q, _⟩ | ⟨g', cap', q, q1, q2, _⟩
    · rw [q] at hg; cases hg
    · rw [q] at hg
      have : some g' = some g := hg
      injection this with this
      omega
  go_wp2_with fail
  rw [← hwb]
  clear hwb z1 z2 z3 z4 z5 z6 z7 z8 z9 z10 z0
  refine HC.out.mono ?_
  rintro x w2 ⟨rfl, hb2⟩
  have hab2 := hab.trans (hb2.mono hab.size)
  have h12 := h1b.trans (hb2.mono h1b.size)
  have hs2 : w1.heap.size + 1 ≤ w2.heap.size := by have := hb2.size; omega
  have y0 := (hb2.cell (by show w1.heap.size < wb.heap.size; omega)).trans hO
  have yz := (hb2.frozen (by show w1.heap.size < wb.heap.size; omega)).trans hOz
  obtain ⟨-, cE, cR, cF⟩ := hca.out _ hab2
  have hV2 : Hid (RowV QJ w2 wa.heap.size (.slice va n vc) n E T) := hV.out.below qcJ h12
  have hw2 := hba.trans (hab2.mono hba.size)
  have he2 := he.below hw2
  clear HC hV
  by_cases hcode : insCode E n e = 0
  case neg =>
    have hcb : (insCode E n e == 0) = false := by simpa using hcode
    have hN : insN E n e = n := if_neg hcode
    have hfin : Hid (RowV QJ (w2.setCell ⟨w.heap.size + 1 + 1, 0, none⟩ (.slice va n vc)) w.heap.size (.slice va n vc) (insN E n e) (extE E n e) T) := by
      rw [hN]
      exact ((hV2.out.setB qsJ (fun g hg => by have := hvg.out g hg; omega) (fun i hi => Or.inl (by have := hT.out i hi; omega))).base_le (by omega)).congE (fun i hi => (if_neg (by omega)).symm)
    have hbz : Below w.heap.size w (w2.setCell ⟨w.heap.size + 1 + 1, 0, none⟩ (.slice va n vc)) := hw2.setCell (by exact Nat.le_add_right _ 2) _
    clear hN hcode hT hvg hV2
    have hE0 : Hid (InPost QJ E n e w (.returned (.tuple #[.agg #[.slice va n vc], .int .i64 (insCode E n e)])) (w2.setCell ⟨w.heap.size + 1 + 1, 0, none⟩ (.slice va n vc))) := ⟨_, T, rfl, hfin, hbz⟩
    clear hfin hbz
    go_wp2
    refine bodyPost_ret (v := .tuple #[.agg #[.slice va n vc], .int .i64 (insCode E n e)]) (by simp [results, Try.results6, go_sem, cR]) rfl hE0.out
  case pos =>
    have hcb : (insCode E n e == 0) = true := by simpa using hcode
    have hN : insN E n e = n + 1 := if_pos hcode
    have HcF : Hid (∀ W, Below w2.heap.size w2 W → Calls Try.prog 20 #[.agg #[.string e.id, .string e.sd, .string e.ty, .bool e.st, .string e.key, .int .i64 e.tm, .slice pa e.np cp, .slice aa e.na ca, .string e.val, .slice ga e.ng cg]] W fun x w' => ∃ t : Ls, x = .returned (.agg #[.string e.id, .string e.sd, .string e.ty, .bool e.st, .string e.key, .int .i64 e.tm, .slice t.pa e.np t.cp, .slice t.aa e.na t.ca, .string e.val, .slice t.ga e.ng t.cg]) ∧ Hid (QJ w' e t) ∧ w2.heap.size ≤ t.lo ∧ Below w2.heap.size w2 w') := fun W hW => by
      refine (l2Cp_any e W hRe (he2.below hW)).mono ?_
      rintro x w' ⟨t, h1, h2, h3, h4⟩
      exact ⟨t, h1, h2, Nat.le_trans hW.size h3, hW.trans (h4.mono hW.size)⟩
    have HO : Hid (∀ X, Below w2.heap.size w2 X → X.ownsRow wa.heap.size 39 10 (.slice va n vc) n (encV E T n)) := fun X hX => ownsRow_blw hV2.out.own hX
    have HF : Hid (∀ (X w3 : World), Below w2.heap.size w2 X → X.grownBy w3 (Value.slice va n vc).ownBlock → w3.cell? ⟨w1.heap.size, 0, none⟩ = some (.slice va n vc) ∧ w3.frozen? ⟨w1.heap.size, 0, none⟩ = false ∧ w3.cell? ⟨w.heap.size + 1 + 1, 0, none⟩ = some (.slice none 0 0) ∧ w3.frozen? ⟨w.heap.size + 1 + 1, 0, none⟩ = false) := fun X w3 hX hgr => by
      have hsX := hX.size
      have n1 : some w1.heap.size ≠ (Value.slice va n vc).ownBlock := fun q => by have := hvg.out _ q.symm; omega
      have n2 : some (w.heap.size + 1 + 1) ≠ (Value.slice va n vc).ownBlock := fun q => by have := hvg.out _ q.symm; omega
      exact ⟨(hgr.cell_far _ (by show w1.heap.size < X.heap.size; omega) n1).trans ((hX.cell (by show w1.heap.size < w2.heap.size; omega)).trans y0), (hgr.frozen_far _ (by show w1.heap.size < X.heap.size; omega) n1).trans ((hX.frozen (by show w1.heap.size < w2.heap.size; omega)).trans yz), (hgr.cell_far _ (by show w.heap.size + 1 + 1 < X.heap.size; omega) n2).trans ((hX.cell (by show w.heap.size + 1 + 1 < w2.heap.size; omega)).trans cR), (hgr.frozen_far _ (by show w.heap.size + 1 + 1 < X.heap.size; omega) n2).trans ((hX.frozen (by show w.heap.size + 1 + 1 < w2.heap.size; omega)).trans cF)⟩
    have HZ : Hid (∀ (w3 X w4 : World) (t : Ls) (gg cc : Nat), Below w2.heap.size w2 w3 → QJ w3 e t → w2.heap.size ≤ t.lo → Below w3.heap.size w3 X → w4.ownsRow wa.heap.size 39 10 (.slice (some ⟨gg, 0, none⟩) (n + 1) cc) (n + 1) (encV E T n ++ evL e t) → X.grownBy w4 (Value.slice va n vc).ownBlock → ((Value.slice va n vc).ownBlock = some gg ∨ X.heap.size ≤ gg) → InPost QJ E n e w (.returned (.tuple #[.agg #[.slice (some ⟨gg, 0, none⟩) (n + 1) cc], .int .i64 (insCode E n e)])) ((w4.setCell ⟨w1.heap.size, 0, none⟩ (.slice (some ⟨gg, 0, none⟩) (n + 1) cc)).setCell ⟨w.heap.size + 1 + 1, 0, none⟩ (.slice (some ⟨gg, 0, none⟩) (n + 1) cc))) := fun w3 X w4 t gg cc h1 hq hlo hX hown hgr hgg => by
      have hwX := h1.trans (hX.mono h1.size)
      have hEx : ∀ i, i < n → E i = extE E n e i := fun i hi => (if_neg (by omega)).symm
      have hEn : extE E n e n = e := if_pos rfl
      have hVX := (hV2.out.below qcJ hwX).congE hEx
      have hqX : QJ X (extE E n e n) t := by rw [hEn]; exact qcJ.below hq hX
      have hsX : w2.heap.size ≤ X.heap.size := hwX.size
      have hVs := hVX.snoc qcJ hqX (by omega) (fun i hi => by have := hT.out i hi; omega) (fun q hq => Or.inl (by have := hvg.out q hq; omega)) (by rw [hEn, ← encV_congE hEx]; exact hown) hgr hgg
      have hgg2 : w1.heap.size ≠ gg ∧ w.heap.size + 1 + 1 ≠ gg := by
        rcases hgg with q | q
        · have := hvg.out gg q; omega
        · omega
      have hT2 : ∀ i, i < n + 1 → (w1.heap.size < (extT T n t i).lo ∨ (extT T n t i).hi ≤ w1.heap.size) ∧ w.heap.size + 1 + 1 < (extT T n t i).lo := fun i hi => by
        unfold extT
        by_cases q : i = n
        · rw [if_pos q]; exact ⟨Or.inl (by omega), by omega⟩
        · rw [if_neg q]; have := hT.out i (by omega); exact ⟨Or.inr this.2, by omega⟩
      have hs4 := hgr.size
      refine ⟨_, extT T n t, rfl, ?_, ?_⟩
      · unfold Hid
        rw [hN]
        exact (((hVs.setB qsJ (fun q hq => by
          have : some gg = some q := hq
          injection this with this
          omega) (fun i hi => (hT2 i hi).1)).setB qsJ (fun q hq => by
          have : some gg = some q := hq
          injection this with this
          omega) (fun i hi => Or.inl (hT2 i hi).2)).base_le (by omega))
      · refine Below.setCell (Below.setCell ?_ (by show w.heap.size ≤ w1.heap.size; omega) _) (by exact Nat.le_add_right _ 2) _
        exact (hw2.trans (hwX.mono hw2.size)).grown hgr (by have := hw2.size; omega) (fun q hq => by have := hvg.out q hq; omega)
    clear hN hcode hT hvg hV2 he2
    have hm1 : n + 1 ≤ maxLen := by unfold maxLen; omega
    have hm2 : (n + 1) * 168 ≤ 140737488355328 := by omega
    have hrf : Below w2.heap.size w2 w2 := Below.refl _ _
    have hwz : w1.heap.size < w2.heap.size := by omega

    go_wp2_with fail
    go_region_law ((first
      | (refine step_append_lies _ (by rfl) _ _ _ (by rfl) wa.heap.size 39 i0 _ 10 168 Try.underlying31 hi hz0 hz1 hz2 rfl (by decide) (.slice va n vc) n (encV E T n) (by rfl) (HO.out _ (by first | exact hb3.alloc hb3.size _ | exact (hb3.alloc hb3.size _).drew | exact (hb3.drew.alloc hb3.size _))) ⟨w3.heap.size, 0, none⟩ 1 1 (evL e t) (by rfl) (by rfl) (fun j u hj => evL_cells w3 e t _ j u hj) (evL_one e t) (by decide) hm1 hm2 (by simp; have := hb3.size; omega) (w3.heap.size + 1) (by simp) ?_; intro gg cc w4 hown4 hgrow hat hlt4; obtain ⟨F0, F1, F2, F3⟩ := HF.out _ w4 (by first | exact hb3.alloc hb3.size _ | exact (hb3.alloc hb3.size _).drew | exact (hb3.drew.alloc hb3.size _)) hgrow)
      | (go_simp; go_at_call 20; refine (HcF.out _ (by first | with_reducible exact hrf | with_reducible exact hrf.drew | with_reducible exact hrf.drew.drew | with_reducible exact hrf.drew.drew.drew | with_reducible exact hrf.drew.drew.drew.drew)).mono ?_; rintro x w3 ⟨t, rfl, hq3, ht3, hb3⟩; have q1v := (hb3.cell (by exact hwz)).trans y0; have qva : ∀ Z, (w3.alloc Z).cell? ⟨w1.heap.size, 0, none⟩ = some (.slice va n vc) := fun Z => (((Below.refl _ _).alloc (Nat.le_refl _) _).cell (by show w1.heap.size < w3.heap.size; have := hb3.size; omega)).trans q1v; dsimp only)))
    all_goals
      have hz := HZ.out w3 _ w4 t gg cc hb3 hq3.out ht3 (by first | exact (Below.refl _ _).alloc (Nat.le_refl _) _ | exact ((Below.refl _ _).alloc (Nat.le_refl _) _).drew) hown4 hgrow (hat.imp (fun q => q) (fun q => by simp; omega))
      have Hz : Hid (_) := hz
      clear hz hown4 hgrow
      go_wp2
      refine bodyPost_ret (v := .tuple #[.agg #[.slice (some ⟨gg, 0, none⟩) (n + 1) cc], .int .i64 (insCode E n e)]) (by simp [results, Try.results6, go_sem, F2]) rfl Hz.out
end Go.Proofs.Ytpdnocfefmobjaa
