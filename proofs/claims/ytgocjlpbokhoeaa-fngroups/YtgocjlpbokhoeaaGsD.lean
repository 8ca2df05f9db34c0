import Derived.Test.YtgocjlpbokhoeaaEvBM
import Derived.Test.YtgocjlpbokhoeaaStS
import Derived.Test.YtgocjlpbokhoeaaSetS
namespace Go.Proofs.Ytgocjlpbokhoeaa
open Go.RowKit
theorem blk_cell {Wb w2 : World} {b : Nat} {cs : Array Value} {t : TypeId} (hb : Below Wb.heap.size Wb w2) (h : Wb.heap[b]? = some (.cells cs t)) (j : Nat) : w2.cell? ⟨b, j, none⟩ = cs[j]? := by
  have hlt : b < Wb.heap.size := (Array.getElem?_eq_some_iff.1 h).1
  rw [hb.cell (by exact hlt)]
  simp [World.cell?, h]
theorem blk_frz {Wb w2 : World} {b : Nat} {cs : Array Value} {t : TypeId} (hb : Below Wb.heap.size Wb w2) (h : Wb.heap[b]? = some (.cells cs t)) (j : Nat) : w2.frozen? ⟨b, j, none⟩ = false := by
  have hlt : b < Wb.heap.size := (Array.getElem?_eq_some_iff.1 h).1
  rw [hb.frozen (by exact hlt)]
  simp [World.frozen?, h]
theorem hp1 (w : World) (o : Obj) : (w.alloc o).drew.heap[w.heap.size]? = some o := by show (w.heap.push o)[w.heap.size]? = _; simp
theorem hp2a (w : World) (o o2 : Obj) : ((w.alloc o).alloc o2).drew.heap[w.heap.size]? = some o := by show ((w.heap.push o).push o2)[w.heap.size]? = _; simp [Array.getElem?_push]
theorem hp2b (w : World) (o o2 : Obj) : ((w.alloc o).alloc o2).drew.heap[w.heap.size + 1]? = some o2 := heap_alloc_new2 w o o2
theorem blk_lt {Wb w2 : World} {b : Nat} {o : Obj} (hb : Below Wb.heap.size Wb w2) (h : Wb.heap[b]? = some o) : b < w2.heap.size := Nat.lt_of_lt_of_le (Array.getElem?_eq_some_iff.1 h).1 hb.size
def tyS (k : Nat) : ByteArray := if k % 4 = 0 then ⟨#[99, 114, 101, 97, 116, 101]⟩ else if k % 4 = 1 then ⟨#[109, 101, 109, 98, 101, 114]⟩ else if k % 4 = 2 then ⟨#[112, 111, 119, 101, 114]⟩ else ⟨#[116, 111, 112, 105, 99]⟩
def slE (k : Nat) : Ent := ⟨tyS k, if k % 4 = 1 ∨ k % 8 = 7 then usr (k / 8) else ⟨#[]⟩, ⟨#[36]⟩ ++ decB (k / 16)⟩
theorem slE_key {k : Nat} (h : k % 4 = 1 ∨ k % 8 = 7) : slE k = ⟨tyS k, usr (k / 8), ⟨#[36]⟩ ++ decB (k / 16)⟩ := by unfold slE; rw [if_pos h]
theorem slE_no {k : Nat} (h : ¬ (k % 4 = 1 ∨ k % 8 = 7)) : slE k = ⟨tyS k, ⟨#[]⟩, ⟨#[36]⟩ ++ decB (k / 16)⟩ := by unfold slE; rw [if_neg h]
structure SxF (p : Nat) (w W : World) (bs : Nat → Nat) (m q : Nat) (B : Nat) (t i : ByteArray) : Prop where
  lo : w.heap.size < B
  hi : B < W.heap.size
  c0 : W.cell? ⟨B, 0, none⟩ = some (.string t)
  c1 : W.cell? ⟨B, 1, none⟩ = some (.string ⟨#[]⟩)
  c2 : W.cell? ⟨B, 2, none⟩ = some (.string i)
  fz : W.frozen? ⟨B, 1, none⟩ = false
  dw : DwF p w W bs m q
  rs : ∀ o, o < 3 → W.cell? ⟨w.heap.size, o, none⟩ = some (.string ⟨#[]⟩)
  rf : ∀ o, W.frozen? ⟨w.heap.size, o, none⟩ = false
structure SxB (p : Nat) (w W : World) (bs : Nat → Nat) (m q : Nat) : Prop where
  hi : w.heap.size < W.heap.size
  dw : DwF p w W bs m q
  rs : ∀ o, o < 3 → W.cell? ⟨w.heap.size, o, none⟩ = some (.string ⟨#[]⟩)
  rf : ∀ o, W.frozen? ⟨w.heap.size, o, none⟩ = false
theorem SxB.below {p : Nat} {bs : Nat → Nat} {m q : Nat} {w W W' : World} (h : SxB p w W bs m q) (hb : Below W.heap.size W W') : SxB p w W' bs m q :=
  ⟨Nat.lt_of_lt_of_le h.hi hb.size, h.dw.below hb, fun o ho => (hb.cell (p := ⟨w.heap.size, o, none⟩) h.hi).trans (h.rs o ho), fun o => (hb.frozen (p := ⟨w.heap.size, o, none⟩) h.hi).trans (h.rf o)⟩
theorem SxB.alloc {p : Nat} {bs : Nat → Nat} {m q : Nat} {w W : World} (h : SxB p w W bs m q) (o : Obj) : SxB p w (W.alloc o) bs m q := h.below ((Below.refl _ _).alloc (Nat.le_refl _) _)
theorem SxF.alloc {p B : Nat} {bs : Nat → Nat} {m q : Nat} {w W : World} {t i : ByteArray} (h : SxF p w W bs m q B t i) (o : Obj) : SxF p w (W.alloc o) bs m q B t i := by
  have hb : Below W.heap.size W (W.alloc o) := (Below.refl _ _).alloc (Nat.le_refl _) _
  have hl : w.heap.size < W.heap.size := Nat.lt_trans h.lo h.hi
  exact ⟨h.lo, Nat.lt_of_lt_of_le h.hi hb.size, (hb.cell (p := ⟨B, 0, none⟩) h.hi).trans h.c0, (hb.cell (p := ⟨B, 1, none⟩) h.hi).trans h.c1, (hb.cell (p := ⟨B, 2, none⟩) h.hi).trans h.c2, (hb.frozen (p := ⟨B, 1, none⟩) h.hi).trans h.fz, h.dw.below hb,
    fun o ho => (hb.cell (p := ⟨w.heap.size, o, none⟩) hl).trans (h.rs o ho), fun o => (hb.frozen (p := ⟨w.heap.size, o, none⟩) hl).trans (h.rf o)⟩
theorem fix3 {p : Nat} {bs : Nat → Nat} {m q : Nat} {w W : World} {t i : ByteArray} {ty : TypeId} (h : SxB p w W bs m q) : SxF p w (W.alloc (.cells #[.string t, .string ⟨#[]⟩, .string i] ty)) bs m q W.heap.size t i := by
  have hb := h.alloc (.cells #[.string t, .string ⟨#[]⟩, .string i] ty)
  exact ⟨h.hi, by simp, World.cell?_alloc_at _ _ _ _ rfl, World.cell?_alloc_at _ _ _ _ rfl, World.cell?_alloc_at _ _ _ _ rfl, World.frozen?_alloc_at _ _ _ _ rfl, hb.dw, hb.rs, hb.rf⟩
theorem fix5 {p : Nat} {bs : Nat → Nat} {m q : Nat} {w W : World} {t i : ByteArray} {ty : TypeId} (h : SxB p w W bs m q) (o : Obj) : SxF p w ((W.alloc o).alloc (.cells #[.string t, .string ⟨#[]⟩, .string i] ty)) bs m q (W.heap.size + 1) t i := by
  have := fix3 (ty := ty) (t := t) (i := i) (h.alloc o)
  simp only [World.size_alloc] at this
  exact this
theorem fix1 {p B : Nat} {bs : Nat → Nat} {m q : Nat} {w W : World} {t i e0 e1 e2 : ByteArray} (h : SxB p w W bs m q) (hp : p < w.heap.size) (hB : w.heap.size < B) (hl : B < W.heap.size) (b0 : W.cell? ⟨B, 0, none⟩ = some (.string e0)) (b1 : W.cell? ⟨B, 1, none⟩ = some (.string e1)) (b2 : W.cell? ⟨B, 2, none⟩ = some (.string e2)) (z1 : W.frozen? ⟨B, 1, none⟩ = false) :
    SxF p w (((W.setCell ⟨B, 0, none⟩ (.string t)).setCell ⟨B, 1, none⟩ (.string ⟨#[]⟩)).setCell ⟨B, 2, none⟩ (.string i)) bs m q B t i := by
  refine ⟨hB, by simpa [World.setCell] using hl, ?_, ?_, ?_, ?_, ((h.dw.own (by omega) hp _ _).own (by omega) hp _ _).own (by omega) hp _ _, fun o ho => ?_, fun o => ?_⟩
  · rw [set_far (by omega), set_far (by omega)]; exact set_same ⟨_, b0⟩
  · rw [set_far (by omega)]; exact set_same ⟨_, by rw [set_far (by omega)]; exact b1⟩
  · exact set_same ⟨_, by rw [set_far (by omega), set_far (by omega)]; exact b2⟩
  · rw [World.frozen?_setCell, World.frozen?_setCell, World.frozen?_setCell]; exact z1
  · rw [far_block (by omega), far_block (by omega), far_block (by omega)]; exact h.rs o ho
  · rw [World.frozen?_setCell, World.frozen?_setCell, World.frozen?_setCell]; exact h.rf o
set_option maxRecDepth 100000 in
set_option maxHeartbeats 16000000 in
theorem slotF (p : Nat) {bs : Nat → Nat} {m q : Nat} (w : World) (h : RdF w p bs m q) : Calls Try.prog 20 #[.pointer (some ⟨p, 0, none⟩)] w fun e w' => e = .returned (entV (slE (nxB bs m q))) ∧ DwF p w w' bs m (nxQ m q) := by
  have hb0 : ∀ o, Below w.heap.size w (w.alloc o) := fun o => (Below.refl _ _).alloc (Nat.le_refl _) _
  have hp := h.lt
  go_enter Try.func20, Try.ntmps20
  go_wp2_with fail
  refine (nextF p _ (h.below (hb0 _))).mono ?_
  rintro e w1 ⟨rfl, hd1⟩
  have hk := h.nx
  have hdw : DwF p w w1 bs m (nxQ m q) := DwF.of_below h (hb0 _) hd1
  obtain ⟨k, hk0⟩ : ∃ k, k = nxB bs m q := ⟨_, rfl⟩
  obtain ⟨q1, hq0⟩ : ∃ q1, q1 = nxQ m q := ⟨_, rfl⟩
  rw [← hk0] at hk
  rw [← hk0]
  rw [← hq0] at hdw
  have Hk : Hid (k = nxB bs m q) := hk0
  have Hq : Hid (q1 = nxQ m q) := hq0
  clear hk0 hq0
  have r0 : ∀ o, w1.cell? ⟨w.heap.size, o, none⟩ = (#[.string ⟨#[]⟩, .string ⟨#[]⟩, .string ⟨#[]⟩] : Array Value)[o]? := fun o => by
    have : w1.cell? ⟨w.heap.size, o, none⟩ = (w.alloc (.cells #[.string ⟨#[]⟩, .string ⟨#[]⟩, .string ⟨#[]⟩] 38)).cell? ⟨w.heap.size, o, none⟩ := World.cell?_of_block (hd1.2.block w.heap.size (by simp) (by intro e; injection e with e; omega))
    rw [this]
    exact World.cell?_alloc_at _ _ _ _ rfl
  have hlt1 : w.heap.size < w1.heap.size := by have := hd1.2.size; simp at this; omega
  have Hsb : Hid (SxB p w w1 bs m q1) := ⟨hlt1, hdw, fun o ho => by rw [r0]; match o, ho with | 0, _ => rfl | 1, _ => rfl | 2, _ => rfl, fun o => by
    refine (hd1.2.frozen_far ⟨w.heap.size, o, none⟩ (by simp) (fun e => absurd (Option.some.inj e) (by show w.heap.size ≠ p; omega))).trans ?_
    exact World.frozen?_alloc_at _ _ _ _ rfl⟩
  clear hd1 hdw r0
  obtain ⟨D, hDD⟩ : ∃ D, D = decB (k / 16) := ⟨_, rfl⟩
  have hD : D.size ≤ 20 := by rw [hDD]; exact decB_size _ (by omega)
  have hdec : ∀ W : World, Calls Try.prog 16 #[.int .i64 ((k / 16 : Nat) : Int)] W fun e w' => e = .returned (.string D) ∧ Below W.heap.size W w' := fun W => by rw [hDD]; exact decS_nat (k / 16) (k / 16) W (Nat.le_refl _) (by omega)
  have Hdec : Hid (∀ (W : World) (z : Int), z = ((k / 16 : Nat) : Int) → Calls Try.prog 16 #[.int .i64 z] W fun e w' => e = .returned (.string D) ∧ Below W.heap.size W w') := fun W z hz => by rw [hz]; exact hdec W
  clear hdec
  have Hv1 : Hid (IntKind.i64.wrap (Int.tdiv (k : Int) 16) = ((k / 16 : Nat) : Int)) := by unfold Hid; rw [Int.tdiv_eq_ediv_of_nonneg (by omega), IntKind.wrap_i64]; omega
  have Hv2 : Hid (Int.tdiv (k : Int) 16 = ((k / 16 : Nat) : Int)) := by unfold Hid; rw [Int.tdiv_eq_ediv_of_nonneg (by omega)]; omega
  have Hv3 : Hid ((k : Int) / 16 = ((k / 16 : Nat) : Int)) := by unfold Hid; omega
  obtain ⟨q, hq, hm, s, hs, hl⟩ : ∃ q : Nat, q < 4 ∧ (k : Int) % 4 = (q : Int) ∧ ∃ s : ByteArray, (s.size ≤ 10 ∧ s = tyS k) ∧ (#[.string ⟨#[99, 114, 101, 97, 116, 101]⟩, .string ⟨#[109, 101, 109, 98, 101, 114]⟩, .string ⟨#[112, 111, 119, 101, 114]⟩, .string ⟨#[116, 111, 112, 105, 99]⟩] : Array Value)[q]? = some (.string s) := by
    refine ⟨k % 4, Nat.mod_lt _ (by decide), by omega, ?_⟩
    have h4 : k % 4 < 4 := Nat.mod_lt _ (by decide)
    unfold tyS
    generalize k % 4 = q at h4
    match q, h4 with
    | 0, _ => exact ⟨_, ⟨by decide, rfl⟩, rfl⟩
    | 1, _ => exact ⟨_, ⟨by decide, rfl⟩, rfl⟩
    | 2, _ => exact ⟨_, ⟨by decide, rfl⟩, rfl⟩
    | 3, _ => exact ⟨_, ⟨by decide, rfl⟩, rfl⟩
  have Hs : Hid (s = tyS k) := hs.2
  replace hs := hs.1
  have ht : Int.tmod (k : Int) 4 = (q : Int) := by rw [Int.tmod_eq_emod_of_nonneg (by omega)]; exact hm
  have hw4 : IntKind.i64.wrap (q : Int) = (q : Int) := by rw [IntKind.wrap_i64]; omega
  have hq4 : (q : Int) < 4 := by omega
  have hl2 : ([.string ⟨#[99, 114, 101, 97, 116, 101]⟩, .string ⟨#[109, 101, 109, 98, 101, 114]⟩, .string ⟨#[112, 111, 119, 101, 114]⟩, .string ⟨#[116, 111, 112, 105, 99]⟩] : List Value)[q]'hq = .string s := by
    have hl' := hl
    rw [List.getElem?_toArray, List.getElem?_eq_getElem hq] at hl'
    exact Option.some.inj hl'
  clear h hb0
  have HUs : Hid ((usr (k / 8)).size = 2) := usr_size _
  obtain ⟨u, hu⟩ : ∃ u, u = usr (k / 8) := ⟨_, rfl⟩
  have Huser : Hid (∀ (W : World) (z : Int), z = ((k / 8 : Nat) : Int) → Calls Try.prog 43 #[.int .i64 z] W fun e w' => e = .returned (.string u) ∧ Below W.heap.size W w') := fun W z hz => by rw [hz, hu]; exact userF (k / 8) W (by omega)
  have Hu : Hid (u = usr (k / 8)) := hu
  have HD : Hid (D = decB (k / 16)) := hDD
  clear hu hDD
  go_wp2_with fail
  rename_i K hK
  have HK : Hid (∀ (W : World) (B : Nat) (t i : ByteArray) (v5 v6 v7 v8 v9 v10 v11 v12 v13 v14 v15 v16 : Value), t = s → i = ⟨#[36]⟩ ++ D → SxF p w W bs m q1 B t i → K ⟨#[.pointer (some ⟨p, 0, none⟩), undef, .pointer (some ⟨w.heap.size, 0, none⟩), .int .i64 (k : Int), .pointer (some ⟨B, 0, none⟩), v5, v6, v7, v8, v9, v10, v11, v12, v13, v14, v15, v16, undef, undef, undef, undef, undef, undef, undef, undef, undef, undef, undef, undef, undef], []⟩ W) := by
    intro W B t i v5 v6 v7 v8 v9 v10 v11 v12 v13 v14 v15 v16 hts his hF
    subst hts his
    obtain ⟨hwB, hBW, b0, b1, b2, z1, hdW, hres, hfres⟩ := hF
    apply hK
    have hr0 := hres 0 (by decide)
    have hr1 := hres 1 (by decide)
    have hr2 := hres 2 (by decide)
    have hf0 := hfres 0
    have hf1 := hfres 1
    have hf2 := hfres 2
    clear Hdec hK hres hfres hl hl2 hm ht hw4 hq4 hq hs Hsb
    have hneB : B ≠ w.heap.size := by omega
    by_cases hc : (k : Int) % 4 = 1
    · clear hneB
      go_wp2_with fail
      refine (Huser.out _ _ (by omega)).mono ?_
      rintro e w2 ⟨rfl, hb2⟩
      have hw2 := hdW.below hb2
      have hlr : w.heap.size < W.heap.size := by omega
      have e0 := (hb2.cell (p := ⟨B, 0, none⟩) hBW).trans b0
      have e1 := (hb2.cell (p := ⟨B, 1, none⟩) hBW).trans b1
      have e2 := (hb2.cell (p := ⟨B, 2, none⟩) hBW).trans b2
      have ez := (hb2.frozen (p := ⟨B, 1, none⟩) hBW).trans z1
      have g0 := (hb2.cell (p := ⟨w.heap.size, 0, none⟩) hlr).trans hr0
      have g1 := (hb2.cell (p := ⟨w.heap.size, 1, none⟩) hlr).trans hr1
      have g2 := (hb2.cell (p := ⟨w.heap.size, 2, none⟩) hlr).trans hr2
      have y0 := (hb2.frozen (p := ⟨w.heap.size, 0, none⟩) hlr).trans hf0
      have y1 := (hb2.frozen (p := ⟨w.heap.size, 1, none⟩) hlr).trans hf1
      have y2 := (hb2.frozen (p := ⟨w.heap.size, 2, none⟩) hlr).trans hf2
      have hneB : B ≠ w.heap.size := by omega
      clear b0 b1 b2 z1 hr0 hr1 hr2 hf0 hf1 hf2 hdW hb2
      go_wp2
      refine bodyPost_ret (v := entV ⟨t, u, ⟨#[36]⟩ ++ D⟩) (by simp [results, Try.results20, go_sem, entV, g0, g1, g2]) rfl ⟨by rw [← Hk.out, slE_key (k := k) (by omega), ← Hs.out, ← Hu.out, ← HD.out], ?_⟩
      rw [← Hq.out]
      repeat' (first | exact hw2 | refine DwF.own ?_ (by omega) hp _ _)
    · by_cases hc2 : (k : Int) % 8 = 7
      · clear hneB
        go_wp2_with fail
        refine (Huser.out _ _ (by omega)).mono ?_
        rintro e w2 ⟨rfl, hb2⟩
        have hw2 := hdW.below hb2
        have hlr : w.heap.size < W.heap.size := by omega
        have e0 := (hb2.cell (p := ⟨B, 0, none⟩) hBW).trans b0
        have e1 := (hb2.cell (p := ⟨B, 1, none⟩) hBW).trans b1
        have e2 := (hb2.cell (p := ⟨B, 2, none⟩) hBW).trans b2
        have ez := (hb2.frozen (p := ⟨B, 1, none⟩) hBW).trans z1
        have g0 := (hb2.cell (p := ⟨w.heap.size, 0, none⟩) hlr).trans hr0
        have g1 := (hb2.cell (p := ⟨w.heap.size, 1, none⟩) hlr).trans hr1
        have g2 := (hb2.cell (p := ⟨w.heap.size, 2, none⟩) hlr).trans hr2
        have y0 := (hb2.frozen (p := ⟨w.heap.size, 0, none⟩) hlr).trans hf0
        have y1 := (hb2.frozen (p := ⟨w.heap.size, 1, none⟩) hlr).trans hf1
        have y2 := (hb2.frozen (p := ⟨w.heap.size, 2, none⟩) hlr).trans hf2
        have hneB : B ≠ w.heap.size := by omega
        clear b0 b1 b2 z1 hr0 hr1 hr2 hf0 hf1 hf2 hdW hb2
        go_wp2
        refine bodyPost_ret (v := entV ⟨t, u, ⟨#[36]⟩ ++ D⟩) (by simp [results, Try.results20, go_sem, entV, g0, g1, g2]) rfl ⟨by rw [← Hk.out, slE_key (k := k) (by omega), ← Hs.out, ← Hu.out, ← HD.out], ?_⟩
        rw [← Hq.out]
        repeat' (first | exact hw2 | refine DwF.own ?_ (by omega) hp _ _)
      · have hcb : ((k : Int) % 4 == 1) = false := by simp [hc]
        have hcb2 : ((k : Int) % 8 == 7) = false := by simp [hc2]
        go_wp2
        refine bodyPost_ret (v := entV ⟨t, ⟨#[]⟩, ⟨#[36]⟩ ++ D⟩) (by simp [results, Try.results20, go_sem, entV, hr0, hr1, hr2]) rfl ⟨by rw [← Hk.out, slE_no (k := k) (by omega), ← Hs.out, ← HD.out], ?_⟩
        rw [← Hq.out]
        repeat' (first | exact hdW | refine DwF.own ?_ (by omega) hp _ _)
  clear hm
  have hsD : (⟨#[36]⟩ ++ D : ByteArray).size ≤ 100 := by rw [ByteArray.size_append]; show 1 + _ ≤ 100; omega
  go_region_with (go_at_call 16; refine (Hdec.out _ _ (by first | exact Hv1.out | exact Hv2.out | exact Hv3.out)).mono ?_; rintro e w2 ⟨rfl, hb2⟩; have Hb2 : Hid (SxB p w w2 bs m q1) := (by first | exact (Hsb.out.below (Below.refl _ _).drew).below hb2 | exact ((Hsb.out.alloc _).below (Below.refl _ _).drew).below hb2 | exact (((Hsb.out.alloc _).alloc _).below (Below.refl _ _).drew).below hb2); (first | (have hh := blk_cell (b := w1.heap.size) (cs := #[.string ⟨#[99, 114, 101, 97, 116, 101]⟩, .string ⟨#[109, 101, 109, 98, 101, 114]⟩, .string ⟨#[112, 111, 119, 101, 114]⟩, .string ⟨#[116, 111, 112, 105, 99]⟩]) (t := 9) hb2 (hp1 _ _); have ll := blk_lt hb2 (hp1 _ _); have c4 : w2.cell? ⟨w1.heap.size, q, none⟩ = some (.string s) := (hh q).trans hl; clear hh) | (have hh := blk_cell (b := w1.heap.size) (cs := #[.string ⟨#[99, 114, 101, 97, 116, 101]⟩, .string ⟨#[109, 101, 109, 98, 101, 114]⟩, .string ⟨#[112, 111, 119, 101, 114]⟩, .string ⟨#[116, 111, 112, 105, 99]⟩]) (t := 9) hb2 (hp2a _ _ _); have ll := blk_lt hb2 (hp2a _ _ _); have c4 : w2.cell? ⟨w1.heap.size, q, none⟩ = some (.string s) := (hh q).trans hl; clear hh) | (have hh := blk_cell (b := w1.heap.size + 1) (cs := #[.string ⟨#[99, 114, 101, 97, 116, 101]⟩, .string ⟨#[109, 101, 109, 98, 101, 114]⟩, .string ⟨#[112, 111, 119, 101, 114]⟩, .string ⟨#[116, 111, 112, 105, 99]⟩]) (t := 9) hb2 (hp2b _ _ _); have ll := blk_lt hb2 (hp2b _ _ _); have c4 : w2.cell? ⟨w1.heap.size + 1, q, none⟩ = some (.string s) := (hh q).trans hl; clear hh) | skip); (first | (have hh := blk_cell (b := w1.heap.size) (cs := #[.string ⟨#[]⟩, .string ⟨#[]⟩, .string ⟨#[]⟩]) (t := 38) hb2 (hp1 _ _); have hz := blk_frz (b := w1.heap.size) (cs := #[.string ⟨#[]⟩, .string ⟨#[]⟩, .string ⟨#[]⟩]) (t := 38) hb2 (hp1 _ _); have lb := blk_lt hb2 (hp1 _ _); have b0 : w2.cell? ⟨w1.heap.size, 0, none⟩ = some (.string ⟨#[]⟩) := hh 0; have b1 : w2.cell? ⟨w1.heap.size, 1, none⟩ = some (.string ⟨#[]⟩) := hh 1; have b2 : w2.cell? ⟨w1.heap.size, 2, none⟩ = some (.string ⟨#[]⟩) := hh 2; have z0 : w2.frozen? ⟨w1.heap.size, 0, none⟩ = false := hz 0; have z1 : w2.frozen? ⟨w1.heap.size, 1, none⟩ = false := hz 1; have z2 : w2.frozen? ⟨w1.heap.size, 2, none⟩ = false := hz 2; clear hh hz) | (have hh := blk_cell (b := w1.heap.size) (cs := #[.string ⟨#[]⟩, .string ⟨#[]⟩, .string ⟨#[]⟩]) (t := 38) hb2 (hp2a _ _ _); have hz := blk_frz (b := w1.heap.size) (cs := #[.string ⟨#[]⟩, .string ⟨#[]⟩, .string ⟨#[]⟩]) (t := 38) hb2 (hp2a _ _ _); have lb := blk_lt hb2 (hp2a _ _ _); have b0 : w2.cell? ⟨w1.heap.size, 0, none⟩ = some (.string ⟨#[]⟩) := hh 0; have b1 : w2.cell? ⟨w1.heap.size, 1, none⟩ = some (.string ⟨#[]⟩) := hh 1; have b2 : w2.cell? ⟨w1.heap.size, 2, none⟩ = some (.string ⟨#[]⟩) := hh 2; have z0 : w2.frozen? ⟨w1.heap.size, 0, none⟩ = false := hz 0; have z1 : w2.frozen? ⟨w1.heap.size, 1, none⟩ = false := hz 1; have z2 : w2.frozen? ⟨w1.heap.size, 2, none⟩ = false := hz 2; clear hh hz) | (have hh := blk_cell (b := w1.heap.size + 1) (cs := #[.string ⟨#[]⟩, .string ⟨#[]⟩, .string ⟨#[]⟩]) (t := 38) hb2 (hp2b _ _ _); have hz := blk_frz (b := w1.heap.size + 1) (cs := #[.string ⟨#[]⟩, .string ⟨#[]⟩, .string ⟨#[]⟩]) (t := 38) hb2 (hp2b _ _ _); have lb := blk_lt hb2 (hp2b _ _ _); have b0 : w2.cell? ⟨w1.heap.size + 1, 0, none⟩ = some (.string ⟨#[]⟩) := hh 0; have b1 : w2.cell? ⟨w1.heap.size + 1, 1, none⟩ = some (.string ⟨#[]⟩) := hh 1; have b2 : w2.cell? ⟨w1.heap.size + 1, 2, none⟩ = some (.string ⟨#[]⟩) := hh 2; have z0 : w2.frozen? ⟨w1.heap.size + 1, 0, none⟩ = false := hz 0; have z1 : w2.frozen? ⟨w1.heap.size + 1, 1, none⟩ = false := hz 1; have z2 : w2.frozen? ⟨w1.heap.size + 1, 2, none⟩ = false := hz 2; clear hh hz) | skip))
  all_goals
    show K _ _
    first
      | exact HK.out _ _ _ _ _ _ _ _ _ _ _ _ _ _ _ _ rfl rfl (fix3 Hb2.out)
      | exact HK.out _ _ _ _ _ _ _ _ _ _ _ _ _ _ _ _ rfl rfl ((fix3 Hb2.out).alloc _)
      | exact HK.out _ _ _ _ _ _ _ _ _ _ _ _ _ _ _ _ rfl rfl (fix5 Hb2.out _)
      | exact HK.out _ _ _ _ _ _ _ _ _ _ _ _ _ _ _ _ rfl rfl (fix1 Hb2.out hp (by omega) lb b0 b1 b2 z1)
      | exact HK.out _ _ _ _ _ _ _ _ _ _ _ _ _ _ _ _ rfl rfl ((fix1 Hb2.out hp (by omega) lb b0 b1 b2 z1).alloc _)
end Go.Proofs.Ytgocjlpbokhoeaa
