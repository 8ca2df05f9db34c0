import Derived.Test.YtgocjlpbokhoeaaGqV
namespace Go.Proofs.Ytgocjlpbokhoeaa
open Go.RowKit
def bgG : Nat → Grp := fun j => if j = 0 then ⟨-1, []⟩ else ⟨-1, [⟨⟨#[120]⟩, ⟨#[]⟩, decB j⟩]⟩
def svdN (k n : Nat) : Nat := if k % 32 = 31 then 1000 - k / 32 % 2 else n
def svdG (k : Nat) (G : Nat → Grp) : Nat → Grp := if k % 32 = 31 then bgG else G
def svdS (k n : Nat) (G : Nat → Grp) (s : List Ent) (e : Ent) : List Ent :=
  if k % 4 = 1 ∧ stoB G n = true then expF G (k / 4 % n + 1) (k / 4 % n)
  else if k % 4 = 2 ∧ stoB G n = true then setL (expF G (k / 4 % n + 1) (k / 4 % n)) e false else s
noncomputable def dvN (bs : Nat → Nat) (m : Nat) : Nat := svdN (nxB bs m 0) (asN bs m (nxQ m 0))
noncomputable def dvG (bs : Nat → Nat) (m : Nat) : Nat → Grp := svdG (nxB bs m 0) (asG bs m (nxQ m 0))
noncomputable def dvS (bs : Nat → Nat) (m : Nat) : List Ent := svdS (nxB bs m 0) (asN bs m (nxQ m 0)) (asG bs m (nxQ m 0)) (daL bs m (asQ bs m (nxQ m 0))) (slE (nxB bs m (daLq bs m (asQ bs m (nxQ m 0)))))
def dvK (bs : Nat → Nat) (m : Nat) : Int := ((nxB bs m 0 / 16 : Nat) : Int) - 2
theorem dvN_pos (bs : Nat → Nat) (m : Nat) : 0 < dvN bs m ∧ dvN bs m ≤ 1000 := by
  have h := asN_pos bs m (nxQ m 0)
  have h2 : nxB bs m 0 / 32 % 2 < 2 := Nat.mod_lt _ (by decide)
  unfold dvN svdN
  split <;> omega
theorem dvS_ty (bs : Nat → Nat) (m : Nat) : Ty6 (dvS bs m) := by
  unfold dvS svdS
  split
  · exact Ty6.exp (asG_ty bs m _) _ _
  · split
    · exact (Ty6.exp (asG_ty bs m _) _ _).set (slE_ty _)
    · exact daL_ty bs m _
def DvPost (w : World) (n : Nat) (G : Nat → Grp) (s : List Ent) (near : Int) (e : Ending) (w' : World) : Prop :=
  ∃ a c sa sc, e = .returned (.tuple #[.agg #[.slice a n c], .slice sa s.length sc, .int .i64 near]) ∧ Hid (SlT w' a n c G ∧ SlE w' sa sc s) ∧ Below w.heap.size w w'
structure BgI (w : World) (B : Nat) (W : World) (n : Nat) (T : Nat → Lg) (g c : Nat) (sv : Value) (s : List Ent) : Prop where
  bx : W.cell? ⟨B, 0, none⟩ = some (.slice (some ⟨g, 0, none⟩) n c)
  fz : W.frozen? ⟨B, 0, none⟩ = false
  rs : ∃ u, W.cell? ⟨w.heap.size, 0, none⟩ = some u
  rf : W.frozen? ⟨w.heap.size, 0, none⟩ = false
  row : RowP W (B + 1) (.slice (some ⟨g, 0, none⟩) n c) n bgG T
  so : OwnE W (B + 1) sv s
  bel : Below w.heap.size w W
  hB : w.heap.size < B ∧ B < W.heap.size
def boxN (B : Nat) (W : World) : Nat := match W.cell? ⟨B, 0, none⟩ with | some (.slice _ n _) => n | _ => 0
theorem bg_len {w W : World} {B n g c : Nat} {T : Nat → Lg} {sv : Value} {s : List Ent} (h : BgI w B W n T g c sv s) : boxN B W = n := by unfold boxN; rw [h.bx]
theorem BgI.push {w W X w3 : World} {B n g c gg cc : Nat} {T : Nat → Lg} {sv : Value} {s : List Ent} {t : Lg} (h : BgI w B W n T g c sv s) (hX : Below W.heap.size W X) (hq : QP X (bgG n) t) (hlo : W.heap.size ≤ t.lo)
    (hown : w3.ownsRow (B + 1) 46 2 (.slice (some ⟨gg, 0, none⟩) (n + 1) cc) (n + 1) (encP bgG T n ++ gpL (bgG n) t)) (hgr : X.grownBy w3 (some g)) (hgg : some g = some gg ∨ X.heap.size ≤ gg) :
    w3.cell? ⟨B, 0, none⟩ = some (.slice (some ⟨g, 0, none⟩) n c) ∧ w3.frozen? ⟨B, 0, none⟩ = false ∧ BgI w B (w3.setCell ⟨B, 0, none⟩ (.slice (some ⟨gg, 0, none⟩) (n + 1) cc)) (n + 1) (extL T n t) gg cc sv s := by
  have hB := h.hB
  have hgl := h.row.some_lt
  have hsX := hX.size
  have hs3 := hgr.size
  have far : ∀ q, q < W.heap.size → q ≠ g → ∀ o, w3.cell? ⟨q, o, none⟩ = W.cell? ⟨q, o, none⟩ := fun q h2 h3 o => (hgr.cell_far _ (by show q < X.heap.size; omega) (fun e => by
    have e2 : some q = some g := e
    injection e2 with e2
    omega)).trans (hX.cell (by exact h2))
  have farz : ∀ q, q < W.heap.size → q ≠ g → ∀ o, w3.frozen? ⟨q, o, none⟩ = W.frozen? ⟨q, o, none⟩ := fun q h2 h3 o => (hgr.frozen_far _ (by show q < X.heap.size; omega) (fun e => by
    have e2 : some q = some g := e
    injection e2 with e2
    omega)).trans (hX.frozen (by exact h2))
  have c3 := (far B hB.2 (by omega) 0).trans h.bx
  have z3 := (farz B hB.2 (by omega) 0).trans h.fz
  have hVs := (h.row.below hX).snoc hq (by omega) (fun i hi => Nat.le_trans (h.row.q i hi).hh.2 hlo) (fun q hq => Or.inl (by have := own_inj hq; omega)) hown hgr hgg
  have hgg1 := hVs.some_lt
  have hT2 : ∀ i, i < n + 1 → B < (extL T n t i).lo := fun i hi => by
    unfold extL
    by_cases e : i = n
    · rw [if_pos e]; omega
    · rw [if_neg e]; have := h.row.low i (by omega); omega
  have hso : OwnE w3 (B + 1) sv s := own_keptP h.so fun b hb => by
    have hb2 := World.ownsRow.lt h.so b hb
    have hne : b ≠ g := fun e => own_apE h.so h.row.own b hb (by rw [e]; rfl)
    exact (hgr.block b (by omega) (fun e => hne (by injection e))).trans (hX.block b hb2.2)
  refine ⟨c3, z3, set_same ⟨_, c3⟩, by rw [World.frozen?_setCell]; exact z3, h.rs.imp fun _ hu => by rw [far_block (by omega)]; exact (far _ (by omega) (by omega) 0).trans hu, by rw [World.frozen?_setCell]; exact (farz _ (by omega) (by omega) 0).trans h.rf, hVs.setB (fun q hq => by have := own_inj hq; omega) (fun i hi => Or.inl (hT2 i hi)), own_keptP hso fun b hb => Below.heap_setCell _ _ _ _ (by show b ≠ B; have := (World.ownsRow.lt hso b hb).1; omega), ?_, hB.1, Nat.lt_of_lt_of_le (show B < w3.heap.size by omega) (by simp [World.setCell])⟩
  refine Below.setCell ?_ (show w.heap.size ≤ (⟨B, 0, none⟩ : Addr).block from Nat.le_of_lt hB.1) _
  exact (h.bel.trans (hX.mono h.bel.size)).grown hgr (by have := h.bel.size; omega) (fun q hq => by injection hq with hq; omega)
theorem BgI.fin {w W : World} {B n g c sc : Nat} {T : Nat → Lg} {sa : Option Addr} {s : List Ent} (h : BgI w B W n T g c (.slice sa s.length sc) s) (hok : AllOk s) (near : Int) : DvPost w n bgG s near (.returned (.tuple #[.agg #[.slice (some ⟨g, 0, none⟩) n c], .slice sa s.length sc, .int .i64 near])) (W.setCell ⟨w.heap.size, 0, none⟩ (.slice (some ⟨g, 0, none⟩) n c)) := by
  have hB := h.hB
  have hr := h.row.setB (C := w.heap.size) (j := 0) (x := .slice (some ⟨g, 0, none⟩) n c) (fun q hq => by have := own_inj hq; have := h.row.some_lt; omega) (fun i hi => Or.inl (by have := h.row.low i hi; omega))
  obtain ⟨a', c', e, hT⟩ := hr.slt
  injection e with e1 _ e2
  subst e1 e2
  have hs : OwnE (W.setCell ⟨w.heap.size, 0, none⟩ (.slice (some ⟨g, 0, none⟩) n c)) (B + 1) (.slice sa s.length sc) s := own_keptP h.so fun b hb => Below.heap_setCell _ _ _ _ (by show b ≠ w.heap.size; have := (World.ownsRow.lt h.so b hb).1; omega)
  obtain ⟨a', c', e, hsl⟩ := hs.sl hok.at
  injection e with e1 _ e2
  subst e1 e2
  exact ⟨_, _, _, _, rfl, ⟨hT, hsl⟩, h.bel.setCell (show w.heap.size ≤ (⟨w.heap.size, 0, none⟩ : Addr).block from Nat.le_refl _) _⟩
set_option maxRecDepth 100000 in
set_option maxHeartbeats 8000000 in
theorem drawSave {a0 : Option Addr} {n0 cap0 : Nat} {bs : Nat → Nat} (w : World) (hle : n0 ≤ cap0) (hmax : cap0 ≤ maxLen) (hB0 : BytesV w a0 n0 bs) (hb256 : ∀ i, i < n0 → bs i < 256) : Calls Try.prog 4 #[.slice a0 n0 cap0] w (DvPost w (dvN bs (rdN n0)) (dvG bs (rdN n0)) (dvS bs (rdN n0)) (dvK bs (rdN n0))) := by
  obtain ⟨i0, hi0, hz0, hz1, hz2⟩ := info_parts Try.infoGroup
  obtain ⟨wa, hwa⟩ : ∃ wa, wa = w.alloc (.cells #[.slice none 0 0] 25) := ⟨_, rfl⟩
  have hba : Below w.heap.size w wa := by rw [hwa]; exact (Below.refl _ _).alloc (Nat.le_refl _) _
  have hsa : wa.heap.size = w.heap.size + 1 := by rw [hwa]; simp
  have hBa : BytesV wa a0 n0 bs := hB0.imp id fun ⟨b, off, e, hlt, hx⟩ => ⟨b, off, e, Nat.lt_of_lt_of_le hlt hba.size, fun i hi => (hba.cell (p := ⟨b, off + i, none⟩) hlt).trans (hx i hi)⟩
  have ra : wa.cell? ⟨w.heap.size, 0, none⟩ = some (.slice none 0 0) := by rw [hwa]; exact World.cell?_alloc_at _ _ _ _ rfl
  have rfa : wa.frozen? ⟨w.heap.size, 0, none⟩ = false := by rw [hwa]; exact World.frozen?_alloc_at _ _ _ _ rfl
  go_enter Try.func4, Try.ntmps4
  go_wp2_with fail
  rw [← hwa]
  clear hwa
  refine (openF _ hle hmax hBa hb256).mono ?_
  rintro e w1 ⟨p, rfl, hr1, hp1, hb1⟩
  clear hB0 hBa hb256 hle hmax
  generalize rdN n0 = m at *
  go_wp2_with fail
  refine (nextF p _ hr1).mono ?_
  rintro e w2 ⟨rfl, hd2⟩
  have hk256 := hr1.nx
  go_wp2_with fail
  refine (drawAsto p _ hd2.1).mono ?_
  rintro e w3 ⟨a, c, rfl, HT, hd3⟩
  have hnp := asN_pos bs m (nxQ m 0)
  have HX : Hid (dvN bs m = svdN (nxB bs m 0) (asN bs m (nxQ m 0)) ∧ dvG bs m = svdG (nxB bs m 0) (asG bs m (nxQ m 0)) ∧ dvS bs m = svdS (nxB bs m 0) (asN bs m (nxQ m 0)) (asG bs m (nxQ m 0)) (daL bs m (asQ bs m (nxQ m 0))) (slE (nxB bs m (daLq bs m (asQ bs m (nxQ m 0))))) ∧ dvK bs m = ((nxB bs m 0 / 16 : Nat) : Int) - 2) := ⟨rfl, rfl, rfl, rfl⟩
  generalize nxB bs m 0 = k at *
  generalize asN bs m (nxQ m 0) = n at *
  generalize asG bs m (nxQ m 0) = G at *
  generalize asQ bs m (nxQ m 0) = q2 at *
  obtain ⟨w4, hw4⟩ : ∃ w4, w4 = w3.alloc (.cells #[.slice a n c] 25) := ⟨_, rfl⟩
  have hb4 : Below w3.heap.size w3 w4 := by rw [hw4]; exact (Below.refl _ _).alloc (Nat.le_refl _) _
  obtain ⟨B, hBd⟩ : ∃ B, B = w3.heap.size := ⟨_, rfl⟩
  have x4 : w4.cell? ⟨B, 0, none⟩ = some (.slice a n c) := by rw [hw4, hBd]; exact World.cell?_alloc_at _ _ _ _ rfl
  have f4 : w4.frozen? ⟨B, 0, none⟩ = false := by rw [hw4, hBd]; exact World.frozen?_alloc_at _ _ _ _ rfl
  have hs4 : w4.heap.size = B + 1 := by rw [hw4, hBd]; simp
  go_wp2_with fail
  rw [← hw4, ← hBd]
  clear hw4
  refine (drawAnyL p _ (hd3.1.below hb4)).mono ?_
  rintro e w5 ⟨sa, sc, rfl, ho5, hok5, hd5⟩
  have hlen5 := daL_len bs m q2
  generalize daL bs m q2 = s at *
  generalize daLq bs m q2 = q3 at *
  have z1 := hb1.size
  have z2 := hd2.size
  have z3 := hd3.size
  have z5 := hd5.size
  have hne : ∀ b, b < p ∨ p < b → some b ≠ some p := fun b h1 e => by injection e with e; omega
  have hpl : p < w1.heap.size := hr1.lt
  have x5 : w5.cell? ⟨B, 0, none⟩ = some (.slice a n c) := (hd5.2.cell_far ⟨B, 0, none⟩ (by show B < _; omega) (hne _ (by show B < p ∨ p < B; omega))).trans x4
  have f5 : w5.frozen? ⟨B, 0, none⟩ = false := (hd5.2.frozen_far ⟨B, 0, none⟩ (by show B < _; omega) (hne _ (by show B < p ∨ p < B; omega))).trans f4
  have hH : ∀ b, b = w.heap.size → b < p := fun b e => by omega
  have r5 : w5.cell? ⟨w.heap.size, 0, none⟩ = some (.slice none 0 0) := by
    refine (hd5.2.cell_far ⟨w.heap.size, 0, none⟩ (by show w.heap.size < _; omega) (hne _ (Or.inl (hH _ rfl)))).trans ?_
    refine (hb4.cell (p := ⟨w.heap.size, 0, none⟩) (by show w.heap.size < _; omega)).trans ?_
    refine (hd3.2.cell_far ⟨w.heap.size, 0, none⟩ (by show w.heap.size < _; omega) (hne _ (Or.inl (hH _ rfl)))).trans ?_
    refine (hd2.2.cell_far ⟨w.heap.size, 0, none⟩ (by show w.heap.size < _; omega) (hne _ (Or.inl (hH _ rfl)))).trans ?_
    exact (hb1.cell (p := ⟨w.heap.size, 0, none⟩) (by show w.heap.size < _; omega)).trans ra
  have rf5 : w5.frozen? ⟨w.heap.size, 0, none⟩ = false := by
    refine (hd5.2.frozen_far ⟨w.heap.size, 0, none⟩ (by show w.heap.size < _; omega) (hne _ (Or.inl (hH _ rfl)))).trans ?_
    refine (hb4.frozen (p := ⟨w.heap.size, 0, none⟩) (by show w.heap.size < _; omega)).trans ?_
    refine (hd3.2.frozen_far ⟨w.heap.size, 0, none⟩ (by show w.heap.size < _; omega) (hne _ (Or.inl (hH _ rfl)))).trans ?_
    refine (hd2.2.frozen_far ⟨w.heap.size, 0, none⟩ (by show w.heap.size < _; omega) (hne _ (Or.inl (hH _ rfl)))).trans ?_
    exact (hb1.frozen (p := ⟨w.heap.size, 0, none⟩) (by show w.heap.size < _; omega)).trans rfa
  have HB5 : Hid (Below w.heap.size w w5) := by
    have gB : ∀ {W W' : World}, Below w.heap.size w W → W.grownBy W' (some p) → Below w.heap.size w W' := fun h1 h2 => h1.grown h2 h1.size (fun b hb => by injection hb with hb; omega)
    have e1 := hba.trans (hb1.mono hba.size)
    have e2 := gB e1 hd2.2
    have e3 := gB e2 hd3.2
    have e4 := e3.trans (hb4.mono e3.size)
    exact gB e4 hd5.2
  have HT5 : Hid (∀ W, KW (w2.heap.size + 1) w5 W → SlT W a n c G) := fun W hW => HT.out W (((KW.blw hb4).trans (KW.dwf hd5 (by omega))).trans hW)
  have hR5 := hd5.1
  rw [hs4] at ho5
  have hz5 : B < w5.heap.size := by omega
  have hLB : w2.heap.size + 1 ≤ B + 1 := by omega
  have hHL : w.heap.size < w2.heap.size + 1 := by omega
  have hpL : p < w2.heap.size + 1 := by omega
  have hHB : w.heap.size < B := by omega
  have hpB : p < B := by omega
  have hHp : w.heap.size < p := by omega
  clear HT ra rfa hd2 hd3 hd5 hb4 hb1 hba hr1 x4 f4 hs4 hne hH z1 z2 z3 z5 hsa hBd hpl
  have hw16 : (k : Int) / 16 - 2 = ((k / 16 : Nat) : Int) - 2 := by omega
  by_cases hk31 : k % 32 = 31
  · have hkz31 : (k : Int) % 32 = 31 := by omega
    have hkz1 : ¬ (k : Int) % 4 = 1 := by omega
    have hkz2 : ¬ (k : Int) % 4 = 2 := by omega
    have hM2 : k / 32 % 2 < 2 := Nat.mod_lt _ (by decide)
    have HE : Hid (dvN bs m = 1000 - k / 32 % 2 ∧ dvG bs m = bgG ∧ dvS bs m = s ∧ dvK bs m = (k : Int) / 16 - 2) := by
      refine ⟨HX.out.1.trans (if_pos hk31), HX.out.2.1.trans (if_pos hk31), HX.out.2.2.1.trans ?_, HX.out.2.2.2.trans hw16.symm⟩
      unfold svdS
      rw [if_neg (fun h => by omega), if_neg (fun h => by omega)]
    obtain ⟨w6, hw6⟩ : ∃ w6, w6 = (w5.alloc (.cells #[.int .i64 (-1), .slice none 0 0] 46)).setCell ⟨B, 0, none⟩ (.slice (some ⟨w5.heap.size, 0, none⟩) 1 1) := ⟨_, rfl⟩
    have HI0 : Hid (BgI w B w6 1 (fun _ => ⟨none, 0, w5.heap.size + 1, w5.heap.size + 1⟩) w5.heap.size 1 (.slice sa s.length sc) s) := by
      have hbA : Below w5.heap.size w5 (w5.alloc (.cells #[.int .i64 (-1), .slice none 0 0] 46)) := (Below.refl _ _).alloc (Nat.le_refl _) _
      have hsA : (w5.alloc (.cells #[.int .i64 (-1), .slice none 0 0] 46)).heap.size = w5.heap.size + 1 := by simp
      have hrow : RowP (w5.alloc (.cells #[.int .i64 (-1), .slice none 0 0] 46)) (B + 1) (.slice (some ⟨w5.heap.size, 0, none⟩) 1 1) 1 bgG (fun _ => ⟨none, 0, w5.heap.size + 1, w5.heap.size + 1⟩) := by
        refine ⟨⟨rfl, Or.inr ⟨w5.heap.size, 1, #[.int .i64 (-1), .slice none 0 0], rfl, by omega, by show (w5.heap.push _)[w5.heap.size]? = _; simp, Nat.le_refl _, by decide, rfl, rfl⟩⟩, fun i hi => ?_, fun i hi => by show B + 1 ≤ w5.heap.size + 1; omega, fun i j h1 h2 => by omega, fun g hg i hi => Or.inl (by have e := own_inj hg; show g < w5.heap.size + 1; omega)⟩
        have e0 : i = 0 := by omega
        subst e0
        have h1 : OwnE (w5.alloc (.cells #[.int .i64 (-1), .slice none 0 0] 46)) (w5.heap.size + 1) (.slice none 0 0) [] := ⟨rfl, Or.inl ⟨rfl, rfl⟩⟩
        obtain ⟨a', c', e, h2⟩ := h1.qp (fun x hx => by cases hx) (-1) (by omega)
        injection e with e1 _ e2
        subst e1 e2
        rw [hsA] at h2
        exact h2
      have hoA := ho5.below hbA
      rw [hw6]
      refine ⟨set_same ⟨_, (hbA.cell (p := ⟨B, 0, none⟩) hz5).trans x5⟩, by rw [World.frozen?_setCell]; exact (hbA.frozen (p := ⟨B, 0, none⟩) hz5).trans f5, ⟨_, by rw [far_block (by omega)]; exact (hbA.cell (p := ⟨w.heap.size, 0, none⟩) (by show w.heap.size < _; omega)).trans r5⟩, by rw [World.frozen?_setCell]; exact (hbA.frozen (p := ⟨w.heap.size, 0, none⟩) (by show w.heap.size < _; omega)).trans rf5, hrow.setB (fun q hq => by have := own_inj hq; omega) (fun i hi => Or.inl (by show B < w5.heap.size + 1; omega)), own_keptP hoA fun b hb => Below.heap_setCell _ _ _ _ (by show b ≠ B; have := (World.ownsRow.lt hoA b hb).1; omega), (HB5.out.trans (hbA.mono HB5.out.size)).setCell (show w.heap.size ≤ (⟨B, 0, none⟩ : Addr).block from Nat.le_of_lt hHB) _, hHB, Nat.lt_of_lt_of_le (show B < w5.heap.size + 1 by omega) (by simp [World.setCell])⟩
    have hcA : (w5.alloc (.cells #[.int .i64 (-1), .slice none 0 0] 46)).cell? ⟨B, 0, none⟩ = some (.slice a n c) := by rw [World.cell?_alloc_past _ _ _ hz5]; exact x5
    rw [World.setCell_alloc_past _ _ _ _ hz5] at hw6
    go_wp2_with fail
    rw [← hw6]
    simp only [hkz31]
    clear hw6 HT5 HB5 hR5 ho5 x5 f5 r5 rf5 hcA HX hw16
    go_loopw [] (fun wr => ∃ (n : Nat) (T : Nat → Lg) (g c : Nat), 1 ≤ n ∧ n ≤ 1000 - k / 32 % 2 ∧ Hid (BgI w B wr n T g c (.slice sa s.length sc) s)) (fun wr => 1000 - k / 32 % 2 - boxN B wr)
    case atStart => exact ⟨1, _, _, _, Nat.le_refl _, by omega, HI0⟩
    case round =>
      clear HI0
      obtain ⟨n, T, g, c, hn1, hnM, HI⟩ := hrel
      obtain ⟨x0, f0, ⟨u1, x1⟩, f1, hrow, -, -, hBr⟩ := HI.out
      have hmz : boxN B wr = n := bg_len HI.out
      by_cases hlt : n < 1000 - k / 32 % 2
      · have hjz : (n : Int) < 1000 - (k : Int) / 32 % 2 := by omega
        obtain ⟨D, hD⟩ : ∃ D, D = decB n := ⟨_, rfl⟩
        have hDs : D.size ≤ 20 := by rw [hD]; exact decB_size n (by omega)
        have Hdec : Hid (∀ W, Below wr.heap.size wr W → Calls Try.prog 16 #[.int .i64 (n : Int)] W fun e w1 => e = .returned (.string D) ∧ Below wr.heap.size wr w1) := fun W hW => by
          rw [hD]
          exact (decF n (by omega) W).mono fun _ _ ⟨h1, h2⟩ => ⟨h1, hW.trans (h2.mono hW.size)⟩
        have hbn : bgG n = ⟨-1, [⟨⟨#[120]⟩, ⟨#[]⟩, D⟩]⟩ := by unfold bgG; rw [if_neg (by omega), hD]
        have HGc : Hid (∀ (w1 : World) (jj : Nat) (u : Value), (gpL ⟨-1, [⟨⟨#[120]⟩, ⟨#[]⟩, D⟩]⟩ ⟨some ⟨w1.heap.size, 0, none⟩, 1, w1.heap.size, w1.heap.size + 1⟩)[jj]? = some u → ((w1.alloc (.cells #[.string ⟨#[120]⟩, .string ⟨#[]⟩, .string D] 38)).alloc (.cells #[.int .i64 (-1), .slice (some ⟨w1.heap.size, 0, none⟩) 1 1] 46)).cell? ((⟨w1.heap.size + 1, 0, none⟩ : Addr).add jj) = some u) := fun w1 jj u hj => by
          have := gpL_cells (w1.alloc (.cells #[.string ⟨#[120]⟩, .string ⟨#[]⟩, .string D] 38)) ⟨-1, [⟨⟨#[120]⟩, ⟨#[]⟩, D⟩]⟩ ⟨some ⟨w1.heap.size, 0, none⟩, 1, w1.heap.size, w1.heap.size + 1⟩ 46 jj u hj
          rw [World.size_alloc] at this
          exact this
        have HW : Hid (∀ w1, Below wr.heap.size wr w1 → w1.cell? ⟨B, 0, none⟩ = some (.slice (some ⟨g, 0, none⟩) n c) ∧ (∀ Z, (w1.alloc Z).cell? ⟨B, 0, none⟩ = some (.slice (some ⟨g, 0, none⟩) n c)) ∧ (∀ Z Z', ((w1.alloc Z).alloc Z').cell? ⟨B, 0, none⟩ = some (.slice (some ⟨g, 0, none⟩) n c)) ∧ ((w1.alloc (.cells #[.string ⟨#[120]⟩, .string ⟨#[]⟩, .string D] 38)).alloc (.cells #[.int .i64 (-1), .slice (some ⟨w1.heap.size, 0, none⟩) 1 1] 46)).ownsRow (B + 1) 46 2 (.slice (some ⟨g, 0, none⟩) n c) n (encP bgG T n) ∧
            Hid (∀ (gg cc : Nat) (w3 : World), w3.ownsRow (B + 1) 46 2 (.slice (some ⟨gg, 0, none⟩) (n + 1) cc) (n + 1) (encP bgG T n ++ gpL ⟨-1, [⟨⟨#[120]⟩, ⟨#[]⟩, D⟩]⟩ ⟨some ⟨w1.heap.size, 0, none⟩, 1, w1.heap.size, w1.heap.size + 1⟩) → ((w1.alloc (.cells #[.string ⟨#[120]⟩, .string ⟨#[]⟩, .string D] 38)).alloc (.cells #[.int .i64 (-1), .slice (some ⟨w1.heap.size, 0, none⟩) 1 1] 46)).grownBy w3 (some g) → (some g = some gg ∨ gg = w1.heap.size + 1 + 1) →
            w3.cell? ⟨B, 0, none⟩ = some (.slice (some ⟨g, 0, none⟩) n c) ∧ w3.frozen? ⟨B, 0, none⟩ = false ∧ Hid (∃ T, BgI w B (w3.setCell ⟨B, 0, none⟩ (.slice (some ⟨gg, 0, none⟩) (n + 1) cc)) (n + 1) T gg cc (.slice sa s.length sc) s))) := fun w1 hb1 => by
          have hbX1 : Below wr.heap.size wr (w1.alloc (.cells #[.string ⟨#[120]⟩, .string ⟨#[]⟩, .string D] 38)) := hb1.alloc hb1.size _
          have hbX : Below wr.heap.size wr ((w1.alloc (.cells #[.string ⟨#[120]⟩, .string ⟨#[]⟩, .string D] 38)).alloc (.cells #[.int .i64 (-1), .slice (some ⟨w1.heap.size, 0, none⟩) 1 1] 46)) := hbX1.alloc hbX1.size _
          have hq1 : QP ((w1.alloc (.cells #[.string ⟨#[120]⟩, .string ⟨#[]⟩, .string D] 38)).alloc (.cells #[.int .i64 (-1), .slice (some ⟨w1.heap.size, 0, none⟩) 1 1] 46)) (bgG n) ⟨some ⟨w1.heap.size, 0, none⟩, 1, w1.heap.size, w1.heap.size + 1⟩ := by
            rw [hbn]
            have h1 : OwnE (w1.alloc (.cells #[.string ⟨#[120]⟩, .string ⟨#[]⟩, .string D] 38)) w1.heap.size (.slice (some ⟨w1.heap.size, 0, none⟩) 1 1) [⟨⟨#[120]⟩, ⟨#[]⟩, D⟩] := ⟨rfl, Or.inr ⟨w1.heap.size, 1, #[.string ⟨#[120]⟩, .string ⟨#[]⟩, .string D], rfl, Nat.le_refl _, by show (w1.heap.push _)[w1.heap.size]? = _; simp, Nat.le_refl _, by decide, rfl, rfl⟩⟩
            obtain ⟨a', c', e, h2⟩ := h1.qp (fun x hx => by rw [List.mem_singleton.1 hx]; exact ⟨(by decide : 1 ≤ maxLen), Nat.zero_le _, Nat.le_trans hDs (by decide)⟩) (-1) (by simp)
            injection e with e1 _ e2
            subst e1 e2
            rw [World.size_alloc] at h2
            exact h2.below ((Below.refl _ _).alloc (Nat.le_refl _) _)
          refine ⟨(hb1.cell (p := ⟨B, 0, none⟩) hBr.2).trans x0, fun Z => ((hb1.alloc hb1.size Z).cell (p := ⟨B, 0, none⟩) hBr.2).trans x0, fun Z Z' => (((hb1.alloc hb1.size Z).alloc (by have := hb1.size; simp; omega) Z').cell (p := ⟨B, 0, none⟩) hBr.2).trans x0, ownsRow_below hrow.own hbX, fun gg cc w3 h1 h2 h3 => ?_⟩
          obtain ⟨p1, p2, p3⟩ := HI.out.push hbX hq1 hb1.size (by rw [hbn]; exact h1) h2 (h3.imp id fun e => by rw [e]; simp)
          exact ⟨p1, p2, _, p3⟩
        have hrf : Below wr.heap.size wr wr := Below.refl _ _
        have hm1 : n + 1 ≤ maxLen := by unfold maxLen; omega
        have hm2 : (n + 1) * 32 ≤ 140737488355328 := by omega
        clear HI hrow hbn hD x1 f1 hDs
        go_upto_region 8 with fail
        refine wp_region_held_drew (S := fun _ => True) (by kernel_rfl) ?_ (fun hHeld => ?_)
        · (try dsimp only); try trivial
        refine wpAnyH_take (i := 0) (v := ?vm1) rfl (by kernel_rfl) (by kernel_rfl) (by kernel_rfl) (fun _ _ _ h => h) (Or.inl ⟨by rfl, ?hm1⟩) (by assumption) ?_
        case hm1 => (intro w hSw; (try dsimp only at hSw); go_simp; try (with_reducible rfl))
        simp only [Act.put, List.getElem_toArray, List.getElem_cons_zero, List.setIfInBounds_toArray, List.set_cons_zero, List.set_cons_succ]
        refine wpAnyH_take (i := 2) (v := ?vm2) rfl (by kernel_rfl) (by kernel_rfl) (by kernel_rfl) (fun _ _ _ h => h) (Or.inl ⟨by rfl, ?hm2⟩) (by assumption) ?_
        case hm2 => (intro w hSw; (try dsimp only at hSw); go_simp; try (with_reducible rfl))
        simp only [Act.put, List.getElem_toArray, List.getElem_cons_zero, List.getElem_cons_succ, List.setIfInBounds_toArray, List.set_cons_zero, List.set_cons_succ]
        refine wpAnyH_ready (rs := [1, 3]) (by kernel_rfl) (by simp) ?_
        refine AllReadyH.cons rfl (fun K hK => ?_) (AllReadyH.cons rfl (fun K hK => ?_) AllReadyH.nil)
        · go_simp
          refine hK.out _ _ ?_ (fun hHeld => ?_)
          · (try dsimp only); try trivial
          clear hK K
          try simp only [Act.put, List.getElem_toArray, List.getElem_cons_zero, List.getElem_cons_succ, List.setIfInBounds_toArray, List.set_cons_zero, List.set_cons_succ]
          refine wpAnyH_ready (rs := [3]) (by kernel_rfl) (by simp) ?_
          refine AllReadyH.cons rfl (fun K hK => ?_) AllReadyH.nil
          go_simp
          refine hK.out _ _ ?_ (fun hHeld => ?_)
          · (try dsimp only); try trivial
          clear hK K
          try simp only [Act.put, List.getElem_toArray, List.getElem_cons_zero, List.getElem_cons_succ, List.setIfInBounds_toArray, List.set_cons_zero, List.set_cons_succ]
          refine wpAnyH_take (i := 4) (v := ?vm3) rfl (by kernel_rfl) (by kernel_rfl) (by kernel_rfl) (fun _ _ _ h => h) (Or.inl ⟨by rfl, ?hm3⟩) (by assumption) ?_
          case hm3 => (intro w hSw; (try dsimp only at hSw); go_simp; try (with_reducible rfl))
          simp only [Act.put, List.getElem_toArray, List.getElem_cons_zero, List.getElem_cons_succ, List.setIfInBounds_toArray, List.set_cons_zero, List.set_cons_succ]
          refine wpAnyH_ready (rs := [5]) (by kernel_rfl) (by simp) ?_
          refine AllReadyH.cons rfl (fun K hK => ?_) AllReadyH.nil
          go_simp
          go_at_call 16
          refine (Hdec.out _ (by with_reducible first | exact hrf | exact hrf.drew | exact hrf.drew.drew | exact hrf.drew.drew.drew)).mono ?_
          rintro e w1 ⟨rfl, hb1⟩
          obtain ⟨q1, qA, qB, hO, HF⟩ := HW.out w1 hb1
          (try dsimp only)
          refine hK.out _ _ ?_ (fun hHeld => ?_)
          · (try dsimp only); try trivial
          clear hK K
          try simp only [Act.put, List.getElem_toArray, List.getElem_cons_zero, List.getElem_cons_succ, List.setIfInBounds_toArray, List.set_cons_zero, List.set_cons_succ]
          refine wpAnyH_take (i := 6) (v := ?vm4) rfl (by kernel_rfl) (by kernel_rfl) (by kernel_rfl) (fun _ _ _ h => h) (Or.inl ⟨by rfl, ?hm4⟩) (by assumption) ?_
          case hm4 => (intro w hSw; (try dsimp only at hSw); go_simp; try (with_reducible rfl))
          simp only [Act.put, List.getElem_toArray, List.getElem_cons_zero, List.getElem_cons_succ, List.setIfInBounds_toArray, List.set_cons_zero, List.set_cons_succ]
          refine wpAnyH_ready (rs := [7]) (by kernel_rfl) (by simp) ?_
          refine AllReadyH.cons rfl (fun K hK => ?_) AllReadyH.nil
          go_simp
          refine hK.out _ _ ?_ (fun hHeld => ?_)
          · (try dsimp only); try trivial
          clear hK K
          try simp only [Act.put, List.getElem_toArray, List.getElem_cons_zero, List.getElem_cons_succ, List.setIfInBounds_toArray, List.set_cons_zero, List.set_cons_succ]
          refine wpAnyH_take (i := 8) (v := ?vm5) rfl (by kernel_rfl) (by kernel_rfl) (by kernel_rfl) (fun _ _ _ h => h) (Or.inl ⟨by rfl, ?hm5⟩) (by assumption) ?_
          case hm5 => (intro w hSw; (try dsimp only at hSw); go_simp; try (with_reducible rfl))
          simp only [Act.put, List.getElem_toArray, List.getElem_cons_zero, List.getElem_cons_succ, List.setIfInBounds_toArray, List.set_cons_zero, List.set_cons_succ]
          refine wpAnyH_ready (rs := [9]) (by kernel_rfl) (by simp) ?_
          refine AllReadyH.cons rfl (fun K hK => ?_) AllReadyH.nil
          go_simp
          refine hK.out _ _ ?_ (fun hHeld => ?_)
          · (try dsimp only); try trivial
          clear hK K
          try simp only [Act.put, List.getElem_toArray, List.getElem_cons_zero, List.getElem_cons_succ, List.setIfInBounds_toArray, List.set_cons_zero, List.set_cons_succ]
          refine wpAnyH_ready (rs := [10]) (by kernel_rfl) (by simp) ?_
          refine AllReadyH.cons rfl (fun K hK => ?_) AllReadyH.nil
          refine step_append_lies _ (by rfl) _ _ _ (by rfl) (B + 1) 46 i0 _ 2 32 Try.underlying23 hi0 hz0 hz1 hz2 rfl (by decide) (.slice (some ⟨g, 0, none⟩) n c) n (encP bgG T n) (by rfl) (by first | exact hO | exact ownsRow_below hO (Below.refl _ _).drew) ⟨w1.heap.size + 1, 0, none⟩ 1 1 (gpL ⟨-1, [⟨⟨#[120]⟩, ⟨#[]⟩, D⟩]⟩ ⟨some ⟨w1.heap.size, 0, none⟩, 1, w1.heap.size, w1.heap.size + 1⟩) (by rfl) (by rfl) (HGc.out w1) (gpL_one _ _) (by decide) hm1 hm2 (by simp; have := hb1.size; omega) (w1.heap.size + 1 + 1) (by simp) ?_
          intro gg cc w3 hown3 hgrow3 hat3 _
          obtain ⟨d0, df0, HS3⟩ := HF.out gg cc w3 hown3 hgrow3 hat3
          refine hK.out _ _ ?_ (fun hHeld => ?_)
          · (try dsimp only); try trivial
          clear hK K
          try simp only [Act.put, List.getElem_toArray, List.getElem_cons_zero, List.getElem_cons_succ, List.setIfInBounds_toArray, List.set_cons_zero, List.set_cons_succ]
          refine wpAnyH_take (i := 11) (v := ?vm6) rfl (by kernel_rfl) (by kernel_rfl) (by kernel_rfl) (fun _ _ _ h => h) (Or.inl ⟨by rfl, ?hm6⟩) (by assumption) ?_
          case hm6 => (intro w hSw; (try dsimp only at hSw); go_simp; try (with_reducible rfl))
          simp only [Act.put, List.getElem_toArray, List.getElem_cons_zero, List.getElem_cons_succ, List.setIfInBounds_toArray, List.set_cons_zero, List.set_cons_succ]
          refine wpAnyH_ready (rs := [12]) (by kernel_rfl) (by simp) ?_
          refine AllReadyH.cons rfl (fun K hK => ?_) AllReadyH.nil
          go_simp
          refine hK.out _ _ ?_ (fun hHeld => ?_)
          · (try dsimp only); try trivial
          clear hK K
          try simp only [Act.put, List.getElem_toArray, List.getElem_cons_zero, List.getElem_cons_succ, List.setIfInBounds_toArray, List.set_cons_zero, List.set_cons_succ]
          refine wpAnyH_done (by kernel_rfl) ?_ _
          obtain ⟨T3, HS4'⟩ := HS3.out
          have HS4 : Hid (BgI w B (w3.setCell ⟨B, 0, none⟩ (.slice (some ⟨gg, 0, none⟩) (n + 1) cc)) (n + 1) T3 gg cc (.slice sa s.length sc) s) := HS4'
          clear HS3 HS4' HF hO q1 qA qB hown3 hgrow3 hat3 HW HGc
          go_wp2
          go_roundw
          case rel => exact ⟨n + 1, T3, gg, cc, by omega, by omega, HS4⟩
          case measure => (rw [hmz, bg_len HS4.out]; omega)
        · go_simp
          refine hK.out _ _ ?_ (fun hHeld => ?_)
          · (try dsimp only); try trivial
          clear hK K
          try simp only [Act.put, List.getElem_toArray, List.getElem_cons_zero, List.getElem_cons_succ, List.setIfInBounds_toArray, List.set_cons_zero, List.set_cons_succ]
          refine wpAnyH_take (i := 4) (v := ?vm7) rfl (by kernel_rfl) (by kernel_rfl) (by kernel_rfl) (fun _ _ _ h => h) (Or.inl ⟨by rfl, ?hm7⟩) (by assumption) ?_
          case hm7 => (intro w hSw; (try dsimp only at hSw); go_simp; try (with_reducible rfl))
          simp only [Act.put, List.getElem_toArray, List.getElem_cons_zero, List.getElem_cons_succ, List.setIfInBounds_toArray, List.set_cons_zero, List.set_cons_succ]
          refine wpAnyH_ready (rs := [1, 5]) (by kernel_rfl) (by simp) ?_
          refine AllReadyH.cons rfl (fun K hK => ?_) (AllReadyH.cons rfl (fun K hK => ?_) AllReadyH.nil)
          · go_simp
            refine hK.out _ _ ?_ (fun hHeld => ?_)
            · (try dsimp only); try trivial
            clear hK K
            try simp only [Act.put, List.getElem_toArray, List.getElem_cons_zero, List.getElem_cons_succ, List.setIfInBounds_toArray, List.set_cons_zero, List.set_cons_succ]
            refine wpAnyH_ready (rs := [5]) (by kernel_rfl) (by simp) ?_
            refine AllReadyH.cons rfl (fun K hK => ?_) AllReadyH.nil
            go_simp
            go_at_call 16
            refine (Hdec.out _ (by with_reducible first | exact hrf | exact hrf.drew | exact hrf.drew.drew | exact hrf.drew.drew.drew)).mono ?_
            rintro e w1 ⟨rfl, hb1⟩
            obtain ⟨q1, qA, qB, hO, HF⟩ := HW.out w1 hb1
            (try dsimp only)
            refine hK.out _ _ ?_ (fun hHeld => ?_)
            · (try dsimp only); try trivial
            clear hK K
            try simp only [Act.put, List.getElem_toArray, List.getElem_cons_zero, List.getElem_cons_succ, List.setIfInBounds_toArray, List.set_cons_zero, List.set_cons_succ]
            refine wpAnyH_take (i := 6) (v := ?vm8) rfl (by kernel_rfl) (by kernel_rfl) (by kernel_rfl) (fun _ _ _ h => h) (Or.inl ⟨by rfl, ?hm8⟩) (by assumption) ?_
            case hm8 => (intro w hSw; (try dsimp only at hSw); go_simp; try (with_reducible rfl))
            simp only [Act.put, List.getElem_toArray, List.getElem_cons_zero, List.getElem_cons_succ, List.setIfInBounds_toArray, List.set_cons_zero, List.set_cons_succ]
            refine wpAnyH_ready (rs := [7]) (by kernel_rfl) (by simp) ?_
            refine AllReadyH.cons rfl (fun K hK => ?_) AllReadyH.nil
            go_simp
            refine hK.out _ _ ?_ (fun hHeld => ?_)
            · (try dsimp only); try trivial
            clear hK K
            try simp only [Act.put, List.getElem_toArray, List.getElem_cons_zero, List.getElem_cons_succ, List.setIfInBounds_toArray, List.set_cons_zero, List.set_cons_succ]
            refine wpAnyH_take (i := 8) (v := ?vm9) rfl (by kernel_rfl) (by kernel_rfl) (by kernel_rfl) (fun _ _ _ h => h) (Or.inl ⟨by rfl, ?hm9⟩) (by assumption) ?_
            case hm9 => (intro w hSw; (try dsimp only at hSw); go_simp; try (with_reducible rfl))
            simp only [Act.put, List.getElem_toArray, List.getElem_cons_zero, List.getElem_cons_succ, List.setIfInBounds_toArray, List.set_cons_zero, List.set_cons_succ]
            refine wpAnyH_ready (rs := [9]) (by kernel_rfl) (by simp) ?_
            refine AllReadyH.cons rfl (fun K hK => ?_) AllReadyH.nil
            go_simp
            refine hK.out _ _ ?_ (fun hHeld => ?_)
            · (try dsimp only); try trivial
            clear hK K
            try simp only [Act.put, List.getElem_toArray, List.getElem_cons_zero, List.getElem_cons_succ, List.setIfInBounds_toArray, List.set_cons_zero, List.set_cons_succ]
            refine wpAnyH_ready (rs := [10]) (by kernel_rfl) (by simp) ?_
            refine AllReadyH.cons rfl (fun K hK => ?_) AllReadyH.nil
            refine step_append_lies _ (by rfl) _ _ _ (by rfl) (B + 1) 46 i0 _ 2 32 Try.underlying23 hi0 hz0 hz1 hz2 rfl (by decide) (.slice (some ⟨g, 0, none⟩) n c) n (encP bgG T n) (by rfl) (by first | exact hO | exact ownsRow_below hO (Below.refl _ _).drew) ⟨w1.heap.size + 1, 0, none⟩ 1 1 (gpL ⟨-1, [⟨⟨#[120]⟩, ⟨#[]⟩, D⟩]⟩ ⟨some ⟨w1.heap.size, 0, none⟩, 1, w1.heap.size, w1.heap.size + 1⟩) (by rfl) (by rfl) (HGc.out w1) (gpL_one _ _) (by decide) hm1 hm2 (by simp; have := hb1.size; omega) (w1.heap.size + 1 + 1) (by simp) ?_
            intro gg cc w3 hown3 hgrow3 hat3 _
            obtain ⟨d0, df0, HS3⟩ := HF.out gg cc w3 hown3 hgrow3 hat3
            refine hK.out _ _ ?_ (fun hHeld => ?_)
            · (try dsimp only); try trivial
            clear hK K
            try simp only [Act.put, List.getElem_toArray, List.getElem_cons_zero, List.getElem_cons_succ, List.setIfInBounds_toArray, List.set_cons_zero, List.set_cons_succ]
            refine wpAnyH_take (i := 11) (v := ?vm10) rfl (by kernel_rfl) (by kernel_rfl) (by kernel_rfl) (fun _ _ _ h => h) (Or.inl ⟨by rfl, ?hm10⟩) (by assumption) ?_
            case hm10 => (intro w hSw; (try dsimp only at hSw); go_simp; try (with_reducible rfl))
            simp only [Act.put, List.getElem_toArray, List.getElem_cons_zero, List.getElem_cons_succ, List.setIfInBounds_toArray, List.set_cons_zero, List.set_cons_succ]
            refine wpAnyH_ready (rs := [12]) (by kernel_rfl) (by simp) ?_
            refine AllReadyH.cons rfl (fun K hK => ?_) AllReadyH.nil
            go_simp
            refine hK.out _ _ ?_ (fun hHeld => ?_)
            · (try dsimp only); try trivial
            clear hK K
            try simp only [Act.put, List.getElem_toArray, List.getElem_cons_zero, List.getElem_cons_succ, List.setIfInBounds_toArray, List.set_cons_zero, List.set_cons_succ]
            refine wpAnyH_done (by kernel_rfl) ?_ _
            obtain ⟨T3, HS4'⟩ := HS3.out
            have HS4 : Hid (BgI w B (w3.setCell ⟨B, 0, none⟩ (.slice (some ⟨gg, 0, none⟩) (n + 1) cc)) (n + 1) T3 gg cc (.slice sa s.length sc) s) := HS4'
            clear HS3 HS4' HF hO q1 qA qB hown3 hgrow3 hat3 HW HGc
            go_wp2
            go_roundw
            case rel => exact ⟨n + 1, T3, gg, cc, by omega, by omega, HS4⟩
            case measure => (rw [hmz, bg_len HS4.out]; omega)
          · go_simp
            go_at_call 16
            refine (Hdec.out _ (by with_reducible first | exact hrf | exact hrf.drew | exact hrf.drew.drew | exact hrf.drew.drew.drew)).mono ?_
            rintro e w1 ⟨rfl, hb1⟩
            obtain ⟨q1, qA, qB, hO, HF⟩ := HW.out w1 hb1
            (try dsimp only)
            refine hK.out _ _ ?_ (fun hHeld => ?_)
            · (try dsimp only); try trivial
            clear hK K
            try simp only [Act.put, List.getElem_toArray, List.getElem_cons_zero, List.getElem_cons_succ, List.setIfInBounds_toArray, List.set_cons_zero, List.set_cons_succ]
            refine wpAnyH_take (i := 6) (v := ?vm11) rfl (by kernel_rfl) (by kernel_rfl) (by kernel_rfl) (fun _ _ _ h => h) (Or.inl ⟨by rfl, ?hm11⟩) (by assumption) ?_
            case hm11 => (intro w hSw; (try dsimp only at hSw); go_simp; try (with_reducible rfl))
            simp only [Act.put, List.getElem_toArray, List.getElem_cons_zero, List.getElem_cons_succ, List.setIfInBounds_toArray, List.set_cons_zero, List.set_cons_succ]
            refine wpAnyH_ready (rs := [1, 7]) (by kernel_rfl) (by simp) ?_
            refine AllReadyH.cons rfl (fun K hK => ?_) (AllReadyH.cons rfl (fun K hK => ?_) AllReadyH.nil)
            · go_simp
              refine hK.out _ _ ?_ (fun hHeld => ?_)
              · (try dsimp only); try trivial
              clear hK K
              try simp only [Act.put, List.getElem_toArray, List.getElem_cons_zero, List.getElem_cons_succ, List.setIfInBounds_toArray, List.set_cons_zero, List.set_cons_succ]
              refine wpAnyH_ready (rs := [7]) (by kernel_rfl) (by simp) ?_
              refine AllReadyH.cons rfl (fun K hK => ?_) AllReadyH.nil
              go_simp
              refine hK.out _ _ ?_ (fun hHeld => ?_)
              · (try dsimp only); try trivial
              clear hK K
              try simp only [Act.put, List.getElem_toArray, List.getElem_cons_zero, List.getElem_cons_succ, List.setIfInBounds_toArray, List.set_cons_zero, List.set_cons_succ]
              refine wpAnyH_take (i := 8) (v := ?vm12) rfl (by kernel_rfl) (by kernel_rfl) (by kernel_rfl) (fun _ _ _ h => h) (Or.inl ⟨by rfl, ?hm12⟩) (by assumption) ?_
              case hm12 => (intro w hSw; (try dsimp only at hSw); go_simp; try (with_reducible rfl))
              simp only [Act.put, List.getElem_toArray, List.getElem_cons_zero, List.getElem_cons_succ, List.setIfInBounds_toArray, List.set_cons_zero, List.set_cons_succ]
              refine wpAnyH_ready (rs := [9]) (by kernel_rfl) (by simp) ?_
              refine AllReadyH.cons rfl (fun K hK => ?_) AllReadyH.nil
              go_simp
              refine hK.out _ _ ?_ (fun hHeld => ?_)
              · (try dsimp only); try trivial
              clear hK K
              try simp only [Act.put, List.getElem_toArray, List.getElem_cons_zero, List.getElem_cons_succ, List.setIfInBounds_toArray, List.set_cons_zero, List.set_cons_succ]
              refine wpAnyH_ready (rs := [10]) (by kernel_rfl) (by simp) ?_
              refine AllReadyH.cons rfl (fun K hK => ?_) AllReadyH.nil
              refine step_append_lies _ (by rfl) _ _ _ (by rfl) (B + 1) 46 i0 _ 2 32 Try.underlying23 hi0 hz0 hz1 hz2 rfl (by decide) (.slice (some ⟨g, 0, none⟩) n c) n (encP bgG T n) (by rfl) (by first | exact hO | exact ownsRow_below hO (Below.refl _ _).drew) ⟨w1.heap.size + 1, 0, none⟩ 1 1 (gpL ⟨-1, [⟨⟨#[120]⟩, ⟨#[]⟩, D⟩]⟩ ⟨some ⟨w1.heap.size, 0, none⟩, 1, w1.heap.size, w1.heap.size + 1⟩) (by rfl) (by rfl) (HGc.out w1) (gpL_one _ _) (by decide) hm1 hm2 (by simp; have := hb1.size; omega) (w1.heap.size + 1 + 1) (by simp) ?_
              intro gg cc w3 hown3 hgrow3 hat3 _
              obtain ⟨d0, df0, HS3⟩ := HF.out gg cc w3 hown3 hgrow3 hat3
              refine hK.out _ _ ?_ (fun hHeld => ?_)
              · (try dsimp only); try trivial
              clear hK K
              try simp only [Act.put, List.getElem_toArray, List.getElem_cons_zero, List.getElem_cons_succ, List.setIfInBounds_toArray, List.set_cons_zero, List.set_cons_succ]
              refine wpAnyH_take (i := 11) (v := ?vm13) rfl (by kernel_rfl) (by kernel_rfl) (by kernel_rfl) (fun _ _ _ h => h) (Or.inl ⟨by rfl, ?hm13⟩) (by assumption) ?_
              case hm13 => (intro w hSw; (try dsimp only at hSw); go_simp; try (with_reducible rfl))
              simp only [Act.put, List.getElem_toArray, List.getElem_cons_zero, List.getElem_cons_succ, List.setIfInBounds_toArray, List.set_cons_zero, List.set_cons_succ]
              refine wpAnyH_ready (rs := [12]) (by kernel_rfl) (by simp) ?_
              refine AllReadyH.cons rfl (fun K hK => ?_) AllReadyH.nil
              go_simp
              refine hK.out _ _ ?_ (fun hHeld => ?_)
              · (try dsimp only); try trivial
              clear hK K
              try simp only [Act.put, List.getElem_toArray, List.getElem_cons_zero, List.getElem_cons_succ, List.setIfInBounds_toArray, List.set_cons_zero, List.set_cons_succ]
              refine wpAnyH_done (by kernel_rfl) ?_ _
              obtain ⟨T3, HS4'⟩ := HS3.out
              have HS4 : Hid (BgI w B (w3.setCell ⟨B, 0, none⟩ (.slice (some ⟨gg, 0, none⟩) (n + 1) cc)) (n + 1) T3 gg cc (.slice sa s.length sc) s) := HS4'
              clear HS3 HS4' HF hO q1 qA qB hown3 hgrow3 hat3 HW HGc
              go_wp2
              go_roundw
              case rel => exact ⟨n + 1, T3, gg, cc, by omega, by omega, HS4⟩
              case measure => (rw [hmz, bg_len HS4.out]; omega)
            · go_simp
              refine hK.out _ _ ?_ (fun hHeld => ?_)
              · (try dsimp only); try trivial
              clear hK K
              try simp only [Act.put, List.getElem_toArray, List.getElem_cons_zero, List.getElem_cons_succ, List.setIfInBounds_toArray, List.set_cons_zero, List.set_cons_succ]
              refine wpAnyH_take (i := 8) (v := ?vm14) rfl (by kernel_rfl) (by kernel_rfl) (by kernel_rfl) (fun _ _ _ h => h) (Or.inl ⟨by rfl, ?hm14⟩) (by assumption) ?_
              case hm14 => (intro w hSw; (try dsimp only at hSw); go_simp; try (with_reducible rfl))
              simp only [Act.put, List.getElem_toArray, List.getElem_cons_zero, List.getElem_cons_succ, List.setIfInBounds_toArray, List.set_cons_zero, List.set_cons_succ]
              refine wpAnyH_ready (rs := [1, 9]) (by kernel_rfl) (by simp) ?_
              refine AllReadyH.cons rfl (fun K hK => ?_) (AllReadyH.cons rfl (fun K hK => ?_) AllReadyH.nil)
              · go_simp
                refine hK.out _ _ ?_ (fun hHeld => ?_)
                · (try dsimp only); try trivial
                clear hK K
                try simp only [Act.put, List.getElem_toArray, List.getElem_cons_zero, List.getElem_cons_succ, List.setIfInBounds_toArray, List.set_cons_zero, List.set_cons_succ]
                refine wpAnyH_ready (rs := [9]) (by kernel_rfl) (by simp) ?_
                refine AllReadyH.cons rfl (fun K hK => ?_) AllReadyH.nil
                go_simp
                refine hK.out _ _ ?_ (fun hHeld => ?_)
                · (try dsimp only); try trivial
                clear hK K
                try simp only [Act.put, List.getElem_toArray, List.getElem_cons_zero, List.getElem_cons_succ, List.setIfInBounds_toArray, List.set_cons_zero, List.set_cons_succ]
                refine wpAnyH_ready (rs := [10]) (by kernel_rfl) (by simp) ?_
                refine AllReadyH.cons rfl (fun K hK => ?_) AllReadyH.nil
                refine step_append_lies _ (by rfl) _ _ _ (by rfl) (B + 1) 46 i0 _ 2 32 Try.underlying23 hi0 hz0 hz1 hz2 rfl (by decide) (.slice (some ⟨g, 0, none⟩) n c) n (encP bgG T n) (by rfl) (by first | exact hO | exact ownsRow_below hO (Below.refl _ _).drew) ⟨w1.heap.size + 1, 0, none⟩ 1 1 (gpL ⟨-1, [⟨⟨#[120]⟩, ⟨#[]⟩, D⟩]⟩ ⟨some ⟨w1.heap.size, 0, none⟩, 1, w1.heap.size, w1.heap.size + 1⟩) (by rfl) (by rfl) (HGc.out w1) (gpL_one _ _) (by decide) hm1 hm2 (by simp; have := hb1.size; omega) (w1.heap.size + 1 + 1) (by simp) ?_
                intro gg cc w3 hown3 hgrow3 hat3 _
                obtain ⟨d0, df0, HS3⟩ := HF.out gg cc w3 hown3 hgrow3 hat3
                refine hK.out _ _ ?_ (fun hHeld => ?_)
                · (try dsimp only); try trivial
                clear hK K
                try simp only [Act.put, List.getElem_toArray, List.getElem_cons_zero, List.getElem_cons_succ, List.setIfInBounds_toArray, List.set_cons_zero, List.set_cons_succ]
                refine wpAnyH_take (i := 11) (v := ?vm15) rfl (by kernel_rfl) (by kernel_rfl) (by kernel_rfl) (fun _ _ _ h => h) (Or.inl ⟨by rfl, ?hm15⟩) (by assumption) ?_
                case hm15 => (intro w hSw; (try dsimp only at hSw); go_simp; try (with_reducible rfl))
                simp only [Act.put, List.getElem_toArray, List.getElem_cons_zero, List.getElem_cons_succ, List.setIfInBounds_toArray, List.set_cons_zero, List.set_cons_succ]
                refine wpAnyH_ready (rs := [12]) (by kernel_rfl) (by simp) ?_
                refine AllReadyH.cons rfl (fun K hK => ?_) AllReadyH.nil
                go_simp
                refine hK.out _ _ ?_ (fun hHeld => ?_)
                · (try dsimp only); try trivial
                clear hK K
                try simp only [Act.put, List.getElem_toArray, List.getElem_cons_zero, List.getElem_cons_succ, List.setIfInBounds_toArray, List.set_cons_zero, List.set_cons_succ]
                refine wpAnyH_done (by kernel_rfl) ?_ _
                obtain ⟨T3, HS4'⟩ := HS3.out
                have HS4 : Hid (BgI w B (w3.setCell ⟨B, 0, none⟩ (.slice (some ⟨gg, 0, none⟩) (n + 1) cc)) (n + 1) T3 gg cc (.slice sa s.length sc) s) := HS4'
                clear HS3 HS4' HF hO q1 qA qB hown3 hgrow3 hat3 HW HGc
                go_wp2
                go_roundw
                case rel => exact ⟨n + 1, T3, gg, cc, by omega, by omega, HS4⟩
                case measure => (rw [hmz, bg_len HS4.out]; omega)
              · go_simp
                refine hK.out _ _ ?_ (fun hHeld => ?_)
                · (try dsimp only); try trivial
                clear hK K
                try simp only [Act.put, List.getElem_toArray, List.getElem_cons_zero, List.getElem_cons_succ, List.setIfInBounds_toArray, List.set_cons_zero, List.set_cons_succ]
                refine wpAnyH_ready (rs := [1]) (by kernel_rfl) (by simp) ?_
                refine AllReadyH.cons rfl (fun K hK => ?_) AllReadyH.nil
                go_simp
                refine hK.out _ _ ?_ (fun hHeld => ?_)
                · (try dsimp only); try trivial
                clear hK K
                try simp only [Act.put, List.getElem_toArray, List.getElem_cons_zero, List.getElem_cons_succ, List.setIfInBounds_toArray, List.set_cons_zero, List.set_cons_succ]
                refine wpAnyH_ready (rs := [10]) (by kernel_rfl) (by simp) ?_
                refine AllReadyH.cons rfl (fun K hK => ?_) AllReadyH.nil
                refine step_append_lies _ (by rfl) _ _ _ (by rfl) (B + 1) 46 i0 _ 2 32 Try.underlying23 hi0 hz0 hz1 hz2 rfl (by decide) (.slice (some ⟨g, 0, none⟩) n c) n (encP bgG T n) (by rfl) (by first | exact hO | exact ownsRow_below hO (Below.refl _ _).drew) ⟨w1.heap.size + 1, 0, none⟩ 1 1 (gpL ⟨-1, [⟨⟨#[120]⟩, ⟨#[]⟩, D⟩]⟩ ⟨some ⟨w1.heap.size, 0, none⟩, 1, w1.heap.size, w1.heap.size + 1⟩) (by rfl) (by rfl) (HGc.out w1) (gpL_one _ _) (by decide) hm1 hm2 (by simp; have := hb1.size; omega) (w1.heap.size + 1 + 1) (by simp) ?_
                intro gg cc w3 hown3 hgrow3 hat3 _
                obtain ⟨d0, df0, HS3⟩ := HF.out gg cc w3 hown3 hgrow3 hat3
                refine hK.out _ _ ?_ (fun hHeld => ?_)
                · (try dsimp only); try trivial
                clear hK K
                try simp only [Act.put, List.getElem_toArray, List.getElem_cons_zero, List.getElem_cons_succ, List.setIfInBounds_toArray, List.set_cons_zero, List.set_cons_succ]
                refine wpAnyH_take (i := 11) (v := ?vm16) rfl (by kernel_rfl) (by kernel_rfl) (by kernel_rfl) (fun _ _ _ h => h) (Or.inl ⟨by rfl, ?hm16⟩) (by assumption) ?_
                case hm16 => (intro w hSw; (try dsimp only at hSw); go_simp; try (with_reducible rfl))
                simp only [Act.put, List.getElem_toArray, List.getElem_cons_zero, List.getElem_cons_succ, List.setIfInBounds_toArray, List.set_cons_zero, List.set_cons_succ]
                refine wpAnyH_ready (rs := [12]) (by kernel_rfl) (by simp) ?_
                refine AllReadyH.cons rfl (fun K hK => ?_) AllReadyH.nil
                go_simp
                refine hK.out _ _ ?_ (fun hHeld => ?_)
                · (try dsimp only); try trivial
                clear hK K
                try simp only [Act.put, List.getElem_toArray, List.getElem_cons_zero, List.getElem_cons_succ, List.setIfInBounds_toArray, List.set_cons_zero, List.set_cons_succ]
                refine wpAnyH_done (by kernel_rfl) ?_ _
                obtain ⟨T3, HS4'⟩ := HS3.out
                have HS4 : Hid (BgI w B (w3.setCell ⟨B, 0, none⟩ (.slice (some ⟨gg, 0, none⟩) (n + 1) cc)) (n + 1) T3 gg cc (.slice sa s.length sc) s) := HS4'
                clear HS3 HS4' HF hO q1 qA qB hown3 hgrow3 hat3 HW HGc
                go_wp2
                go_roundw
                case rel => exact ⟨n + 1, T3, gg, cc, by omega, by omega, HS4⟩
                case measure => (rw [hmz, bg_len HS4.out]; omega)
      · have hjz : ¬ (n : Int) < 1000 - (k : Int) / 32 % 2 := by omega
        have hnE : n = 1000 - k / 32 % 2 := by omega
        have HP : Hid (DvPost w (dvN bs m) (dvG bs m) (dvS bs m) (dvK bs m) (.returned (.tuple #[.agg #[.slice (some ⟨g, 0, none⟩) n c], .slice sa s.length sc, .int .i64 ((k : Int) / 16 - 2)])) (wr.setCell ⟨w.heap.size, 0, none⟩ (.slice (some ⟨g, 0, none⟩) n c))) := by
          rw [HE.out.1, HE.out.2.1, HE.out.2.2.1, HE.out.2.2.2, ← hnE]
          exact HI.out.fin hok5 _
        clear HI hrow HE hnE hmz
        go_wp2
        exact bodyPost_ret (v := .tuple #[.agg #[.slice (some ⟨g, 0, none⟩) n c], .slice sa s.length sc, .int .i64 ((k : Int) / 16 - 2)]) (by simp [results, Try.results4, go_sem, x1]) rfl HP.out
  · have hk31z : ¬ (k : Int) % 32 = 31 := by omega
    have HC : Hid (∀ (W : World) (S : List Ent) (ya : Option Addr) (yc : Nat), Below w.heap.size w W → KW (w2.heap.size + 1) w5 W → OwnE W (B + 1) (.slice ya S.length yc) S → AllOk S → svdS k n G s (slE (nxB bs m q3)) = S → DvPost w (dvN bs m) (dvG bs m) (dvS bs m) (dvK bs m) (.returned (.tuple #[.agg #[.slice a n c], .slice ya S.length yc, .int .i64 ((k : Int) / 16 - 2)])) (W.setCell ⟨w.heap.size, 0, none⟩ (.slice a n c))) := fun W S ya yc h1 h2 h3 h4 h5 => by
      rw [HX.out.1, HX.out.2.1, HX.out.2.2.1, HX.out.2.2.2, h5, hw16]
      have e1 : svdN k n = n := if_neg hk31
      have e2 : svdG k G = G := if_neg hk31
      rw [e1, e2]
      have hs : OwnE (W.setCell ⟨w.heap.size, 0, none⟩ (.slice a n c)) (B + 1) (.slice ya S.length yc) S := own_keptP h3 fun b hb => Below.heap_setCell _ _ _ _ (by show b ≠ w.heap.size; have := (World.ownsRow.lt h3 b hb).1; omega)
      obtain ⟨a', c', e, hsl⟩ := hs.sl h4.at
      injection e with e1 _ e2
      subst e1 e2
      exact ⟨_, _, _, _, rfl, ⟨HT5.out _ (h2.trans (KW.set W hHL 0 _)), hsl⟩, h1.setCell (show w.heap.size ≤ (⟨w.heap.size, 0, none⟩ : Addr).block from Nat.le_refl _) _⟩
    have hn0 : ¬ (n : Int) = 0 := by omega
    have hn0z : (0 : Int) < (n : Int) := by omega
    have hnN : ¬ n = 0 := by omega
    have hki : k / 4 % n < n := Nat.mod_lt _ hnp.1
    have HEX : Hid (stoB G n = true → ∀ W, SlT W a n c G → Calls Try.prog 18 #[.agg #[.slice a n c], .int .i64 ((k / 4 % n : Nat) : Int)] W fun e w' => ∃ v, e = .returned v ∧ OwnE w' W.heap.size v (expF G (k / 4 % n + 1) (k / 4 % n)) ∧ Below W.heap.size W w') := fun hst W hW => by
      have Hto := (stoB_parts hst).2
      exact expand_any (N := n) (by omega) (Nat.le_refl _) (stoTo_front Hto) (fun j hj => (grpOk_parts (stoTo_at Hto j hj)).2.2.1) (fun j hj => (grpOk_parts (stoTo_at Hto j (by omega))).2.2.2.2) (k / 4 % n) hki W hW
    have HEO : Hid (stoB G n = true → AllOk (expF G (k / 4 % n + 1) (k / 4 % n)) ∧ (expF G (k / 4 % n + 1) (k / 4 % n)).length ≤ 300) := fun hst => by
      have Hto := (stoB_parts hst).2
      exact ⟨expF_ok (stoTo_front Hto) (HT5.out w5 (KW.refl _ _)).oks _ _ hki, (grpOk_parts (stoTo_at Hto _ hki)).2.2.2.2⟩
    obtain ⟨i, hi⟩ : ∃ i, i = k / 4 % n := ⟨_, rfl⟩
    have HS1 : Hid (svdS k n G s (slE (nxB bs m q3)) = if k % 4 = 1 ∧ stoB G n = true then expF G (i + 1) i else if k % 4 = 2 ∧ stoB G n = true then setL (expF G (i + 1) i) (slE (nxB bs m q3)) false else s) := by rw [hi]; rfl
    have htm : ((k : Int) / 4).tmod (n : Int) = (i : Int) := by rw [Int.tmod_eq_emod_of_nonneg (by omega), hi, Int.natCast_emod, Int.natCast_ediv]; rfl
    rw [← hi] at HEX HEO hki
    clear hi
    have hw3 : IntKind.i64.wrap ((k : Int) / 4) = (k : Int) / 4 := by rw [IntKind.wrap_i64]; omega
    by_cases hk1 : k % 4 = 1
    · have hkz1 : (k : Int) % 4 = 1 := by omega
      go_wp2_with fail
      refine (storeS_sl _ (HT5.out _ (KW.refl _ _))).mono ?_
      rintro e w6 ⟨rfl, hb6⟩
      have x6 := (hb6.cell (p := ⟨B, 0, none⟩) hz5).trans x5
      have r6 := (hb6.cell (p := ⟨w.heap.size, 0, none⟩) (by show w.heap.size < _; omega)).trans r5
      have rf6 := (hb6.frozen (p := ⟨w.heap.size, 0, none⟩) (by show w.heap.size < _; omega)).trans rf5
      have hbw6 := HB5.out.trans (hb6.mono HB5.out.size)
      cases hst : stoB G n
      · have HP := HC.out w6 s sa sc hbw6 (KW.blw hb6) (ho5.below hb6) hok5 (by rw [HS1.out, hst, if_neg (by simp), if_neg (by simp)])
        have HP' : Hid (DvPost w (dvN bs m) (dvG bs m) (dvS bs m) (dvK bs m) (.returned (.tuple #[.agg #[.slice a n c], .slice sa s.length sc, .int .i64 ((k : Int) / 16 - 2)])) (w6.setCell ⟨w.heap.size, 0, none⟩ (.slice a n c))) := HP
        clear HP HC HEX HEO HS1 HT5 hR5 ho5 x5 f5 r5 rf5 hb6 hbw6 hok5 htm hw3 hw16
        go_wp2
        exact bodyPost_ret (v := .tuple #[.agg #[.slice a n c], .slice sa s.length sc, .int .i64 ((k : Int) / 16 - 2)]) (by simp [results, Try.results4, go_sem, r6]) rfl HP'.out
      · have HEx : Hid (∀ W, Below w6.heap.size w6 W → Calls Try.prog 18 #[.agg #[.slice a n c], .int .i64 (i : Int)] W fun e w2 => ∃ xa xc, e = .returned (.slice xa (expF G (i + 1) i).length xc) ∧ w2.cell? ⟨B, 0, none⟩ = some (.slice a n c) ∧ w2.cell? ⟨w.heap.size, 0, none⟩ = some (.slice none 0 0) ∧ w2.frozen? ⟨w.heap.size, 0, none⟩ = false ∧ Hid (DvPost w (dvN bs m) (dvG bs m) (dvS bs m) (dvK bs m) (.returned (.tuple #[.agg #[.slice a n c], .slice xa (expF G (i + 1) i).length xc, .int .i64 ((k : Int) / 16 - 2)])) (w2.setCell ⟨w.heap.size, 0, none⟩ (.slice a n c)))) := fun W hW => by
          have hb5W := hb6.trans (hW.mono hb6.size)
          refine (HEX.out hst W (HT5.out W (KW.blw hb5W))).mono ?_
          rintro e w7 ⟨v, rfl, ho7, hb7⟩
          obtain ⟨xa, xc, rfl, _⟩ := ho7.sl (HEO.out hst).1.at
          have hb57 := hb5W.trans (hb7.mono hb5W.size)
          have hW5 := hb5W.size
          exact ⟨xa, xc, rfl, (hb57.cell (p := ⟨B, 0, none⟩) hz5).trans x5, (hb57.cell (p := ⟨w.heap.size, 0, none⟩) (by show w.heap.size < _; omega)).trans r5, (hb57.frozen (p := ⟨w.heap.size, 0, none⟩) (by show w.heap.size < _; omega)).trans rf5, HC.out w7 _ xa xc (HB5.out.trans (hb57.mono HB5.out.size)) (KW.blw hb57) (ho7.base_le (by omega)) (HEO.out hst).1 (by rw [HS1.out, if_pos ⟨hk1, hst⟩])⟩
        have HS : Hid (∀ W, Below w6.heap.size w6 W → W.cell? ⟨B, 0, none⟩ = some (.slice a n c)) := fun W hW => (hW.cell (p := ⟨B, 0, none⟩) (Nat.lt_of_lt_of_le hz5 hb6.size)).trans x6
        have hrf : Below w6.heap.size w6 w6 := Below.refl _ _
        clear HC HEX HEO HS1 HT5 hR5 ho5 x5 f5 r5 rf5 hb6 hbw6 hok5 hw16 HX
        generalize (expF G (i + 1) i).length = lx at *
        go_upto_region 10 with fail
        refine wp_region_held_drew (S := fun X => X.cell? ⟨B, 0, none⟩ = some (.slice a n c)) (by kernel_rfl) ?_ (fun hHeld => ?_)
        · (try dsimp only); exact HS.out _ (by with_reducible first | exact hrf | exact hrf.drew | exact hrf.drew.drew | exact hrf.drew.drew.drew)
        refine wpAnyH_take (i := 0) (v := ?vm17) rfl (by kernel_rfl) (by kernel_rfl) (by kernel_rfl) (fun _ _ _ h => h) (Or.inl ⟨by rfl, ?hm17⟩) (by assumption) ?_
        case hm17 => (intro w hSw; (try dsimp only at hSw); go_simp; try (with_reducible rfl))
        simp only [Act.put, List.getElem_toArray, List.getElem_cons_zero, List.setIfInBounds_toArray, List.set_cons_zero, List.set_cons_succ]
        refine wpAnyH_take (i := 1) (v := ?vm18) rfl (by kernel_rfl) (by kernel_rfl) (by kernel_rfl) (fun _ _ _ h => h) (Or.inl ⟨by rfl, ?hm18⟩) (by assumption) ?_
        case hm18 => (intro w hSw; (try dsimp only at hSw); go_simp; try (with_reducible rfl))
        simp only [Act.put, List.getElem_toArray, List.getElem_cons_zero, List.getElem_cons_succ, List.setIfInBounds_toArray, List.set_cons_zero, List.set_cons_succ]
        refine wpAnyH_take (i := 2) (v := .int .i64 ((k : Int) / 4)) rfl (by kernel_rfl) (by kernel_rfl) (by kernel_rfl) (fun _ _ _ h => h) (Or.inl ⟨by rfl, ?hm19⟩) (by assumption) ?_
        case hm19 => (intro w hSw; (try dsimp only at hSw); go_simp; try exact hw3)
        simp only [Act.put, List.getElem_toArray, List.getElem_cons_zero, List.getElem_cons_succ, List.setIfInBounds_toArray, List.set_cons_zero, List.set_cons_succ]
        refine wpAnyH_take (i := 3) (v := ?vm20) rfl (by kernel_rfl) (by kernel_rfl) (by kernel_rfl) (fun _ _ _ h => h) (Or.inl ⟨by rfl, ?hm20⟩) (by assumption) ?_
        case hm20 => (intro w hSw; (try dsimp only at hSw); go_simp; try (with_reducible rfl))
        simp only [Act.put, List.getElem_toArray, List.getElem_cons_zero, List.getElem_cons_succ, List.setIfInBounds_toArray, List.set_cons_zero, List.set_cons_succ]
        refine wpAnyH_take (i := 4) (v := ?vm21) rfl (by kernel_rfl) (by kernel_rfl) (by kernel_rfl) (fun _ _ _ h => h) (Or.inl ⟨by rfl, ?hm21⟩) (by assumption) ?_
        case hm21 => (intro w hSw; (try dsimp only at hSw); go_simp; try (with_reducible rfl))
        simp only [Act.put, List.getElem_toArray, List.getElem_cons_zero, List.getElem_cons_succ, List.setIfInBounds_toArray, List.set_cons_zero, List.set_cons_succ]
        refine wpAnyH_take (i := 5) (v := ?vm22) rfl (by kernel_rfl) (by kernel_rfl) (by kernel_rfl) (fun _ _ _ h => h) (Or.inl ⟨by rfl, ?hm22⟩) (by assumption) ?_
        case hm22 => (intro w hSw; (try dsimp only at hSw); go_simp; try (with_reducible rfl))
        simp only [Act.put, List.getElem_toArray, List.getElem_cons_zero, List.getElem_cons_succ, List.setIfInBounds_toArray, List.set_cons_zero, List.set_cons_succ]
        refine wpAnyH_take (i := 6) (v := .int .i64 (i : Int)) rfl (by kernel_rfl) (by kernel_rfl) (by kernel_rfl) (fun _ _ _ h => h) (Or.inl ⟨by rfl, ?hm23⟩) (by assumption) ?_
        case hm23 => (intro w hSw; (try dsimp only at hSw); go_simp; try rw [if_neg hn0, htm])
        simp only [Act.put, List.getElem_toArray, List.getElem_cons_zero, List.getElem_cons_succ, List.setIfInBounds_toArray, List.set_cons_zero, List.set_cons_succ]
        refine wpAnyH_ready (rs := [7]) (by kernel_rfl) (by simp) ?_
        refine AllReadyH.cons rfl (fun K hK => ?_) AllReadyH.nil
        go_simp
        go_at_call 18
        refine (HEx.out _ (by with_reducible first | exact hrf | exact hrf.drew | exact hrf.drew.drew | exact hrf.drew.drew.drew)).mono ?_
        rintro e w2 ⟨xa, xc, rfl, hx0, hx1, hxf, HP⟩
        (try dsimp only)
        refine hK.out _ _ ?_ (fun hHeld => ?_)
        · (try dsimp only); exact hx0
        clear hK K
        try simp only [Act.put, List.getElem_toArray, List.getElem_cons_zero, List.getElem_cons_succ, List.setIfInBounds_toArray, List.set_cons_zero, List.set_cons_succ]
        refine wpAnyH_take (i := 8) (v := ?vm24) rfl (by kernel_rfl) (by kernel_rfl) (by kernel_rfl) (fun _ _ _ h => h) (Or.inl ⟨by rfl, ?hm24⟩) (by assumption) ?_
        case hm24 => (intro w hSw; (try dsimp only at hSw); go_simp; try (with_reducible rfl))
        simp only [Act.put, List.getElem_toArray, List.getElem_cons_zero, List.getElem_cons_succ, List.setIfInBounds_toArray, List.set_cons_zero, List.set_cons_succ]
        refine wpAnyH_done (by kernel_rfl) ?_ _
        go_wp2
        exact bodyPost_ret (v := .tuple #[.agg #[.slice a n c], .slice xa lx xc, .int .i64 ((k : Int) / 16 - 2)]) (by simp [results, Try.results4, go_sem, hx1]) rfl HP.out
    have hkz1 : ¬ (k : Int) % 4 = 1 := by omega
    by_cases hk2 : k % 4 = 2
    · have hkz2 : (k : Int) % 4 = 2 := by omega
      go_wp2_with fail
      refine (storeS_sl _ (HT5.out _ (KW.refl _ _))).mono ?_
      rintro e w6 ⟨rfl, hb6⟩
      have x6 := (hb6.cell (p := ⟨B, 0, none⟩) hz5).trans x5
      have r6 := (hb6.cell (p := ⟨w.heap.size, 0, none⟩) (by show w.heap.size < _; omega)).trans r5
      have rf6 := (hb6.frozen (p := ⟨w.heap.size, 0, none⟩) (by show w.heap.size < _; omega)).trans rf5
      have hbw6 := HB5.out.trans (hb6.mono HB5.out.size)
      cases hst : stoB G n
      · have HP := HC.out w6 s sa sc hbw6 (KW.blw hb6) (ho5.below hb6) hok5 (by rw [HS1.out, hst, if_neg (by simp), if_neg (by simp)])
        have HP' : Hid (DvPost w (dvN bs m) (dvG bs m) (dvS bs m) (dvK bs m) (.returned (.tuple #[.agg #[.slice a n c], .slice sa s.length sc, .int .i64 ((k : Int) / 16 - 2)])) (w6.setCell ⟨w.heap.size, 0, none⟩ (.slice a n c))) := HP
        clear HP HC HEX HEO HS1 HT5 hR5 ho5 x5 f5 r5 rf5 hb6 hbw6 hok5 htm hw3 hw16
        go_wp2
        exact bodyPost_ret (v := .tuple #[.agg #[.slice a n c], .slice sa s.length sc, .int .i64 ((k : Int) / 16 - 2)]) (by simp [results, Try.results4, go_sem, r6]) rfl HP'.out
      · have HEx : Hid (∀ W, Below w6.heap.size w6 W → Calls Try.prog 18 #[.agg #[.slice a n c], .int .i64 (i : Int)] W fun e w2 => ∃ xa xc, e = .returned (.slice xa (expF G (i + 1) i).length xc) ∧ w2.cell? ⟨B, 0, none⟩ = some (.slice a n c) ∧
            Hid (Calls Try.prog 20 #[.pointer (some ⟨p, 0, none⟩)] w2 fun e w3 => ∃ en, e = .returned (entV en) ∧ w3.cell? ⟨B, 0, none⟩ = some (.slice a n c) ∧
            Hid (Calls Try.prog 19 #[.slice xa (expF G (i + 1) i).length xc, entV en, .bool false] w3 fun e w4 => ∃ ya yc, e = .returned (.slice ya (dvS bs m).length yc) ∧ w4.cell? ⟨B, 0, none⟩ = some (.slice a n c) ∧ w4.cell? ⟨w.heap.size, 0, none⟩ = some (.slice none 0 0) ∧ w4.frozen? ⟨w.heap.size, 0, none⟩ = false ∧ Hid (DvPost w (dvN bs m) (dvG bs m) (dvS bs m) (dvK bs m) (.returned (.tuple #[.agg #[.slice a n c], .slice ya (dvS bs m).length yc, .int .i64 ((k : Int) / 16 - 2)])) (w4.setCell ⟨w.heap.size, 0, none⟩ (.slice a n c)))))) := fun W hW => by
          have hb5W := hb6.trans (hW.mono hb6.size)
          refine (HEX.out hst W (HT5.out W (KW.blw hb5W))).mono ?_
          rintro e w7 ⟨v, rfl, ho7, hb7⟩
          obtain ⟨xa, xc, rfl, _⟩ := ho7.sl (HEO.out hst).1.at
          have hb57 := hb5W.trans (hb7.mono hb5W.size)
          have hW5 := hb5W.size
          have h57 := hb57.size
          refine ⟨xa, xc, rfl, (hb57.cell (p := ⟨B, 0, none⟩) hz5).trans x5, ?_⟩
          have hR7 := hR5.below hb57
          refine (slotF p w7 hR7).mono ?_
          rintro e w8 ⟨rfl, hd8⟩
          have hne : ∀ b, b < p ∨ p < b → some b ≠ some p := fun b h1 e => by injection e with e; omega
          have z8 := hd8.size
          have x8 : w8.cell? ⟨B, 0, none⟩ = some (.slice a n c) := (hd8.2.cell_far ⟨B, 0, none⟩ (by show B < _; omega) (hne _ (Or.inr (by omega)))).trans ((hb57.cell (p := ⟨B, 0, none⟩) hz5).trans x5)
          have r8 : w8.cell? ⟨w.heap.size, 0, none⟩ = some (.slice none 0 0) := (hd8.2.cell_far ⟨w.heap.size, 0, none⟩ (by show w.heap.size < _; omega) (hne _ (Or.inl (by omega)))).trans ((hb57.cell (p := ⟨w.heap.size, 0, none⟩) (by show w.heap.size < _; omega)).trans r5)
          have rf8 : w8.frozen? ⟨w.heap.size, 0, none⟩ = false := (hd8.2.frozen_far ⟨w.heap.size, 0, none⟩ (by show w.heap.size < _; omega) (hne _ (Or.inl (by omega)))).trans ((hb57.frozen (p := ⟨w.heap.size, 0, none⟩) (by show w.heap.size < _; omega)).trans rf5)
          refine ⟨_, rfl, x8, ?_⟩
          have ho8 : OwnE w8 W.heap.size _ _ := ho7.dwf hd8 (by omega)
          obtain ⟨xa', xc', e2, hsl8⟩ := ho8.sl (HEO.out hst).1.at
          injection e2 with e3 _ e4
          subst e3 e4
          have hen := slE_ok hR7.nx
          refine (set_sl (slE (nxB bs m q3)) false w8 (by have := (HEO.out hst).2; omega) hsl8).mono ?_
          rintro e w9 ⟨v9, rfl, ho9, hb9⟩
          have hdv : svdS k n G s (slE (nxB bs m q3)) = setL (expF G (i + 1) i) (slE (nxB bs m q3)) false := by rw [HS1.out, if_neg (fun h => hk1 h.1), if_pos ⟨hk2, hst⟩]
          have hdd : dvS bs m = setL (expF G (i + 1) i) (slE (nxB bs m q3)) false := HX.out.2.2.1.trans hdv
          have hok9 : AllOk (setL (expF G (i + 1) i) (slE (nxB bs m q3)) false) := (HEO.out hst).1.set hen
          obtain ⟨ya, yc, rfl, _⟩ := ho9.sl hok9.at
          have hw8 : Below w.heap.size w w8 := (HB5.out.trans (hb57.mono HB5.out.size)).grown hd8.2 (by have := HB5.out.size; omega) (fun b hb => by injection hb with hb; omega)
          have hP9 := HC.out w9 _ ya yc (hw8.trans (hb9.mono (by have := HB5.out.size; omega))) (((KW.blw hb57).trans (KW.dwf hd8 hpL)).trans (KW.blw hb9)) (ho9.base_le (by omega)) hok9 hdv
          rw [← hdd] at hP9
          exact ⟨ya, yc, by rw [hdd], (hb9.cell (p := ⟨B, 0, none⟩) (by show B < _; omega)).trans x8, (hb9.cell (p := ⟨w.heap.size, 0, none⟩) (by show w.heap.size < _; omega)).trans r8, (hb9.frozen (p := ⟨w.heap.size, 0, none⟩) (by show w.heap.size < _; omega)).trans rf8, hP9⟩
        have HS : Hid (∀ W, Below w6.heap.size w6 W → W.cell? ⟨B, 0, none⟩ = some (.slice a n c)) := fun W hW => (hW.cell (p := ⟨B, 0, none⟩) (Nat.lt_of_lt_of_le hz5 hb6.size)).trans x6
        have hrf : Below w6.heap.size w6 w6 := Below.refl _ _
        clear HC HEX HEO HS1 HT5 hR5 ho5 x5 f5 r5 rf5 hb6 hbw6 hok5 hw16 HX
        generalize (expF G (i + 1) i).length = lx at *
        generalize (dvS bs m).length = ly at *
        go_upto_region 12 with fail
        refine wp_region_held_drew (S := fun X => X.cell? ⟨B, 0, none⟩ = some (.slice a n c)) (by kernel_rfl) ?_ (fun hHeld => ?_)
        · (try dsimp only); exact HS.out _ (by with_reducible first | exact hrf | exact hrf.drew | exact hrf.drew.drew | exact hrf.drew.drew.drew)
        refine wpAnyH_take (i := 0) (v := ?vm25) rfl (by kernel_rfl) (by kernel_rfl) (by kernel_rfl) (fun _ _ _ h => h) (Or.inl ⟨by rfl, ?hm25⟩) (by assumption) ?_
        case hm25 => (intro w hSw; (try dsimp only at hSw); go_simp; try (with_reducible rfl))
        simp only [Act.put, List.getElem_toArray, List.getElem_cons_zero, List.setIfInBounds_toArray, List.set_cons_zero, List.set_cons_succ]
        refine wpAnyH_take (i := 1) (v := ?vm26) rfl (by kernel_rfl) (by kernel_rfl) (by kernel_rfl) (fun _ _ _ h => h) (Or.inl ⟨by rfl, ?hm26⟩) (by assumption) ?_
        case hm26 => (intro w hSw; (try dsimp only at hSw); go_simp; try (with_reducible rfl))
        simp only [Act.put, List.getElem_toArray, List.getElem_cons_zero, List.getElem_cons_succ, List.setIfInBounds_toArray, List.set_cons_zero, List.set_cons_succ]
        refine wpAnyH_take (i := 2) (v := .int .i64 ((k : Int) / 4)) rfl (by kernel_rfl) (by kernel_rfl) (by kernel_rfl) (fun _ _ _ h => h) (Or.inl ⟨by rfl, ?hm27⟩) (by assumption) ?_
        case hm27 => (intro w hSw; (try dsimp only at hSw); go_simp; try exact hw3)
        simp only [Act.put, List.getElem_toArray, List.getElem_cons_zero, List.getElem_cons_succ, List.setIfInBounds_toArray, List.set_cons_zero, List.set_cons_succ]
        refine wpAnyH_take (i := 3) (v := ?vm28) rfl (by kernel_rfl) (by kernel_rfl) (by kernel_rfl) (fun _ _ _ h => h) (Or.inl ⟨by rfl, ?hm28⟩) (by assumption) ?_
        case hm28 => (intro w hSw; (try dsimp only at hSw); go_simp; try (with_reducible rfl))
        simp only [Act.put, List.getElem_toArray, List.getElem_cons_zero, List.getElem_cons_succ, List.setIfInBounds_toArray, List.set_cons_zero, List.set_cons_succ]
        refine wpAnyH_take (i := 4) (v := ?vm29) rfl (by kernel_rfl) (by kernel_rfl) (by kernel_rfl) (fun _ _ _ h => h) (Or.inl ⟨by rfl, ?hm29⟩) (by assumption) ?_
        case hm29 => (intro w hSw; (try dsimp only at hSw); go_simp; try (with_reducible rfl))
        simp only [Act.put, List.getElem_toArray, List.getElem_cons_zero, List.getElem_cons_succ, List.setIfInBounds_toArray, List.set_cons_zero, List.set_cons_succ]
        refine wpAnyH_take (i := 5) (v := ?vm30) rfl (by kernel_rfl) (by kernel_rfl) (by kernel_rfl) (fun _ _ _ h => h) (Or.inl ⟨by rfl, ?hm30⟩) (by assumption) ?_
        case hm30 => (intro w hSw; (try dsimp only at hSw); go_simp; try (with_reducible rfl))
        simp only [Act.put, List.getElem_toArray, List.getElem_cons_zero, List.getElem_cons_succ, List.setIfInBounds_toArray, List.set_cons_zero, List.set_cons_succ]
        refine wpAnyH_take (i := 6) (v := .int .i64 (i : Int)) rfl (by kernel_rfl) (by kernel_rfl) (by kernel_rfl) (fun _ _ _ h => h) (Or.inl ⟨by rfl, ?hm31⟩) (by assumption) ?_
        case hm31 => (intro w hSw; (try dsimp only at hSw); go_simp; try rw [if_neg hn0, htm])
        simp only [Act.put, List.getElem_toArray, List.getElem_cons_zero, List.getElem_cons_succ, List.setIfInBounds_toArray, List.set_cons_zero, List.set_cons_succ]
        refine wpAnyH_take (i := 8) (v := ?vm32) rfl (by kernel_rfl) (by kernel_rfl) (by kernel_rfl) (fun _ _ _ h => h) (Or.inl ⟨by rfl, ?hm32⟩) (by assumption) ?_
        case hm32 => (intro w hSw; (try dsimp only at hSw); go_simp; try (with_reducible rfl))
        simp only [Act.put, List.getElem_toArray, List.getElem_cons_zero, List.getElem_cons_succ, List.setIfInBounds_toArray, List.set_cons_zero, List.set_cons_succ]
        refine wpAnyH_ready (rs := [7]) (by kernel_rfl) (by simp) ?_
        refine AllReadyH.cons rfl (fun K hK => ?_) AllReadyH.nil
        go_simp
        go_at_call 18
        refine (HEx.out _ (by with_reducible first | exact hrf | exact hrf.drew | exact hrf.drew.drew | exact hrf.drew.drew.drew)).mono ?_
        rintro e w2 ⟨xa, xc, rfl, hx0, HSl⟩
        (try dsimp only)
        refine hK.out _ _ ?_ (fun hHeld => ?_)
        · (try dsimp only); exact hx0
        clear hK K
        try simp only [Act.put, List.getElem_toArray, List.getElem_cons_zero, List.getElem_cons_succ, List.setIfInBounds_toArray, List.set_cons_zero, List.set_cons_succ]
        refine wpAnyH_ready (rs := [9]) (by kernel_rfl) (by simp) ?_
        refine AllReadyH.cons rfl (fun K hK => ?_) AllReadyH.nil
        go_simp
        go_at_call 20
        refine HSl.out.mono ?_
        rintro e w3 ⟨en, rfl, hx3, HSt⟩
        (try dsimp only)
        refine hK.out _ _ ?_ (fun hHeld => ?_)
        · (try dsimp only); exact hx3
        clear hK K
        try simp only [Act.put, List.getElem_toArray, List.getElem_cons_zero, List.getElem_cons_succ, List.setIfInBounds_toArray, List.set_cons_zero, List.set_cons_succ]
        refine wpAnyH_ready (rs := [10]) (by kernel_rfl) (by simp) ?_
        refine AllReadyH.cons rfl (fun K hK => ?_) AllReadyH.nil
        go_simp
        go_at_call 19
        refine HSt.out.mono ?_
        rintro e w4 ⟨ya, yc, rfl, hy0, hx1, hxf, HP⟩
        (try dsimp only)
        refine hK.out _ _ ?_ (fun hHeld => ?_)
        · (try dsimp only); exact hy0
        clear hK K
        try simp only [Act.put, List.getElem_toArray, List.getElem_cons_zero, List.getElem_cons_succ, List.setIfInBounds_toArray, List.set_cons_zero, List.set_cons_succ]
        refine wpAnyH_take (i := 11) (v := ?vm33) rfl (by kernel_rfl) (by kernel_rfl) (by kernel_rfl) (fun _ _ _ h => h) (Or.inl ⟨by rfl, ?hm33⟩) (by assumption) ?_
        case hm33 => (intro w hSw; (try dsimp only at hSw); go_simp; try (with_reducible rfl))
        simp only [Act.put, List.getElem_toArray, List.getElem_cons_zero, List.getElem_cons_succ, List.setIfInBounds_toArray, List.set_cons_zero, List.set_cons_succ]
        refine wpAnyH_done (by kernel_rfl) ?_ _
        go_wp2
        exact bodyPost_ret (v := .tuple #[.agg #[.slice a n c], .slice ya ly yc, .int .i64 ((k : Int) / 16 - 2)]) (by simp [results, Try.results4, go_sem, hx1]) rfl HP.out
    · have hkz2 : ¬ (k : Int) % 4 = 2 := by omega
      have HP := HC.out w5 s sa sc HB5.out (KW.refl _ _) ho5 hok5 (by rw [HS1.out, if_neg (fun h => hk1 h.1), if_neg (fun h => hk2 h.1)])
      have HP' : Hid (DvPost w (dvN bs m) (dvG bs m) (dvS bs m) (dvK bs m) (.returned (.tuple #[.agg #[.slice a n c], .slice sa s.length sc, .int .i64 ((k : Int) / 16 - 2)])) (w5.setCell ⟨w.heap.size, 0, none⟩ (.slice a n c))) := HP
      clear HP HC HEX HEO HS1 HT5 hR5 ho5 f5 hok5 htm hw3 hw16
      go_wp2
      exact bodyPost_ret (v := .tuple #[.agg #[.slice a n c], .slice sa s.length sc, .int .i64 ((k : Int) / 16 - 2)]) (by simp [results, Try.results4, go_sem, r5]) rfl HP'.out
end Go.Proofs.Ytgocjlpbokhoeaa
