/-
  impl's idsIn, eventsAt.
-/
import Derived.Test.YtnkpikknkooblaaGreatFtA
import Derived.Test.YtnkpikknkooblaaGreatMpEA
import Derived.Test.YtnkpikknkooblaaGreatEaA
namespace Go.Proofs.YtnkpikknkooblaaGreat
open Go.RowKit Go.Maps Go.ChangeMaps

set_option maxRecDepth 100000 in
set_option maxHeartbeats 1000000 in
theorem ids1_any {sa : Option Addr} {sc bs : Nat} {l : List Ent} (x : Ent) (hS : SrtE l) (hl : l.length ≤ 300) (w : World) (hs : SlE w sa sc l) (hbs : bs < w.heap.size) (hc : w.cell? ⟨bs, 0, none⟩ = some (.slice sa l.length sc)) :
    Calls Tryz.prog 72 #[slotV x, .pointer (some ⟨bs, 0, none⟩)] w fun e w' => e = .returned (.string (findB l x.ty x.key)) ∧ Below w.heap.size w w' := by
  have hb0 : ∀ o, Below w.heap.size w (w.alloc o) := fun o => (Below.refl _ _).alloc (Nat.le_refl _) _
  have k0 : (w.alloc (.cells #[.string x.ty, .string x.key] 121)).cell? ⟨bs, 0, none⟩ = some (.slice sa l.length sc) := ((hb0 _).cell (by exact hbs)).trans hc
  have hne : bs ≠ w.heap.size := by omega
  have Hv : Hid (findB l x.ty x.key = (eaV l x).id) := findB_eaL l x
  have HE : Hid (∀ W, Below w.heap.size w W → Calls Tryz.prog 73 #[.slice sa l.length sc, slotV x] W fun e w' => e = .returned (.tuple #[entV (eaV l x), .bool (eaT l x)]) ∧ Below W.heap.size W w') := fun W hW => (entryAt_sl x W hS (by omega) (hs.below hW)).mono fun e w' ⟨h1, h2⟩ => ⟨h1, h2.below⟩
  clear hc hs
  generalize eaV l x = y at *
  generalize eaT l x = t at *
  go_enter Tryz.func72, Tryz.ntmps72
  go_wp2_with fail
  refine (HE.out _ (hb0 _)).mono ?_
  rintro e w1 ⟨rfl, hb1⟩
  have hw1 := (hb0 _).trans (hb1.mono (by simp))
  go_wp2
  go_ret
  exact ⟨congrArg (fun z => Ending.returned (.string z)) Hv.out.symm, hw1.alloc hw1.size _⟩

set_option maxRecDepth 100000 in
theorem look_places {w : World} {m n : Nat} {E : Nat → Ev} (hm : MapAt w m n (knE E n) (posV E n)) (s : ByteArray) (hs : s.size ≤ maxLen) :
    ∃ c : Int, (Instr.lookup 63 (.map (some m)) (.string s) true).run Tryz.prog w = .ok (.tuple #[.int .i64 c, .bool (knE E n s)]) w ∧ (knE E n s = true → c = posV E n s) := by
  obtain ⟨D, hD, hK⟩ := hm
  have hkey : keyOf Tryz.prog 9 (.string s) = some (.string s.data.toList) := Go.WideMaps.keyOf_string_mk Tryz.underlying9 hs
  obtain ⟨v, ps, hrun, hv⟩ := hD.look_ok lawStr Tryz.underlying63 (zeroInt _) (plainElem_int Tryz.underlying3 (by decide)) hkey
  obtain ⟨c, rfl, hc, _⟩ := plainElem_int_inv Tryz.underlying3 hv
  have hhas : has D (.string s.data.toList) = knE E n s := (hK s).1
  rw [hhas] at hrun
  refine ⟨c, hrun, fun hk => ?_⟩
  have h2 := (hK s).2 hk
  simp only [Prod.mk.injEq] at hc
  have h3 := hc.1
  rw [h2] at h3
  simpa using h3.symm

theorem findB_size {l : List Ent} (h : AllOk l) (x : Ent) : (findB l x.ty x.key).size ≤ maxLen := by
  rw [findB_eaL]
  unfold eaV
  cases hl : lookE l x with
  | none => exact (by decide : ByteArray.empty.size ≤ maxLen)
  | some y => exact (h y (lookE_some hl).1).2.2

theorem MapV.mono {w : World} {m n n' : Nat} {F : Ent → Value} (h : MapV w m n F) (hn : n ≤ n') : MapV w m n' F := by
  obtain ⟨D, ⟨es, clock, hb, hF, hs, he⟩, h2⟩ := h
  exact ⟨D, ⟨es, clock, hb, hF, Nat.le_trans hs hn, he⟩, h2⟩
/-- the map behind k slots. -/
def FM (E : Nat → Ev) (n : Nat) (l : List Ent) (b off : Nat) (X : Nat → Ent) : Nat → Ent → Value
  | 0 => fun _ => .pointer none
  | k + 1 => if 0 ≤ atV E n l (X k).ty (X k).key then putV (FM E n l b off X k) (X k) (.pointer (some ⟨b, off + (atV E n l (X k).ty (X k).key).toNat * 10, none⟩)) else FM E n l b off X k

/-- the pointer to the event at place p. -/
def ptA (b off : Nat) (p : Int) : Option Addr := if 0 ≤ p then some ⟨b, off + p.toNat * 10, none⟩ else none
theorem samB_of {x y : Ent} (h : samB x y = true) : x.ty = y.ty ∧ x.key = y.key := (samB_iff _ _).1 h
theorem FM_none (E : Nat → Ev) (n : Nat) (l : List Ent) (b off : Nat) (X : Nat → Ent) (x : Ent) (hx : atV E n l x.ty x.key < 0) : ∀ k, FM E n l b off X k x = .pointer none
  | 0 => rfl
  | k + 1 => by
    rw [FM]
    split
    · unfold putV
      split
      · rename_i h1 h2
        obtain ⟨e1, e2⟩ := samB_of h2
        rw [e1, e2] at h1
        omega
      · exact FM_none E n l b off X x hx k
    · exact FM_none E n l b off X x hx k
/-- the map at a slot among the first k. -/
theorem FM_at (E : Nat → Ev) (n : Nat) (l : List Ent) (b off : Nat) (X : Nat → Ent) (x : Ent) : ∀ k i, i < k → samB (X i) x = true → FM E n l b off X k x = .pointer (ptA b off (atV E n l x.ty x.key))
  | k + 1, i, hi, hs => by
    by_cases hx : atV E n l x.ty x.key < 0
    · rw [FM_none E n l b off X x hx]
      unfold ptA
      rw [if_neg (by omega)]
    · have hx0 : 0 ≤ atV E n l x.ty x.key := by omega
      rw [FM]
      by_cases h2 : samB (X k) x = true
      · obtain ⟨e1, e2⟩ := samB_of h2
        rw [e1, e2, if_pos hx0]
        unfold putV ptA
        rw [if_pos h2, if_pos hx0]
      · have hik : i ≠ k := fun e => by subst e; exact h2 hs
        have ih := FM_at E n l b off X x k i (by omega) hs
        split
        · unfold putV
          rw [if_neg h2]
          exact ih
        · exact ih

set_option maxRecDepth 100000 in
set_option maxHeartbeats 4000000 in
theorem evAt_any {a : Option Addr} {n cap m b off : Nat} {E : Nat → Ev} {ra : Option Addr} {nr rc : Nat} {l : List Ent} {bq oq c cq bs : Nat} {X : Nat → Ent} (w : World) (h : SlV w a n cap E) (Ha : Hid (0 < n → a = some ⟨b, off, none⟩)) (hm : MapAt w m n (knE E n) (posV E n)) (hal : AllOk l) (hX : ∀ k, k < c → SOk (X k)) (hcm : c ≤ 1000) (hbq : bq < w.heap.size)
    (hq0 : ∀ k, k < c → w.cell? ⟨bq, oq + k * 2, none⟩ = some (.string (X k).ty)) (hq1 : ∀ k, k < c → w.cell? ⟨bq, oq + k * 2 + 1, none⟩ = some (.string (X k).key))
    (HI : Hid (∀ W (x : Ent), Below w.heap.size w W → Calls Tryz.prog 72 #[slotV x, .pointer (some ⟨bs, 0, none⟩)] W fun e w' => e = .returned (.string (findB l x.ty x.key)) ∧ Below W.heap.size W w')) :
    Calls Tryz.prog 31 #[.agg #[.slice a n cap, .map (some m), .slice ra nr rc], .slice (some ⟨bq, oq, none⟩) c cq, .func (.func 72) #[] #[.pointer (some ⟨bs, 0, none⟩)]] w fun e w' => ∃ mb, e = .returned (.map (some mb)) ∧ MapV w' mb c (FM E n l b off X c) ∧ Below w.heap.size w w' := by
  have hnn := Nat.le_trans h.le h.max
  unfold maxLen at hnn
  obtain ⟨wa, hwa⟩ : ∃ wa, wa = w.alloc (.cells #[.slice a n cap, .map (some m), .slice ra nr rc] 66) := ⟨_, rfl⟩
  have hb0 : Below w.heap.size w wa := by rw [hwa]; exact (Below.refl _ _).alloc (Nat.le_refl _) _
  have hs0 : wa.heap.size = w.heap.size + 1 := by rw [hwa]; simp
  have hbx : Hid (∀ wx, Below (w.heap.size + 1) wa wx → ∀ o, wx.cell? ⟨w.heap.size, o, none⟩ = (#[.slice a n cap, .map (some m), .slice ra nr rc] : Array Value)[o]?) := fun wx hx => by subst hwa; exact box_cells hx
  have hM0 : MapV (wa.alloc (.map #[] 0)) (w.heap.size + 1) 0 (FM E n l b off X 0) := by have := MapV.made wa; rw [hs0] at this; exact this
  have hB0 : Below (w.heap.size + 1) wa (wa.alloc (.map #[] 0)) := (Below.refl _ _).alloc (by omega) _
  have HLk : Hid (∀ W (x : Ent), Below w.heap.size w W → ∃ c : Int, (Instr.lookup 63 (.map (some m)) (.string (findB l x.ty x.key)) true).run Tryz.prog W = .ok (.tuple #[.int .i64 c, .bool (knE E n (findB l x.ty x.key))]) W ∧ (knE E n (findB l x.ty x.key) = true → c = posV E n (findB l x.ty x.key))) := fun W x hW => look_places (hm.below hW) _ (findB_size hal x)
  have H0 : Hid (_) := hq0
  have H1 : Hid (_) := hq1
  have HX : Hid (_) := hX
  clear hq0 hq1 hX h hm hal
  have hmm := @run_makeMap Tryz.prog
  go_enter Tryz.func31, Tryz.ntmps31
  go_wp2_with fail
  rw [← hwa]
  clear hmm hwa
  go_loopw [15] (fun i wr => ∃ k : Nat, k ≤ c ∧ i = .int .i64 k ∧ Hid (MapV wr (w.heap.size + 1) k (FM E n l b off X k)) ∧ Below (w.heap.size + 1) wa wr) (fun i _ => c - (intOf i).toNat)
  case atStart => exact ⟨0, Nat.zero_le _, rfl, hM0, hB0⟩
  case round =>
    clear hM0 hB0
    obtain ⟨k, hk, rfl, hM, hB⟩ := hrel
    have hbw := hb0.trans (hB.mono (by omega))
    have hso : w.heap.size + 1 ≤ wr.heap.size := by have := hB.size; omega
    have hmlt : w.heap.size + 1 < wr.heap.size := hM.out.lt
    by_cases hlt : k < c
    · have a0 : wr.cell? ⟨bq, oq + k * 2, none⟩ = some (.string (X k).ty) := (hbw.cell (by exact hbq)).trans (H0.out k hlt)
      have a1 : wr.cell? ⟨bq, oq + k * 2 + 1, none⟩ = some (.string (X k).key) := (hbw.cell (by exact hbq)).trans (H1.out k hlt)
      have Hok : Hid (SOk (X k)) := HX.out k hlt
      have HFM : Hid (FM E n l b off X (k + 1) = if 0 ≤ atV E n l (X k).ty (X k).key then putV (FM E n l b off X k) (X k) (.pointer (some ⟨b, off + (atV E n l (X k).ty (X k).key).toNat * 10, none⟩)) else FM E n l b off X k) := rfl
      have hbd := posV_bd E (findB l (X k).ty (X k).key) n
      generalize FM E n l b off X k = F at *
      generalize X k = x at *
      obtain ⟨wq, hwq⟩ : ∃ wq, wq = wr.alloc (.cells #[.string x.ty, .string x.key] 121) := ⟨_, rfl⟩
      have hgq : Below wr.heap.size wr wq := by rw [hwq]; exact (Below.refl _ _).alloc (Nat.le_refl _) _
      have hsq : wq.heap.size = wr.heap.size + 1 := by rw [hwq]; simp
      have hBq := hB.trans (hgq.mono hso)
      have hbq' := hb0.trans (hBq.mono (by omega))
      have y0 : wq.cell? ⟨wr.heap.size, 0, none⟩ = some (.string x.ty) := by rw [hwq]; exact World.cell?_alloc_at _ _ _ _ rfl
      have y1 : wq.cell? ⟨wr.heap.size, 1, none⟩ = some (.string x.key) := by rw [hwq]; exact World.cell?_alloc_at _ _ _ _ rfl
      have g0 := hbx.out _ hBq 0
      have g1 := hbx.out _ hBq 1
      have hrf : Below wq.heap.size wq wq := Below.refl _ _
      have hz0 : w.heap.size < wq.heap.size := by omega
      have hz1 : wr.heap.size < wq.heap.size := by omega
      have HIx : Hid (∀ W, Below wq.heap.size wq W → Calls Tryz.prog 72 #[slotV x, .pointer (some ⟨bs, 0, none⟩)] W fun e w' => e = .returned (.string (findB l x.ty x.key)) ∧ Below wq.heap.size wq w') := fun W hW => (HI.out W x (hbq'.trans (hW.mono hbq'.size))).mono fun e w' ⟨h1, h2⟩ => ⟨h1, hW.trans (h2.mono hW.size)⟩
      have HLx : Hid (∀ W, Below wq.heap.size wq W → ∃ c : Int, (Instr.lookup 63 (.map (some m)) (.string (findB l x.ty x.key)) true).run Tryz.prog W = .ok (.tuple #[.int .i64 c, .bool (knE E n (findB l x.ty x.key))]) W ∧ (knE E n (findB l x.ty x.key) = true → c = posV E n (findB l x.ty x.key))) := fun W hW => HLk.out W x (hbq'.trans (hW.mono hbq'.size))
      have Hat : Hid (atV E n l x.ty x.key = posV E n (findB l x.ty x.key)) := rfl
      have Hkn : Hid (knE E n (findB l x.ty x.key) = decide (0 ≤ posV E n (findB l x.ty x.key))) := rfl
      unfold Hid at HFM Hkn
      rw [Hat.out] at HFM
      have HF2 : Hid (_ = _) := HFM
      have Hk2 : Hid (_ = _) := Hkn
      clear HFM Hkn Hat
      generalize findB l x.ty x.key = f at *
      generalize posV E n f = p at *
      generalize knE E n f = kn at *
      go_wp2_with fail
      rw [← hwq]
      clear hwq a0 a1
      go_cut [10, 11] (fun v u wx => ∃ cc : Int, v = .int .i64 cc ∧ u = .bool kn ∧ Hid (kn = true → cc = p) ∧ Below wq.heap.size wq wx)
      case first =>
        go_region_with (go_at_call 72; refine (HIx.out _ (by first | exact hrf | exact hrf.drew | exact hrf.drew.drew | exact hrf.drew.drew.drew)).mono ?_; rintro e w2 ⟨rfl, hb2⟩; obtain ⟨cc, hlook, hcc⟩ := HLx.out w2 hb2; have hcc' : Hid (kn = true → cc = p) := hcc; clear hcc; have q1 := (hb2.cell (by exact hz0)).trans g1)
        all_goals (try go_wp2_with fail)
        all_goals go_meet
        all_goals exact ⟨cc, rfl, rfl, hcc', by first | exact hb2 | exact hb2.drew | exact hb2.drew.drew⟩
      case rest =>
        obtain ⟨cc, rfl, rfl, hcc, hb6⟩ := hcut
        obtain ⟨w6, hw6⟩ : ∃ w6 : World, w6 = wc := ⟨_, rfl⟩
        subst hw6
        have hB6 := hBq.trans (hb6.mono (by omega))
        have hr6 := hgq.trans (hb6.mono (by omega))
        have hM6 : Hid (MapV w6 (w.heap.size + 1) k F) := hM.out.below hr6
        cases kn
        case false =>
          have Hn : Hid (MapV w6 (w.heap.size + 1) (k + 1) (FM E n l b off X (k + 1))) := by
            have h0 : ¬ (0 ≤ p) := by have := Hk2.out; simpa using this.symm
            unfold Hid
            rw [HF2.out, if_neg h0]
            exact hM6.out.mono (by omega)
          clear hM hM6 HF2 Hk2 hcc HIx HLx y0 y1 g0 g1
          go_wp2
          go_roundw
          case rel => first | exact ⟨k + 1, by omega, by go_num, Hn, hB6⟩ | ((repeat apply Exists.intro); exact ⟨⟨k + 1, by omega, by go_num, Hn, hB6⟩, rfl⟩)
          case measure => simp [intOf]; omega
        case true =>
          have h0 : 0 ≤ p := by have := Hk2.out; simpa using this.symm
          have hcp := hcc.out rfl
          subst hcp
          obtain ⟨q, rfl⟩ : ∃ q : Nat, cc = (q : Int) := ⟨cc.toNat, by omega⟩
          have hqn : q < n := by omega
          obtain rfl := Ha.out (by omega)
          have hq0 : (0 : Int) ≤ (q : Int) := by omega
          have hq1 : (q : Int) < (n : Int) := by omega
          have HF3 : Hid (FM E n l b off X (k + 1) = putV F x (.pointer (some ⟨b, off + q * 10, none⟩))) := by unfold Hid; rw [HF2.out, if_pos hq0, Int.toNat_natCast]
          have z0 := (hb6.cell (by exact hz0)).trans g0
          have z1 := (hb6.cell (by exact hz1)).trans y0
          have z2 := (hb6.cell (by exact hz1)).trans y1
          have hkm : k < maxLen := by unfold maxLen; omega
          have HP : Hid (∀ W, Below w6.heap.size w6 W → ∃ w', (Instr.mapUpdate 73 (.map (some (w.heap.size + 1))) (slotV x) (.pointer (some ⟨b, off + q * 10, none⟩))).run Tryz.prog W = .ok () w' ∧ MapV w' (w.heap.size + 1) (k + 1) (FM E n l b off X (k + 1)) ∧ Below (w.heap.size + 1) wa w') := fun W hW => by
            obtain ⟨w', h1, h2, h3⟩ := mapV_put (hM6.out.below hW) hkm Hok.out b (off + q * 10)
            have hBW := hB6.trans (hW.mono (by have := hB6.size; omega))
            refine ⟨w', h1, by rw [HF3.out]; exact h2, hBW.grown h3 (by have := hBW.size; omega) (fun j hj => by injection hj with hj; omega)⟩
          obtain ⟨u0, hu0, hMu0, hBu0⟩ := HP.out w6 (Below.refl _ _)
          obtain ⟨u1, hu1, hMu1, hBu1⟩ := HP.out w6.drew (Below.refl _ _).drew
          have HM0 : Hid (_) := hMu0
          have HM1 : Hid (_) := hMu1
          clear hMu0 hMu1 hM hM6 HF2 HF3 Hk2 hcc HIx HLx y0 y1 g0 g1
          go_wp2_with fail
          go_region
          all_goals
            go_wp2
            go_roundw
            case rel => first | exact ⟨k + 1, by omega, by go_num, HM0, hBu0⟩ | exact ⟨k + 1, by omega, by go_num, HM1, hBu1⟩ | ((repeat apply Exists.intro); first | exact ⟨⟨k + 1, by omega, by go_num, HM0, hBu0⟩, rfl⟩ | exact ⟨⟨k + 1, by omega, by go_num, HM1, hBu1⟩, rfl⟩)
            case measure => simp [intOf]; omega
    · have hkn : k = c := by omega
      subst hkn
      go_wp2
      go_ret
      exact ⟨_, rfl, hM.out, hbw⟩
end Go.Proofs.YtnkpikknkooblaaGreat
