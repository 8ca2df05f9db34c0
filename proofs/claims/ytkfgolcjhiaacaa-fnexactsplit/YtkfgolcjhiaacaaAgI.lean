/-
  impl's Split$1, agreedEntries.
-/
import Derived.Test.YtkfgolcjhiaacaaSpS
import Derived.Test.YtkfgolcjhiaacaaEaJ
import Derived.Test.YtkfgolcjhiaacaaInO
import Derived.Laws.StructEq
import Derived.WalkMore
namespace Go.Proofs.Ytkfgolcjhiaacaa
open Go.RowKit

theorem noSt_any {a : Option Addr} {cap : Nat} {l : List Ent} (w : World) (h : SlE w a cap l) :
    Calls Try.prog 22 #[.slice a l.length cap] w fun e w' => e = .returned (.bool (!stB l)) ∧ Below w.heap.size w w' := by
  go_enter Try.func22, Try.ntmps22
  go_wp2_with fail
  refine (stateI_sl _ h).mono ?_
  rintro e w1 ⟨rfl, hb1⟩
  go_wp2
  go_ret
  exact ⟨rfl, hb1⟩

theorem idxS_zero (a : Option Addr) (cap : Nat) (fv : Value) (w : World) :
    Calls Try.prog 38 #[.slice a 0 cap, fv] w fun e w' => e = .returned (.int .i64 (-1)) ∧ w' = w := by
  go_enter Try.func38, Try.ntmps38
  go_wp2
  refine wp_loop_rounds 1 ?_
  rw [rounds_succ]
  go_wp2
  go_ret
  exact ⟨rfl, rfl⟩

set_option maxRecDepth 100000 in
set_option maxHeartbeats 1000000 in
/-- the first list that is no state. -/
theorem idxS_any (b off n cap : Nat) (L : Nat → List Ent) (w : World) (hn : n ≤ maxLen) (hb : b < w.heap.size) (hc : ∀ i, i < n → RwE w b (off + i) (L i)) :
    Calls Try.prog 38 #[.slice (some ⟨b, off, none⟩) n cap, .func (.func 22) #[] #[]] w fun e w' => ∃ z : Int, e = .returned (.int .i64 z) ∧ Hid (decide (0 ≤ z) = !okTo L n) ∧ Below w.heap.size w w' := by
  unfold maxLen at hn
  have Hc : Hid (_) := hc
  clear hc
  go_enter Try.func38, Try.ntmps38
  go_wp2
  go_loopw [8] (fun i wr => ∃ k : Nat, k ≤ n ∧ i = .int .i64 k ∧ Hid (okTo L k = true) ∧ Below w.heap.size w wr) (fun i _ => n - (intOf i).toNat)
  case atStart => exact ⟨0, Nat.zero_le _, rfl, rfl, Below.refl _ _⟩
  case round =>
    obtain ⟨k, hk, rfl, hto, hbel⟩ := hrel
    by_cases hlt : k < n
    · obtain ⟨sa, sc, c1, hsl⟩ := (Hc.out k hlt).below hbel hb
      cases he : stB (L k)
      case true =>
        have hto2 : Hid (okTo L (k + 1) = true) := by unfold Hid; rw [okTo, hto.out, he]; rfl
        go_wp2_with (go_at_call 22; refine (noSt_any _ hsl).mono ?_; rintro e w1 ⟨rfl, hb1⟩; rw [he])
        go_roundw
        case rel => exact ⟨k + 1, by omega, by go_num, hto2, hbel.trans (hb1.mono hbel.size)⟩
        case measure => simp [intOf]; omega
      case false =>
        have hto2 : Hid (okTo L n = false) := okTo_le L n k hlt (by rw [okTo, he, Bool.and_false])
        go_wp2_with (go_at_call 22; refine (noSt_any _ hsl).mono ?_; rintro e w1 ⟨rfl, hb1⟩; rw [he])
        go_ret
        exact ⟨(k : Int), rfl, by unfold Hid; rw [hto2.out]; simp, hbel.trans (hb1.mono hbel.size)⟩
    · have hkn : n = k := by omega
      have hto2 : Hid (okTo L n = true) := by rw [hkn]; exact hto
      clear hto
      go_wp2
      go_ret
      exact ⟨-1, rfl, by unfold Hid; rw [hto2.out]; rfl, hbel⟩

set_option maxHeartbeats 400000 in
theorem contS_sl {a : Option Addr} {n cap : Nat} {L : Nat → List Ent} (w : World) (h : SlEE w a n cap L) :
    Calls Try.prog 24 #[.slice a n cap, .func (.func 22) #[] #[]] w fun e w' => e = .returned (.bool (!okTo L n)) ∧ Below w.heap.size w w' := by
  have HI : Calls Try.prog 38 #[.slice a n cap, .func (.func 22) #[] #[]] w fun e w' => ∃ z : Int, e = .returned (.int .i64 z) ∧ Hid (decide (0 ≤ z) = !okTo L n) ∧ Below w.heap.size w w' := by
    rcases h.cells with rfl | ⟨b, off, rfl, hb, hc⟩
    · refine (idxS_zero a cap _ w).mono ?_
      rintro e w' ⟨rfl, rfl⟩
      exact ⟨-1, rfl, rfl, Below.refl _ _⟩
    · exact idxS_any b off n cap L w (Nat.le_trans h.le h.max) hb hc
  go_enter Try.func24, Try.ntmps24
  go_wp2_with fail
  refine HI.mono ?_
  rintro e w1 ⟨z, rfl, hz, hb1⟩
  go_wp2
  go_ret
  exact ⟨ret_bool hz.out, hb1⟩

/-- what agreedEntries answers. -/
def AgPost (w : World) (L : Nat → List Ent) (n : Nat) (e : Ending) (w' : World) : Prop := ∃ v, e = .returned v ∧ OwnE w' w.heap.size v (agR L n) ∧ Below w.heap.size w w'

set_option maxRecDepth 100000 in
theorem agE_zero (a : Option Addr) (cap : Nat) (L : Nat → List Ent) (w : World) :
    Calls Try.prog 25 #[.slice a 0 cap] w (AgPost w L 0) := by
  have HF : Hid (AgPost w L 0 (.returned (.slice none 0 0)) w) := ⟨_, rfl, ⟨rfl, Or.inl ⟨rfl, rfl⟩⟩, Below.refl _ _⟩
  go_enter Try.func25, Try.ntmps25
  go_wp2
  go_step3
  go_wp2
  try rw [Exit.noGoto_ret]
  go_ret
  exact HF.out

theorem neEnt (x y : Ent) (w : World) : Sem.run Try.prog (Go.binOp BinOp.neq 41 (entV x) (entV y)) w = .ok (Value.bool (!eqB3 x y)) w := by
  have u9 := Try.underlying9
  have a9 := Try.isAgg9
  have z9 := Try.sizeOf9
  have hS : Try.prog.underlying 41 = some (.struct (Try.prog.fieldsOf 41)) := by kernel_rfl
  have hp : Try.prog.stoodInHeld 41 = false := by kernel_rfl
  rw [run_neq_struct, show (10000 : Nat) = 9999 + 1 from rfl, run_equalIn_agg w 9999 41 _ _ hS hp]
  simp only [Program.fieldsOf, Try.underlying41]
  go_simp
  unfold eqB3
  by_cases h1 : x.ty.toList = y.ty.toList <;> by_cases h2 : x.key.toList = y.key.toList <;> by_cases h3 : x.id.toList = y.id.toList <;> simp [h1, h2, h3]

set_option maxRecDepth 100000 in
set_option maxHeartbeats 4000000 in
theorem agE_any (b off m cap : Nat) (L : Nat → List Ent) (w : World) (hm : m + 1 ≤ 20) (hcap : m + 1 ≤ cap) (hc2 : 2 ≤ cap) (hcm : cap ≤ maxLen) (hok : okTo L (m + 1) = true) (hb : b < w.heap.size) (hc : ∀ i, i < m + 1 → RwE w b (off + i) (L i)) :
    Calls Try.prog 25 #[.slice (some ⟨b, off, none⟩) (m + 1) cap] w (AgPost w L (m + 1)) := by
  obtain ⟨i0, hi, hz0, hz1, hz2⟩ := info_parts Try.infoEntry
  have h0p := st_parts (okTo_at hok 0 (by omega))
  have Hp : Hid (∀ k, k < m + 1 → (L k).length ≤ 300 ∧ SrtE (L k)) := fun k hk => ⟨(st_parts (okTo_at hok k hk)).1, (st_parts (okTo_at hok k hk)).2.1⟩
  have hl0 : (L 0).length ≤ 300 := h0p.1
  have Hc : Hid (∀ i, i < m + 1 → RwE w b (off + i) (L i)) := hc
  have Hr : Hid (agR L (m + 1) = agL L m (L 0).length) := by unfold Hid agR; rw [if_neg (by omega), Nat.add_sub_cancel]
  obtain ⟨sa0, sc0, z1, hsl0⟩ := hc 0 (by omega)
  have hsub := agL_sub L m
  have Hsub : Hid (∀ k, k ≤ (L 0).length → (agL L m k).length ≤ k) := fun k hk => by
    have := (hsub k hk).length_le
    rw [List.length_take] at this
    omega
  have Hokk : Hid (∀ k, k ≤ (L 0).length → AllOk (agL L m k)) := fun k hk x hx => hsl0.ok x (List.mem_of_mem_take ((hsub k hk).subset hx))
  unfold maxLen at hcm
  rw [Nat.add_zero] at z1
  clear hc h0p hsub hok
  have HF : Hid (∀ W v, OwnE W w.heap.size v (agL L m (L 0).length) → Below w.heap.size w W → AgPost w L (m + 1) (.returned v) W) := fun W v h1 h2 => ⟨v, rfl, by rw [Hr.out]; exact h1, h2⟩
  go_enter Try.func25, Try.ntmps25
  go_wp2
  go_step3
  go_wp2
  go_step3
  go_wp2
  go_loopw [3, 17] (fun v i wr => ∃ k : Nat, k ≤ (L 0).length ∧ i = .int .i64 k ∧ OwnE wr w.heap.size v (agL L m k) ∧ Below w.heap.size w wr) (fun _ i _ => (L 0).length - (intOf i).toNat)
  case atStart => exact ⟨0, Nat.zero_le _, rfl, ⟨rfl, Or.inl ⟨rfl, rfl⟩⟩, Below.refl _ _⟩
  case round =>
    obtain ⟨k, hk, rfl, ho, hB⟩ := hrel
    obtain ⟨w1, rfl⟩ : ∃ w1 : World, w1 = wr := ⟨_, rfl⟩
    have hokk : Hid (AllOk (agL L m k)) := Hokk.out k hk
    obtain ⟨ea, ec, rfl, _⟩ := ho.sl hokk.out.at
    by_cases hlt : k < (L 0).length
    · rcases (hsl0.below hB).cells with h0 | ⟨B, O, rfl, hBB, d1, d2, d3⟩
      · rw [h0] at hlt; exact absurd hlt (Nat.not_lt_zero _)
      have a1 := d1 k hlt
      have a2 := d2 k hlt
      have a3 := d3 k hlt
      have hal := Hsub.out k hk
      have Hnx : Hid (agL L m (k + 1) = if iaTo L (eAt (L 0) k) m then agL L m k ++ [eAt (L 0) k] else agL L m k) := rfl
      clear d1 d2 d3
      generalize eAt (L 0) k = x at *
      obtain ⟨wo, hwo⟩ : ∃ wo, wo = w1.alloc (.cells #[.string x.ty, .string x.key, .string x.id] 41) := ⟨_, rfl⟩
      have hgo : Below w1.heap.size w1 wo := by rw [hwo]; exact (Below.refl _ _).alloc (Nat.le_refl _) _
      have hso : wo.heap.size = w1.heap.size + 1 := by rw [hwo]; simp
      have hbx : Hid (∀ W, Below (w1.heap.size + 1) wo W → ∀ o, W.cell? ⟨w1.heap.size, o, none⟩ = (#[.string x.ty, .string x.key, .string x.id] : Array Value)[o]?) := fun W hW => by subst hwo; exact box_cells hW
      have hwB := hB.trans (hgo.mono hB.size)
      have hsB := hB.size
      go_wp2_with fail
      rw [← hwo]
      clear hwo a1 a2 a3
      go_loopw [24] (fun i wr => ∃ j : Nat, j ≤ m ∧ i = .int .i64 j ∧ Hid (iaTo L x j = true) ∧ Below (w1.heap.size + 1) wo wr) (fun i _ => m - (intOf i).toNat)
      case atStart => exact ⟨0, Nat.zero_le _, rfl, rfl, Below.refl _ _⟩
      case round =>
        obtain ⟨j, hj, rfl, hia, hBq⟩ := hrel
        have hbw : Below w.heap.size w wr := hwB.trans (hBq.mono (by omega))
        have hsq : w1.heap.size + 1 ≤ wr.heap.size := by have := hBq.size; omega
        have x0 := hbx.out _ hBq 0
        have x1 := hbx.out _ hBq 1
        have x2 := hbx.out _ hBq 2
        by_cases hjm : j < m
        · obtain ⟨sa, sc, c1, hsl⟩ := (Hc.out (j + 1) (by omega)).below hbw hb
          have c1' : wr.cell? ⟨b, off + 1 + j, none⟩ = some (.slice sa (L (j + 1)).length sc) := by rw [show off + 1 + j = off + (j + 1) by omega]; exact c1
          obtain ⟨hp1, hp2⟩ := Hp.out (j + 1) (by omega)
          have Hia : Hid (iaTo L x (j + 1) = (iaTo L x j && eqB3 (eaV (L (j + 1)) x) x)) := rfl
          have hea : Hid (∀ W, Below wr.heap.size wr W → Calls Try.prog 39 #[.slice sa (L (j + 1)).length sc, slotV x] W fun e w' => e = .returned (.tuple #[entV (eaV (L (j + 1)) x), .bool (eaT (L (j + 1)) x)]) ∧ Below wr.heap.size wr w') := fun W hW => (entryAt_sl x W hp2 (by omega) (hsl.below hW)).mono fun e w' ⟨h1, h2⟩ => ⟨h1, hW.trans (h2.below.mono hW.size)⟩
          generalize eaV (L (j + 1)) x = y at *
          generalize eaT (L (j + 1)) x = ty at *
          have hne : ∀ W, Sem.run Try.prog (Go.binOp BinOp.neq 41 (.agg #[.string y.ty, .string y.key, .string y.id]) (.agg #[.string x.ty, .string x.key, .string x.id])) W = .ok (.bool (!eqB3 y x)) W := fun W => neEnt y x W
          clear c1 hsl hp1 hp2
          go_wp2_with fail
          refine (slot_any x _).mono ?_
          rintro e w2 ⟨rfl, hg2⟩
          go_wp2_with fail
          refine (hea.out _ hg2.below).mono ?_
          rintro e w3 ⟨rfl, hb3⟩
          have hB3 := hBq.trans (hb3.mono hsq)
          have y0 := hbx.out _ hB3 0
          have y1 := hbx.out _ hB3 1
          have y2 := hbx.out _ hB3 2
          have hB4 : ∀ o, Below (w1.heap.size + 1) wo (w3.alloc o) := fun o => hB3.alloc (by have := hB3.size; omega) _
          have z0 : (w3.alloc (.cells #[.string y.ty, .string y.key, .string y.id] 41)).cell? ⟨w1.heap.size, 0, none⟩ = some (.string x.ty) := hbx.out _ (hB4 _) 0
          have z1 : (w3.alloc (.cells #[.string y.ty, .string y.key, .string y.id] 41)).cell? ⟨w1.heap.size, 1, none⟩ = some (.string x.key) := hbx.out _ (hB4 _) 1
          have z2 : (w3.alloc (.cells #[.string y.ty, .string y.key, .string y.id] 41)).cell? ⟨w1.heap.size, 2, none⟩ = some (.string x.id) := hbx.out _ (hB4 _) 2
          have hlt3 : w1.heap.size < w3.heap.size := by have := hB3.size; omega
          have hne3 : w1.heap.size ≠ w3.heap.size := by omega
          clear x0 x1 x2
          cases hq : eqB3 y x
          case true =>
            have Hn : Hid (iaTo L x (j + 1) = true) := by unfold Hid; rw [Hia.out, hia.out, hq]; rfl
            rw [hq] at hne
            clear hia Hia hq
            go_wp2
            go_roundw
            case rel => first | exact ⟨j + 1, by omega, by go_num, Hn, hB4 _⟩ | ((repeat apply Exists.intro); exact ⟨⟨j + 1, by omega, by go_num, Hn, hB4 _⟩, rfl⟩)
            case measure => simp [intOf]; omega
          case false =>
            have Hn : Hid (iaTo L x m = false) := iaTo_le L x m j hjm (by rw [Hia.out, hq, Bool.and_false])
            have hO : ∀ o, OwnE (w3.alloc o) w.heap.size (.slice ea (agL L m k).length ec) (agL L m (k + 1)) := fun o => by
              rw [Hnx.out, Hn.out]
              have hz : Below w1.heap.size w1 (w3.alloc o) := hgo.trans ((hB4 o).mono (by omega))
              exact ho.below hz
            have hB5 : ∀ o, Below w.heap.size w (w3.alloc o) := fun o => hwB.trans ((hB4 o).mono (by omega))
            rw [hq] at hne
            clear hia Hia hq ho
            generalize (agL L m k).length = q1 at *
            go_wp2
            first | (go_roundw; (case rel => first | exact ⟨k + 1, by omega, by go_num, hO _, hB5 _⟩ | ((repeat apply Exists.intro); exact ⟨⟨k + 1, by omega, by go_num, hO _, hB5 _⟩, rfl⟩)); (case measure => simp [intOf]; omega)) | exact ⟨⟨k + 1, by omega, by go_num, hO _, hB5 _⟩, by simp [intOf]; omega⟩
        · have hjn : j = m := by omega
          subst hjn
          have hm1 : (agL L j k).length + 1 ≤ maxLen := by unfold maxLen; omega
          have hm2 : ((agL L j k).length + 1) * 48 ≤ 140737488355328 := by omega
          have hm3 : ∀ o, w.heap.size ≤ (wr.alloc o).heap.size := fun o => by have := hbw.size; simp; omega
          have hO : OwnE wr w.heap.size (.slice ea (agL L j k).length ec) (agL L j k) := ho.below (hgo.trans (hBq.mono (by omega)))
          have hag : Hid (∀ q', (Value.slice ea (agL L j k).length ec).ownBlock = some q' → w.heap.size ≤ q') := fun q' hq' => hO.row q' hq'
          have Hn : Hid (agL L j (k + 1) = agL L j k ++ [x]) := by unfold Hid; rw [Hnx.out, hia.out]; rfl
          clear ho hia Hnx
          go_wp2_with (at_builtin; refine wpList_append_own _ rfl _ _ 24 rfl w.heap.size 41 i0 (.agg #[.string ByteArray.empty, .string ByteArray.empty, .string ByteArray.empty]) 3 48 Try.underlying24 hi hz0 hz1 hz2 rfl (by decide) _ _ _ rfl (World.ownsRow.alloc hO _) ⟨wr.heap.size, 0, none⟩ 1 1 (encE x) rfl rfl (encE_cells _ _ _) (encE_one _) hm1 hm2 (hm3 _) ?_; intro v3 w3 hown3 hgrow3 _)
          have hO3 : OwnE w3 w.heap.size v3 (agL L j (k + 1)) := by rw [Hn.out]; exact OwnE.snoc hown3 rfl
          have hB3 : Below w.heap.size w w3 := (hbw.alloc hbw.size _).grown hgrow3 (hm3 _) hag.out
          go_roundw
          case rel => first | exact ⟨k + 1, by omega, by go_num, hO3, hB3⟩ | ((repeat apply Exists.intro); exact ⟨⟨k + 1, by omega, by go_num, hO3, hB3⟩, rfl⟩)
          case measure => simp [intOf]; omega
    · have hkn : k = (L 0).length := by omega
      subst hkn
      have HF3 : Hid (_) := HF.out _ _ ho hB
      generalize (agL L m (L 0).length).length = q1 at *
      go_wp2
      try rw [Exit.noGoto_ret]
      go_ret
      exact HF3.out
set_option maxRecDepth 100000 in
set_option maxHeartbeats 4000000 in
theorem agE_one (b off : Nat) (L : Nat → List Ent) (w : World) (hok : okTo L 1 = true) (hc : ∀ i, i < 1 → RwE w b (off + i) (L i)) :
    Calls Try.prog 25 #[.slice (some ⟨b, off, none⟩) 1 1] w (AgPost w L 1) := by
  obtain ⟨i0, hi, hz0, hz1, hz2⟩ := info_parts Try.infoEntry
  have h0p := st_parts (okTo_at hok 0 (by omega))
  have hl0 : (L 0).length ≤ 300 := h0p.1
  have Hc : Hid (∀ i, i < 1 → RwE w b (off + i) (L i)) := hc
  have Hr : Hid (agR L 1 = agL L 0 (L 0).length) := by unfold Hid agR; rw [if_neg (by omega)]
  obtain ⟨sa0, sc0, z1, hsl0⟩ := hc 0 (by omega)
  have hsub := agL_sub L 0
  have Hsub : Hid (∀ k, k ≤ (L 0).length → (agL L 0 k).length ≤ k) := fun k hk => by
    have := (hsub k hk).length_le
    rw [List.length_take] at this
    omega
  have Hokk : Hid (∀ k, k ≤ (L 0).length → AllOk (agL L 0 k)) := fun k hk x hx => hsl0.ok x (List.mem_of_mem_take ((hsub k hk).subset hx))
  rw [Nat.add_zero] at z1
  clear hc h0p hsub hok
  have HF : Hid (∀ W v, OwnE W w.heap.size v (agL L 0 (L 0).length) → Below w.heap.size w W → AgPost w L 1 (.returned v) W) := fun W v h1 h2 => ⟨v, rfl, by rw [Hr.out]; exact h1, h2⟩
  go_enter Try.func25, Try.ntmps25
  go_wp2
  go_step3
  go_wp2
  go_step3
  go_wp2
  go_loopw [3, 17] (fun v i wr => ∃ k : Nat, k ≤ (L 0).length ∧ i = .int .i64 k ∧ OwnE wr w.heap.size v (agL L 0 k) ∧ Below w.heap.size w wr) (fun _ i _ => (L 0).length - (intOf i).toNat)
  case atStart => exact ⟨0, Nat.zero_le _, rfl, ⟨rfl, Or.inl ⟨rfl, rfl⟩⟩, Below.refl _ _⟩
  case round =>
    obtain ⟨k, hk, rfl, ho, hB⟩ := hrel
    obtain ⟨w1, rfl⟩ : ∃ w1 : World, w1 = wr := ⟨_, rfl⟩
    have hokk : Hid (AllOk (agL L 0 k)) := Hokk.out k hk
    obtain ⟨ea, ec, rfl, _⟩ := ho.sl hokk.out.at
    by_cases hlt : k < (L 0).length
    · rcases (hsl0.below hB).cells with h0 | ⟨B, O, rfl, hBB, d1, d2, d3⟩
      · rw [h0] at hlt; exact absurd hlt (Nat.not_lt_zero _)
      have a1 := d1 k hlt
      have a2 := d2 k hlt
      have a3 := d3 k hlt
      have hal := Hsub.out k hk
      have Hnx : Hid (agL L 0 (k + 1) = if iaTo L (eAt (L 0) k) 0 then agL L 0 k ++ [eAt (L 0) k] else agL L 0 k) := rfl
      clear d1 d2 d3
      generalize eAt (L 0) k = x at *
      obtain ⟨wo, hwo⟩ : ∃ wo, wo = w1.alloc (.cells #[.string x.ty, .string x.key, .string x.id] 41) := ⟨_, rfl⟩
      have hgo : Below w1.heap.size w1 wo := by rw [hwo]; exact (Below.refl _ _).alloc (Nat.le_refl _) _
      have hso : wo.heap.size = w1.heap.size + 1 := by rw [hwo]; simp
      have hbx : Hid (∀ W, Below (w1.heap.size + 1) wo W → ∀ o, W.cell? ⟨w1.heap.size, o, none⟩ = (#[.string x.ty, .string x.key, .string x.id] : Array Value)[o]?) := fun W hW => by subst hwo; exact box_cells hW
      have hwB := hB.trans (hgo.mono hB.size)
      have hsB := hB.size
      go_wp2_with fail
      rw [← hwo]
      clear hwo a1 a2 a3
      go_loopw [24] (fun i wr => ∃ j : Nat, j ≤ 0 ∧ i = .int .i64 j ∧ Hid (iaTo L x j = true) ∧ Below (w1.heap.size + 1) wo wr) (fun i _ => 0 - (intOf i).toNat)
      case atStart => exact ⟨0, Nat.zero_le _, rfl, rfl, Below.refl _ _⟩
      case round =>
        obtain ⟨j, hj, rfl, hia, hBq⟩ := hrel
        have hbw : Below w.heap.size w wr := hwB.trans (hBq.mono (by omega))
        have hsq : w1.heap.size + 1 ≤ wr.heap.size := by have := hBq.size; omega
        have x0 := hbx.out _ hBq 0
        have x1 := hbx.out _ hBq 1
        have x2 := hbx.out _ hBq 2
        have hjn : j = 0 := by omega
        subst hjn
        have hm1 : (agL L 0 k).length + 1 ≤ maxLen := by unfold maxLen; omega
        have hm2 : ((agL L 0 k).length + 1) * 48 ≤ 140737488355328 := by omega
        have hm3 : ∀ o, w.heap.size ≤ (wr.alloc o).heap.size := fun o => by have := hbw.size; simp; omega
        have hO : OwnE wr w.heap.size (.slice ea (agL L 0 k).length ec) (agL L 0 k) := ho.below (hgo.trans (hBq.mono (by omega)))
        have hag : Hid (∀ q', (Value.slice ea (agL L 0 k).length ec).ownBlock = some q' → w.heap.size ≤ q') := fun q' hq' => hO.row q' hq'
        have Hn : Hid (agL L 0 (k + 1) = agL L 0 k ++ [x]) := by unfold Hid; rw [Hnx.out, hia.out]; rfl
        clear ho hia Hnx
        go_wp2_with (at_builtin; refine wpList_append_own _ rfl _ _ 24 rfl w.heap.size 41 i0 (.agg #[.string ByteArray.empty, .string ByteArray.empty, .string ByteArray.empty]) 3 48 Try.underlying24 hi hz0 hz1 hz2 rfl (by decide) _ _ _ rfl (World.ownsRow.alloc hO _) ⟨wr.heap.size, 0, none⟩ 1 1 (encE x) rfl rfl (encE_cells _ _ _) (encE_one _) hm1 hm2 (hm3 _) ?_; intro v3 w3 hown3 hgrow3 _)
        have hO3 : OwnE w3 w.heap.size v3 (agL L 0 (k + 1)) := by rw [Hn.out]; exact OwnE.snoc hown3 rfl
        have hB3 : Below w.heap.size w w3 := (hbw.alloc hbw.size _).grown hgrow3 (hm3 _) hag.out
        go_roundw
        case rel => first | exact ⟨k + 1, by omega, by go_num, hO3, hB3⟩ | ((repeat apply Exists.intro); exact ⟨⟨k + 1, by omega, by go_num, hO3, hB3⟩, rfl⟩)
        case measure => simp [intOf]; omega
    · have hkn : k = (L 0).length := by omega
      subst hkn
      have HF3 : Hid (_) := HF.out _ _ ho hB
      generalize (agL L 0 (L 0).length).length = q1 at *
      go_wp2
      try rw [Exit.noGoto_ret]
      go_ret
      exact HF3.out
theorem agE_sl {a : Option Addr} {n cap : Nat} {L : Nat → List Ent} (w : World) (hok : spOk L n = true) (h : SlEE w a n cap L) :
    Calls Try.prog 25 #[.slice a n cap] w (AgPost w L n) := by
  obtain ⟨h20, hok⟩ := spOk_parts hok
  rcases h.cells with rfl | ⟨b, off, rfl, hb, hc⟩
  · exact agE_zero a cap L w
  · rcases n with _ | m
    · exact agE_zero _ cap L w
    · have hle := h.le
      by_cases hc1 : cap = 1
      · have hm : m = 0 := by omega
        subst hm hc1
        exact agE_one b off L w hok hc
      · exact agE_any b off m cap L w h20 hle (by omega) h.max hok hb hc
end Go.Proofs.Ytkfgolcjhiaacaa
