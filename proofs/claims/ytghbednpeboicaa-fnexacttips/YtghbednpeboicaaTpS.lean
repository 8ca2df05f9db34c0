/-
  spec.Tips.
-/
import Derived.Test.YtghbednpeboicaaRmC
import Derived.Test.YtghbednpeboicaaL2s
import Derived.Test.YtghbednpeboicaaTpP
import Derived.Deep.DeepFit
namespace Go.Proofs.Ytghbednpeboicaa
open Go.RowKit

/-- what Tips answers: the tips sorted, in a row of its own; or 1. -/
def TipPost (w : World) (E : Nat → Ev) (n : Nat) (q : Bool) (e : Ending) (w' : World) : Prop := Below w.heap.size w w' ∧
  ((q = true ∧ ∃ v l, e = .returned (.tuple #[v, .int .i64 0]) ∧ OwnL w' w.heap.size v l ∧ Srt l ∧ ∀ s, s ∈ l ↔ ∃ i, i < n ∧ folB E (E i).id n = false ∧ (E i).id = s) ∨
   (q = false ∧ ∃ v, e = .returned (.tuple #[v, .int .i64 1]) ∧ OwnL w' w.heap.size v []))

theorem has_zero (a : Option Addr) (cap : Nat) (s : ByteArray) (w : World) :
    Calls Try.prog 28 #[.slice a 0 cap, .string s] w fun e w' => e = .returned (.bool false) ∧ w' = w := by
  go_enter Try.func28, Try.ntmps28
  go_wp2
  refine wp_loop_rounds 1 ?_
  rw [rounds_succ]
  go_wp2
  go_ret
  exact ⟨rfl, rfl⟩
theorem has_sl {a : Option Addr} {n cap : Nat} {S : Nat → ByteArray} (s : ByteArray) (w : World) (h : SlS w a n cap S) :
    Calls Try.prog 28 #[.slice a n cap, .string s] w fun e w' => e = .returned (.bool (hasB S n s)) ∧ w' = w := by
  rcases h.cells with rfl | ⟨b, off, rfl, hb, hc⟩
  · exact has_zero a cap s w
  · exact has_any b off n cap S s w (Nat.le_trans h.le h.max) hc

/-- the marks of the events that none follows. -/
def tipM (E : Nat → Ev) (n : Nat) : Nat → Bool := fun i => !folB E (E i).id n
theorem tipM_mem (E : Nat → Ev) (n : Nat) (s : ByteArray) : s ∈ selL E (tipM E n) n ↔ ∃ i, i < n ∧ folB E (E i).id n = false ∧ (E i).id = s := by
  rw [selL_mem]
  simp [tipM]

theorem selL_yes {E : Nat → Ev} {M : Nat → Bool} {k : Nat} (h : M k = true) : selL E M (k + 1) = selL E M k ++ [(E k).id] := by rw [selL, if_pos h]
theorem selL_no {E : Nat → Ev} {M : Nat → Bool} {k : Nat} (h : M k = false) : selL E M (k + 1) = selL E M k := by rw [selL, if_neg (by simp [h])]

set_option maxRecDepth 100000 in
set_option maxHeartbeats 1000000 in
theorem tipS_any (b off n cap : Nat) (E : Nat → Ev) (w : World) (h : SlV w (some ⟨b, off, none⟩) n cap E) (hb : b < w.heap.size) (hc : ∀ i, i < n → EvAt w b (off + i * 10) (E i)) :
    Calls Try.prog 7 #[.agg #[.slice (some ⟨b, off, none⟩) n cap]] w (TipPost w E n (roomTo E n)) := by
  have hn := Nat.le_trans h.le h.max
  unfold maxLen at hn
  obtain ⟨i0, hi, hz0, hz1, hz2⟩ := info_parts Try.infoString
  obtain ⟨wb, hwb⟩ : ∃ wb, wb = w.alloc (.cells #[.slice (some ⟨b, off, none⟩) n cap] 31) := ⟨_, rfl⟩
  have hb0 : Below w.heap.size w wb := by rw [hwb]; exact (Below.refl _ _).alloc (Nat.le_refl _) _
  have hs0 : wb.heap.size = w.heap.size + 1 := by rw [hwb]; simp
  have hb1 : Below (w.heap.size + 1) wb (wb.alloc (.cells #[] 9)) := (Below.refl _ _).alloc (by omega) _
  have ho1 : OwnL (wb.alloc (.cells #[] 9)) (w.heap.size + 1) (.slice (some ⟨wb.heap.size, 0, none⟩) 0 0) [] := OwnL.new wb _ (by omega)
  have hbx : Hid (∀ wx, Below (w.heap.size + 1) wb wx → wx.cell? ⟨w.heap.size, 0, none⟩ = some (.slice (some ⟨b, off, none⟩) n cap)) := fun wx hx => by subst hwb; exact box_cells hx 0
  go_enter Try.func7, Try.ntmps7
  go_wp2_with fail
  rw [← hwb]
  refine (roomS_sl _ (h.below (hb0.trans (hb1.mono (by omega))))).mono ?_
  rintro e w1 ⟨rfl, hb2⟩
  have hB : Below (w.heap.size + 1) wb w1 := hb1.trans (hb2.mono (by simp; omega))
  have hown := ho1.below hb2
  rw [hs0] at hown
  clear hb1 ho1 hb2
  cases hroom : roomTo E n
  case false =>
    go_wp2
    refine bodyPost_ret (v := .tuple #[.slice (some ⟨w.heap.size + 1, 0, none⟩) 0 0, .int .i64 1]) (by simp [results, Try.results7, go_sem]) rfl ?_
    exact ⟨hb0.trans (hB.mono (by omega)), Or.inr ⟨hroom, _, rfl, hown.mono (by omega)⟩⟩
  have h300 := room_300 hroom
  go_wp2_with fail
  go_loopw [4, 5] (fun v i wr => ∃ (k : Nat) (a : Option Addr) (m cp : Nat), k ≤ n ∧ i = .int .i64 k ∧ v = .slice a m cp ∧ m ≤ k ∧ Hid (m = (selL E (tipM E n) k).length) ∧ OwnL wr (w.heap.size + 1) (.slice a m cp) (selL E (tipM E n) k) ∧ Below (w.heap.size + 1) wb wr) (fun _ i _ => n - (intOf i).toNat)
  case atStart => exact ⟨0, _, _, _, Nat.zero_le _, rfl, rfl, Nat.le_refl _, rfl, hown, hB⟩
  case round =>
    clear hown hB
    obtain ⟨k, a, m, cp, hk, rfl, rfl, hmk, hm, hown, hB⟩ := hrel
    obtain ⟨wo, rfl⟩ : ∃ wo : World, wo = wr := ⟨_, rfl⟩
    have hbw := hb0.trans (hB.mono (by omega))
    have hbx0 := hbx.out _ hB
    have hso : w.heap.size + 1 ≤ wo.heap.size := by have := hB.size; omega
    by_cases hlt : k < n
    · have hek : wo.cell? ⟨b, off + k * 10, none⟩ = some (.string (E k).id) := by
        obtain ⟨_, _, _, _, _, _, hcs, _⟩ := hc k hlt
        exact (hcs.below hbw hb).c0
      have hek' : Hid (wo.cell? ⟨b, off + k * 10, none⟩ = some (.string (E k).id)) := hek
      have hev : Hid (∀ j, j < n → ∃ pa cp, wo.cell? ⟨b, off + j * 10 + 6, none⟩ = some (.slice pa (E j).np cp) ∧ SlS wo pa (E j).np cp (E j).Pv) := fun j hj => by
        obtain ⟨pa, cpp, _, _, _, _, hcs, hok⟩ := hc j hj
        exact ⟨pa, cpp, (hcs.below hbw hb).c6, (hok.below hbw).hp⟩
      have Hc : Hid (_) := hc
      have Hown : Hid (OwnL wo (w.heap.size + 1) (.slice a m cp) (selL E (tipM E n) k)) := hown
      have hbo : b < wo.heap.size := Nat.lt_of_lt_of_le hb hbw.size
      clear hc hown hek
      go_wp2_with fail
      go_loopw [6, 7] (fun fv kv wi => ∃ j : Nat, j ≤ n ∧ kv = .int .i64 j ∧ fv = .bool (folB E (E k).id j) ∧ Below wo.heap.size wo wi) (fun _ kv _ => n - (intOf kv).toNat)
      case atStart => exact ⟨0, Nat.zero_le _, rfl, rfl, Below.refl _ _⟩
      case round =>
        obtain ⟨j, hj, rfl, rfl, hbi⟩ := hrel
        have hbx1 := hbx.out _ (hB.trans (hbi.mono (by have := hB.size; omega)))
        by_cases hlj : j < n
        · have hst : Hid ((folB E (E k).id j || hasB (E j).Pv (E j).np (E k).id) = folB E (E k).id (j + 1)) := rfl
          obtain ⟨pa, cpp, c6, hsl⟩ := hev.out j hlj
          have c6' := (hbi.cell (by exact hbo)).trans c6
          have c0' := (hbi.cell (by exact hbo)).trans hek'.out
          have hsl' := hsl.below hbi
          clear c6 hsl
          cases hf : folB E (E k).id j
          case true =>
            rw [hf, Bool.true_or] at hst
            go_wp2_with fail
            go_region
            all_goals
              go_wp2
              first
                | exact ⟨⟨j + 1, by omega, by go_num, congrArg _ hst.out, hbi⟩, by simp [intOf]; omega⟩
                | exact ⟨⟨j + 1, by omega, by go_num, congrArg _ hst.out, hbi.drew⟩, by simp [intOf]; omega⟩
                | exact ⟨⟨j + 1, by omega, by go_num, congrArg _ hst.out, hbi.drew.drew⟩, by simp [intOf]; omega⟩
          case false =>
            rw [hf, Bool.false_or] at hst
            go_wp2_with fail
            go_region_with (go_at_call 28; refine (has_sl (E k).id _ (hsl'.below (by first | exact Below.refl _ _ | exact (Below.refl _ _).drew | exact (Below.refl _ _).drew.drew))).mono ?_; rintro e w3 ⟨rfl, rfl⟩)
            all_goals
              go_wp2
              first
                | exact ⟨⟨j + 1, by omega, by go_num, congrArg _ hst.out, hbi⟩, by simp [intOf]; omega⟩
                | exact ⟨⟨j + 1, by omega, by go_num, congrArg _ hst.out, hbi.drew⟩, by simp [intOf]; omega⟩
                | exact ⟨⟨j + 1, by omega, by go_num, congrArg _ hst.out, hbi.drew.drew⟩, by simp [intOf]; omega⟩
        · have hjn : j = n := by omega
          subst hjn
          have hBi := hB.trans (hbi.mono (by have := hB.size; omega))
          have hown1 := OwnL.below Hown.out hbi
          have c0' := (hbi.cell (by exact hbo)).trans hek'.out
          have hbw1 := hbw.trans (hbi.mono hbw.size)
          cases hf : folB E (E k).id j
          case true =>
            have hM : tipM E j k = false := by simp [tipM, hf]
            have Hs : Hid (selL E (tipM E j) (k + 1) = selL E (tipM E j) k) := selL_no hM
            clear hM
            go_wp2
            refine ⟨⟨k + 1, a, m, cp, by omega, by go_num, rfl, by omega, by rw [Hs.out]; exact hm, by rw [Hs.out]; exact hown1, hBi⟩, by simp [intOf]; omega⟩
          case false =>
            have hM : tipM E j k = true := by simp [tipM, hf]
            have Hs : Hid (selL E (tipM E j) (k + 1) = selL E (tipM E j) k ++ [(E k).id]) := selL_yes hM
            clear hM
            generalize selL E (tipM E j) k = l at *
            have hm1 : m + 1 ≤ maxLen := by unfold maxLen; omega
            have hm2 : (m + 1) * 16 ≤ 140737488355328 := by omega
            have hm3 : ∀ o, w.heap.size + 1 ≤ (wr.alloc o).heap.size := fun o => by have := hBi.size; simp; omega
            have hag : Hid (∀ q, (Value.slice a m cp).ownBlock = some q → w.heap.size + 1 ≤ q) := fun q hq => by have := World.ownsRow.lt hown1 q hq; exact this.1
            have hown' : wr.ownsRow (w.heap.size + 1) 9 1 (.slice a m cp) m (l.map Value.string) := by have := hown1; unfold OwnL at this; rw [← hm.out] at this; exact this
            go_wp2_with (at_builtin; refine wpList_append_lies _ rfl _ _ 26 rfl (w.heap.size + 1) 9 i0 (.string ByteArray.empty) 1 16 Try.underlying26 hi hz0 hz1 hz2 rfl (by decide) _ _ _ rfl (World.ownsRow.alloc hown' _) ⟨wr.heap.size, 0, none⟩ 1 1 [.string (E k).id] rfl rfl (one_cells _ _ _) (one_one _) (by decide) hm1 hm2 (hm3 _) (wr.heap.size + 1) (by simp) ?_; intro gg cq w2 hown2 hgrow2 hat2 hlt2)
            have hown3 : OwnL w2 (w.heap.size + 1) (.slice (some ⟨gg, 0, none⟩) (m + 1) cq) (l ++ [(E k).id]) := by
              rw [hm.out] at hown2 ⊢
              exact OwnL.snoc hown2
            have hB2 : Below (w.heap.size + 1) wb w2 := (hBi.alloc (by have := hBi.size; omega) _).grown hgrow2 (hm3 _) hag.out
            refine ⟨⟨k + 1, _, _, _, by omega, by go_num, rfl, by omega, by rw [Hs.out]; simp [hm.out, Hid], by rw [Hs.out]; exact hown3, hB2⟩, by simp [intOf]; omega⟩
    · have hkn : k = n := by omega
      subst hkn
      have hsz : ∀ s ∈ selL E (tipM E k) k, s.size ≤ maxLen := fun s hs => by
        obtain ⟨i, hi, _, rfl⟩ := (selL_mem _ _ _ _).1 hs
        obtain ⟨_, _, _, _, _, _, _, hok⟩ := hc i hi
        exact hok.hid
      have hmem := tipM_mem E k
      have hlen := selL_len E (tipM E k) k
      generalize selL E (tipM E k) k = l at *
      obtain ⟨a', cap', e1, hsl, _⟩ := hown.sl hsz
      injection e1 with e1 e2 e3
      subst e1 e3
      clear e2
      have hsl' : SlS wo a m cp (getL l) := by rw [hm.out]; exact hsl
      have Hmem : Hid (_) := hmem
      clear hmem hc hsz hsl
      go_wp2_with fail
      go_fit (l2s_sl _ (by omega) hsl')
      rintro e w2 ⟨v, l2, rfl, hown2, hsrt, hmem2, hb2⟩
      have Hm2 : Hid (_) := hmem2
      have Hs2 : Hid (_) := hsrt
      clear hmem2 hsrt
      go_wp2
      refine bodyPost_ret (v := .tuple #[v, .int .i64 0]) (by simp [results, Try.results7, go_sem]) rfl ?_
      refine ⟨hbw.trans (hb2.mono hbw.size), Or.inl ⟨hroom, v, l2, rfl, hown2.mono (by omega), Hs2.out, fun s => ?_⟩⟩
      rw [Hm2.out, ← Hmem.out]
      constructor
      · rintro ⟨i, hi, rfl⟩
        exact getL_mem (by rw [← hm.out]; exact hi)
      · intro hs
        obtain ⟨i, hi, e⟩ := mem_getL hs
        exact ⟨i, by rw [hm.out]; exact hi, e⟩

set_option maxRecDepth 100000 in
theorem tipS_zero (a : Option Addr) (cap : Nat) (E : Nat → Ev) (w : World) :
    Calls Try.prog 7 #[.agg #[.slice a 0 cap]] w (TipPost w E 0 true) := by
  have hb0 : ∀ o o2, Below w.heap.size w ((w.alloc o).alloc o2) := fun o o2 => ((Below.refl _ _).alloc (Nat.le_refl _) _).alloc (by simp) _
  go_enter Try.func7, Try.ntmps7
  go_wp2_with fail
  refine (roomS_zero a cap _).mono ?_
  rintro e w1 ⟨rfl, hb1⟩
  have hbw := (hb0 _ _).trans (hb1.mono (by simp; omega))
  have hbx : w1.cell? ⟨w.heap.size, 0, none⟩ = some (.slice a 0 cap) := (hb1.cell (by simp; omega)).trans (by simp)
  clear hb1
  go_wp2_with fail
  refine wp_loop_rounds 1 ?_
  rw [rounds_succ]
  go_wp2_with fail
  refine (l2s_sl (S := fun _ => ByteArray.empty) _ (by decide) ⟨Nat.le_refl _, by decide, fun i hi => absurd hi (Nat.not_lt_zero _), Or.inl rfl⟩).mono ?_
  rintro e w2 ⟨v, l2, rfl, hown2, hsrt, hmem2, hb2⟩
  go_wp2
  refine bodyPost_ret (v := .tuple #[v, .int .i64 0]) (by simp [results, Try.results7, go_sem]) rfl ?_
  refine ⟨hbw.trans (hb2.mono hbw.size), Or.inl ⟨rfl, v, l2, rfl, hown2.mono hbw.size, hsrt, fun s => ?_⟩⟩
  rw [hmem2]
  constructor
  · rintro ⟨i, hi, _⟩; exact absurd hi (Nat.not_lt_zero _)
  · rintro ⟨i, hi, _⟩; exact absurd hi (Nat.not_lt_zero _)

theorem tipS_sl {a : Option Addr} {n cap : Nat} {E : Nat → Ev} (w : World) (h : SlV w a n cap E) :
    Calls Try.prog 7 #[.agg #[.slice a n cap]] w (TipPost w E n (roomTo E n)) := by
  rcases h.cells with rfl | ⟨b, off, rfl, hb, hc⟩
  · exact tipS_zero a cap E w
  · exact tipS_any b off n cap E w h hb hc
end Go.Proofs.Ytghbednpeboicaa
