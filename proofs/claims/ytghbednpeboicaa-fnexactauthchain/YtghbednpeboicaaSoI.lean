/-
  impl's sortedIds.
-/
import Derived.Test.YtghbednpeboicaaTpP
import Derived.Test.YtghbednpeboicaaRep
import Derived.Test.YtghbednpeboicaaRmS
import Derived.Test.YtghbednpeboicaaMkS
import Derived.Test.YtghbednpeboicaaShelf
import Derived.Sort.OwnSorted
namespace Go.Proofs.Ytghbednpeboicaa
open Go.RowKit Go.Sort

theorem enc_of (l : List ByteArray) : (l.map fun s => s.data.toList).map encStr = l.map Value.string := by
  rw [List.map_map]
  exact List.map_congr_left fun s _ => by simp [encStr]
theorem enc_toB (l : List (List UInt8)) : (l.map toB).map Value.string = l.map encStr := by
  rw [List.map_map]
  exact List.map_congr_left fun s _ => by simp [encStr, toB]

theorem sort_own {w : World} {base : Nat} {v : Value} {l : List ByteArray} (h : OwnL w base v l) (hl : l.length ≤ 1048576) :
    Calls Try.prog 53 #[v] w fun e w' => e = .returned (.tuple #[]) ∧ OwnL w' base v ((sortB l).map toB) ∧ w.grownBy w' v.ownBlock := by
  have h' := h
  obtain ⟨h1, h2⟩ := h
  rcases h2 with ⟨rfl, h0⟩ | ⟨g, cap, cur, rfl, hg, hh, hn, hc, hcs, hx⟩
  · have : l = [] := List.eq_nil_of_length_eq_zero h0
    subst this
    refine (Try.slices_Sort_string_none none 0 w).mono ?_
    rintro e w' ⟨rfl, rfl⟩
    exact ⟨rfl, by simpa [sortB] using h', grown_refl _ _⟩
  · have hlt : g < w.heap.size := (Array.getElem?_eq_some_iff.1 hh).1
    have e1 : (l.map fun s => s.data.toList).length = l.length := by simp
    have ht : cur.toList.take (l.map fun s => s.data.toList).length = (l.map fun s => s.data.toList).map encStr := by rw [enc_of, e1]; simpa using hx
    have hC := Try.slices_Sort_string g 0 cap (l.map fun s => s.data.toList) w (holds_of_block hh ht) hlt (by rw [e1]; omega)
    rw [e1] at hC
    refine hC.mono ?_
    rintro e w' ⟨rfl, nn, os, rfl⟩
    refine ⟨rfl, ?_, grownBy_sorted _⟩
    have hs := ownsRow_sorted (w := w) (n := nn) (os := os) (ss := l.map fun s => s.data.toList) (ts := sortB l) (by rw [sortB_len, e1]) hg hh (by rw [e1]; exact hn) hc hcs
    rw [e1] at hs
    unfold OwnL
    rw [List.length_map, sortB_len, enc_toB]
    exact hs

/-- what sortedIds answers. -/
def SoPost (w : World) (E : Nat → Ev) (M : Nat → Bool) (n : Nat) (e : Ending) (w' : World) : Prop :=
  ∃ v l, e = .returned v ∧ OwnL w' w.heap.size v l ∧ Srt l ∧ (∀ s, s ∈ l ↔ ∃ i, i < n ∧ M i = true ∧ (E i).id = s) ∧ Below w.heap.size w w'

theorem selL_one {E : Nat → Ev} {M : Nat → Bool} {k : Nat} (h : M k = true) : selL E M (k + 1) = selL E M k ++ [(E k).id] := by rw [selL, if_pos h]
theorem selL_not {E : Nat → Ev} {M : Nat → Bool} {k : Nat} (h : M k = false) : selL E M (k + 1) = selL E M k := by rw [selL, if_neg (by simp [h])]

set_option maxRecDepth 100000 in
set_option maxHeartbeats 1000000 in
theorem soI_any (b off n cap B cb m : Nat) (ra : Option Addr) (nr rc : Nat) (E : Nat → Ev) (M : Nat → Bool) (w : World) (hroom : roomTo E n = true) (hb : b < w.heap.size) (hc : ∀ i, i < n → w.cell? ⟨b, off + i * 10, none⟩ = some (.string (E i).id)) (hM : BlAt w B n M) :
    Calls Try.prog 33 #[.agg #[.slice (some ⟨b, off, none⟩) n cap, .map (some m), .slice ra nr rc], .slice (some ⟨B, 0, none⟩) n cb] w (SoPost w E M n) := by
  have h300 := room_300 hroom
  obtain ⟨i0, hi, hz0, hz1, hz2⟩ := info_parts Try.infoString
  obtain ⟨wb, hwb⟩ : ∃ wb, wb = w.alloc (.cells #[.slice (some ⟨b, off, none⟩) n cap, .map (some m), .slice ra nr rc] 62) := ⟨_, rfl⟩
  have hb0 : Below w.heap.size w wb := by rw [hwb]; exact (Below.refl _ _).alloc (Nat.le_refl _) _
  have hs0 : wb.heap.size = w.heap.size + 1 := by rw [hwb]; simp
  have hbx : Hid (∀ wx, Below (w.heap.size + 1) wb wx → wx.cell? ⟨w.heap.size, 0, none⟩ = some (.slice (some ⟨b, off, none⟩) n cap)) := fun wx hx => by subst hwb; exact box_cells hx 0
  go_enter Try.func33, Try.ntmps33
  go_wp2_with fail
  rw [← hwb]
  go_loopw [5, 10] (fun v i wr => ∃ (k : Nat) (a : Option Addr) (q cp : Nat), k ≤ n ∧ i = .int .i64 k ∧ v = .slice a q cp ∧ q ≤ k ∧ Hid (q = (selL E M k).length) ∧ OwnL wr (w.heap.size + 1) (.slice a q cp) (selL E M k) ∧ Below (w.heap.size + 1) wb wr) (fun _ i _ => n - (intOf i).toNat)
  case atStart => exact ⟨0, _, _, _, Nat.zero_le _, rfl, rfl, Nat.le_refl _, rfl, OwnL.nil _ _, Below.refl _ _⟩
  case round =>
    obtain ⟨k, a, q, cp, hk, rfl, rfl, hqk, hq, hown, hB⟩ := hrel
    have hbw := hb0.trans (hB.mono (by omega))
    have hbx0 := hbx.out _ hB
    have hso : w.heap.size + 1 ≤ wr.heap.size := by have := hB.size; omega
    by_cases hlt : k < n
    · have hek : wr.cell? ⟨b, off + k * 10, none⟩ = some (.string (E k).id) := (hbw.cell (by exact hb)).trans (hc k hlt)
      have hmk : wr.cell? ⟨B, k, none⟩ = some (.bool (M k)) := ((hM.below hbw).2 k hlt).1
      cases hf : M k
      case false =>
        rw [hf] at hmk
        have Hs : Hid (selL E M (k + 1) = selL E M k) := selL_not hf
        clear hc
        go_wp2
        go_roundw
        case rel => exact ⟨k + 1, a, q, cp, by omega, by go_num, rfl, by omega, by rw [Hs.out]; exact hq, by rw [Hs.out]; exact hown, hB⟩
        case measure => simp [intOf]; omega
      case true =>
        rw [hf] at hmk
        have Hs : Hid (selL E M (k + 1) = selL E M k ++ [(E k).id]) := selL_one hf
        clear hc
        generalize selL E M k = l at *
        have hm1 : q + 1 ≤ maxLen := by unfold maxLen; omega
        have hm2 : (q + 1) * 16 ≤ 140737488355328 := by omega
        have hm3 : ∀ o, w.heap.size + 1 ≤ (wr.alloc o).heap.size := fun o => by simp; omega
        have hag : Hid (∀ q', (Value.slice a q cp).ownBlock = some q' → w.heap.size + 1 ≤ q') := fun q' hq' => by have := World.ownsRow.lt hown q' hq'; exact this.1
        have hown' : wr.ownsRow (w.heap.size + 1) 9 1 (.slice a q cp) q (l.map Value.string) := by have := hown; unfold OwnL at this; rw [← hq.out] at this; exact this
        go_wp2_with (at_builtin; refine wpList_append_lies _ rfl _ _ 26 rfl (w.heap.size + 1) 9 i0 (.string ByteArray.empty) 1 16 Try.underlying26 hi hz0 hz1 hz2 rfl (by decide) _ _ _ rfl (World.ownsRow.alloc hown' _) ⟨wr.heap.size, 0, none⟩ 1 1 [.string (E k).id] rfl rfl (one_cells _ _ _) (one_one _) (by decide) hm1 hm2 (hm3 _) (wr.heap.size + 1) (by simp) ?_; intro gg cq w2 hown2 hgrow2 hat2 hlt2)
        have hown3 : OwnL w2 (w.heap.size + 1) (.slice (some ⟨gg, 0, none⟩) (q + 1) cq) (l ++ [(E k).id]) := by
          rw [hq.out] at hown2 ⊢
          exact OwnL.snoc hown2
        have hB2 : Below (w.heap.size + 1) wb w2 := (hB.alloc (by omega) _).grown hgrow2 (hm3 _) hag.out
        go_roundw
        case rel => exact ⟨k + 1, _, _, _, by omega, by go_num, rfl, by omega, by rw [Hs.out]; simp [hq.out, Hid], by rw [Hs.out]; exact hown3, hB2⟩
        case measure => simp [intOf]; omega
    · have hkn : k = n := by omega
      subst hkn
      have Hsr : Hid (Srt ((sortB (selL E M k)).map toB)) := sortB_srt (selL_nodup hroom M k (Nat.le_refl _))
      have Hmem : Hid (∀ s, s ∈ (sortB (selL E M k)).map toB ↔ ∃ i, i < k ∧ M i = true ∧ (E i).id = s) := fun s => (sortB_mem _ s).trans (selL_mem E M s k)
      have hlen := selL_len E M k
      have hag : Hid (∀ q', (Value.slice a q cp).ownBlock = some q' → w.heap.size + 1 ≤ q') := fun q' hq' => by have := World.ownsRow.lt hown q' hq'; exact this.1
      generalize selL E M k = l at *
      clear hc
      go_wp2_with fail
      refine (sort_own hown (by omega)).mono ?_
      rintro e w2 ⟨rfl, hown2, hg2⟩
      have hB2 : Below (w.heap.size + 1) wb w2 := hB.grown hg2 hso hag.out
      go_wp2
      go_ret
      exact ⟨_, _, rfl, hown2.mono (by omega), Hsr.out, Hmem.out, hb0.trans (hB2.mono (by omega))⟩

set_option maxRecDepth 100000 in
theorem soI_zero (a : Option Addr) (cap B cb m : Nat) (ra : Option Addr) (nr rc : Nat) (E : Nat → Ev) (M : Nat → Bool) (w : World) :
    Calls Try.prog 33 #[.agg #[.slice a 0 cap, .map (some m), .slice ra nr rc], .slice (some ⟨B, 0, none⟩) 0 cb] w (SoPost w E M 0) := by
  go_enter Try.func33, Try.ntmps33
  go_wp2_with fail
  refine wp_loop_rounds 1 ?_
  rw [rounds_succ]
  go_wp2_with fail
  refine (sort_own (l := []) (base := w.heap.size) (OwnL.nil _ _) (by decide)).mono ?_
  rintro e w2 ⟨rfl, hown2, hg2⟩
  go_wp2
  go_ret
  refine ⟨_, _, rfl, hown2, by simp [sortB, Srt], fun s => by simp [sortB], ((Below.refl _ _).alloc (Nat.le_refl _) _).grown hg2 (by simp) (fun q hq => by simp [Value.ownBlock] at hq)⟩

theorem soI_sl {a : Option Addr} {n cap B cb m : Nat} {ra : Option Addr} {nr rc : Nat} {E : Nat → Ev} {M : Nat → Bool} (w : World) (hroom : roomTo E n = true) (h : SlV w a n cap E) (hM : BlAt w B n M) :
    Calls Try.prog 33 #[.agg #[.slice a n cap, .map (some m), .slice ra nr rc], .slice (some ⟨B, 0, none⟩) n cb] w (SoPost w E M n) := by
  rcases h.ids with rfl | ⟨b, off, rfl, hb, hc⟩
  · exact soI_zero a cap B cb m ra nr rc E M w
  · exact soI_any b off n cap B cb m ra nr rc E M w hroom hb hc hM
end Go.Proofs.Ytghbednpeboicaa
