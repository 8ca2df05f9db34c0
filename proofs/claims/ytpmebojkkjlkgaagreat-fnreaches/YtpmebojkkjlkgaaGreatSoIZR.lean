import Derived.Test.YtpmebojkkjlkgaaGreatArCZR
import Derived.Test.YtpmebojkkjlkgaaGreatClIZR
import Derived.Sort.OwnSorted
namespace Go.Proofs.YtpmebojkkjlkgaaGreat
open Go.RowKit Go.Sort
theorem enc_of (l : List ByteArray) : (l.map fun s => s.data.toList).map encStr = l.map Value.string := by
 rw [List.map_map]
 exact List.map_congr_left fun s _ => by simp [encStr]
theorem enc_toB (l : List (List UInt8)) : (l.map toB).map Value.string = l.map encStr := by
 rw [List.map_map]
 exact List.map_congr_left fun s _ => by simp [encStr, toB]
theorem sort_own {w : World} {base : Nat} {v : Value} {l : List ByteArray} (h : OwnL w base v l) (hl : l.length <= 1048576) :
  Calls Tryz.prog 36 #[v] w fun e w' => e = .returned (.tuple #[]) ∧ OwnL w' base v ((sortB l).map toB) ∧ w.grownBy w' v.ownBlock := by
 have h' := h
 obtain ⟨h1, h2⟩ := h
 rcases h2 with ⟨rfl, h0⟩ | ⟨g, cap, cur, rfl, hg, hh, hn, hc, hcs, hx⟩
 ·have : l = [] := List.eq_nil_of_length_eq_zero h0
  subst this
  refine (Tryz.slices_Sort_string_none none 0 w).mono ?_
  rintro e w' ⟨rfl, rfl⟩
  exact ⟨rfl, by simpa [sortB] using h', grown_refl _ _⟩
 ·have hlt : g < w.heap.size := (Array.getElem?_eq_some_iff.1 hh).1
  have e1 : (l.map fun s => s.data.toList).length = l.length := by simp
  have ht : cur.toList.take (l.map fun s => s.data.toList).length = (l.map fun s => s.data.toList).map encStr := by rw [enc_of, e1]; simpa using hx
  have hC := Tryz.slices_Sort_string g 0 cap (l.map fun s => s.data.toList) w (holds_of_block hh ht) hlt (by rw [e1]; omega)
  rw [e1] at hC
  refine hC.mono ?_
  rintro e w' ⟨rfl, nn, os, rfl⟩
  refine ⟨rfl, ?_, grownBy_sorted _⟩
  have hs := ownsRow_sorted (w := w) (n := nn) (os := os) (ss := l.map fun s => s.data.toList) (ts := sortB l) (by rw [sortB_len, e1]) hg hh (by rw [e1]; exact hn) hc hcs
  rw [e1] at hs
  unfold OwnL
  rw [List.length_map, sortB_len, enc_toB]
  exact hs
def SoPost (w : World) (E : Nat -> Ev) (M : Nat -> Bool) (n : Nat) (e : Ending) (w' : World) : Prop :=
 ∃ v l, e = .returned v ∧ OwnL w' w.heap.size v l ∧ Srt l ∧ (∀ s, s ∈ l ↔ ∃ i, i < n ∧ M i = true ∧ (E i).id = s) ∧ Below w.heap.size w w'
theorem selL_one {E : Nat -> Ev} {M : Nat -> Bool} {k : Nat} (h : M k = true) : selL E M (k + 1) = selL E M k ++ [(E k).id] := by rw [selL, if_pos h]
theorem selL_not {E : Nat -> Ev} {M : Nat -> Bool} {k : Nat} (h : M k = false) : selL E M (k + 1) = selL E M k := by rw [selL, if_neg (by simp [h])]
set_option maxRecDepth 100000 in
set_option maxHeartbeats 1000000 in
theorem soI_any (b off n cap B cb m : Nat) (ra : Option Addr) (nr rc : Nat) (E : Nat -> Ev) (M : Nat -> Bool) (w : World) (hroom : roomTo E n = true) (hb : b < w.heap.size) (hc : ∀ i, i < n -> w.cell? ⟨b, off + i * 10, none⟩ = some (.string (E i).id)) (hM : BlAt w B n M) :
  Calls Tryz.prog 22 #[.agg #[.slice (some ⟨b, off, none⟩) n cap, .map (some m), .slice ra nr rc], .slice (some ⟨B, 0, none⟩) n cb] w (SoPost w E M n) := by
 have h300 := room_300 hroom
 obtain ⟨i0, hi, hz0, hz1, hz2⟩ := info_parts Tryz.infoString
 obtain ⟨wb, hwb⟩ : ∃ wb, wb = w.alloc (.cells #[.slice (some ⟨b, off, none⟩) n cap, .map (some m), .slice ra nr rc] 55) := ⟨_, rfl⟩
 have hb0 : Below w.heap.size w wb := by rw [hwb]; exact (Below.refl _ _).alloc (Nat.le_refl _) _
 have hs0 : wb.heap.size = w.heap.size + 1 := by rw [hwb]; simp
 have hbx : Hid (∀ wx, Below (w.heap.size + 1) wb wx -> wx.cell? ⟨w.heap.size, 0, none⟩ = some (.slice (some ⟨b, off, none⟩) n cap)) := fun wx hx => by subst hwb; exact box_cells hx 0
 go_enter Tryz.func22, Tryz.ntmps22
 go_wp2_with fail
 rw [<- hwb]
 go_loopw [5, 10] (fun v i wr => ∃ (k : Nat) (a : Option Addr) (q cp : Nat), k <= n ∧ i = .int .i64 k ∧ v = .slice a q cp ∧ q <= k ∧ Hid (q = (selL E M k).length) ∧ OwnL wr (w.heap.size + 1) (.slice a q cp) (selL E M k) ∧ Below (w.heap.size + 1) wb wr) (fun _ i _ => n - (intOf i).toNat)
 case atStart => exact ⟨0, _, _, _, Nat.zero_le _, rfl, rfl, Nat.le_refl _, rfl, OwnL.nil _ _, Below.refl _ _⟩
 case round =>
  obtain ⟨k, a, q, cp, hk, rfl, rfl, hqk, hq, hown, hB⟩ := hrel
  have hbw := hb0.trans (hB.mono (by omega))
  have hbx0 := hbx.out _ hB
  have hso : w.heap.size + 1 <= wr.heap.size := by have := hB.size; omega
  by_cases hlt : k < n
  ·have hek : wr.cell? ⟨b, off + k * 10, none⟩ = some (.string (E k).id) := (hbw.cell (by exact hb)).trans (hc k hlt)
   have hmk : wr.cell? ⟨B, k, none⟩ = some (.bool (M k)) := ((hM.below hbw).2 k hlt).1
   cases hf : M k
   case false =>
    rw [hf] at hmk
    have Hs : Hid (selL E M (k + 1) = selL E M k) := selL_not hf
    clear hc
    go_wp2
    go_roundw
    case rel => exact ⟨k + 1, a, q, cp, by omega, by go_num, rfl, by omega, by rw [Hs.out]; exact hq, by rw [Hs.out]; exact hown, hB⟩
    case measure => simp [intOf]; omega
   case true =>
    rw [hf] at hmk
    have Hs : Hid (selL E M (k + 1) = selL E M k ++ [(E k).id]) := selL_one hf
    clear hc
    generalize selL E M k = l at *
    have hm1 : q + 1 <= maxLen := by unfold maxLen; omega
    have hm2 : (q + 1) * 16 <= 140737488355328 := by omega
    have hm3 : ∀ o, w.heap.size + 1 <= (wr.alloc o).heap.size := fun o => by simp; omega
    have hag : Hid (∀ q', (Value.slice a q cp).ownBlock = some q' -> w.heap.size + 1 <= q') := fun q' hq' => by have := World.ownsRow.lt hown q' hq'; exact this.1
    have hown' : wr.ownsRow (w.heap.size + 1) 9 1 (.slice a q cp) q (l.map Value.string) := by have := hown; unfold OwnL at this; rw [<- hq.out] at this; exact this
    go_wp2_with (at_builtin; refine wpList_append_lies _ rfl _ _ 38 rfl (w.heap.size + 1) 9 i0 (.string ByteArray.empty) 1 16 Tryz.underlying38 hi hz0 hz1 hz2 rfl (by decide) _ _ _ rfl (World.ownsRow.alloc hown' _) ⟨wr.heap.size, 0, none⟩ 1 1 [.string (E k).id] rfl rfl (one_cells _ _ _) (one_one _) (by decide) hm1 hm2 (hm3 _) (wr.heap.size + 1) (by simp) ?_; intro gg cq w2 hown2 hgrow2 hat2 hlt2)
    have hown3 : OwnL w2 (w.heap.size + 1) (.slice (some ⟨gg, 0, none⟩) (q + 1) cq) (l ++ [(E k).id]) := by
     rw [hq.out] at hown2 ⊢
     exact OwnL.snoc hown2
    have hB2 : Below (w.heap.size + 1) wb w2 := (hB.alloc (by omega) _).grown hgrow2 (hm3 _) hag.out
    go_roundw
    case rel => exact ⟨k + 1, _, _, _, by omega, by go_num, rfl, by omega, by rw [Hs.out]; simp [hq.out, Hid], by rw [Hs.out]; exact hown3, hB2⟩
    case measure => simp [intOf]; omega
  ·have hkn : k = n := by omega
   subst hkn
   have Hsr : Hid (Srt ((sortB (selL E M k)).map toB)) := sortB_srt (selL_nodup hroom M k (Nat.le_refl _))
   have Hmem : Hid (∀ s, s ∈ (sortB (selL E M k)).map toB ↔ ∃ i, i < k ∧ M i = true ∧ (E i).id = s) := fun s => (sortB_mem _ s).trans (selL_mem E M s k)
   have hlen := selL_len E M k
   have hag : Hid (∀ q', (Value.slice a q cp).ownBlock = some q' -> w.heap.size + 1 <= q') := fun q' hq' => by have := World.ownsRow.lt hown q' hq'; exact this.1
   generalize selL E M k = l at *
   clear hc
   go_wp2_with fail
   refine (sort_own hown (by omega)).mono ?_
   rintro e w2 ⟨rfl, hown2, hg2⟩
   have hB2 : Below (w.heap.size + 1) wb w2 := hB.grown hg2 hso hag.out
   go_wp2
   go_ret
   exact ⟨_, _, rfl, hown2.mono (by omega), Hsr.out, Hmem.out, hb0.trans (hB2.mono (by omega))⟩
set_option maxRecDepth 100000 in
theorem soI_zero (a : Option Addr) (cap B cb m : Nat) (ra : Option Addr) (nr rc : Nat) (E : Nat -> Ev) (M : Nat -> Bool) (w : World) :
  Calls Tryz.prog 22 #[.agg #[.slice a 0 cap, .map (some m), .slice ra nr rc], .slice (some ⟨B, 0, none⟩) 0 cb] w (SoPost w E M 0) := by
 go_enter Tryz.func22, Tryz.ntmps22
 go_wp2_with fail
 refine wp_loop_rounds 1 ?_
 rw [rounds_succ]
 go_wp2_with fail
 refine (sort_own (l := []) (base := w.heap.size) (OwnL.nil _ _) (by decide)).mono ?_
 rintro e w2 ⟨rfl, hown2, hg2⟩
 go_wp2
 go_ret
 refine ⟨_, _, rfl, hown2, by simp [sortB, Srt], fun s => by simp [sortB], ((Below.refl _ _).alloc (Nat.le_refl _) _).grown hg2 (by simp) (fun q hq => by simp [Value.ownBlock] at hq)⟩
theorem soI_sl {a : Option Addr} {n cap B cb m : Nat} {ra : Option Addr} {nr rc : Nat} {E : Nat -> Ev} {M : Nat -> Bool} (w : World) (hroom : roomTo E n = true) (h : SlV w a n cap E) (hM : BlAt w B n M) :
  Calls Tryz.prog 22 #[.agg #[.slice a n cap, .map (some m), .slice ra nr rc], .slice (some ⟨B, 0, none⟩) n cb] w (SoPost w E M n) := by
 rcases h.ids with rfl | ⟨b, off, rfl, hb, hc⟩
 ·exact soI_zero a cap B cb m ra nr rc E M w
 ·exact soI_any b off n cap B cb m ra nr rc E M w hroom hb hc hM
end Go.Proofs.YtpmebojkkjlkgaaGreat
namespace Go.Proofs.YtpmebojkkjlkgaaGreat
open Go.RowKit
theorem there_all {E : Nat -> Ev} {n : Nat} {S : Nat -> ByteArray} {m : Nat} (h : thereB E n S m = true) : m <= 300 ∧ ∀ i, i < m -> 0 <= posV E n (S i) := by
 unfold thereB at h
 rw [Bool.and_eq_true] at h
 refine ⟨of_decide_eq_true h.1, fun i hi => ?_⟩
 by_cases hc : 0 <= posV E n (S i)
 ·exact hc
 ·have := thereTo_le E n S m i hi (by rw [thereTo, decide_eq_false hc, Bool.and_false])
  rw [this] at h
  cases h.2
def GvPost (w : World) (E : Nat -> Ev) (n : Nat) (S : Nat -> ByteArray) (m : Nat) (ok : Bool) (e : Ending) (w' : World) : Prop := Below w.heap.size w w' ∧
 ((ok = true ∧ ∃ ga gc, e = .returned (.tuple #[.slice ga m gc, .bool true]) ∧ SlI w' ga m gc (fun i => posV E n (S i))) ∨ (ok = false ∧ e = .returned (.tuple #[.slice none 0 0, .bool false])))
set_option maxHeartbeats 1000000 in
theorem givenI_sl {a : Option Addr} {n cap mm : Nat} {ra : Option Addr} {nr rc : Nat} {E : Nat -> Ev} {ia : Option Addr} {m icap : Nat} {S : Nat -> ByteArray} (w : World) (hm : MapAt w mm n (knE E n) (posV E n)) (hs : SlS w ia m icap S) :
  Calls Tryz.prog 21 #[.agg #[.slice a n cap, .map (some mm), .slice ra nr rc], .slice ia m icap] w (GvPost w E n S m (thereB E n S m)) := by
 have hmx := Nat.le_trans hs.le hs.max
 unfold maxLen at hmx
 have hb0 : ∀ o, Below w.heap.size w (w.alloc o) := fun o => (Below.refl _ _).alloc (Nat.le_refl _) _
 by_cases h3 : m <= 300
 ·have ht : thereB E n S m = allTo (knE E n) S m := by unfold thereB; rw [decide_eq_true h3, allTo_there]; rfl
  have Ht : Hid (_ = _) := ht
  have hg : ¬ (300 < m) := by omega
  clear ht
  go_enter Tryz.func21, Tryz.ntmps21
  go_wp2_with fail
  refine (find_sl _ (hm.below (hb0 _)) (by omega) (hs.below (hb0 _))).mono ?_
  rintro e w1 ⟨hb1, hp⟩
  have hbw := (hb0 _).trans (hb1.mono (by simp))
  rcases hp with ⟨hq, v, rfl, ho⟩ | ⟨hq, rfl⟩
  ·obtain ⟨ga, gc, rfl, hsl⟩ := ho.sl
   have Hq : Hid (_) := hq
   clear hq
   go_wp2
   refine bodyPost_ret (v := .tuple #[.slice ga m gc, .bool true]) (by simp [results, Tryz.results21, go_sem]) rfl ⟨hbw, Or.inl ⟨Ht.out.trans Hq.out, ga, gc, rfl, hsl⟩⟩
  ·have Hq : Hid (_) := hq
   clear hq
   go_wp2
   refine bodyPost_ret (v := .tuple #[.slice none 0 0, .bool false]) (by simp [results, Tryz.results21, go_sem]) rfl ⟨hbw, Or.inr ⟨Ht.out.trans Hq.out, rfl⟩⟩
 ·have ht : Hid (thereB E n S m = false) := by unfold Hid thereB; rw [decide_eq_false h3]; rfl
  go_enter Tryz.func21, Tryz.ntmps21
  go_wp2
  refine bodyPost_ret (v := .tuple #[.slice none 0 0, .bool false]) (by simp [results, Tryz.results21, go_sem]) rfl ⟨hb0 _, Or.inr ⟨ht.out, rfl⟩⟩
def AcPost (w : World) (E : Nat -> Ev) (n : Nat) (S : Nat -> ByteArray) (m : Nat) (e : Ending) (w' : World) : Prop := Below w.heap.size w w' ∧
  ((roomTo E n = true ∧ thereB E n S m = true ∧ ∃ v l, e = .returned (.tuple #[v, .int .i64 0]) ∧ OwnL w' w.heap.size v l ∧ Srt l ∧ ∀ s, s ∈ l ↔ Chn E n S m s) ∨
   (roomTo E n = false ∧ ∃ v, e = .returned (.tuple #[v, .int .i64 1]) ∧ OwnL w' w.heap.size v []) ∨
   (roomTo E n = true ∧ thereB E n S m = false ∧ ∃ v, e = .returned (.tuple #[v, .int .i64 2]) ∧ OwnL w' w.heap.size v []))
set_option maxRecDepth 100000 in
set_option maxHeartbeats 1000000 in
theorem acI_sl {a : Option Addr} {n cap : Nat} {E : Nat -> Ev} {ia : Option Addr} {m icap : Nat} {S : Nat -> ByteArray} (w : World) (h : SlV w a n cap E) (hids : SlS w ia m icap S) :
  Calls Tryz.prog 9 #[.agg #[.slice a n cap], .slice ia m icap] w (AcPost w E n S m) := by
 have hb0 : ∀ o, Below w.heap.size w (w.alloc o) := fun o => (Below.refl _ _).alloc (Nat.le_refl _) _
 go_enter Tryz.func9, Tryz.ntmps9
 go_wp2_with fail
 refine (graph_sl _ (h.below (hb0 _))).mono ?_
 rintro e w1 ⟨hb1, hp⟩
 have hw1 := (hb0 _).trans (hb1.mono (hb0 _).size)
 rcases hp with ⟨hq, mm, ra, rc, rfl, hmp, hrs⟩ | ⟨hq, rfl⟩
 ·have Hq : Hid (_) := hq
  have hbA : ∀ o, Below w1.heap.size w1 (w1.alloc o) := fun o => (Below.refl _ _).alloc (Nat.le_refl _) _
  clear hq hb1
  go_wp2_with fail
  refine (givenI_sl _ (hmp.below (hbA _)) ((hids.below hw1).below (hbA _))).mono ?_
  rintro e w2 ⟨hb2, hp2⟩
  have hX2 := hb2.mono (B' := w1.heap.size + 1) (by simp)
  have h12 := (hbA _).trans (hb2.mono (by simp))
  have hw2 := hw1.trans (h12.mono hw1.size)
  have hcx := box_cells hX2
  clear hb2
  rcases hp2 with ⟨ht, ga, gc, rfl, hgi⟩ | ⟨ht, rfl⟩
  ·have Ht : Hid (_) := ht
   clear ht
   go_wp2_with fail
   go_region_with (first
    | (go_at_call 23; refine (chainI_sl _ Hq.out (hrs.below (by first | exact h12 | exact (h12).drew | exact (h12).drew.drew | exact (h12).drew.drew.drew | exact (h12).drew.drew.drew.drew)) (hgi.below (by first | exact Below.refl w2.heap.size w2 | exact (Below.refl w2.heap.size w2).drew | exact (Below.refl w2.heap.size w2).drew.drew | exact (Below.refl w2.heap.size w2).drew.drew.drew | exact (Below.refl w2.heap.size w2).drew.drew.drew.drew)) (there_all Ht.out).2).mono ?_; rintro e w3 ⟨b3, rfl, hb3', hbl3, hb3⟩; have h23 : Below w2.heap.size w2 w3 := Below.trans (by first | exact Below.refl w2.heap.size w2 | exact (Below.refl w2.heap.size w2).drew | exact (Below.refl w2.heap.size w2).drew.drew | exact (Below.refl w2.heap.size w2).drew.drew.drew | exact (Below.refl w2.heap.size w2).drew.drew.drew.drew) hb3; have hw3 := hw2.trans (h23.mono hw2.size); have hcx3 := box_cells (hX2.trans (h23.mono (by have := hX2.size; simpa using this))))
    | (go_at_call 22; refine (soI_sl _ Hq.out (h.below (by first | exact hw3 | exact (hw3).drew | exact (hw3).drew.drew | exact (hw3).drew.drew.drew | exact (hw3).drew.drew.drew.drew)) (hbl3.below (by first | exact Below.refl w3.heap.size w3 | exact (Below.refl w3.heap.size w3).drew | exact (Below.refl w3.heap.size w3).drew.drew | exact (Below.refl w3.heap.size w3).drew.drew.drew | exact (Below.refl w3.heap.size w3).drew.drew.drew.drew))).mono ?_; rintro e w4 ⟨v, l, rfl, hown, hsrt, hmem, hb4⟩; have Hs : Hid (Srt l) := hsrt; have Hm : Hid (∀ s, s ∈ l ↔ ∃ i, i < n ∧ rchT E n (fun i => hitS E n S i m) n i = true ∧ (E i).id = s) := hmem; have h34 : Below w3.heap.size w3 w4 := Below.trans (by first | exact Below.refl w3.heap.size w3 | exact (Below.refl w3.heap.size w3).drew | exact (Below.refl w3.heap.size w3).drew.drew | exact (Below.refl w3.heap.size w3).drew.drew.drew | exact (Below.refl w3.heap.size w3).drew.drew.drew.drew) hb4; clear hsrt hmem))
   all_goals
    have hw4 := hw3.trans (h34.mono hw3.size)
    have hown4 : OwnL w4 w.heap.size v l := OwnL.mono hown (by exact hw3.size)
    go_wp2
    refine bodyPost_ret (v := .tuple #[v, .int .i64 0]) (by simp [results, Tryz.results9, go_sem]) rfl ?_
    exact ⟨hw4, Or.inl ⟨Hq.out, Ht.out, v, l, rfl, hown4, Hs.out, fun s => (Hm.out s).trans (rchT_chn Hq.out s)⟩⟩
  ·have Ht : Hid (_) := ht
   clear ht
   go_wp2
   refine bodyPost_ret (v := .tuple #[.slice none 0 0, .int .i64 2]) (by simp [results, Tryz.results9, go_sem]) rfl ⟨hw2, Or.inr (Or.inr ⟨Hq.out, Ht.out, _, rfl, OwnL.nil _ _⟩)⟩
 ·have Hq : Hid (_) := hq
  clear hq
  go_wp2
  refine bodyPost_ret (v := .tuple #[.slice none 0 0, .int .i64 1]) (by simp [results, Tryz.results9, go_sem]) rfl ⟨hw1.alloc hw1.size _, Or.inr (Or.inl ⟨Hq.out, _, rfl, OwnL.nil _ _⟩)⟩
set_option maxRecDepth 100000 in
set_option maxHeartbeats 1000000 in
theorem acS_sl {a : Option Addr} {n cap : Nat} {E : Nat -> Ev} {ia : Option Addr} {m icap : Nat} {S : Nat -> ByteArray} (w : World) (h : SlV w a n cap E) (hids : SlS w ia m icap S) :
  Calls Tryz.prog 8 #[.agg #[.slice a n cap], .slice ia m icap] w (AcPost w E n S m) := by
 have hb0 : ∀ o, Below w.heap.size w (w.alloc o) := fun o => (Below.refl _ _).alloc (Nat.le_refl _) _
 go_enter Tryz.func8, Tryz.ntmps8
 go_wp2_with fail
 refine (roomS_sl _ (h.below (hb0 _))).mono ?_
 rintro e w1 ⟨rfl, hb1⟩
 have hB1 := hb1.mono (B' := w.heap.size + 1) (by simp)
 have hw1 := (hb0 _).trans (hb1.mono (by simp))
 have hcx := box_cells hB1
 clear hb1
 cases hroom : roomTo E n
 case false =>
  have Hq : Hid (roomTo E n = false) := hroom
  clear hroom
  go_wp2
  refine bodyPost_ret (v := .tuple #[.slice (some ⟨w1.heap.size, 0, none⟩) 0 0, .int .i64 1]) (by simp [results, Tryz.results8, go_sem]) rfl ⟨hw1.alloc hw1.size _, Or.inr (Or.inl ⟨Hq.out, _, rfl, OwnL.new w1 _ hw1.size⟩)⟩
 case true =>
  have Hq : Hid (roomTo E n = true) := hroom
  clear hroom
  go_wp2_with fail
  refine (there_sl _ (h.below hw1) (hids.below hw1)).mono ?_
  rintro e w2 ⟨rfl, hb2⟩
  have hw2 := hw1.trans (hb2.mono hw1.size)
  have hB2 := hB1.trans (hb2.mono (by have := hB1.size; simpa using this))
  clear hcx
  have hcx := box_cells hB2
  cases ht : thereB E n S m
  case false =>
   have Ht : Hid (thereB E n S m = false) := ht
   clear ht
   go_wp2
   refine bodyPost_ret (v := .tuple #[.slice (some ⟨w2.heap.size, 0, none⟩) 0 0, .int .i64 2]) (by simp [results, Tryz.results8, go_sem]) rfl ⟨hw2.alloc hw2.size _, Or.inr (Or.inr ⟨Hq.out, Ht.out, _, rfl, OwnL.new w2 _ hw2.size⟩)⟩
  case true =>
   have Ht : Hid (thereB E n S m = true) := ht
   clear ht
   go_wp2_with fail
   refine (l2Chain_sl _ Hq.out (h.below hw2) (hids.below hw2) (there_all Ht.out).1 (there_all Ht.out).2).mono ?_
   rintro e w3 ⟨v, l, rfl, hown, hsrt, hmem, hb3⟩
   have Hs : Hid (_) := hsrt
   have Hm : Hid (_) := hmem
   clear hsrt hmem
   have hw3 := hw2.trans (hb3.mono hw2.size)
   go_wp2
   refine bodyPost_ret (v := .tuple #[v, .int .i64 0]) (by simp [results, Tryz.results8, go_sem]) rfl ⟨hw3, Or.inl ⟨Hq.out, Ht.out, v, l, rfl, hown.mono hw2.size, Hs.out, Hm.out⟩⟩
def RcPost (L : List ByteArray) (w : World) (e : Ending) (w' : World) : Prop := ∃ a cap, e = .returned (.tuple #[.slice a L.length cap, .int .i64 0]) ∧ SlS w' a L.length cap (getL L) ∧ Below w.heap.size w w'
theorem rc_both {E : Nat -> Ev} {n i : Nat} (hroom : roomTo E n = true) (hids : ∀ i, i < n -> (E i).id.size <= maxLen) (hi : i < n) : ∃ L : List ByteArray, L.length <= 300 ∧ (∀ s, s ∈ L ↔ Chn E n (fun _ => (E i).id) 1 s) ∧
  (∀ W a' cap' ia icap, SlV W a' n cap' E -> SlS W ia 1 icap (fun _ => (E i).id) -> Calls Tryz.prog 8 #[.agg #[.slice a' n cap'], .slice ia (1 : Nat) icap] W (RcPost L W)) ∧
  (∀ W a' cap' ia icap, SlV W a' n cap' E -> SlS W ia 1 icap (fun _ => (E i).id) -> Calls Tryz.prog 9 #[.agg #[.slice a' n cap'], .slice ia (1 : Nat) icap] W (RcPost L W)) := by
 obtain ⟨S, hS⟩ : ∃ S : Nat -> ByteArray, S = fun _ => (E i).id := ⟨_, rfl⟩
 have hth : thereB E n S 1 = true := by
  have h0 := posV_here hroom hi
  unfold thereB thereTo thereTo
  rw [hS, h0]
  simp
 obtain ⟨L, hL⟩ : ∃ L, L = (sortB (selL E (rchT E n (fun i => hitS E n S i 1) n) n)).map toB := ⟨_, rfl⟩
 have h1 : Srt L := by rw [hL]; exact sortB_srt (selL_nodup hroom _ n (Nat.le_refl _))
 have h2 : ∀ s, s ∈ L ↔ Chn E n S 1 s := fun s => by rw [hL, sortB_mem, selL_mem, rchT_chn hroom]
 have h3 : L.length <= 300 := by
  rw [hL, List.length_map, sortB_len]
  have := selL_len E (rchT E n (fun i => hitS E n S i 1) n) n
  have := room_300 hroom
  omega
 have h4 : ∀ s ∈ L, s.size <= maxLen := fun s hs => by
  obtain ⟨i, hi, rfl⟩ := chn_id hroom ((h2 s).1 hs)
  exact hids i hi
 have key : ∀ W e W', AcPost W E n S 1 e W' -> RcPost L W e W' := by
  rintro W e W' ⟨hb, ⟨_, _, v, l, rfl, ho, hs, hm⟩ | ⟨hq, _⟩ | ⟨_, hq, _⟩⟩
  ·rw [srt_unique hs h1 (fun s => (hm s).trans (h2 s).symm)] at ho
   obtain ⟨a, cap, rfl, hsl, _⟩ := ho.sl h4
   exact ⟨a, cap, rfl, hsl, hb⟩
  ·rw [hroom] at hq; cases hq
  ·rw [hth] at hq; cases hq
 rw [hS] at h2 key
 exact ⟨L, h3, h2, fun W a' cap' ia icap h1 h2 => (acS_sl W h1 h2).mono (key W), fun W a' cap' ia icap h1 h2 => (acI_sl W h1 h2).mono (key W)⟩
set_option maxHeartbeats 400000 in
theorem lwH_any (b off n cap : Nat) (S : Nat -> ByteArray) (s : ByteArray) (w : World) (hn : n <= maxLen)
  (hc : ∀ i, i < n -> w.cell? ⟨b, off + i, none⟩ = some (.string (S i))) :
  Calls Tryz.prog 12 #[.slice (some ⟨b, off, none⟩) n cap, .string s] w fun e w' => e = .returned (.bool (hasB S n s)) ∧ w' = w := by
 unfold maxLen at hn
 go_enter Tryz.func12, Tryz.ntmps12
 go_wp2
 go_loop [5] (fun i => ∃ k : Nat, k <= n ∧ i = .int .i64 k ∧ Hid (hasB S k s = false)) (fun i => n - (intOf i).toNat)
 case atStart => exact ⟨0, Nat.zero_le _, rfl, rfl⟩
 case round =>
  obtain ⟨k, hk, rfl, hall⟩ := hrel
  by_cases hlt : k < n
  ·have hck := hc k hlt
   go_wp2
   ·go_ret
    exact ⟨ret_bool (hasB_of S s n k hlt (by assumption)).symm, rfl⟩
   ·go_round
    case rel => exact ⟨k + 1, by omega, by go_num, by unfold Hid hasB; rw [hall.out]; simpa using (by assumption : ((S k).toList == s.toList) = false)⟩
    case measure => simp [intOf]; omega
  ·go_wp2
   go_ret
   refine ⟨ret_bool ?_, rfl⟩
   rw [show n = k by omega, hall.out]
theorem lwH_zero (a : Option Addr) (cap : Nat) (S : Nat -> ByteArray) (s : ByteArray) (w : World) :
  Calls Tryz.prog 12 #[.slice a 0 cap, .string s] w fun e w' => e = .returned (.bool (hasB S 0 s)) ∧ w' = w := by
 go_enter Tryz.func12, Tryz.ntmps12
 go_wp2
 refine wp_loop_rounds 1 ?_
 rw [rounds_succ]
 go_wp2
 go_ret
 exact ⟨rfl, rfl⟩
theorem lwH_sl {a : Option Addr} {n cap : Nat} {S : Nat -> ByteArray} (s : ByteArray) (w : World) (h : SlS w a n cap S) :
  Calls Tryz.prog 12 #[.slice a n cap, .string s] w fun e w' => e = .returned (.bool (hasB S n s)) ∧ w' = w := by
 rcases h.cells with rfl | ⟨b, off, rfl, hb, hc⟩
 ·exact lwH_zero a cap S s w
 ·exact lwH_any b off n cap S s w (Nat.le_trans h.le h.max) hc
theorem lwE_zero (a a' : Option Addr) (cap cap' : Nat) (w : World) :
  Calls Tryz.prog 10 #[.slice a 0 cap, .slice a' 0 cap'] w fun e w' => e = .returned (.bool true) ∧ w' = w := by
 go_enter Tryz.func10, Tryz.ntmps10
 go_wp2
 refine wp_loop_rounds 1 ?_
 rw [rounds_succ]
 go_wp2
 go_ret
 exact ⟨rfl, rfl⟩
set_option maxHeartbeats 400000 in
theorem lwE_any (b off cap b' off' cap' n : Nat) (S : Nat -> ByteArray) (w : World) (hn : n <= maxLen)
  (hc : ∀ i, i < n -> w.cell? ⟨b, off + i, none⟩ = some (.string (S i))) (hc' : ∀ i, i < n -> w.cell? ⟨b', off' + i, none⟩ = some (.string (S i))) :
  Calls Tryz.prog 10 #[.slice (some ⟨b, off, none⟩) n cap, .slice (some ⟨b', off', none⟩) n cap'] w fun e w' => e = .returned (.bool true) ∧ Dr w w' := by
 unfold maxLen at hn
 go_enter Tryz.func10, Tryz.ntmps10
 go_wp2
 go_loopw [5] (fun i wr => ∃ k : Nat, k <= n ∧ i = .int .i64 k ∧ Dr w wr) (fun i _ => n - (intOf i).toNat)
 case atStart => exact ⟨0, Nat.zero_le _, rfl, Dr.refl _⟩
 case round =>
  obtain ⟨k, hk, rfl, hdr⟩ := hrel
  by_cases hlt : k < n
  ·have hck : wr.cell? ⟨b, off + k, none⟩ = some (.string (S k)) := (hdr.cell _).trans (hc k hlt)
   have hck' : wr.cell? ⟨b', off' + k, none⟩ = some (.string (S k)) := (hdr.cell _).trans (hc' k hlt)
   go_wp2_with fail
   go_quiet (fail)
   go_wp2
   go_roundw
   case rel => exact ⟨k + 1, by omega, by go_num, hdr.drewN _⟩
   case measure => simp [intOf]; omega
  ·go_wp2
   go_ret
   exact ⟨rfl, hdr⟩
theorem lwE_sl {a a' : Option Addr} {n cap cap' : Nat} {S : Nat -> ByteArray} (w : World) (h : SlS w a n cap S) (h' : SlS w a' n cap' S) :
  Calls Tryz.prog 10 #[.slice a n cap, .slice a' n cap'] w fun e w' => e = .returned (.bool true) ∧ Dr w w' := by
 rcases h.cells with rfl | ⟨b, off, rfl, hb, hc⟩
 ·refine (lwE_zero a a' cap cap' w).mono ?_
  rintro e w' ⟨rfl, rfl⟩
  exact ⟨rfl, Dr.refl _⟩
 ·rcases h'.cells with rfl | ⟨b', off', rfl, hb', hc'⟩
  ·refine (lwE_zero _ a' cap cap' w).mono ?_
   rintro e w' ⟨rfl, rfl⟩
   exact ⟨rfl, Dr.refl _⟩
  ·exact lwE_any b off cap b' off' cap' n S w (Nat.le_trans h.le h.max) hc hc'
set_option maxHeartbeats 2000000 in
theorem rchI_any (sa : Option Addr) (ns cs : Nat) (ra : Option Addr) (nr cr : Nat) (C Q : Nat -> Int) (rn : Nat -> Nat) (X : Nat -> Nat -> Int) (a b : Int) (w : World) (hp : SlP w sa ns cs C Q) (hl : SlL w ra nr cr rn X) :
  Calls Tryz.prog 11 #[.agg #[.slice sa ns cs, .slice ra nr cr], .int .i64 a, .int .i64 b] w fun e w' => e = .returned (.bool (reachB ns C Q nr rn X a b)) ∧ Below w.heap.size w w' := by
 have hb0 : ∀ o, Below w.heap.size w (w.alloc o) := fun o => (Below.refl _ _).alloc (Nat.le_refl _) _
 by_cases hc : 0 <= a ∧ a < nr ∧ 0 <= b ∧ b < ns
 ·obtain ⟨i, rfl⟩ : ∃ i : Nat, a = i := ⟨a.toNat, by omega⟩
  obtain ⟨j, rfl⟩ : ∃ j : Nat, b = j := ⟨b.toNat, by omega⟩
  have hin : Hid (_) := reachB_yes (C := C) (Q := Q) (rn := rn) (X := X) (i := i) (j := j) (nr := nr) (ns := ns) (by omega) (by omega)
  obtain ⟨bp, op, rfl, hbp, hp0, hp1⟩ := hp.at (j := j) (by omega)
  obtain ⟨bl, ol, rfl, hbl, rr, rc, hl0, hs⟩ := hl.at (j := i) (by omega)
  have q0 := past1 hbp hp0
  have q1 := past1 hbp hp1
  have q2 := past1 hbl hl0
  go_enter Tryz.func11, Tryz.ntmps11
  go_wp2_with fail
  go_region_with (go_at_call 24; refine (inI_any rr (rn i) rc (X i) (C j) (Q j) _ (hs.below (by first | exact hb0 _ | exact (hb0 _).drew | exact (hb0 _).drew.drew | exact (hb0 _).drew.drew.drew | exact (hb0 _).drew.drew.drew.drew | exact (hb0 _).drew.drew.drew.drew.drew | exact (hb0 _).drew.drew.drew.drew.drew.drew | exact (hb0 _).drew.drew.drew.drew.drew.drew.drew | exact (hb0 _).drew.drew.drew.drew.drew.drew.drew.drew))).mono ?_; rintro e w1 ⟨rfl, hb1⟩)
  all_goals
   go_wp2
   go_ret
   exact ⟨ret_bool hin.out.symm, Below.trans (by first | exact hb0 _ | exact (hb0 _).drew | exact (hb0 _).drew.drew | exact (hb0 _).drew.drew.drew | exact (hb0 _).drew.drew.drew.drew | exact (hb0 _).drew.drew.drew.drew.drew | exact (hb0 _).drew.drew.drew.drew.drew.drew) (hb1.mono (B' := w.heap.size) (by simp))⟩
 ·have hin : Hid (_) := reachB_no (C := C) (Q := Q) (rn := rn) (X := X) hc
  go_enter Tryz.func11, Tryz.ntmps11
  go_wp2
  all_goals
   go_ret
   exact ⟨ret_bool hin.out.symm, hb0 _⟩
end Go.Proofs.YtpmebojkkjlkgaaGreat
