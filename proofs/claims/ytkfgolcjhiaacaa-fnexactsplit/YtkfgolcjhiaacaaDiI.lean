/-
  impl's disputedIds and Split.
-/
import Derived.Test.YtkfgolcjhiaacaaAgI
import Derived.Test.YtkfgolcjhiaacaaCpL
namespace Go.Proofs.Ytkfgolcjhiaacaa
open Go.RowKit

/-- what disputedIds answers. -/
def DiPost (w : World) (L : Nat → List Ent) (n : Nat) (e : Ending) (w' : World) : Prop := ∃ v So, e = .returned v ∧ OwnL w' w.heap.size v So ∧ Srt So ∧ (∀ t, t ∈ So ↔ t ∈ otI L n n) ∧ Below w.heap.size w w'

set_option maxRecDepth 100000 in
set_option maxHeartbeats 4000000 in
theorem diI_sl {a : Option Addr} {n cap : Nat} {L : Nat → List Ent} {ga : Option Addr} {gc : Nat} (w : World) (hok0 : spOk L n = true) (h : SlEE w a n cap L) (hg : SlE w ga gc (agR L n)) :
    Calls Try.prog 26 #[.slice a n cap, .slice ga (agR L n).length gc] w (DiPost w L n) := by
  obtain ⟨h20, hok⟩ := spOk_parts hok0
  obtain ⟨i0, hi, hz0, hz1, hz2⟩ := info_parts Try.infoString
  obtain ⟨hgs, hgl, _⟩ := agR_in hok
  have Hok : Hid (okTo L n = true) := hok
  have Hall : Hid (∀ i, i < n → AllOk (L i)) := h.ok
  have Hsame : Hid (∀ i x, i < n → x ∈ L i → eqB3 (eaV (agR L n) x) x = agTo L x n) := fun i x hi hx => same_ag hok hi hx
  have Hea : Hid (∀ W x, Below w.heap.size w W → Calls Try.prog 39 #[.slice ga (agR L n).length gc, slotV x] W fun e w' => e = .returned (.tuple #[entV (eaV (agR L n) x), .bool (eaT (agR L n) x)]) ∧ Below W.heap.size W w') := fun W x hW => (entryAt_sl x W hgs (by omega) (hg.below hW)).mono fun e w' ⟨h1, h2⟩ => ⟨h1, h2.below⟩
  have Hlen : Hid (∀ i, i ≤ n → (otI L n i).length ≤ 6000) := fun i hi => by
    have : okTo L i = true := by
      rcases Nat.lt_or_ge i n with h' | h'
      · cases hq : okTo L i
        · rcases i with _ | i
          · cases hq
          · rw [okTo_le L n i (by omega) hq] at hok; cases hok
        · rfl
      · rw [show i = n by omega]; exact hok
    have := otI_len n this
    omega
  have Hl3 : Hid (∀ i, i < n → (L i).length ≤ 300) := fun i hi => (st_parts (okTo_at hok i hi)).1
  clear hok hok0 hgs hg hgl
  generalize (agR L n).length = gl at *
  generalize hGR : agR L n = GR at *
  clear hGR
  go_enter Try.func26, Try.ntmps26
  go_wp2_with fail
  go_loopw [5, 14] (fun v i wr => ∃ k : Nat, k ≤ n ∧ i = .int .i64 k ∧ OwnL wr w.heap.size v (otI L n k) ∧ Below w.heap.size w wr) (fun _ i _ => n - (intOf i).toNat)
  case atStart => exact ⟨0, Nat.zero_le _, rfl, OwnL.nil _ _, Below.refl _ _⟩
  case round =>
    obtain ⟨k, hk, rfl, ho, hB⟩ := hrel
    obtain ⟨w1, rfl⟩ : ∃ w1 : World, w1 = wr := ⟨_, rfl⟩
    have hkl := Hlen.out k hk
    have hokk := otI_ok (L := L) n (i := k) (fun j hj => Hall.out j (by omega))
    obtain ⟨ta, tc, rfl, _⟩ := ho.sl hokk
    by_cases hlt : k < n
    · rcases h.cells with h0 | ⟨b, off, rfl, hb, hc⟩
      · omega
      obtain ⟨sa, sc, c1w, hslw⟩ := hc k hlt
      have c1 := (hB.cell (by exact hb)).trans c1w
      have hl3 := Hl3.out k hlt
      have Hc : Hid (∀ i, i < n → RwE w b (off + i) (L i)) := hc
      clear hc
      go_wp2_with fail
      go_loopw [5, 20] (fun v i wr => ∃ j : Nat, j ≤ (L k).length ∧ i = .int .i64 j ∧ OwnL wr w.heap.size v (otK L n (otI L n k) (L k) j) ∧ Below w.heap.size w wr) (fun _ i _ => (L k).length - (intOf i).toNat)
      case atStart => exact ⟨0, Nat.zero_le _, rfl, ho, hB⟩
      case round =>
        clear ho hB c1
        obtain ⟨j, hj, rfl, ho, hB⟩ := hrel
        have hsl := hslw.below hB
        have hok2 := otK_ok (L := L) n hokk (Hall.out k hlt) j hj
        obtain ⟨ta, tc, rfl, _⟩ := ho.sl hok2
        have hol := otK_len L n (otI L n k) (L k) j
        by_cases hlj : j < (L k).length
        · have hsl' := hsl
          rcases hsl'.cells with h0 | ⟨B, O, rfl, hBB, d1, d2, d3⟩
          · rw [h0] at hlj; exact absurd hlj (Nat.not_lt_zero _)
          have a1 := d1 j hlj
          have a2 := d2 j hlj
          have a3 := d3 j hlj
          have Hns : Hid (otK L n (otI L n k) (L k) (j + 1) = if agTo L (eAt (L k) j) n then otK L n (otI L n k) (L k) j else otK L n (otI L n k) (L k) j ++ [(eAt (L k) j).id]) := rfl
          have Heq := Hsame.out k (eAt (L k) j) hlt (eAt_mem (L k) j hlj)
          clear d1 d2 d3 hsl'
          generalize otK L n (otI L n k) (L k) j = oA at *
          generalize eAt (L k) j = x at *
          have HeX : Hid (∀ W, Below w.heap.size w W → Calls Try.prog 39 #[.slice ga gl gc, slotV x] W fun e w' => e = .returned (.tuple #[entV (eaV GR x), .bool (eaT GR x)]) ∧ Below W.heap.size W w') := fun W hW => Hea.out W x hW
          generalize eaV GR x = y at *
          generalize eaT GR x = ty at *
          have hne : ∀ W, Sem.run Try.prog (Go.binOp BinOp.neq 41 (.agg #[.string y.ty, .string y.key, .string y.id]) (.agg #[.string x.ty, .string x.key, .string x.id])) W = .ok (.bool (!eqB3 y x)) W := fun W => neEnt y x W
          rw [Heq] at hne
          obtain ⟨wo, hwo⟩ : ∃ wo, wo = wr.alloc (.cells #[.string x.ty, .string x.key, .string x.id] 41) := ⟨_, rfl⟩
          have hgo : Below wr.heap.size wr wo := by rw [hwo]; exact (Below.refl _ _).alloc (Nat.le_refl _) _
          have hso : wo.heap.size = wr.heap.size + 1 := by rw [hwo]; simp
          have hbx : Hid (∀ W, Below (wr.heap.size + 1) wo W → ∀ o, W.cell? ⟨wr.heap.size, o, none⟩ = (#[.string x.ty, .string x.key, .string x.id] : Array Value)[o]?) := fun W hW => by subst hwo; exact box_cells hW
          have hwB := hB.trans (hgo.mono hB.size)
          have hsB := hB.size
          have x0 := hbx.out _ (Below.refl _ wo) 0
          have x1 := hbx.out _ (Below.refl _ wo) 1
          have x2 := hbx.out _ (Below.refl _ wo) 2
          clear Heq
          go_wp2_with fail
          rw [← hwo]
          refine (slot_any x _).mono ?_
          rintro e w2 ⟨rfl, hg2⟩
          have hw2 := hwB.trans (hg2.below.mono hwB.size)
          go_wp2_with fail
          refine (HeX.out _ hw2).mono ?_
          rintro e w3 ⟨rfl, hb3⟩
          have h23 := hg2.below.trans (hb3.mono hg2.below.size)
          have hB3 : Below (wr.heap.size + 1) wo w3 := h23.mono (by omega)
          have y0 := hbx.out _ hB3 0
          have y1 := hbx.out _ hB3 1
          have y2 := hbx.out _ hB3 2
          have hB4 : ∀ o, Below (wr.heap.size + 1) wo (w3.alloc o) := fun o => hB3.alloc (by have := hB3.size; omega) _
          have hW4 : ∀ o, Below wr.heap.size wr (w3.alloc o) := fun o => hgo.trans ((hB4 o).mono (by omega))
          have hV4 : ∀ o, Below w.heap.size w (w3.alloc o) := fun o => hB.trans ((hW4 o).mono hsB)
          have z0 : (w3.alloc (.cells #[.string y.ty, .string y.key, .string y.id] 41)).cell? ⟨wr.heap.size, 0, none⟩ = some (.string x.ty) := hbx.out _ (hB4 _) 0
          have z1 : (w3.alloc (.cells #[.string y.ty, .string y.key, .string y.id] 41)).cell? ⟨wr.heap.size, 1, none⟩ = some (.string x.key) := hbx.out _ (hB4 _) 1
          have z2 : (w3.alloc (.cells #[.string y.ty, .string y.key, .string y.id] 41)).cell? ⟨wr.heap.size, 2, none⟩ = some (.string x.id) := hbx.out _ (hB4 _) 2
          have hlt3 : wr.heap.size < w3.heap.size := by have := hB3.size; omega
          have hne3 : wr.heap.size ≠ w3.heap.size := by omega
          clear x0 x1 x2 hwo
          cases hq : agTo L x n
          case true =>
            rw [hq] at hne Hns
            have hO : ∀ o, OwnL (w3.alloc o) w.heap.size (.slice ta oA.length tc) (otK L n (otI L n k) (L k) (j + 1)) := fun o => by
              rw [Hns.out]
              exact ho.below (hW4 o)
            clear hq ho hsl
            go_wp2
            go_roundw
            case rel => first | exact ⟨j + 1, by omega, by go_num, hO _, hV4 _⟩ | ((repeat apply Exists.intro); exact ⟨⟨j + 1, by omega, by go_num, hO _, hV4 _⟩, rfl⟩)
            case measure => simp [intOf]; omega
          case false =>
            rw [hq] at hne Hns
            have hO : OwnL (w3.alloc (.cells #[.string y.ty, .string y.key, .string y.id] 41)) w.heap.size (.slice ta oA.length tc) oA := ho.below (hW4 _)
            have hV5 := hV4 (.cells #[.string y.ty, .string y.key, .string y.id] 41)
            have hm1 : oA.length + 1 ≤ maxLen := by unfold maxLen; omega
            have hm2 : (oA.length + 1) * 16 ≤ 140737488355328 := by omega
            have hm3 : ∀ o o2, w.heap.size ≤ ((w3.alloc o).alloc o2).heap.size := fun o o2 => by simp; omega
            have hag : Hid (∀ q', (Value.slice ta oA.length tc).ownBlock = some q' → w.heap.size ≤ q') := fun q' hq' => (World.ownsRow.lt hO q' hq').1
            have Hn : Hid (otK L n (otI L n k) (L k) (j + 1) = oA ++ [x.id]) := Hns.out
            have hone : ∀ (j : Nat) (u : Value), [Value.string x.id][j]? = some u → ((w3.alloc (.cells #[.string y.ty, .string y.key, .string y.id] 41)).alloc (.cells #[.string x.id] 9)).cell? ((⟨w3.heap.size + 1, 0, none⟩ : Addr).add j) = some u := fun j u hu => by
              have := one_cells (w3.alloc (.cells #[.string y.ty, .string y.key, .string y.id] 41)) (.string x.id) 9 j u hu
              simpa using this
            clear hq ho hsl Hns
            go_wp2_with (at_builtin; refine wpList_append_own _ rfl _ _ 25 rfl w.heap.size 9 i0 (.string ByteArray.empty) 1 16 Try.underlying25 hi hz0 hz1 hz2 rfl (by decide) _ _ _ rfl (World.ownsRow.alloc hO _) ⟨w3.heap.size + 1, 0, none⟩ 1 1 [.string x.id] rfl rfl hone (one_one _) hm1 hm2 (hm3 _ _) ?_; intro v5 w5 hown5 hgrow5 _)
            have hO5 : OwnL w5 w.heap.size v5 (otK L n (otI L n k) (L k) (j + 1)) := by rw [Hn.out]; exact OwnL.snoc hown5
            have hB5 : Below w.heap.size w w5 := (hV5.alloc hV5.size _).grown hgrow5 (hm3 _ _) hag.out
            go_roundw
            case rel => first | exact ⟨j + 1, by omega, by go_num, hO5, hB5⟩ | ((repeat apply Exists.intro); exact ⟨⟨j + 1, by omega, by go_num, hO5, hB5⟩, rfl⟩)
            case measure => simp [intOf]; omega
        · have hjn : j = (L k).length := by omega
          subst hjn
          have hO9 : OwnL wr w.heap.size (.slice ta (otK L n (otI L n k) (L k) (L k).length).length tc) (otI L n (k + 1)) := ho
          clear ho hol hok2
          generalize (otK L n (otI L n k) (L k) (L k).length).length = q1 at *
          go_wp2
          go_roundw
          case rel => first | exact ⟨k + 1, by omega, by go_num, hO9, hB⟩ | ((repeat apply Exists.intro); exact ⟨⟨k + 1, by omega, by go_num, hO9, hB⟩, rfl⟩)
          case measure => simp [intOf]; omega
    · have hkn : k = n := by omega
      subst hkn
      have HFin : Hid (∀ W v, OwnL W w.heap.size v ((Lib.compact (bytS ((srtS (otI L k k)).map txtS))).map txtS) → Below w.heap.size w W → DiPost w L k (.returned v) W) := fun W v h1 h2 => by
        rw [bytS_txtS] at h1
        obtain ⟨q1, q2⟩ := comp_srt (otI L k k)
        exact ⟨v, _, rfl, h1, q1, q2, h2⟩
      have HS : Hid (∀ W, OwnL W w.heap.size (.slice ta (otI L k k).length tc) (otI L k k) → Calls Try.prog 41 #[.slice ta (otI L k k).length tc] W fun e w' => e = .returned (.tuple #[]) ∧ OwnL w' w.heap.size (.slice ta (otI L k k).length tc) ((srtS (otI L k k)).map txtS) ∧ W.grownBy w' (Value.slice ta (otI L k k).length tc).ownBlock) := fun W hW => sortS_own hW (by omega)
      have HC : Hid (∀ W, OwnL W w.heap.size (.slice ta (otI L k k).length tc) ((srtS (otI L k k)).map txtS) → Calls Try.prog 42 #[.slice ta (otI L k k).length tc] W fun e w' => ∃ v', e = .returned v' ∧ OwnL w' w.heap.size v' ((Lib.compact (bytS ((srtS (otI L k k)).map txtS))).map txtS) ∧ W.grownBy w' (Value.slice ta (otI L k k).length tc).ownBlock) := fun W hW => compS_own hW (by rw [List.length_map, srtS_len]; omega)
      have hag : Hid (∀ q', (Value.slice ta (otI L k k).length tc).ownBlock = some q' → w.heap.size ≤ q') := fun q' hq' => (World.ownsRow.lt ho q' hq').1
      have hsz := hB.size
      clear hokk
      generalize (otI L k k).length = q1 at *
      go_wp2_with fail
      refine (HS.out _ ho).mono ?_
      rintro e w2 ⟨rfl, ho2, hg2⟩
      have hB2 : Below w.heap.size w w2 := hB.grown hg2 hsz hag.out
      have hsz2 := hB2.size
      go_wp2_with fail
      refine (HC.out _ ho2).mono ?_
      rintro e w3 ⟨v3, rfl, ho3, hg3⟩
      have HF3 : Hid (_) := HFin.out _ _ ho3 (hB2.grown hg3 hsz2 hag.out)
      clear ho3
      go_wp2
      go_ret
      exact HF3.out

set_option maxRecDepth 100000 in
set_option maxHeartbeats 2000000 in
theorem spI_sl {a : Option Addr} {n cap : Nat} {L : Nat → List Ent} (w : World) (h : SlEE w a n cap L) :
    Calls Try.prog 7 #[.slice a n cap] w (SpPost w L n) := by
  have hn := Nat.le_trans h.le h.max
  unfold maxLen at hn
  have HN : Hid (∀ W, spOk L n = false → Below w.heap.size w W → SpPost w L n (.returned (.tuple #[.slice none 0 0, .slice none 0 0, .bool false])) W) := fun W hq hW => ⟨hW, _, _, [], [], by rw [hq], ⟨rfl, Or.inl ⟨rfl, rfl⟩⟩, OwnL.nil _ _, Or.inr ⟨hq, rfl, rfl⟩⟩
  by_cases h20 : n ≤ 20
  · cases hok : okTo L n
    case false =>
      have Hf : Hid (spOk L n = false) := by unfold Hid spOk; rw [hok, Bool.and_false]
      go_enter Try.func7, Try.ntmps7
      go_wp2_with (go_at_call 24; refine (contS_sl _ h).mono ?_; rintro e w1 ⟨rfl, hb1⟩; rw [hok])
      refine bodyPost_ret (v := .tuple #[.slice none 0 0, .slice none 0 0, .bool false]) (by simp [results, Try.results7, go_sem]) rfl (HN.out _ Hf.out hb1)
    case true =>
      have hsp : spOk L n = true := by unfold spOk; rw [hok, decide_eq_true h20]; rfl
      have Hsp : Hid (spOk L n = true) := hsp
      have Hok : Hid (okTo L n = true) := hok
      have Hall := h.ok
      have HgO : Hid (AllOk (agR L n)) := fun x hx => by
        obtain ⟨_, i, hi, hx2⟩ := ((agR_in hok).2.2 x).1 hx
        exact Hall i hi x hx2
      clear hsp Hall
      go_enter Try.func7, Try.ntmps7
      go_wp2_with (first | (go_at_call 24; refine (contS_sl _ h).mono ?_; rintro e w1 ⟨rfl, hb1⟩; rw [hok]) | fail)
      refine (agE_sl _ Hsp.out (h.below hb1)).mono ?_
      rintro e w2 ⟨v2, rfl, ho2, hb2⟩
      have h12 := hb1.trans (hb2.mono hb1.size)
      obtain ⟨ga, gc, rfl, hgs⟩ := ho2.sl HgO.out.at
      have HD : Hid (∀ W, Below w2.heap.size w2 W → Calls Try.prog 26 #[.slice a n cap, .slice ga (agR L n).length gc] W (DiPost W L n)) := fun W hW => diI_sl W Hsp.out ((h.below h12).below hW) (hgs.below hW)
      have HF : Hid (∀ w3 u So, OwnL w3 w2.heap.size u So → Srt So → (∀ t, t ∈ So ↔ t ∈ otI L n n) → Below w2.heap.size w2 w3 → SpPost w L n (.returned (.tuple #[.slice ga (agR L n).length gc, u, .bool true])) w3) := fun w3 u So q1 q2 q3 q4 => by
        obtain ⟨g1, _, g3⟩ := agR_in Hok.out
        exact ⟨h12.trans (q4.mono h12.size), _, u, agR L n, So, by rw [Hsp.out], (ho2.below q4).base_le hb1.size, q1.mono h12.size, Or.inl ⟨Hsp.out, g1, g3, q2, fun t => (q3 t).trans (otI_in L n t n)⟩⟩
      clear ho2 hgs
      generalize (agR L n).length = gl at *
      go_wp2_with fail
      refine (HD.out _ (Below.refl _ _)).mono ?_
      rintro e w3 ⟨u, So, rfl, q1, q2, q3, q4⟩
      have HF3 : Hid (SpPost w L n (.returned (.tuple #[.slice ga gl gc, u, .bool true])) w3) := HF.out w3 u So q1 q2 q3 q4
      clear q1 q2 q3
      go_wp2
      refine bodyPost_ret (v := .tuple #[.slice ga gl gc, u, .bool true]) (by simp [results, Try.results7, go_sem]) rfl HF3.out
  · have Hf : Hid (spOk L n = false) := by unfold Hid spOk; rw [decide_eq_false h20]; rfl
    go_enter Try.func7, Try.ntmps7
    go_wp2
    refine bodyPost_ret (v := .tuple #[.slice none 0 0, .slice none 0 0, .bool false]) (by simp [results, Try.results7, go_sem]) rfl (HN.out _ Hf.out (Below.refl _ _))
end Go.Proofs.Ytkfgolcjhiaacaa
