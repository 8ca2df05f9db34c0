import Derived.Test.YtgocjlpbokhoeaaStS
import Derived.Test.YtgocjlpbokhoeaaOwnM
import Derived.Deep.DeepCutAuto
import Derived.Deep.CutBlock
namespace Go.Proofs.Ytgocjlpbokhoeaa
open Go.RowKit
def setL (l : List Ent) (e : Ent) (keep : Bool) : List Ent :=
  (l.takeWhile fun x => befB x e) ++ ((if keep || !e.id.toList.isEmpty then [e] else []) ++ l.filter fun x => befB e x)
theorem takeWhile_at (l : List Ent) (p : Ent → Bool) (k : Nat) (hk : k ≤ l.length) (h0 : ∀ i, i < k → p (eAt l i) = true) (h1 : k = l.length ∨ p (eAt l k) = false) : l.takeWhile p = l.take k := by
  induction l generalizing k with
  | nil => simp
  | cons x l ih =>
    cases k with
    | zero =>
      rcases h1 with h1 | h1
      · simp at h1
      · have : p x = false := by simpa [eAt] using h1
        simp [this]
    | succ k =>
      have hx : p x = true := by simpa [eAt] using h0 0 (by omega)
      have := ih k (by simpa using hk) (fun i hi => by simpa [eAt] using h0 (i + 1) (by omega)) (by
        rcases h1 with h1 | h1
        · exact Or.inl (by simpa using h1)
        · exact Or.inr (by simpa [eAt] using h1))
      simp [hx, this]
theorem take_snocE (l : List Ent) (k : Nat) (h : k < l.length) : l.take (k + 1) = l.take k ++ [eAt l k] := by
  rw [List.take_succ_eq_append_getElem h, eAt_get l k h]
theorem filter_snocE (l : List Ent) (p : Ent → Bool) (k : Nat) (h : k < l.length) : (l.take (k + 1)).filter p = (l.take k).filter p ++ (if p (eAt l k) then [eAt l k] else []) := by
  rw [take_snocE l k h, List.filter_append]; cases hp : p (eAt l k) <;> simp [hp]
theorem heap_alloc_new2 (w : World) (o o2 : Obj) : ((w.alloc o).alloc o2).heap[w.heap.size + 1]? = some o2 := by
  show ((w.heap.push o).push o2)[w.heap.size + 1]? = _
  rw [Array.getElem?_push, if_pos (by simp)]
theorem encE_cells (w1 : World) (x : Ent) (t : TypeId) (j : Nat) (u : Value) (h : (encE x)[j]? = some u) : (w1.alloc (.cells #[.string x.ty, .string x.key, .string x.id] t)).cell? ((⟨w1.heap.size, 0, none⟩ : Addr).add j) = some u := by
  have hj : j < 3 := by
    rcases Nat.lt_or_ge j 3 with h' | h'
    · exact h'
    · rw [List.getElem?_eq_none (by simpa [encE] using h')] at h; cases h
  match j, hj, h with
  | 0, _, h => rw [show (⟨w1.heap.size, 0, none⟩ : Addr).add 0 = ⟨w1.heap.size, 0, none⟩ from rfl, World.cell?_alloc_at _ _ _ _ rfl]; exact h
  | 1, _, h => rw [show (⟨w1.heap.size, 0, none⟩ : Addr).add 1 = ⟨w1.heap.size, 1, none⟩ from rfl, World.cell?_alloc_at _ _ _ _ rfl]; exact h
  | 2, _, h => rw [show (⟨w1.heap.size, 0, none⟩ : Addr).add 2 = ⟨w1.heap.size, 2, none⟩ from rfl, World.cell?_alloc_at _ _ _ _ rfl]; exact h
theorem encE_one (x : Ent) (u : Value) (h : u ∈ encE x) : u.oneCell' = true := by
  simp only [encE, List.mem_cons, List.not_mem_nil, or_false] at h
  rcases h with rfl | rfl | rfl <;> rfl
theorem OwnE.row {w : World} {base : Nat} {v : Value} {l : List Ent} (h : OwnE w base v l) (k : Nat) (hk : v.ownBlock = some k) : base ≤ k := by
  rcases h.2 with ⟨rfl, _⟩ | ⟨g, cap, cur, rfl, hg, _⟩
  · cases hk
  · cases hk; exact hg
theorem OwnE.snoc {w : World} {base n : Nat} {v : Value} {l : List Ent} {x : Ent} (h : w.ownsRow base 38 3 v n (encL l ++ encE x)) (hn : n = l.length + 1) : OwnE w base v (l ++ [x]) := by
  subst hn
  rw [encL_snoc] at h
  unfold OwnE
  rw [List.length_append]
  exact h
theorem setHead_len (l : List Ent) (e0 : Ent) (keep : Bool) (k : Nat) : (((l.takeWhile fun x => befB x e0) ++ (if (keep || !e0.id.toList.isEmpty) then [e0] else [])) ++ (l.take k).filter fun x => befB e0 x).length ≤ l.length + (1 + l.length) := by
  rw [List.length_append, List.length_append]
  have h1 : (l.takeWhile fun x => befB x e0).length ≤ l.length := (List.takeWhile_sublist _).length_le
  have h2 : ((l.take k).filter fun x => befB e0 x).length ≤ l.length := Nat.le_trans (List.length_filter_le _ _) (by rw [List.length_take]; omega)
  split
  · rw [List.length_cons, List.length_nil]; omega
  · rw [List.length_nil]; omega
theorem OwnE.base_le {w : World} {base base' : Nat} {v : Value} {l : List Ent} (h : OwnE w base v l) (hb : base' ≤ base) : OwnE w base' v l := by
  obtain ⟨h1, h2⟩ := h
  refine ⟨h1, ?_⟩
  rcases h2 with h2 | ⟨g, cap, cur, hv, hg, r⟩
  · exact Or.inl h2
  · exact Or.inr ⟨g, cap, cur, hv, Nat.le_trans hb hg, r⟩
set_option maxRecDepth 100000 in
set_option maxHeartbeats 4000000 in
theorem set_any (b off cap : Nat) (l : List Ent) (e0 : Ent) (keep : Bool) (w : World) (hr : l.length ≤ 1000000) (hb : b < w.heap.size)
    (c1 : ∀ i, i < l.length → w.cell? ⟨b, off + i * 3, none⟩ = some (.string (eAt l i).ty)) (c2 : ∀ i, i < l.length → w.cell? ⟨b, off + i * 3 + 1, none⟩ = some (.string (eAt l i).key)) (c3 : ∀ i, i < l.length → w.cell? ⟨b, off + i * 3 + 2, none⟩ = some (.string (eAt l i).id)) :
    Calls Try.prog 19 #[.slice (some ⟨b, off, none⟩) l.length cap, entV e0, .bool keep] w fun e w' => ∃ v, e = .returned v ∧ OwnE w' w.heap.size v (setL l e0 keep) ∧ Below w.heap.size w w' := by
  obtain ⟨i0, hi, hz0, hz1, hz2⟩ := info_parts Try.infoEntry
  go_enter Try.func19, Try.ntmps19
  go_upto_block 0 with fail
  go_cut [7, 8] from 10 (fun v i wr => ∃ k : Nat, k ≤ l.length ∧ i = .int .i64 k ∧ OwnE wr (w.heap.size + 1) v (l.takeWhile fun x => befB x e0) ∧ Below (w.heap.size + 1) (w.alloc (.cells #[.string e0.ty, .string e0.key, .string e0.id] 38)) wr)
  case first =>
    go_wp2_with fail
    go_loopw [7, 8] (fun v i wr => ∃ k : Nat, k ≤ l.length ∧ i = .int .i64 k ∧ OwnE wr (w.heap.size + 1) v (l.take k) ∧ Hid (∀ i, i < k → befB (eAt l i) e0 = true) ∧ Below (w.heap.size + 1) (w.alloc (.cells #[.string e0.ty, .string e0.key, .string e0.id] 38)) wr) (fun _ i _ => l.length - (intOf i).toNat)
    case atStart => exact ⟨0, Nat.zero_le _, rfl, ⟨rfl, Or.inr ⟨w.heap.size + 1, 0, #[], rfl, Nat.le_refl _, by exact heap_alloc_new2 _ _ _, Nat.le_refl _, by decide, rfl, rfl⟩⟩, fun i hi => absurd hi (Nat.not_lt_zero _), (Below.refl _ _).alloc (by simp) _⟩
    case round =>
      obtain ⟨k, hk, rfl, hown, hto, hbel⟩ := hrel
      have hbox := box_cells hbel
      have hbw : b < w.heap.size + 1 := by omega
      have hcell : ∀ o, wr.cell? ⟨b, o, none⟩ = w.cell? ⟨b, o, none⟩ := fun o => (hbel.cell (by exact hbw)).trans (World.cell?_alloc_past _ _ _ hb)
      have hszr : w.heap.size + 1 ≤ wr.heap.size := by simpa using hbel.size
      by_cases hlt : k < l.length
      · have a1 : wr.cell? ⟨b, off + k * 3, none⟩ = some (.string (eAt l k).ty) := (hcell _).trans (c1 k hlt)
        have a2 : wr.cell? ⟨b, off + k * 3 + 1, none⟩ = some (.string (eAt l k).key) := (hcell _).trans (c2 k hlt)
        have a3 : wr.cell? ⟨b, off + k * 3 + 2, none⟩ = some (.string (eAt l k).id) := (hcell _).trans (c3 k hlt)
        have o1 : wr.cell? ⟨w.heap.size, 0, none⟩ = some (.string e0.ty) := hbox 0
        have o2 : wr.cell? ⟨w.heap.size, 1, none⟩ = some (.string e0.key) := hbox 1
        have o3 : wr.cell? ⟨w.heap.size, 2, none⟩ = some (.string e0.id) := hbox 2
        have hd : decide ((k : Int) < (l.length : Int)) = true := by simp; omega
        clear hcell hbox c1 c2 c3 hbw
        go_wp2_with fail
        go_region_with (go_at_call 42; refine (before_any (eAt l k) e0 _).mono ?_; rintro e w1 ⟨rfl, hb1⟩)
        all_goals
          have hb2 : Below wr.heap.size wr w1 := Below.trans (by first | exact Below.refl _ _ | exact (Below.refl _ _).drew | exact (Below.refl _ _).drew.drew) hb1
          have hown1 := hown.below hb2
          have hbel1 := hbel.trans (hb2.mono hszr)
          have hsz1 : w.heap.size + 1 ≤ w1.heap.size := by simpa using hbel1.size
          have q1 : w1.cell? ⟨b, off + k * 3, none⟩ = some (.string (eAt l k).ty) := (hb2.cell (by show b < _; omega)).trans a1
          have q2 : w1.cell? ⟨b, off + k * 3 + 1, none⟩ = some (.string (eAt l k).key) := (hb2.cell (by show b < _; omega)).trans a2
          have q3 : w1.cell? ⟨b, off + k * 3 + 2, none⟩ = some (.string (eAt l k).id) := (hb2.cell (by show b < _; omega)).trans a3
          clear a1 a2 a3 o1 o2 o3 hb1 hb2 hown hbel hszr hd
          have hm1 : (l.take k).length + 1 ≤ maxLen := by unfold maxLen; rw [List.length_take]; omega
          have hm2 : ((l.take k).length + 1) * 48 ≤ 140737488355328 := by rw [List.length_take]; omega
          have hm3 : ∀ o, w.heap.size + 1 ≤ (w1.alloc o).heap.size := fun o => by simp; omega
          cases hB : befB (eAt l k) e0
          · go_wp2
            go_meet
            case rel => exact ⟨k, hk, rfl, by rw [takeWhile_at l _ k hk hto.out (Or.inr hB)]; exact hown1, hbel1⟩
          · go_wp2_with (at_builtin; refine wpList_append_own _ rfl _ _ 26 rfl (w.heap.size + 1) 38 i0 (.agg #[.string ByteArray.empty, .string ByteArray.empty, .string ByteArray.empty]) 3 48 Try.underlying26 hi hz0 hz1 hz2 rfl (by decide) _ _ _ rfl (hown1.alloc _) ⟨w1.heap.size, 0, none⟩ 1 1 (encE (eAt l k)) rfl rfl (encE_cells _ _ _) (encE_one _) hm1 hm2 (hm3 _) ?_; intro v2 w2 hown2 hgrow2 _)
            have hbel2 := (hbel1.alloc hsz1 _).grown hgrow2 (by simpa using Nat.le_succ_of_le hsz1) (fun k hk => hown1.row k hk)
            have hown3 : OwnE w2 (w.heap.size + 1) v2 (l.take (k + 1)) := by rw [take_snocE l k hlt]; exact OwnE.snoc hown2 (by first | rfl | (simp; omega))
            clear hown2 hgrow2 hown1 hbel1 q1 q2 q3
            go_wp2
            go_roundw
            case rel => exact ⟨k + 1, by omega, by go_num, hown3, fun i hi => by (by_cases e : i = k; (subst e; exact hB); exact hto.out i (by omega)), hbel2⟩
            case measure => simp [intOf]; omega
      · have hd : decide ((k : Int) < (l.length : Int)) = false := by simp; omega
        clear hcell hbox c1 c2 c3 hbw
        go_wp2_with fail
        go_quiet (fail)
        go_wp2
        go_meet
        case rel => exact ⟨k, hk, rfl, by rw [takeWhile_at l _ k hk hto.out (Or.inl (by omega))]; exact hown.below (Dr.below ⟨_, rfl⟩ _), hbel.trans (Dr.below ⟨_, rfl⟩ _)⟩
  case rest =>
    obtain ⟨k1, hk1, rfl, hown, hbel⟩ := hcut
    have hszc : w.heap.size + 1 ≤ wc.heap.size := by simpa using hbel.size
    have hbox := box_cells hbel
    have o1 : wc.cell? ⟨w.heap.size, 0, none⟩ = some (.string e0.ty) := hbox 0
    have o2 : wc.cell? ⟨w.heap.size, 1, none⟩ = some (.string e0.key) := hbox 1
    have o3 : wc.cell? ⟨w.heap.size, 2, none⟩ = some (.string e0.id) := hbox 2
    clear hbox
    go_upto_region 6 with fail
    go_cut [37] from 10 (fun s wx => s = .bool (keep || !e0.id.toList.isEmpty) ∧ OwnE wx (w.heap.size + 1) u7 (l.takeWhile fun x => befB x e0) ∧ Below (w.heap.size + 1) (w.alloc (.cells #[.string e0.ty, .string e0.key, .string e0.id] 38)) wx)
    case first =>
      cases keep
      all_goals
        go_wp2
        go_meet
        case rel => exact ⟨rfl, hown, hbel⟩
    case rest =>
      clear hown hbel o1 o2 o3 hszc
      obtain ⟨rfl, hown, hbel⟩ := hcut
      have hszc : w.heap.size + 1 ≤ wc.heap.size := by simpa using hbel.size
      have hbox := box_cells hbel
      have o1 : wc.cell? ⟨w.heap.size, 0, none⟩ = some (.string e0.ty) := hbox 0
      have o2 : wc.cell? ⟨w.heap.size, 1, none⟩ = some (.string e0.key) := hbox 1
      have o3 : wc.cell? ⟨w.heap.size, 2, none⟩ = some (.string e0.id) := hbox 2
      clear hbox
      go_upto_if 37 with fail
      go_cut [7] from 10 (fun v wx => OwnE wx (w.heap.size + 1) v ((l.takeWhile fun x => befB x e0) ++ (if (keep || !e0.id.toList.isEmpty) then [e0] else [])) ∧ Below (w.heap.size + 1) (w.alloc (.cells #[.string e0.ty, .string e0.key, .string e0.id] 38)) wx)
      case first =>
        have htw : (l.takeWhile fun x => befB x e0).length ≤ l.length := (List.takeWhile_sublist _).length_le
        have hm1 : (l.takeWhile fun x => befB x e0).length + 1 ≤ maxLen := by unfold maxLen; omega
        have hm2 : ((l.takeWhile fun x => befB x e0).length + 1) * 48 ≤ 140737488355328 := by omega
        have hm3 : ∀ o, w.heap.size + 1 ≤ (wc.alloc o).heap.size := fun o => by simp; omega
        cases hc : (keep || !e0.id.toList.isEmpty)
        · go_wp2
          go_meet
          case rel => exact ⟨by rw [hc, if_neg (by decide), List.append_nil]; exact hown, hbel⟩
        · clear htw
          go_wp2_with (at_builtin; refine wpList_append_own _ rfl _ _ 26 rfl (w.heap.size + 1) 38 i0 (.agg #[.string ByteArray.empty, .string ByteArray.empty, .string ByteArray.empty]) 3 48 Try.underlying26 hi hz0 hz1 hz2 rfl (by decide) _ _ _ rfl (hown.alloc _) ⟨wc.heap.size, 0, none⟩ 1 1 (encE e0) rfl rfl (encE_cells _ _ _) (encE_one _) hm1 hm2 (hm3 _) ?_; intro v2 w2 hown2 hgrow2 _)
          have hbel2 := (hbel.alloc hszc _).grown hgrow2 (by simpa using Nat.le_succ_of_le hszc) (fun k hk => hown.row k hk)
          have hown3 := OwnE.snoc hown2 rfl
          clear hown2 hgrow2
          go_wp2
          go_meet
          case rel => exact ⟨by rw [hc, if_pos rfl]; exact hown3, hbel2⟩
      case rest =>
        clear hown hbel o1 o2 o3 hszc
        obtain ⟨hown, hbel⟩ := hcut
        go_wp2_with fail
        go_loopw [7, 9] (fun v i wr => ∃ k : Nat, k ≤ l.length ∧ i = .int .i64 k ∧ OwnE wr (w.heap.size + 1) v (((l.takeWhile fun x => befB x e0) ++ (if (keep || !e0.id.toList.isEmpty) then [e0] else [])) ++ (l.take k).filter fun x => befB e0 x) ∧ Below (w.heap.size + 1) (w.alloc (.cells #[.string e0.ty, .string e0.key, .string e0.id] 38)) wr) (fun _ i _ => l.length - (intOf i).toNat)
        case atStart => exact ⟨0, Nat.zero_le _, rfl, by simpa using hown, hbel⟩
        case round =>
          clear hown hbel
          obtain ⟨k, hk, rfl, hown, hbel⟩ := hrel
          have hbox := box_cells hbel
          have hcell : ∀ o, wr.cell? ⟨b, o, none⟩ = w.cell? ⟨b, o, none⟩ := fun o => (hbel.cell (by exact Nat.lt_succ_of_lt hb)).trans (World.cell?_alloc_past _ _ _ hb)
          have hszr : w.heap.size + 1 ≤ wr.heap.size := by simpa using hbel.size
          by_cases hlt : k < l.length
          · have a1 : wr.cell? ⟨b, off + k * 3, none⟩ = some (.string (eAt l k).ty) := (hcell _).trans (c1 k hlt)
            have a2 : wr.cell? ⟨b, off + k * 3 + 1, none⟩ = some (.string (eAt l k).key) := (hcell _).trans (c2 k hlt)
            have a3 : wr.cell? ⟨b, off + k * 3 + 2, none⟩ = some (.string (eAt l k).id) := (hcell _).trans (c3 k hlt)
            have o1 : wr.cell? ⟨w.heap.size, 0, none⟩ = some (.string e0.ty) := hbox 0
            have o2 : wr.cell? ⟨w.heap.size, 1, none⟩ = some (.string e0.key) := hbox 1
            have o3 : wr.cell? ⟨w.heap.size, 2, none⟩ = some (.string e0.id) := hbox 2
            clear hcell hbox c1 c2 c3
            go_wp2_with fail
            go_region_with (go_at_call 42; refine (before_any e0 (eAt l k) _).mono ?_; rintro e w1 ⟨rfl, hb1⟩)
            all_goals
              have hb2 : Below wr.heap.size wr w1 := Below.trans (by first | exact Below.refl _ _ | exact (Below.refl _ _).drew | exact (Below.refl _ _).drew.drew) hb1
              have hown1 := hown.below hb2
              have hbel1 := hbel.trans (hb2.mono hszr)
              have hsz1 : w.heap.size + 1 ≤ w1.heap.size := by simpa using hbel1.size
              have q1 : w1.cell? ⟨b, off + k * 3, none⟩ = some (.string (eAt l k).ty) := (hb2.cell (by show b < _; omega)).trans a1
              have q2 : w1.cell? ⟨b, off + k * 3 + 1, none⟩ = some (.string (eAt l k).key) := (hb2.cell (by show b < _; omega)).trans a2
              have q3 : w1.cell? ⟨b, off + k * 3 + 2, none⟩ = some (.string (eAt l k).id) := (hb2.cell (by show b < _; omega)).trans a3
              clear a1 a2 a3 o1 o2 o3 hb1 hb2 hown hbel hszr
              have hll := setHead_len l e0 keep k
              have hm1 : (((l.takeWhile fun x => befB x e0) ++ (if (keep || !e0.id.toList.isEmpty) then [e0] else [])) ++ (l.take k).filter fun x => befB e0 x).length + 1 ≤ maxLen := by unfold maxLen; omega
              have hm2 : ((((l.takeWhile fun x => befB x e0) ++ (if (keep || !e0.id.toList.isEmpty) then [e0] else [])) ++ (l.take k).filter fun x => befB e0 x).length + 1) * 48 ≤ 140737488355328 := by omega
              have hm3 : ∀ o, w.heap.size + 1 ≤ (w1.alloc o).heap.size := fun o => by simp; omega
              clear hll
              cases hB : befB e0 (eAt l k)
              · go_wp2
                go_roundw
                case rel => exact ⟨k + 1, by omega, by go_num, by rw [filter_snocE l _ k hlt, hB]; simpa using hown1, hbel1⟩
                case measure => simp [intOf]; omega
              · go_wp2_with (at_builtin; refine wpList_append_own _ rfl _ _ 26 rfl (w.heap.size + 1) 38 i0 (.agg #[.string ByteArray.empty, .string ByteArray.empty, .string ByteArray.empty]) 3 48 Try.underlying26 hi hz0 hz1 hz2 rfl (by decide) _ _ _ rfl (hown1.alloc _) ⟨w1.heap.size, 0, none⟩ 1 1 (encE (eAt l k)) rfl rfl (encE_cells _ _ _) (encE_one _) hm1 hm2 (hm3 _) ?_; intro v2 w2 hown2 hgrow2 _)
                have hbel2 := (hbel1.alloc hsz1 _).grown hgrow2 (by simpa using Nat.le_succ_of_le hsz1) (fun k hk => hown1.row k hk)
                have hown3 := OwnE.snoc hown2 rfl
                clear hown2 hgrow2 hown1 hbel1 q1 q2 q3
                go_wp2
                go_roundw
                case rel => exact ⟨k + 1, by omega, by go_num, by rw [filter_snocE l _ k hlt, hB, if_pos rfl, ← List.append_assoc]; exact hown3, hbel2⟩
                case measure => simp [intOf]; omega
          · clear hcell hbox c1 c2 c3
            go_wp2
            go_ret
            refine ⟨_, rfl, ?_, ?_⟩
            · have e1 : setL l e0 keep = ((l.takeWhile fun x => befB x e0) ++ (if (keep || !e0.id.toList.isEmpty) then [e0] else [])) ++ (l.take k).filter fun x => befB e0 x := by rw [setL, List.take_of_length_le (by omega), List.append_assoc]
              rw [e1]
              exact hown.base_le (Nat.le_succ _)
            · exact ((Below.refl _ _).alloc (Nat.le_refl _) _).trans (hbel.mono (Nat.le_succ _))
end Go.Proofs.Ytgocjlpbokhoeaa
