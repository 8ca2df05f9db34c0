/-
  impl's powerOf, mainline, idsAt, Mainline.
-/
import Derived.Test.YtfjfhnjoghlbfaaGreatTpA
import Derived.Test.YtfjfhnjoghlbfaaGreatRmB
namespace Go.Proofs.YtfjfhnjoghlbfaaGreat
open Go.RowKit Go.Maps Go.ChangeMaps

theorem isPow_ty {e : Ev} {b : Bool} (h : isPow e = b) : (e.ty.toList == [112, 111, 119, 101, 114]) = b := h

set_option maxRecDepth 100000 in
set_option maxHeartbeats 1000000 in
theorem powI_sl {a : Option Addr} {n cap m : Nat} {E : Nat → Ev} {ra : Option Addr} {rc p : Nat} (w : World) (hroom : roomTo E n = true) (hp : p < n) (h : SlV w a n cap E) (hr : SlL w ra n rc (restN E) (restV E)) :
    Calls Tryz.prog 65 #[.agg #[.slice a n cap, .map (some m), .slice ra n rc], .int .i64 (p : Int)] w fun e w' => e = .returned (.int .i64 (pwV E n p)) ∧ Below w.heap.size w w' := by
  have h300 := room_300 hroom
  rcases h.cells with h0 | ⟨b, off, rfl, hb, hc⟩
  · omega
  rcases hr.cells with h0 | ⟨br, orr, rfl, hbr, hcr⟩
  · omega
  obtain ⟨xa, xc, hx0, hxs⟩ := hcr p hp
  have hx : w.cell? ⟨br, orr + p, none⟩ = some (.slice xa (E p).na xc) := hx0
  have hna : (E p).na ≤ maxLen := Nat.le_trans hxs.le hxs.max
  unfold maxLen at hna
  have hb0 : Below w.heap.size w (w.alloc (.cells #[.slice (some ⟨b, off, none⟩) n cap, .map (some m), .slice (some ⟨br, orr, none⟩) n rc] 48)) := (Below.refl _ _).alloc (Nat.le_refl _) _
  have Hroom : Hid (_) := hroom
  have Hend : Hid (∀ x, x = pwV E n p → Ending.returned (.int .i64 x) = .returned (.int .i64 (pwV E n p))) := fun x hx => by rw [hx]
  clear hx0 hcr h hr hroom
  go_enter Tryz.func65, Tryz.ntmps65
  go_wp2_with fail
  go_loop [13] (fun i => ∃ k : Nat, k ≤ (E p).na ∧ i = .int .i64 k ∧ Hid (∀ i, i < k → isPow (E (posV E n ((E p).Av i)).toNat) = false)) (fun i => (E p).na - (intOf i).toNat)
  case atStart => exact ⟨0, Nat.zero_le _, rfl, fun i hi => absurd hi (Nat.not_lt_zero _)⟩
  case round =>
    obtain ⟨k, hk, rfl, hto⟩ := hrel
    by_cases hlt : k < (E p).na
    · rcases hxs.cells with h0 | ⟨bx, ox, rfl, hbx, hcx⟩
      · exact absurd h0 (by show ¬ (E p).na = 0; omega)
      obtain ⟨y, hy, ey, _⟩ := auth_there Hroom.out hp hlt
      have hyr : posV E p ((E p).Av k) = (y : Int) := (room_auth Hroom.out hp hlt).2.2.trans ey
      have hcy : w.cell? ⟨bx, ox + k, none⟩ = some (.int .i64 (y : Int)) := by rw [← hyr]; exact hcx k hlt
      have hyn : y < n := by omega
      obtain ⟨_, _, _, _, _, _, hec, _⟩ := hc y hyn
      have hty := hec.c2
      have Hey : Hid (_ = _) := ey
      clear hcx hec ey hyr hc hxs
      cases hq : isPow (E y)
      case false =>
        have hqt := isPow_ty hq
        have Hto : Hid (∀ i, i < k + 1 → isPow (E (posV E n ((E p).Av i)).toNat) = false) := fun i hi => by
          by_cases e : i = k
          · subst e; rw [Hey.out, Int.toNat_natCast]; exact hq
          · exact hto.out i (by omega)
        clear hto hq
        go_wp2
        go_round
        case rel => exact ⟨k + 1, by omega, by go_num, Hto⟩
        case measure => simp [intOf]; omega
      case true =>
        have hqt := isPow_ty hq
        have Hh : Hid ((y : Int) = pwV E n p) := (scTo_hit hlt hto.out Hey.out hq).symm
        clear hto hq
        go_wp2
        go_ret
        exact ⟨Hend.out _ Hh.out, hb0⟩
    · have Hh : Hid ((-1 : Int) = pwV E n p) := (scTo_miss _ (fun i hi => hto.out i (by omega))).symm
      go_wp2
      go_ret
      exact ⟨Hend.out _ Hh.out, hb0⟩

/-- what idsAt answers. -/
def IaPost (w : World) (E : Nat → Ev) (X : Nat → Int) (m : Nat) (e : Ending) (w' : World) : Prop :=
  ∃ v, e = .returned v ∧ OwnT w' w.heap.size v m (fun k => (E (X k).toNat).id) ∧ Below w.heap.size w w'

set_option maxRecDepth 100000 in
set_option maxHeartbeats 1000000 in
theorem idsI_any (b off n cap : Nat) (E : Nat → Ev) (mm : Option Nat) (ra : Option Addr) (nr rc : Nat) (B O m cb : Nat) (X : Nat → Int) (w : World) (hm : m ≤ 1048576) (hb : b < w.heap.size) (hB : B < w.heap.size)
    (hc : ∀ i, i < n → w.cell? ⟨b, off + i * 10, none⟩ = some (.string (E i).id)) (hX : ∀ k, k < m → w.cell? ⟨B, O + k, none⟩ = some (.int .i64 (X k))) (hXn : ∀ k, k < m → ∃ p, p < n ∧ X k = (p : Int)) :
    Calls Tryz.prog 22 #[.agg #[.slice (some ⟨b, off, none⟩) n cap, .map mm, .slice ra nr rc], .slice (some ⟨B, O, none⟩) m cb] w (IaPost w E X m) := by
  obtain ⟨i0, hi, hz0, hz1, hz2⟩ := info_parts Tryz.infoString
  obtain ⟨wb, hwb⟩ : ∃ wb, wb = w.alloc (.cells #[.slice (some ⟨b, off, none⟩) n cap, .map mm, .slice ra nr rc] 48) := ⟨_, rfl⟩
  have hb0 : Below w.heap.size w wb := by rw [hwb]; exact (Below.refl _ _).alloc (Nat.le_refl _) _
  have hs0 : wb.heap.size = w.heap.size + 1 := by rw [hwb]; simp
  have hbx : Hid (∀ wx, Below (w.heap.size + 1) wb wx → wx.cell? ⟨w.heap.size, 0, none⟩ = some (.slice (some ⟨b, off, none⟩) n cap)) := fun wx hx => by subst hwb; exact box_cells hx 0
  have HX : Hid (_) := hX
  have HXn : Hid (_) := hXn
  clear hX hXn
  go_enter Tryz.func22, Tryz.ntmps22
  go_wp2_with fail
  rw [← hwb]
  go_loopw [5, 10] (fun v i wr => ∃ k : Nat, k ≤ m ∧ i = .int .i64 k ∧ OwnT wr (w.heap.size + 1) v k (fun k => (E (X k).toNat).id) ∧ Below (w.heap.size + 1) wb wr) (fun _ i _ => m - (intOf i).toNat)
  case atStart => exact ⟨0, Nat.zero_le _, rfl, OwnT.nil _ _ _, Below.refl _ _⟩
  case round =>
    obtain ⟨k, hk, rfl, hown, hbl⟩ := hrel
    have hbw := hb0.trans (hbl.mono (by omega))
    have hbx0 := hbx.out _ hbl
    have hso : w.heap.size + 1 ≤ wr.heap.size := by have := hbl.size; omega
    by_cases hlt : k < m
    · obtain ⟨p, hp, ep⟩ := HXn.out k hlt
      have hxk : wr.cell? ⟨B, O + k, none⟩ = some (.int .i64 (p : Int)) := by rw [← ep]; exact (hbw.cell (by exact hB)).trans (HX.out k hlt)
      have hek : wr.cell? ⟨b, off + p * 10, none⟩ = some (.string (E p).id) := (hbw.cell (by exact hb)).trans (hc p hp)
      have Hx : Hid ((E p).id = (E (X k).toNat).id) := by show _ = _; rw [ep, Int.toNat_natCast]
      have hm1 : k + 1 ≤ maxLen := by unfold maxLen; omega
      have hm2 : (k + 1) * 16 ≤ 140737488355328 := by omega
      have hm3 : ∀ o, w.heap.size + 1 ≤ (wr.alloc o).heap.size := fun o => by simp; omega
      have hag : Hid (∀ q', u5.ownBlock = some q' → w.heap.size + 1 ≤ q') := fun q' hq' => (World.ownsRow.lt hown q' hq').1
      clear hc ep
      go_wp2_with (at_builtin; refine wpList_append_own _ rfl _ _ 25 rfl (w.heap.size + 1) 9 i0 (.string ByteArray.empty) 1 16 Tryz.underlying25 hi hz0 hz1 hz2 rfl (by decide) _ _ _ rfl (World.ownsRow.alloc hown _) ⟨wr.heap.size, 0, none⟩ 1 1 [.string (E p).id] rfl rfl (one_cells _ _ _) (one_one _) hm1 hm2 (hm3 _) ?_; intro v2 w2 hown2 hgrow2 _)
      have hown3 : OwnT w2 (w.heap.size + 1) v2 (k + 1) (fun k => (E (X k).toNat).id) := OwnT.snoc hown2 Hx.out
      have hB2 : Below (w.heap.size + 1) wb w2 := (hbl.alloc (by omega) _).grown hgrow2 (hm3 _) hag.out
      go_roundw
      case rel => exact ⟨k + 1, by omega, by go_num, hown3, hB2⟩
      case measure => simp [intOf]; omega
    · have hkm : k = m := by omega
      subst hkm
      go_wp2
      go_ret
      exact ⟨_, rfl, hown.mono (by omega), hbw⟩

set_option maxRecDepth 100000 in
theorem idsI_zero (a : Option Addr) (n cap : Nat) (E : Nat → Ev) (mm : Option Nat) (ra : Option Addr) (nr rc : Nat) (B : Option Addr) (cb : Nat) (X : Nat → Int) (w : World) :
    Calls Tryz.prog 22 #[.agg #[.slice a n cap, .map mm, .slice ra nr rc], .slice B 0 cb] w (IaPost w E X 0) := by
  go_enter Tryz.func22, Tryz.ntmps22
  go_wp2_with fail
  refine wp_loop_rounds 1 ?_
  rw [rounds_succ]
  go_wp2
  go_ret
  exact ⟨_, rfl, OwnT.nil _ _ _, (Below.refl _ _).alloc (Nat.le_refl _) _⟩

theorem idsI_sl {a : Option Addr} {n cap : Nat} {E : Nat → Ev} {mm : Option Nat} {ra : Option Addr} {nr rc : Nat} {B : Option Addr} {m cb : Nat} {X : Nat → Int} (w : World) (hm : m ≤ 1048576) (h : SlV w a n cap E) (hX : SlI w B m cb X) (hXn : ∀ k, k < m → ∃ p, p < n ∧ X k = (p : Int)) :
    Calls Tryz.prog 22 #[.agg #[.slice a n cap, .map mm, .slice ra nr rc], .slice B m cb] w (IaPost w E X m) := by
  rcases hX.cells with rfl | ⟨g, O, rfl, hg, hc⟩
  · exact idsI_zero a n cap E mm ra nr rc B cb X w
  · rcases h.ids with rfl | ⟨b, off, rfl, hb, hcs⟩
    · rcases Nat.eq_zero_or_pos m with rfl | h0
      · exact idsI_zero a 0 cap E mm ra nr rc _ cb X w
      · obtain ⟨p, hp, _⟩ := hXn 0 h0
        omega
    · exact idsI_any b off n cap E mm ra nr rc g O m cb X w hm hb hg hcs hc hXn

/-- what mainline answers. -/
def MnPost (w : World) (E : Nat → Ev) (n : Nat) (s : ByteArray) (e : Ending) (w' : World) : Prop := Below w.heap.size w w' ∧
  ∃ v, e = .returned (.tuple #[v, .bool (mlOk E n s)]) ∧ OwnI w' w.heap.size v (mlL E n s).length (lX (mlL E n s))
theorem MnPost.no {w : World} {E : Nat → Ev} {n : Nat} {s : ByteArray} {w' : World} (h : mlOk E n s = false) (hb : Below w.heap.size w w') : MnPost w E n s (.returned (.tuple #[.slice none 0 0, .bool false])) w' := by
  refine ⟨hb, _, by rw [h], ?_⟩
  unfold mlL
  rw [h]
  exact OwnI.nil _ _ _
theorem MnPost.yes {w : World} {E : Nat → Ev} {n : Nat} {s : ByteArray} {v : Value} {w' : World} {l : List Nat} (h : mlOk E n s = true) (hl : l = ln E n (posV E n s)) (hb : Below w.heap.size w w') (ho : OwnI w' w.heap.size v l.length (lX l)) : MnPost w E n s (.returned (.tuple #[v, .bool true])) w' := by
  refine ⟨hb, v, by rw [h], ?_⟩
  unfold mlL
  rw [h, if_pos rfl, ← hl]
  exact ho
theorem OwnI.monoM {w : World} {base base' n : Nat} {v : Value} {X : Nat → Int} (h : OwnI w base v n X) (hb : base' ≤ base) : OwnI w base' v n X := by
  obtain ⟨h1, h2⟩ := h
  exact ⟨h1, h2.imp id fun ⟨g, cap, cur, e, hg, r⟩ => ⟨g, cap, cur, e, Nat.le_trans hb hg, r⟩⟩

end Go.Proofs.YtfjfhnjoghlbfaaGreat
