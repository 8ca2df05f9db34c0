/-
  impl's powerOf, mainline, idsAt, Mainline.
-/
import Derived.Test.YtdapefcnmhbgkaaGreatMlA
import Derived.Test.YtdapefcnmhbgkaaGreatRmS
namespace Go.Proofs.YtdapefcnmhbgkaaGreat
open Go.RowKit Go.Maps Go.ChangeMaps

theorem isPow_ty {e : Ev} {b : Bool} (h : isPow e = b) : (e.ty.toList == [112, 111, 119, 101, 114]) = b := h

set_option maxRecDepth 100000 in
set_option maxHeartbeats 1000000 in
theorem powI_sl {a : Option Addr} {n cap m : Nat} {E : Nat → Ev} {ra : Option Addr} {rc p : Nat} (w : World) (hroom : roomTo E n = true) (hp : p < n) (h : SlV w a n cap E) (hr : SlL w ra n rc (restN E) (restV E)) :
    Calls Tryz.prog 39 #[.agg #[.slice a n cap, .map (some m), .slice ra n rc], .int .i64 (p : Int)] w fun e w' => e = .returned (.int .i64 (pwV E n p)) ∧ Below w.heap.size w w' := by
  have h300 := room_300 hroom
  rcases h.cells with h0 | ⟨b, off, rfl, hb, hc⟩
  · omega
  rcases hr.cells with h0 | ⟨br, orr, rfl, hbr, hcr⟩
  · omega
  obtain ⟨xa, xc, hx0, hxs⟩ := hcr p hp
  have hx : w.cell? ⟨br, orr + p, none⟩ = some (.slice xa (E p).na xc) := hx0
  have hna : (E p).na ≤ maxLen := Nat.le_trans hxs.le hxs.max
  unfold maxLen at hna
  have hb0 : Below w.heap.size w (w.alloc (.cells #[.slice (some ⟨b, off, none⟩) n cap, .map (some m), .slice (some ⟨br, orr, none⟩) n rc] 48)) := (Below.refl _ _).alloc (Nat.le_refl _) _
  have Hroom : Hid (_) := hroom
  have Hend : Hid (∀ x, x = pwV E n p → Ending.returned (.int .i64 x) = .returned (.int .i64 (pwV E n p))) := fun x hx => by rw [hx]
  clear hx0 hcr h hr hroom
  go_enter Tryz.func39, Tryz.ntmps39
  go_wp2_with fail
  go_loop [13] (fun i => ∃ k : Nat, k ≤ (E p).na ∧ i = .int .i64 k ∧ Hid (∀ i, i < k → isPow (E (posV E n ((E p).Av i)).toNat) = false)) (fun i => (E p).na - (intOf i).toNat)
  case atStart => exact ⟨0, Nat.zero_le _, rfl, fun i hi => absurd hi (Nat.not_lt_zero _)⟩
  case round =>
    obtain ⟨k, hk, rfl, hto⟩ := hrel
    by_cases hlt : k < (E p).na
    · rcases hxs.cells with h0 | ⟨bx, ox, rfl, hbx, hcx⟩
      · exact absurd h0 (by show ¬ (E p).na = 0; omega)
      obtain ⟨y, hy, ey, _⟩ := auth_there Hroom.out hp hlt
      have hyr : posV E p ((E p).Av k) = (y : Int) := (room_auth Hroom.out hp hlt).2.2.trans ey
      have hcy : w.cell? ⟨bx, ox + k, none⟩ = some (.int .i64 (y : Int)) := by rw [← hyr]; exact hcx k hlt
      have hyn : y < n := by omega
      obtain ⟨_, _, _, _, _, _, hec, _⟩ := hc y hyn
      have hty := hec.c2
      have Hey : Hid (_ = _) := ey
      clear hcx hec ey hyr hc hxs
      cases hq : isPow (E y)
      case false =>
        have hqt := isPow_ty hq
        have Hto : Hid (∀ i, i < k + 1 → isPow (E (posV E n ((E p).Av i)).toNat) = false) := fun i hi => by
          by_cases e : i = k
          · subst e; rw [Hey.out, Int.toNat_natCast]; exact hq
          · exact hto.out i (by omega)
        clear hto hq
        go_wp2
        go_round
        case rel => exact ⟨k + 1, by omega, by go_num, Hto⟩
        case measure => simp [intOf]; omega
      case true =>
        have hqt := isPow_ty hq
        have Hh : Hid ((y : Int) = pwV E n p) := (scTo_hit hlt hto.out Hey.out hq).symm
        clear hto hq
        go_wp2
        go_ret
        exact ⟨Hend.out _ Hh.out, hb0⟩
    · have Hh : Hid ((-1 : Int) = pwV E n p) := (scTo_miss _ (fun i hi => hto.out i (by omega))).symm
      go_wp2
      go_ret
      exact ⟨Hend.out _ Hh.out, hb0⟩

/-- what idsAt answers. -/
def IaPost (w : World) (E : Nat → Ev) (X : Nat → Int) (m : Nat) (e : Ending) (w' : World) : Prop :=
  ∃ v, e = .returned v ∧ OwnT w' w.heap.size v m (fun k => (E (X k).toNat).id) ∧ Below w.heap.size w w'

set_option maxRecDepth 100000 in
set_option maxHeartbeats 1000000 in
theorem idsI_any (b off n cap : Nat) (E : Nat → Ev) (mm : Option Nat) (ra : Option Addr) (nr rc : Nat) (B O m cb : Nat) (X : Nat → Int) (w : World) (hm : m ≤ 1048576) (hb : b < w.heap.size) (hB : B < w.heap.size)
    (hc : ∀ i, i < n → w.cell? ⟨b, off + i * 10, none⟩ = some (.string (E i).id)) (hX : ∀ k, k < m → w.cell? ⟨B, O + k, none⟩ = some (.int .i64 (X k))) (hXn : ∀ k, k < m → ∃ p, p < n ∧ X k = (p : Int)) :
    Calls Tryz.prog 23 #[.agg #[.slice (some ⟨b, off, none⟩) n cap, .map mm, .slice ra nr rc], .slice (some ⟨B, O, none⟩) m cb] w (IaPost w E X m) := by
  obtain ⟨i0, hi, hz0, hz1, hz2⟩ := info_parts Tryz.infoString
  obtain ⟨wb, hwb⟩ : ∃ wb, wb = w.alloc (.cells #[.slice (some ⟨b, off, none⟩) n cap, .map mm, .slice ra nr rc] 48) := ⟨_, rfl⟩
  have hb0 : Below w.heap.size w wb := by rw [hwb]; exact (Below.refl _ _).alloc (Nat.le_refl _) _
  have hs0 : wb.heap.size = w.heap.size + 1 := by rw [hwb]; simp
  have hbx : Hid (∀ wx, Below (w.heap.size + 1) wb wx → wx.cell? ⟨w.heap.size, 0, none⟩ = some (.slice (some ⟨b, off, none⟩) n cap)) := fun wx hx => by subst hwb; exact box_cells hx 0
  have HX : Hid (_) := hX
  have HXn : Hid (_) := hXn
  clear hX hXn
  go_enter Tryz.func23, Tryz.ntmps23
  go_wp2_with fail
  rw [← hwb]
  go_loopw [5, 10] (fun v i wr => ∃ k : Nat, k ≤ m ∧ i = .int .i64 k ∧ OwnT wr (w.heap.size + 1) v k (fun k => (E (X k).toNat).id) ∧ Below (w.heap.size + 1) wb wr) (fun _ i _ => m - (intOf i).toNat)
  case atStart => exact ⟨0, Nat.zero_le _, rfl, OwnT.nil _ _ _, Below.refl _ _⟩
  case round =>
    obtain ⟨k, hk, rfl, hown, hbl⟩ := hrel
    have hbw := hb0.trans (hbl.mono (by omega))
    have hbx0 := hbx.out _ hbl
    have hso : w.heap.size + 1 ≤ wr.heap.size := by have := hbl.size; omega
    by_cases hlt : k < m
    · obtain ⟨p, hp, ep⟩ := HXn.out k hlt
      have hxk : wr.cell? ⟨B, O + k, none⟩ = some (.int .i64 (p : Int)) := by rw [← ep]; exact (hbw.cell (by exact hB)).trans (HX.out k hlt)
      have hek : wr.cell? ⟨b, off + p * 10, none⟩ = some (.string (E p).id) := (hbw.cell (by exact hb)).trans (hc p hp)
      have Hx : Hid ((E p).id = (E (X k).toNat).id) := by show _ = _; rw [ep, Int.toNat_natCast]
      have hm1 : k + 1 ≤ maxLen := by unfold maxLen; omega
      have hm2 : (k + 1) * 16 ≤ 140737488355328 := by omega
      have hm3 : ∀ o, w.heap.size + 1 ≤ (wr.alloc o).heap.size := fun o => by simp; omega
      have hag : Hid (∀ q', u5.ownBlock = some q' → w.heap.size + 1 ≤ q') := fun q' hq' => (World.ownsRow.lt hown q' hq').1
      clear hc ep
      go_wp2_with (at_builtin; refine wpList_append_own _ rfl _ _ 25 rfl (w.heap.size + 1) 9 i0 (.string ByteArray.empty) 1 16 Tryz.underlying25 hi hz0 hz1 hz2 rfl (by decide) _ _ _ rfl (World.ownsRow.alloc hown _) ⟨wr.heap.size, 0, none⟩ 1 1 [.string (E p).id] rfl rfl (one_cells _ _ _) (one_one _) hm1 hm2 (hm3 _) ?_; intro v2 w2 hown2 hgrow2 _)
      have hown3 : OwnT w2 (w.heap.size + 1) v2 (k + 1) (fun k => (E (X k).toNat).id) := OwnT.snoc hown2 Hx.out
      have hB2 : Below (w.heap.size + 1) wb w2 := (hbl.alloc (by omega) _).grown hgrow2 (hm3 _) hag.out
      go_roundw
      case rel => exact ⟨k + 1, by omega, by go_num, hown3, hB2⟩
      case measure => simp [intOf]; omega
    · have hkm : k = m := by omega
      subst hkm
      go_wp2
      go_ret
      exact ⟨_, rfl, hown.mono (by omega), hbw⟩

set_option maxRecDepth 100000 in
theorem idsI_zero (a : Option Addr) (n cap : Nat) (E : Nat → Ev) (mm : Option Nat) (ra : Option Addr) (nr rc : Nat) (B : Option Addr) (cb : Nat) (X : Nat → Int) (w : World) :
    Calls Tryz.prog 23 #[.agg #[.slice a n cap, .map mm, .slice ra nr rc], .slice B 0 cb] w (IaPost w E X 0) := by
  go_enter Tryz.func23, Tryz.ntmps23
  go_wp2_with fail
  refine wp_loop_rounds 1 ?_
  rw [rounds_succ]
  go_wp2
  go_ret
  exact ⟨_, rfl, OwnT.nil _ _ _, (Below.refl _ _).alloc (Nat.le_refl _) _⟩

theorem idsI_sl {a : Option Addr} {n cap : Nat} {E : Nat → Ev} {mm : Option Nat} {ra : Option Addr} {nr rc : Nat} {B : Option Addr} {m cb : Nat} {X : Nat → Int} (w : World) (hm : m ≤ 1048576) (h : SlV w a n cap E) (hX : SlI w B m cb X) (hXn : ∀ k, k < m → ∃ p, p < n ∧ X k = (p : Int)) :
    Calls Tryz.prog 23 #[.agg #[.slice a n cap, .map mm, .slice ra nr rc], .slice B m cb] w (IaPost w E X m) := by
  rcases hX.cells with rfl | ⟨g, O, rfl, hg, hc⟩
  · exact idsI_zero a n cap E mm ra nr rc B cb X w
  · rcases h.ids with rfl | ⟨b, off, rfl, hb, hcs⟩
    · rcases Nat.eq_zero_or_pos m with rfl | h0
      · exact idsI_zero a 0 cap E mm ra nr rc _ cb X w
      · obtain ⟨p, hp, _⟩ := hXn 0 h0
        omega
    · exact idsI_any b off n cap E mm ra nr rc g O m cb X w hm hb hg hcs hc hXn

/-- what mainline answers. -/
def MnPost (w : World) (E : Nat → Ev) (n : Nat) (s : ByteArray) (e : Ending) (w' : World) : Prop := Below w.heap.size w w' ∧
  ∃ v, e = .returned (.tuple #[v, .bool (mlOk E n s)]) ∧ OwnI w' w.heap.size v (mlL E n s).length (lX (mlL E n s))
theorem MnPost.no {w : World} {E : Nat → Ev} {n : Nat} {s : ByteArray} {w' : World} (h : mlOk E n s = false) (hb : Below w.heap.size w w') : MnPost w E n s (.returned (.tuple #[.slice none 0 0, .bool false])) w' := by
  refine ⟨hb, _, by rw [h], ?_⟩
  unfold mlL
  rw [h]
  exact OwnI.nil _ _ _
theorem MnPost.yes {w : World} {E : Nat → Ev} {n : Nat} {s : ByteArray} {v : Value} {w' : World} {l : List Nat} (h : mlOk E n s = true) (hl : l = ln E n (posV E n s)) (hb : Below w.heap.size w w') (ho : OwnI w' w.heap.size v l.length (lX l)) : MnPost w E n s (.returned (.tuple #[v, .bool true])) w' := by
  refine ⟨hb, v, by rw [h], ?_⟩
  unfold mlL
  rw [h, if_pos rfl, ← hl]
  exact ho
theorem OwnI.monoM {w : World} {base base' n : Nat} {v : Value} {X : Nat → Int} (h : OwnI w base v n X) (hb : base' ≤ base) : OwnI w base' v n X := by
  obtain ⟨h1, h2⟩ := h
  exact ⟨h1, h2.imp id fun ⟨g, cap, cur, e, hg, r⟩ => ⟨g, cap, cur, e, Nat.le_trans hb hg, r⟩⟩

set_option maxRecDepth 100000 in
set_option maxHeartbeats 2000000 in
theorem lineI_sl {a : Option Addr} {n cap m : Nat} {E : Nat → Ev} {ra : Option Addr} {rc : Nat} (s : ByteArray) (hs : s.size ≤ maxLen) (w : World) (hroom : roomTo E n = true) (h : SlV w a n cap E) (hm : MapAt w m n (knE E n) (posV E n)) (hr : SlL w ra n rc (restN E) (restV E)) :
    Calls Tryz.prog 21 #[.agg #[.slice a n cap, .map (some m), .slice ra n rc], .string s] w (MnPost w E n s) := by
  have h300 := room_300 hroom
  obtain ⟨i0, hi, hz0, hz1, hz2⟩ := info_parts Tryz.infoIntO
  obtain ⟨wb, hwb⟩ : ∃ wb, wb = w.alloc (.cells #[.slice a n cap, .map (some m), .slice ra n rc] 48) := ⟨_, rfl⟩
  have hb0 : Below w.heap.size w wb := by rw [hwb]; exact (Below.refl _ _).alloc (Nat.le_refl _) _
  have hs0 : wb.heap.size = w.heap.size + 1 := by rw [hwb]; simp
  have hbx : Hid (∀ wx, Below (w.heap.size + 1) wb wx → ∀ o, wx.cell? ⟨w.heap.size, o, none⟩ = (#[.slice a n cap, .map (some m), .slice ra n rc] : Array Value)[o]?) := fun wx hx => by subst hwb; exact box_cells hx
  have Hroom : Hid (_) := hroom
  have hbA : Below w.heap.size w (w.alloc (.cells #[.slice a n cap, .map (some m), .slice ra n rc] 48)) := (Below.refl _ _).alloc (Nat.le_refl _) _
  cases hse : s.toList.isEmpty
  case true =>
    have hq : Hid (mlOk E n s = true) := by unfold Hid mlOk; rw [hroom, hse]; rfl
    have hl : Hid (([] : List Nat) = ln E n (posV E n s)) := by unfold Hid; rw [posV_empty hroom hse, ln_neg _ _ (by decide)]
    clear hroom
    go_enter Tryz.func21, Tryz.ntmps21
    go_wp2
    refine bodyPost_ret (v := .tuple #[.slice none 0 0, .bool true]) (by simp [results, Tryz.results21, go_sem]) rfl (MnPost.yes hq.out hl.out hbA (OwnI.nil _ _ _))
  case false =>
    obtain ⟨D, hD, hK⟩ := hm.below hbA
    have hkey : keyOf Tryz.prog 9 (.string s) = some (.string s.data.toList) := Go.WideMaps.keyOf_string_mk Tryz.underlying9 hs
    have hhas : has D (.string s.data.toList) = knE E n s := (hK s).1
    have hat0 : Hid (knE E n s = true → D.atKey (.string s.data.toList) (.lit (.int .i64 0)) = .lit (.int .i64 (posV E n s))) := (hK s).2
    clear hK
    cases hkn : knE E n s
    case false =>
      rw [hkn] at hhas
      have hneg : ¬ (0 ≤ posV E n s) := by simpa [knE] using hkn
      have hq : Hid (mlOk E n s = false) := by unfold Hid mlOk; rw [hroom, hse, decide_eq_false hneg]; rfl
      clear hroom hneg hkn
      go_enter Tryz.func21, Tryz.ntmps21
      go_wp2_with (at_lookup; refine wpList_lookup_own_ok_int _ rfl _ _ 45 rfl 9 3 .i64 lawStr Tryz.underlying45 Tryz.underlying3 (zeroInt _) m n D rfl hD _ _ rfl hkey ?_; intro c hat hwc; rw [hhas])
      refine bodyPost_ret (v := .tuple #[.slice none 0 0, .bool false]) (by simp [results, Tryz.results21, go_sem]) rfl (MnPost.no hq.out hbA)
    case true =>
      rw [hkn] at hhas
      have hpos : 0 ≤ posV E n s := by simpa [knE] using hkn
      have hat1 := hat0.out hkn
      obtain ⟨p, hp, ep⟩ : ∃ p : Nat, p < n ∧ posV E n s = (p : Int) := by
        have := posV_bd E s n
        exact ⟨(posV E n s).toNat, by omega, by omega⟩
      rcases h.cells with h0 | ⟨b, off, rfl, hb, hc⟩
      · omega
      obtain ⟨_, _, _, _, _, _, hec, _⟩ := hc p hp
      have hty := hec.c2
      rw [ep] at hat1
      clear hec hc hkn
      cases hpw : isPow (E p)
      case false =>
        have hqt := isPow_ty hpw
        have hq : Hid (mlOk E n s = false) := by unfold Hid mlOk; rw [hroom, hse, ep, Int.toNat_natCast, hpw]; simp
        clear hroom hpos ep hpw
        go_enter Tryz.func21, Tryz.ntmps21
        go_wp2_with (at_lookup; refine wpList_lookup_own_ok_int _ rfl _ _ 45 rfl 9 3 .i64 lawStr Tryz.underlying45 Tryz.underlying3 (zeroInt _) m n D rfl hD _ _ rfl hkey ?_; intro c hat hwc; rw [hhas]; have hcv : c = (p : Int) := by (have := hat.symm.trans hat1; simpa using this))
        refine bodyPost_ret (v := .tuple #[.slice none 0 0, .bool false]) (by simp [results, Tryz.results21, go_sem]) rfl (MnPost.no hq.out hbA)
      case true =>
        have hqt := isPow_ty hpw
        have hq : Hid (mlOk E n s = true) := by unfold Hid mlOk; rw [hroom, hse, ep, Int.toNat_natCast, hpw]; simp
        obtain ⟨l, hl⟩ : ∃ l, l = ln E n (p : Int) := ⟨_, rfl⟩
        have Hl : Hid (l = ln E n (posV E n s)) := by unfold Hid; rw [ep]; exact hl
        have Hl0 : Hid (l.drop 0 = ln E n (p : Int)) := by unfold Hid; rw [← hl]; rfl
        have hll : l.length ≤ 300 := by rw [hl]; have := ln_len E n (p : Int); omega
        clear hroom hpos ep hpw hl
        go_enter Tryz.func21, Tryz.ntmps21
        go_wp2_with (at_lookup; refine wpList_lookup_own_ok_int _ rfl _ _ 45 rfl 9 3 .i64 lawStr Tryz.underlying45 Tryz.underlying3 (zeroInt _) m n D rfl hD _ _ rfl hkey ?_; intro c hat hwc; rw [hhas]; have hcv : c = (p : Int) := by (have := hat.symm.trans hat1; simpa using this))
        rw [← hwb]
        clear hat hD hhas hkey hat1 hat0 hbA
        go_loopw [6, 8] (fun q v wr => ∃ (qq : Int) (k : Nat), q = .int .i64 qq ∧ -1 ≤ qq ∧ qq < n ∧ k ≤ l.length ∧ Hid (l.drop k = ln E n qq) ∧ OwnI wr (w.heap.size + 1) v k (lX l) ∧ Below (w.heap.size + 1) wb wr) (fun q _ _ => (intOf q + 1).toNat)
        case atStart => exact ⟨p, 0, by first | rfl | rw [hcv] | simp [hcv], by omega, by omega, Nat.zero_le _, Hl0, OwnI.nil _ _ _, Below.refl _ _⟩
        case round =>
          clear hcv Hl0
          obtain ⟨qq, k, rfl, hq1, hq2, hk, hdr, hown, hbl⟩ := hrel
          have hbw := hb0.trans (hbl.mono (by omega))
          have hso : w.heap.size + 1 ≤ wr.heap.size := by have := hbl.size; omega
          by_cases hneg : qq = -1
          · subst hneg
            have hke : k = l.length := ln_end (by rw [hdr.out, ln_neg _ _ (by decide)]) hk
            subst hke
            go_wp2
            refine bodyPost_ret (v := .tuple #[u8, .bool true]) (by simp [results, Tryz.results21, go_sem]) rfl (MnPost.yes hq.out Hl.out hbw (hown.monoM (by omega)))
          · obtain ⟨y, rfl⟩ : ∃ y : Nat, qq = (y : Int) := ⟨qq.toNat, by omega⟩
            have hyn : y < n := by omega
            obtain ⟨hx1, hx2, hx3⟩ := ln_at (hdr.out.trans (ln_cons Hroom.out hyn))
            have Hx1 : Hid (_ = _) := hx1
            have Hx2 : Hid (_ = _) := hx2
            have hbd := pwV_bd Hroom.out hyn
            have hyb : ((y : Int) == -1) = false := by simp
            have hyb2 : ((y : Int) != -1) = true := by simp
            have hm1 : k + 1 ≤ maxLen := by unfold maxLen; omega
            have hm2 : (k + 1) * 8 ≤ 140737488355328 := by omega
            have hm3 : ∀ o, w.heap.size + 1 ≤ (wr.alloc o).heap.size := fun o => by simp; omega
            have hag : Hid (∀ q', u8.ownBlock = some q' → w.heap.size + 1 ≤ q') := fun q' hq' => (World.ownsRow.lt hown q' hq').1
            clear hx1 hx2 hdr hneg
            go_wp2_with (at_builtin; refine wpList_append_own _ rfl _ _ 51 rfl (w.heap.size + 1) 3 i0 (.int .i64 0) 1 8 Tryz.underlying51 hi hz0 hz1 hz2 rfl (by decide) _ _ _ rfl (World.ownsRow.alloc hown _) ⟨wr.heap.size, 0, none⟩ 1 1 [.int .i64 (y : Int)] rfl rfl (one_cellsI _ _ _) (one_oneI _) hm1 hm2 (hm3 _) ?_; intro v2 w2 hown2 hgrow2 _; have hB2 : Below (w.heap.size + 1) wb w2 := (hbl.alloc (by omega) _).grown hgrow2 (hm3 _) hag.out; have hbx2 := hbx.out _ hB2)
            have hw2 := hb0.trans (hB2.mono (by omega))
            have hso2 : w.heap.size + 1 ≤ w2.heap.size := by have := hB2.size; omega
            refine (powI_sl _ Hroom.out hyn (h.below hw2) (hr.below hw2)).mono ?_
            rintro e w3 ⟨rfl, hb3⟩
            have hB3 := hB2.trans (hb3.mono hso2)
            have hown3 : OwnI w3 (w.heap.size + 1) v2 (k + 1) (lX l) := (OwnI.snoc hown2 Hx1.out.symm).below hb3
            generalize pwV E n y = z at *
            go_wp2
            go_roundw
            case rel => exact ⟨z, k + 1, rfl, hbd.1, by omega, hx3, Hx2, hown3, hB3⟩
            case measure => simp [intOf]; omega

end Go.Proofs.YtdapefcnmhbgkaaGreat
