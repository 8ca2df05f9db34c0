/-
  spec's l6Power, l6Mainline, Mainline.
-/
import Derived.Test.YtdapefcnmhbgkaaGreatL6f
namespace Go.Proofs.YtdapefcnmhbgkaaGreat
open Go.RowKit

theorem evP_pow {E : Nat → Ev} {n : Nat} (h : roomTo E n = true) : ∀ i, i < n → evP ⟨#[112, 111, 119, 101, 114]⟩ ⟨#[]⟩ (E i) = isPow (E i) := fun i hi => by
  have e1 : (⟨#[112, 111, 119, 101, 114]⟩ : ByteArray).toList = [112, 111, 119, 101, 114] := by rw [ByteArray.toList_eq]
  have e2 : (⟨#[]⟩ : ByteArray).toList = [] := by rw [ByteArray.toList_eq]
  unfold evP
  rw [e1, e2]
  cases hp : isPow (E i)
  · unfold isPow at hp
    rw [hp]
    simp
  · obtain ⟨h1, h2⟩ := ev_pow (room_code h hi) hp
    unfold isPow at hp
    rw [hp, h1]
    have : (E i).key.toList = [] := by simpa using h2
    rw [this]
    rfl
/-- the Id of an event's power. -/
def pwS (E : Nat → Ev) (n p : Nat) : ByteArray := if 0 ≤ pwV E n p then (E (pwV E n p).toNat).id else ⟨#[]⟩
theorem frV_pw {E : Nat → Ev} {n p : Nat} (h : roomTo E n = true) (hp : p < n) : frV E n (evP ⟨#[112, 111, 119, 101, 114]⟩ ⟨#[]⟩) (E p) = pwS E n p := by
  unfold frV pwS pwV
  rw [scTo_congr h hp (evP_pow h) _ (Nat.le_refl _)]

set_option maxRecDepth 100000 in
set_option maxHeartbeats 1000000 in
theorem l6Pow_sl {a : Option Addr} {n cap q : Nat} {E : Nat → Ev} {pa aa ga : Option Addr} {cp ca cg : Nat} (w : World) (hroom : roomTo E n = true) (hq : q < n) (h : SlV w a n cap E) (he : EvOk w (E q) pa cp aa ca ga cg) :
    Calls Tryz.prog 48 #[.agg #[.slice a n cap], (E q).val' pa cp aa ca ga cg] w fun x w' => x = .returned (.string (pwS E n q)) ∧ Below w.heap.size w w' := by
  have hC : Hid (∀ W, Below w.heap.size w W → Calls Tryz.prog 64 #[.agg #[.slice a n cap], (E q).val' pa cp aa ca ga cg, .string ⟨#[112, 111, 119, 101, 114]⟩, .string ⟨#[]⟩] W fun x w' => x = .returned (.string (pwS E n q)) ∧ Below W.heap.size W w') := fun W hW => by
    have := l6From_sl ⟨#[112, 111, 119, 101, 114]⟩ ⟨#[]⟩ W hroom hq (h.below hW) (he.below hW)
    rw [frV_pw hroom hq] at this
    exact this
  have hb0 : Below w.heap.size w (boxes w a n cap (E q) pa cp aa ca ga cg) := ((Below.refl _ _).alloc (Nat.le_refl _) _).alloc (by simp) _
  clear hroom hq h he
  generalize pwS E n q = z at *
  generalize E q = ev at *
  go_enter Tryz.func48, Tryz.ntmps48
  go_wp2_with fail
  refine (hC.out _ hb0).mono ?_
  rintro e w1 ⟨rfl, hb1⟩
  go_wp2
  go_ret
  exact ⟨rfl, hb0.trans (hb1.mono hb0.size)⟩

/-- the Id at a place, nothing for none. -/
def idQ (E : Nat → Ev) (q : Int) : ByteArray := if 0 ≤ q then (E q.toNat).id else ⟨#[]⟩
theorem pwS_idQ (E : Nat → Ev) (n p : Nat) : pwS E n p = idQ E (pwV E n p) := rfl
/-- the place of a text's event. -/
def strPos (E : Nat → Ev) (n : Nat) : Value → Int
  | .string t => posV E n t
  | _ => -1
theorem strPos_idQ {E : Nat → Ev} {n : Nat} (h : roomTo E n = true) {q : Int} (h1 : -1 ≤ q) (h2 : q < n) : strPos E n (.string (idQ E q)) = q := by
  show posV E n (idQ E q) = q
  unfold idQ
  by_cases h0 : 0 ≤ q
  · rw [if_pos h0, posV_here h (show q.toNat < n by omega)]
    omega
  · rw [if_neg h0, posV_empty h (by rw [ByteArray.toList_eq]; rfl)]
    omega
/-- what l6Mainline answers. -/
def LmPost (w : World) (E : Nat → Ev) (l : List Nat) (e : Ending) (w' : World) : Prop :=
  ∃ v, e = .returned v ∧ OwnT w' w.heap.size v l.length (fun k => (E (lX l k).toNat).id) ∧ Below w.heap.size w w'

/-- in l6Mainline's loop. -/
def LmRel (w wb : World) (E : Nat → Ev) (n : Nat) (l : List Nat) (s v : Value) (wr : World) : Prop :=
  ∃ (q : Int) (k : Nat), s = .string (idQ E q) ∧ -1 ≤ q ∧ q < n ∧ k ≤ l.length ∧ Hid (l.drop k = ln E n q) ∧ OwnT wr (w.heap.size + 1) v k (fun k => (E (lX l k).toNat).id) ∧ Below (w.heap.size + 1) wb wr

set_option maxRecDepth 100000 in
set_option maxHeartbeats 2000000 in
theorem l6Line_sl {a : Option Addr} {n cap : Nat} {E : Nat → Ev} (q0 : Int) (w : World) (hroom : roomTo E n = true) (h1 : -1 ≤ q0) (h2 : q0 < n) (h : SlV w a n cap E) :
    Calls Tryz.prog 33 #[.agg #[.slice a n cap], .string (idQ E q0)] w (LmPost w E (ln E n q0)) := by
  have h300 := room_300 hroom
  obtain ⟨i0, hi, hz0, hz1, hz2⟩ := info_parts Tryz.infoString
  obtain ⟨l, hl⟩ : ∃ l, l = ln E n q0 := ⟨_, rfl⟩
  have hll : l.length ≤ 300 := by rw [hl]; have := ln_len E n q0; omega
  have Hl0 : Hid (l.drop 0 = ln E n q0) := by unfold Hid; rw [← hl]; rfl
  rw [← hl]
  clear hl
  obtain ⟨wb, hwb⟩ : ∃ wb, wb = w.alloc (.cells #[.slice a n cap] 32) := ⟨_, rfl⟩
  have hb0 : Below w.heap.size w wb := by rw [hwb]; exact (Below.refl _ _).alloc (Nat.le_refl _) _
  have hs0 : wb.heap.size = w.heap.size + 1 := by rw [hwb]; simp
  have hb1 : Below (w.heap.size + 1) wb (wb.alloc (.cells #[] 9)) := (Below.refl _ _).alloc (by omega) _
  have ho1 : OwnT (wb.alloc (.cells #[] 9)) (w.heap.size + 1) (.slice (some ⟨wb.heap.size, 0, none⟩) 0 0) 0 (fun k => (E (lX l k).toNat).id) := OwnT.new wb _ (by omega) _
  rw [hs0] at ho1
  have hbx : Hid (∀ wx, Below (w.heap.size + 1) wb wx → wx.cell? ⟨w.heap.size, 0, none⟩ = some (.slice a n cap)) := fun wx hx => by subst hwb; exact box_cells hx 0
  have Hroom : Hid (_) := hroom
  have HE : Hid (SlV w a n cap E) := h
  clear hroom h
  go_enter Tryz.func33, Tryz.ntmps33
  go_wp2_with fail
  rw [← hwb]
  clear hwb
  go_loopw [1, 5] (fun s v wr => LmRel w wb E n l s v wr) (fun s _ _ => (strPos E n s + 1).toNat)
  case atStart => exact ⟨q0, 0, rfl, h1, h2, Nat.zero_le _, Hl0, ho1, hb1⟩
  case round =>
    clear Hl0 ho1 hb1
    obtain ⟨q, k, rfl, hq1, hq2, hk, hdr, hown, hbl⟩ := hrel
    have hbw := hb0.trans (hbl.mono (by omega))
    have hso : w.heap.size + 1 ≤ wr.heap.size := by have := hbl.size; omega
    by_cases hneg : q = -1
    · subst hneg
      have hke : k = l.length := ln_end (by rw [hdr.out, ln_neg _ _ (by decide)]) hk
      subst hke
      have hid : idQ E (-1) = ⟨#[]⟩ := rfl
      rw [hid]
      go_wp2
      go_ret
      exact ⟨_, rfl, hown.mono (by omega), hbw⟩
    · obtain ⟨y, rfl⟩ : ∃ y : Nat, q = (y : Int) := ⟨q.toNat, by omega⟩
      have hyn : y < n := by omega
      have hid : idQ E (y : Int) = (E y).id := by unfold idQ; rw [if_pos (by omega), Int.toNat_natCast]
      have Hmeas : Hid (∀ z, z = pwS E n y → (strPos E n (.string z) + 1).toNat < (strPos E n (.string (E y).id) + 1).toNat) := fun z hz => by
        have hbd := pwV_bd Hroom.out hyn
        rw [hz, pwS_idQ, strPos_idQ Hroom.out hbd.1 (by omega), ← hid, strPos_idQ Hroom.out (by omega) (by omega)]
        omega
      rw [hid]
      obtain ⟨hx1, hx2, hx3⟩ := ln_at (hdr.out.trans (ln_cons Hroom.out hyn))
      have Hx1 : Hid ((E y).id = (E (lX l k).toNat).id) := by unfold Hid; rw [hx1, Int.toNat_natCast]
      have Hx2 : Hid (_ = _) := hx2
      have Hbd : Hid (_ ∧ _) := pwV_bd Hroom.out hyn
      have hne : (E y).id.toList.isEmpty = false := ev_id (room_code Hroom.out hyn)
      have hm1 : k + 1 ≤ maxLen := by unfold maxLen; omega
      have hm2 : (k + 1) * 16 ≤ 140737488355328 := by omega
      have hm3 : ∀ o, w.heap.size + 1 ≤ (wr.alloc o).heap.size := fun o => by simp; omega
      have hag : Hid (∀ q', u5.ownBlock = some q' → w.heap.size + 1 ≤ q') := fun q' hq' => (World.ownsRow.lt hown q' hq').1
      clear hx1 hx2 hdr hneg hid
      go_wp2_with (at_builtin; refine wpList_append_own _ rfl _ _ 25 rfl (w.heap.size + 1) 9 i0 (.string ByteArray.empty) 1 16 Tryz.underlying25 hi hz0 hz1 hz2 rfl (by decide) _ _ _ rfl (World.ownsRow.alloc hown _) ⟨wr.heap.size, 0, none⟩ 1 1 [.string (E y).id] rfl rfl (one_cells _ _ _) (one_one _) hm1 hm2 (hm3 _) ?_; intro v2 w2 hown2 hgrow2 _)
      have hB2 : Below (w.heap.size + 1) wb w2 := (hbl.alloc (by omega) _).grown hgrow2 (hm3 _) hag.out
      have hown3 : OwnT w2 (w.heap.size + 1) v2 (k + 1) (fun k => (E (lX l k).toNat).id) := OwnT.snoc hown2 Hx1.out
      have hbw2 := hb0.trans (hB2.mono (by omega))
      have hso2 : w.heap.size + 1 ≤ w2.heap.size := by have := hB2.size; omega
      have x02 := hbx.out _ hB2
      have hrf : Below w2.heap.size w2 w2 := Below.refl _ _
      have hev : Hid (∀ W, Below w2.heap.size w2 W → Calls Tryz.prog 32 #[.agg #[.slice a n cap], .string (E y).id] W (EePost W (E y))) := fun W hW => l6Event_sl _ W (HE.out.below (hbw2.trans (hW.mono hbw2.size))) hyn (posV_here Hroom.out hyn)
      clear hown hown2 hgrow2 hbl hbw hm3 hag
      go_region_with (first
        | (go_at_call 32; refine (hev.out _ (by first | with_reducible exact hrf | with_reducible exact hrf.drew | with_reducible exact hrf.drew.drew | with_reducible exact hrf.drew.drew.drew)).mono ?_; rintro e w3 ⟨hb3', pa3, cp3, aa3, ca3, ga3, cg3, rfl, hok3'⟩; have Hok3 : Hid (EvOk w3 (E y) pa3 cp3 aa3 ca3 ga3 cg3) := hok3'; have hb3 : Below w2.heap.size w2 w3 := Below.trans (by first | with_reducible exact hrf | with_reducible exact hrf.drew | with_reducible exact hrf.drew.drew | with_reducible exact hrf.drew.drew.drew) hb3'; clear hok3' hb3'; have hB3 := hB2.trans (hb3.mono hso2); have x03 := hbx.out _ hB3; have hbw3 := hb0.trans (hB3.mono (by omega)); have hrf3 : Below w3.heap.size w3 w3 := Below.refl _ _)
        | (go_at_call 48; refine (l6Pow_sl (a := a) (n := n) (cap := cap) (E := E) (q := y) _ Hroom.out hyn ((HE.out.below hbw3).below (by first | with_reducible exact hrf3 | with_reducible exact hrf3.drew | with_reducible exact hrf3.drew.drew | with_reducible exact hrf3.drew.drew.drew)) (Hok3.out.below (by first | with_reducible exact hrf3 | with_reducible exact hrf3.drew | with_reducible exact hrf3.drew.drew | with_reducible exact hrf3.drew.drew.drew))).mono ?_; rintro e w4 ⟨rfl, hb4'⟩; have hb4 : Below w3.heap.size w3 w4 := Below.trans (by first | with_reducible exact hrf3 | with_reducible exact hrf3.drew | with_reducible exact hrf3.drew.drew | with_reducible exact hrf3.drew.drew.drew) hb4'; clear hb4'))
      all_goals
        have hB4 := hB3.trans (hb4.mono (Nat.le_trans hso2 hb3.size))
        have hown4 := (hown3.below hb3).below hb4
        have Hz : Hid (pwS E n y = idQ E (pwV E n y)) := pwS_idQ E n y
        have Hm2 : Hid ((strPos E n (.string (pwS E n y)) + 1).toNat < (strPos E n (.string (E y).id) + 1).toNat) := Hmeas.out _ rfl
        clear Hmeas hev
        generalize pwS E n y = z at *
        go_wp2
        go_roundw
        case rel =>
          (repeat apply Exists.intro)
          exact ⟨⟨pwV E n y, k + 1, by rw [Hz.out], Hbd.out.1, by have := Hbd.out.2; omega, hx3, Hx2, hown4, hB4⟩, rfl⟩
        case measure => exact Hm2.out

set_option maxRecDepth 100000 in
set_option maxHeartbeats 1000000 in
theorem mlS_sl {a : Option Addr} {n cap : Nat} {E : Nat → Ev} (s : ByteArray) (w : World) (h : SlV w a n cap E) :
    Calls Tryz.prog 16 #[.agg #[.slice a n cap], .string s] w (MlPost w E n s) := by
  have hb0 : ∀ o, Below w.heap.size w (w.alloc o) := fun o => (Below.refl _ _).alloc (Nat.le_refl _) _
  go_enter Tryz.func16, Tryz.ntmps16
  go_wp2_with fail
  refine (roomS_sl _ (h.below (hb0 _))).mono ?_
  rintro e w1 ⟨rfl, hb1⟩
  have hB1 := hb1.mono (B' := w.heap.size + 1) (by simp)
  have hw1 := (hb0 _).trans (hb1.mono (by simp))
  have hcl := box_cells hB1 0
  have hs1 : w.heap.size + 1 ≤ w1.heap.size := by simpa using hB1.size
  clear hb1
  cases hroom : roomTo E n
  case false =>
    have Hq : Hid (mlOk E n s = false) := by unfold Hid mlOk; rw [hroom]; rfl
    go_wp2
    refine bodyPost_ret (v := .tuple #[.slice (some ⟨w1.heap.size, 0, none⟩) 0 0, .bool false]) (by simp [results, Tryz.results16, go_sem]) rfl (MlPost.no Hq.out (hw1.alloc hw1.size _) (fun S => OwnT.new w1 _ hw1.size S))
  case true =>
    have Hroom : Hid (_) := hroom
    cases hse : s.toList.isEmpty
    case true =>
      have Hq : Hid (mlOk E n s = true) := by unfold Hid mlOk; rw [hroom, hse]; rfl
      have Hpos : Hid (posV E n s = -1) := posV_empty hroom hse
      have hsz : s = ⟨#[]⟩ := by
        have h0 : s.toList = [] := by simpa using hse
        exact ba_of_toList (by rw [h0, ByteArray.toList_eq]; rfl)
      have HC : Hid (∀ W, Below w.heap.size w W → Calls Tryz.prog 33 #[.agg #[.slice a n cap], .string s] W (LmPost W E (ln E n (-1)))) := fun W hW => by
        have := l6Line_sl (E := E) (n := n) (-1) W Hroom.out (by omega) (by omega) (h.below hW)
        rw [hsz]
        exact this
      clear hsz hroom
      go_wp2_with fail
      refine (HC.out _ hw1).mono ?_
      rintro e w2 ⟨v, rfl, ho, hb2⟩
      have hw2 := hw1.trans (hb2.mono hw1.size)
      go_wp2
      refine bodyPost_ret (v := .tuple #[v, .bool true]) (by simp [results, Tryz.results16, go_sem]) rfl (MlPost.yes Hq.out (by rw [Hpos.out]) hw2 (ho.mono hw1.size))
    case false =>
      cases hkn : decide (0 ≤ posV E n s)
      case false =>
        have Hq : Hid (mlOk E n s = false) := by unfold Hid mlOk; rw [hroom, hse, hkn]; rfl
        have hneg : posV E n s < 0 := by have := of_decide_eq_false hkn; omega
        have HA : Hid (∀ W, Below w.heap.size w W → Calls Tryz.prog 31 #[.agg #[.slice a n cap], .string s] W fun e w' => e = .returned (.int .i64 (posV E n s)) ∧ w' = W.alloc (.cells #[.slice a n cap] 32)) := fun W hW => l2At_sl s W (h.below hW)
        clear hroom hkn
        generalize posV E n s = z at *
        go_wp2_with fail
        refine (HA.out _ hw1).mono ?_
        rintro e w2 ⟨rfl, hw2e⟩
        have hb2 : Below w1.heap.size w1 w2 := by rw [hw2e]; exact (Below.refl _ _).alloc (Nat.le_refl _) _
        have hw2 := hw1.trans (hb2.mono hw1.size)
        have hcl2 := (hb2.cell (p := ⟨w.heap.size, 0, none⟩) (by show w.heap.size < w1.heap.size; omega)).trans hcl
        clear hw2e
        go_wp2
        refine bodyPost_ret (v := .tuple #[.slice (some ⟨w2.heap.size, 0, none⟩) 0 0, .bool false]) (by simp [results, Tryz.results16, go_sem]) rfl (MlPost.no Hq.out (hw2.alloc hw2.size _) (fun S => OwnT.new w2 _ hw2.size S))
      case true =>
        obtain ⟨p, hp, ep, eid⟩ : ∃ p : Nat, p < n ∧ posV E n s = (p : Int) ∧ (E p).id = s := by
          obtain ⟨i, hi, e, hb⟩ := posV_found E s n (of_decide_eq_true hkn)
          exact ⟨i, hi, e, ba_of_toList hb⟩
        have HA : Hid (∀ W, Below w.heap.size w W → Calls Tryz.prog 31 #[.agg #[.slice a n cap], .string s] W fun e w' => e = .returned (.int .i64 (p : Int)) ∧ w' = W.alloc (.cells #[.slice a n cap] 32)) := fun W hW => by
          have := l2At_sl s W (h.below hW)
          rw [ep] at this
          exact this
        have HV : Hid (∀ W, Below w.heap.size w W → Calls Tryz.prog 32 #[.agg #[.slice a n cap], .string s] W (EePost W (E p))) := fun W hW => l6Event_sl s W (h.below hW) hp ep
        have HL : Hid (∀ W, Below w.heap.size w W → Calls Tryz.prog 33 #[.agg #[.slice a n cap], .string s] W (LmPost W E (ln E n (p : Int)))) := fun W hW => by
          have := l6Line_sl (E := E) (n := n) (p : Int) W Hroom.out (by omega) (by omega) (h.below hW)
          rw [show idQ E (p : Int) = s from by unfold idQ; rw [if_pos (by omega), Int.toNat_natCast]; exact eid] at this
          exact this
        have Hq : Hid (mlOk E n s = isPow (E p)) := by unfold Hid mlOk; rw [hroom, hse, ep, Int.toNat_natCast]; simp
        have Hep : Hid (_ = _) := ep
        clear hroom hkn ep eid
        go_wp2_with fail
        refine (HA.out _ hw1).mono ?_
        rintro e w2 ⟨rfl, hw2e⟩
        have hb2 : Below w1.heap.size w1 w2 := by rw [hw2e]; exact (Below.refl _ _).alloc (Nat.le_refl _) _
        have hw2 := hw1.trans (hb2.mono hw1.size)
        have hs2 : w.heap.size + 1 ≤ w2.heap.size := Nat.le_trans hs1 hb2.size
        have hcl2 := (hb2.cell (p := ⟨w.heap.size, 0, none⟩) (by show w.heap.size < w1.heap.size; omega)).trans hcl
        have hpn : ¬ ((p : Int) < 0) := by omega
        clear hw2e
        go_wp2_with fail
        refine (HV.out _ hw2).mono ?_
        rintro e w3 ⟨hb3, pa3, cp3, aa3, ca3, ga3, cg3, hee, -⟩
        have hef : e = .returned (.agg #[.string (E p).id, .string (E p).sd, .string (E p).ty, .bool (E p).st, .string (E p).key, .int .i64 (E p).tm, .slice pa3 (E p).np cp3, .slice aa3 (E p).na ca3, .string (E p).val, .slice ga3 (E p).ng cg3]) := hee
        clear hee
        subst hef
        have hw3 := hw2.trans (hb3.mono hw2.size)
        have hcl3 := (hb3.cell (p := ⟨w.heap.size, 0, none⟩) (by show w.heap.size < w2.heap.size; omega)).trans hcl2
        clear HA HV
        cases hpw : isPow (E p)
        case false =>
          have hqt : ((E p).ty.toList == [112, 111, 119, 101, 114]) = false := hpw
          have Hq2 : Hid (mlOk E n s = false) := Hq.out.trans hpw
          clear Hq hpw
          generalize E p = ev at *
          have hfd : ∀ W : World, (Instr.field 70 (.agg #[.string ev.id, .string ev.sd, .string ev.ty, .bool ev.st, .string ev.key, .int .i64 ev.tm, .slice pa3 ev.np cp3, .slice aa3 ev.na ca3, .string ev.val, .slice ga3 ev.ng cg3]) 2).run Tryz.prog W = .ok (.string ev.ty) W := fun _ => by kernel_rfl
          go_wp2
          refine bodyPost_ret (v := .tuple #[.slice (some ⟨w3.heap.size, 0, none⟩) 0 0, .bool false]) (by simp [results, Tryz.results16, go_sem]) rfl (MlPost.no Hq2.out (hw3.alloc hw3.size _) (fun S => OwnT.new w3 _ hw3.size S))
        case true =>
          have hqt : ((E p).ty.toList == [112, 111, 119, 101, 114]) = true := hpw
          have Hq2 : Hid (mlOk E n s = true) := Hq.out.trans hpw
          clear Hq hpw
          generalize E p = ev at *
          have hfd : ∀ W : World, (Instr.field 70 (.agg #[.string ev.id, .string ev.sd, .string ev.ty, .bool ev.st, .string ev.key, .int .i64 ev.tm, .slice pa3 ev.np cp3, .slice aa3 ev.na ca3, .string ev.val, .slice ga3 ev.ng cg3]) 2).run Tryz.prog W = .ok (.string ev.ty) W := fun _ => by kernel_rfl
          go_wp2_with fail
          refine (HL.out _ hw3).mono ?_
          rintro e w4 ⟨v, rfl, ho, hb4⟩
          have hw4 := hw3.trans (hb4.mono hw3.size)
          go_wp2
          refine bodyPost_ret (v := .tuple #[v, .bool true]) (by simp [results, Tryz.results16, go_sem]) rfl (MlPost.yes Hq2.out (by rw [Hep.out]) hw4 (ho.mono hw3.size))
end Go.Proofs.YtdapefcnmhbgkaaGreat
