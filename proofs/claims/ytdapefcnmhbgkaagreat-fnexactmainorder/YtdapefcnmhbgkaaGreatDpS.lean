/-
  spec's l6Depth.
-/
import Derived.Test.YtdapefcnmhbgkaaGreatMlA
import Derived.Test.YtdapefcnmhbgkaaGreatMlS
namespace Go.Proofs.YtdapefcnmhbgkaaGreat
open Go.RowKit

/-- the ids of a line. -/
def lnS (E : Nat → Ev) (l : List Nat) (k : Nat) : ByteArray := (E (lX l k).toNat).id
theorem ids_ne {E : Nat → Ev} {n a b : Nat} (h : roomTo E n = true) (ha : a < n) (hb : b < n) (hne : a ≠ b) : ((E a).id.toList == (E b).id.toList) = false := by
  cases hq : ((E a).id.toList == (E b).id.toList)
  · rfl
  · have e := ba_of_toList hq
    have e1 := posV_here h ha
    rw [e, posV_here h hb] at e1
    omega
/-- in l6Depth's loop. -/
def DpRel (wb : World) (B : Nat) (E : Nat → Ev) (n : Nat) (l : List Nat) (q0 : Int) (s : Value) (wr : World) : Prop :=
  ∃ q : Int, s = .string (idQ E q) ∧ -1 ≤ q ∧ q < n ∧ Hid (dp E n l q0 = dp E n l q) ∧ Below B wb wr

set_option maxRecDepth 100000 in
set_option maxHeartbeats 2000000 in
theorem l6Depth_sl {a : Option Addr} {n cap : Nat} {E : Nat → Ev} {la : Option Addr} {lc : Nat} {l : List Nat} (q0 : Int) (w : World) (hroom : roomTo E n = true) (h1 : -1 ≤ q0) (h2 : q0 < n) (hl : ∀ i ∈ l, i < n) (hll : l.length ≤ 300) (h : SlV w a n cap E) (hL : SlS w la l.length lc (lnS E l)) :
    Calls Tryz.prog 49 #[.agg #[.slice a n cap], .slice la l.length lc, .string (idQ E q0)] w fun x w' => x = .returned (.int .i64 (dp E n l q0 : Int)) ∧ Below w.heap.size w w' := by
  have h300 := room_300 hroom
  obtain ⟨wb, hwb⟩ : ∃ wb, wb = w.alloc (.cells #[.slice a n cap] 32) := ⟨_, rfl⟩
  have hb0 : Below w.heap.size w wb := by rw [hwb]; exact (Below.refl _ _).alloc (Nat.le_refl _) _
  have hs0 : wb.heap.size = w.heap.size + 1 := by rw [hwb]; simp
  have hbx : Hid (∀ wx, Below (w.heap.size + 1) wb wx → wx.cell? ⟨w.heap.size, 0, none⟩ = some (.slice a n cap)) := fun wx hx => by subst hwb; exact box_cells hx 0
  have Hroom : Hid (_) := hroom
  have HE : Hid (SlV w a n cap E) := h
  have HLs : Hid (SlS w la l.length lc (lnS E l)) := hL
  have Hl : Hid (_) := hl
  clear hroom h hL hl
  go_enter Tryz.func49, Tryz.ntmps49
  go_wp2_with fail
  rw [← hwb]
  clear hwb
  go_loopw [2] (fun s wr => DpRel wb (w.heap.size + 1) E n l q0 s wr) (fun s _ => (strPos E n s + 1).toNat)
  case atStart => exact ⟨q0, rfl, h1, h2, rfl, Below.refl _ _⟩
  case round =>
    obtain ⟨q, rfl, hq1, hq2, hdq, hbl⟩ := hrel
    have hbw := hb0.trans (hbl.mono (by omega))
    have hso : w.heap.size + 1 ≤ wr.heap.size := by have := hbl.size; omega
    by_cases hneg : q = -1
    · subst hneg
      have hid : idQ E (-1) = ⟨#[]⟩ := rfl
      have Hd : Hid ((l.length : Int) = (dp E n l q0 : Int)) := by unfold Hid; rw [hdq.out, dp_neg _ _ _ (by decide)]
      rw [hid]
      go_wp2
      go_ret
      exact ⟨ret_int Hd.out, hbw⟩
    · obtain ⟨y, rfl⟩ : ∃ y : Nat, q = (y : Int) := ⟨q.toNat, by omega⟩
      have hyn : y < n := by omega
      have hid : idQ E (y : Int) = (E y).id := by unfold idQ; rw [if_pos (by omega), Int.toNat_natCast]
      have Hmeas : Hid (∀ z, z = pwS E n y → (strPos E n (.string z) + 1).toNat < (strPos E n (.string (E y).id) + 1).toNat) := fun z hz => by
        have hbd := pwV_bd Hroom.out hyn
        rw [hz, pwS_idQ, strPos_idQ Hroom.out hbd.1 (by omega), ← hid, strPos_idQ Hroom.out (by omega) (by omega)]
        omega
      rw [hid]
      have Hbd : Hid (_ ∧ _) := pwV_bd Hroom.out hyn
      have hne : (E y).id.toList.isEmpty = false := ev_id (room_code Hroom.out hyn)
      clear hneg hid
      obtain ⟨wo, hwo⟩ : ∃ wo : World, wo = wr := ⟨_, rfl⟩
      subst hwo
      go_wp2_with fail
      go_loop [7] (fun iv => ∃ k : Nat, k ≤ l.length ∧ iv = .int .i64 k ∧ Hid (∀ i, i < k → l.getD i 0 ≠ y)) (fun iv => l.length - (intOf iv).toNat)
      case atStart => exact ⟨0, Nat.zero_le _, rfl, fun i hi => absurd hi (Nat.not_lt_zero _)⟩
      case round =>
        obtain ⟨k, hk, rfl, hto⟩ := hrel
        by_cases hlt : k < l.length
        · rcases HLs.out.cells with h0 | ⟨lb, lo, rfl, hlb, hlc⟩
          · omega
          have hp : l.getD k 0 < n := Hl.out _ (by simp [List.getD, List.getElem?_eq_getElem hlt])
          have hck : wo.cell? ⟨lb, lo + k, none⟩ = some (.string (E (l.getD k 0)).id) := by
            have := (hbw.cell (by exact hlb)).trans (hlc k hlt)
            unfold lnS lX at this
            rw [Int.toNat_natCast] at this
            exact this
          by_cases he : l.getD k 0 = y
          · have Hd : Hid ((k : Int) = (dp E n l q0 : Int)) := by
              have hh := lnI_hit hlt hto.out he
              unfold Hid
              rw [hdq.out, dp_in hyn (by rw [hh]; exact hlt), hh]
            rw [he] at hck
            have heq : ((E y).id.toList == (E y).id.toList) = true := by simp
            clear hlc hto he
            go_wp2
            go_ret
            exact ⟨ret_int Hd.out, hbw⟩
          · have heq := ids_ne Hroom.out hp hyn he
            have Hto : Hid (∀ i, i < k + 1 → l.getD i 0 ≠ y) := fun i hi => by
              by_cases e : i = k
              · subst e; exact he
              · exact hto.out i (by omega)
            clear hlc hto he hp
            generalize (E (l.getD k 0)).id = s at *
            go_wp2
            go_round
            case rel => exact ⟨k + 1, by omega, by go_num, Hto⟩
            case measure => simp [intOf]; omega
        · have hmiss := lnI_miss (line := l) (p := y) (fun i hi => hto.out i (by omega))
          have Hdq : Hid (dp E n l q0 = dp E n l (pwV E n y)) := hdq.out.trans (dp_step Hroom.out hyn hmiss)
          have x02 := hbx.out _ hbl
          have hrf : Below wo.heap.size wo wo := Below.refl _ _
          have hev : Hid (∀ W, Below wo.heap.size wo W → Calls Tryz.prog 32 #[.agg #[.slice a n cap], .string (E y).id] W (EePost W (E y))) := fun W hW => l6Event_sl _ W (HE.out.below (hbw.trans (hW.mono hbw.size))) hyn (posV_here Hroom.out hyn)
          clear hto hmiss hdq
          go_wp2_with fail
          go_region_with (first
            | (go_at_call 32; refine (hev.out _ (by first | with_reducible exact hrf | with_reducible exact hrf.drew | with_reducible exact hrf.drew.drew | with_reducible exact hrf.drew.drew.drew)).mono ?_; rintro e w3 ⟨hb3', pa3, cp3, aa3, ca3, ga3, cg3, rfl, hok3'⟩; have Hok3 : Hid (EvOk w3 (E y) pa3 cp3 aa3 ca3 ga3 cg3) := hok3'; have hb3 : Below wo.heap.size wo w3 := Below.trans (by first | with_reducible exact hrf | with_reducible exact hrf.drew | with_reducible exact hrf.drew.drew | with_reducible exact hrf.drew.drew.drew) hb3'; clear hok3' hb3'; have hB3 := hbl.trans (hb3.mono hso); have x03 := hbx.out _ hB3; have hbw3 := hb0.trans (hB3.mono (by omega)); have hrf3 : Below w3.heap.size w3 w3 := Below.refl _ _)
            | (go_at_call 48; refine (l6Pow_sl (a := a) (n := n) (cap := cap) (E := E) (q := y) _ Hroom.out hyn ((HE.out.below hbw3).below (by first | with_reducible exact hrf3 | with_reducible exact hrf3.drew | with_reducible exact hrf3.drew.drew | with_reducible exact hrf3.drew.drew.drew)) (Hok3.out.below (by first | with_reducible exact hrf3 | with_reducible exact hrf3.drew | with_reducible exact hrf3.drew.drew | with_reducible exact hrf3.drew.drew.drew))).mono ?_; rintro e w4 ⟨rfl, hb4'⟩; have hb4 : Below w3.heap.size w3 w4 := Below.trans (by first | with_reducible exact hrf3 | with_reducible exact hrf3.drew | with_reducible exact hrf3.drew.drew | with_reducible exact hrf3.drew.drew.drew) hb4'; clear hb4'))
          all_goals
            have hB4 := hB3.trans (hb4.mono (Nat.le_trans hso hb3.size))
            have Hz : Hid (pwS E n y = idQ E (pwV E n y)) := pwS_idQ E n y
            have Hm2 : Hid ((strPos E n (.string (pwS E n y)) + 1).toNat < (strPos E n (.string (E y).id) + 1).toNat) := Hmeas.out _ rfl
            clear Hmeas hev
            generalize pwS E n y = z at *
            go_wp2
            go_roundw
            case rel => first | exact ⟨pwV E n y, by rw [Hz.out], Hbd.out.1, by have := Hbd.out.2; omega, Hdq, hB4⟩ | ((repeat apply Exists.intro); exact ⟨⟨pwV E n y, by rw [Hz.out], Hbd.out.1, by have := Hbd.out.2; omega, Hdq, hB4⟩, rfl⟩)
            case measure => exact Hm2.out
end Go.Proofs.YtdapefcnmhbgkaaGreat
