/-
  FnChanges.
-/
import Derived.Test.YtfobcmememaejaaDrD
import Derived.Test.YtfobcmememaejaaSmS
import Derived.Test.YtfobcmememaejaaChgP
import Derived.Test.YtfobcmememaejaaPuI
import Derived.Test.YtfobcmememaejaaFdI
import Derived.BigQuiet
import Derived.Deep.CutRange
namespace Go.Proofs.Ytfobcmememaejaa
open Go.RowKit

theorem deV_ff {a b : List Ent} (h : deOk a b = false) : deV a b = [] := by unfold deV; rw [h]; rfl

theorem putV_okC {l : List Ent} {e : Ent} (h : AllOk l) (he : e.ty.size ≤ maxLen ∧ e.key.size ≤ maxLen ∧ e.id.size ≤ maxLen) : AllOk (putV l e) := by
  unfold putV
  split
  · exact h.set he
  · exact fun x hx => by cases hx
/-- what Find says behind a Put. -/
def FndC (S : List Ent) (sa : Option Addr) (sc : Nat) (ty key z : ByteArray) : Prop := ∀ W, SlE W sa sc S → Calls Try.prog 12 #[.slice sa S.length sc, .string ty, .string key] W fun e w' => e = .returned (.tuple #[.string z, .bool true]) ∧ Below W.heap.size W w'
theorem fndC_of {S : List Ent} {sa : Option Addr} {sc : Nat} {ty key : ByteArray} (h : fdOk S ty key = true) : FndC S sa sc ty key (fdV S ty key) := fun W hW => by
  have := findI_sl ty key W hW
  rw [h] at this
  exact this

/-- in both loops. -/
def ChRel (m : Nat) (w0 : World) (iv : Value) (wr : World) : Prop := ∃ k : Nat, k ≤ m ∧ iv = .int .i64 (k : Int) ∧ Below w0.heap.size w0 wr
/-- behind 'same'. -/
def CutS (z id : ByteArray) (w13 : World) (v : Value) (wx : World) : Prop := ∃ (b : Bool) (nq : Nat), v = .bool b ∧ wx = w13.drewN nq ∧ (b = false → z = id)

set_option maxRecDepth 100000 in
set_option maxHeartbeats 40000000 in
theorem lawChanges (hslot : SlotC) {a : Option Addr} {n cap : Nat} (w : World) (hle : n ≤ cap) (hmax : cap ≤ maxLen) (h : BytesIn w a n) :
    Calls Try.prog 3 #[.slice a n cap] w fun e w' => e = .returned (.bool true) ∧ Below w.heap.size w w' := by
  have HS : Hid (∀ W, BytesIn W a n → Calls Try.prog 4 #[.slice a n cap] W (DdPost W)) := fun W hW => drawDelta_any hslot W hle hmax hW
  clear hslot
  have hnm : (n : Int) ≤ 9223372036854775807 := by unfold maxLen at hmax; omega
  clear hmax
  by_cases hbig : 1048576 < n
  · go_enter Try.func3, Try.ntmps3
    go_wp2
    go_ret
    exact ⟨rfl, Below.refl _ _⟩
  go_enter Try.func3, Try.ntmps3
  go_wp2_with fail
  refine (HS.out w h).mono ?_
  rintro e w1 ⟨xa, xc, la, ya, yc, lb, rfl, hsa, hsb, hla, hlb, hw1⟩
  clear HS h
  go_wp2_with fail
  refine (stateS_sl _ hsa).mono ?_
  rintro e w2 ⟨rfl, hb2⟩
  have hw2 := hw1.trans (hb2.mono hw1.size)
  have hsa2 := hsa.below hb2
  have hsb2 := hsb.below hb2
  clear hsa hsb hb2 hw1
  cases hta : stB la
  case false =>
    have hde : deOk la lb = false := by simp [deOk, hta]
    have HD : Hid (∀ W, Below w2.heap.size w2 W → Calls Try.prog 7 #[.slice xa la.length xc, .slice ya lb.length yc] W (AnsE [] false W)) := fun W hW => by
      have := deltaI_ans W (hsa2.below hW) (hsb2.below hW)
      rw [deV_ff hde, hde] at this
      exact this
    go_wp2_with fail
    refine (stateI_sl _ hsa2).mono ?_
    rintro e w3 ⟨rfl, hb3⟩
    rw [hta]
    go_wp2_with fail
    refine (HD.out _ hb3).mono ?_
    rintro e w4 ⟨hb4, va, vc, rfl, _, _⟩
    go_wp2
    go_ret
    exact ⟨rfl, (hw2.trans (hb3.mono hw2.size)).trans (hb4.mono (Nat.le_trans hw2.size hb3.size))⟩
  case true =>
    go_wp2_with fail
    refine (stateS_sl _ hsb2).mono ?_
    rintro e w3 ⟨rfl, hb3⟩
    have hw3 := hw2.trans (hb3.mono hw2.size)
    have hsa3 := hsa2.below hb3
    have hsb3 := hsb2.below hb3
    clear hsa2 hsb2 hb3 hw2
    cases htb : stB lb
    case false =>
      have hde : deOk la lb = false := by simp [deOk, htb]
      have HD : Hid (∀ W, Below w3.heap.size w3 W → Calls Try.prog 7 #[.slice xa la.length xc, .slice ya lb.length yc] W (AnsE [] false W)) := fun W hW => by
        have := deltaI_ans W (hsa3.below hW) (hsb3.below hW)
        rw [deV_ff hde, hde] at this
        exact this
      go_wp2_with fail
      refine (stateI_sl _ hsa3).mono ?_
      rintro e w4 ⟨rfl, hb4⟩
      rw [hta]
      go_wp2_with fail
      refine (stateI_sl _ (hsb3.below hb4)).mono ?_
      rintro e w5 ⟨rfl, hb5⟩
      rw [htb]
      have hb35 := hb4.trans (hb5.mono hb4.size)
      go_wp2_with fail
      refine (HD.out _ hb35).mono ?_
      rintro e w6 ⟨hb6, va, vc, rfl, _, _⟩
      go_wp2
      go_ret
      exact ⟨rfl, (hw3.trans (hb35.mono hw3.size)).trans (hb6.mono (Nat.le_trans hw3.size hb35.size))⟩
    case true =>
      go_wp2_with fail
      refine (stateI_sl _ hsa3).mono ?_
      rintro e w4 ⟨rfl, hb4⟩
      rw [hta]
      go_wp2_with fail
      refine (stateI_sl _ (hsb3.below hb4)).mono ?_
      rintro e w5 ⟨rfl, hb5⟩
      rw [htb]
      have hb35 := hb4.trans (hb5.mono hb4.size)
      have hw5 := hw3.trans (hb35.mono hw3.size)
      have hsa5 := hsa3.below hb35
      have hsb5 := hsb3.below hb35
      have hde : deOk la lb = true := by simp [deOk, hta, htb]
      have hde2 : deOk la la = true := by simp [deOk, hta]
      have hdv : deV la lb = dl2 la lb lb.length := by unfold deV; rw [hde]; rfl
      have hdn : deV la la = [] := by unfold deV; rw [hde2, if_pos rfl]; exact chg_none hta
      have hcb := chg_back hta htb
      rw [← hdv] at hcb
      have H1 : Hid (Calls Try.prog 7 #[.slice xa la.length xc, .slice ya lb.length yc] w5 (AnsE (deV la lb) true w5)) := by
        have := deltaI_ans w5 hsa5 hsb5
        rw [hde] at this
        exact this
      have H2 : Hid (∀ W, SlE W xa xc la → Calls Try.prog 7 #[.slice xa la.length xc, .slice xa la.length xc] W (AnsE [] true W)) := fun W hW => by
        have := deltaI_ans W hW hW
        rw [hdn, hde2] at this
        exact this
      have H3 : Hid (∀ W (d : Option Addr) (dc : Nat), SlE W xa xc la → SlE W d dc (deV la lb) → Calls Try.prog 8 #[.slice xa la.length xc, .slice d (deV la lb).length dc] W fun e w' => ∃ v, e = .returned (.tuple #[v, .bool true]) ∧ OwnE w' W.heap.size v lb ∧ Below W.heap.size W w') := fun W d dc h1 h2 => by
        have := patchI_sl W h1 h2
        rw [hcb.1, hcb.2] at this
        exact this
      have Hok : Hid (AllOk la ∧ AllOk lb) := ⟨hsa5.ok, hsb5.ok⟩
      have Hst : Hid (stB la = true ∧ stB lb = true) := ⟨hta, htb⟩
      clear hcb hdv hdn hde hde2 hb4 hb5 hb35 hsa3 hsb3 hw3 hta htb
      generalize deV la lb = D at *
      go_wp2_with fail
      refine (H1.out).mono ?_
      rintro e w6 ⟨hb6, da, dc, rfl, hsd6, _⟩
      have hw6 := hw5.trans (hb6.mono hw5.size)
      have hsa6 := hsa5.below hb6
      have hsb6 := hsb5.below hb6
      clear hsa5 hsb5 hb6 hw5 H1
      go_wp2_with fail
      refine (H3.out _ _ _ hsa6 hsd6).mono ?_
      rintro e w7 ⟨v7, rfl, ho7, hb7⟩
      obtain ⟨ca, cc, rfl, hsc7⟩ := ho7.sl Hok.out.2.at
      have hw7 := hw6.trans (hb7.mono hw6.size)
      have hsa7 := hsa6.below hb7
      have hsb7 := hsb6.below hb7
      clear hsa6 hsb6 hb7 hw6 H3 hsd6 ho7
      go_wp2_with fail
      refine (H2.out _ hsa7).mono ?_
      rintro e w8 ⟨hb8, na, nc, rfl, _, _⟩
      have hw8 := hw7.trans (hb8.mono hw7.size)
      have hsa8 := hsa7.below hb8
      have hsb8 := hsb7.below hb8
      have hsc8 := hsc7.below hb8
      clear hsa7 hsb7 hsc7 hb8 hw7 H2
      go_wp2_with fail
      refine (same_sl _ (by omega) hsc8 hsb8).mono ?_
      rintro e w9 ⟨rfl, hb9⟩
      have hw9 := hw8.trans (hb9.mono hw8.size)
      have hsa9 := hsa8.below hb9
      have hsb9 := hsb8.below hb9
      clear hsa8 hsb8 hsc8 hb9 hw8
      go_wp2_with fail
      go_loopw [12] (fun iv wr => ChRel lb.length w9 iv wr) (fun iv _ => lb.length - (intOf iv).toNat)
      case atStart => exact ⟨0, Nat.zero_le _, rfl, Below.refl _ _⟩
      case round =>
        obtain ⟨k, hk, rfl, hbr⟩ := hrel
        by_cases hlt : k < lb.length
        · have hsaR := hsa9.below hbr
          have hsbR := hsb9.below hbr
          rcases hsbR.cells with h0 | ⟨yb, yo, rfl, hyb, c1, c2, c3⟩
          · rw [h0] at hlt; exact absurd hlt (Nat.not_lt_zero _)
          have a1 := c1 k hlt
          have a2 := c2 k hlt
          have a3 := c3 k hlt
          have Hxs : Hid ((eAt lb k).ty.size ≤ maxLen ∧ (eAt lb k).key.size ≤ maxLen ∧ (eAt lb k).id.size ≤ maxLen) := Hok.out.2.at k hlt
          clear c1 c2 c3
          generalize eAt lb k = x at *
          have HokV : Hid (AllOk (putV la x)) := putV_okC Hok.out.1 Hxs.out
          have HPs : Hid (∀ W, SlE W xa xc la → Calls Try.prog 10 #[.slice xa la.length xc, entV x] W (AnsE (putV la x) (putOk la x) W)) := fun W hW => by
            refine (putS_sl x W hW Hxs.out).mono ?_
            rintro e w' ⟨v, rfl, ho, hb⟩
            exact ansE_of _ hb ho HokV.out
          have HPi : Hid (∀ W, SlE W xa xc la → Calls Try.prog 11 #[.slice xa la.length xc, entV x] W (AnsE (putV la x) (putOk la x) W)) := fun W hW => putI_sl x W hW Hxs.out
          have HF : Hid (putOk la x = true → (∀ sa sc, FndC (putV la x) sa sc x.ty x.key x.id) ∧ ∀ y ∈ la, ∃ z, (¬ (y.ty = x.ty ∧ y.key = x.key) → z = y.id) ∧ ∀ sa sc, FndC (putV la x) sa sc y.ty y.key z) := fun hp => by
            obtain ⟨q1, q2⟩ := put_find hp
            refine ⟨fun sa sc => by rw [← q1]; exact fndC_of q2, fun y hy => ?_⟩
            obtain ⟨q3, q4⟩ := put_other hp hy
            exact ⟨fdV (putV la x) y.ty y.key, q4, fun sa sc => fndC_of q3⟩
          generalize putV la x = S at *
          generalize putOk la x = pq at *
          go_wp2_with fail
          refine (HPs.out _ hsaR).mono ?_
          rintro e w10 ⟨hb10, va, vc, rfl, _, _⟩
          have b1 := (hb10.cell (by exact hyb)).trans a1
          have b2 := (hb10.cell (by exact hyb)).trans a2
          have b3 := (hb10.cell (by exact hyb)).trans a3
          have hyb10 := Nat.lt_of_lt_of_le hyb hb10.size
          have hsa10 := hsaR.below hb10
          have hw10 := hbr.trans (hb10.mono hbr.size)
          clear a1 a2 a3 hb10 hsaR hsbR HPs hyb
          go_wp2_with fail
          refine (HPi.out _ hsa10).mono ?_
          rintro e w11 ⟨hb11, sa, sc, rfl, hss11, _⟩
          have a1 := (hb11.cell (by exact hyb10)).trans b1
          have a2 := (hb11.cell (by exact hyb10)).trans b2
          have a3 := (hb11.cell (by exact hyb10)).trans b3
          have hyb11 := Nat.lt_of_lt_of_le hyb10 hb11.size
          have hsa11 := hsa10.below hb11
          have hw11 := hw10.trans (hb11.mono hw10.size)
          clear b1 b2 b3 hb11 hsa10 HPi hyb10 hw10
          cases hpq : pq
          case false =>
            rw [hpq] at HF
            go_wp2
            exact ⟨⟨k + 1, by omega, by go_num, hw11⟩, by simp [intOf]; omega⟩
          case true =>
            obtain ⟨hF1, hF2⟩ := HF.out hpq
            have HF1 : Hid (FndC S sa sc x.ty x.key x.id) := hF1 sa sc
            have HF2 : Hid (∀ y ∈ la, ∃ z, (¬ (y.ty = x.ty ∧ y.key = x.key) → z = y.id) ∧ ∀ sa sc, FndC S sa sc y.ty y.key z) := hF2
            clear HF hF1 hF2
            subst hpq
            go_wp2_with fail
            go_cut [17, 18] from 88 to 206 (fun v17 v18 wx => v17 = .string x.id ∧ v18 = .bool true ∧ Below w11.heap.size w11 wx)
            case first =>
              go_region_with (go_at_call 12; refine (HF1.out _ (hss11.below (by first | exact Below.refl w11.heap.size w11 | exact (Below.refl w11.heap.size w11).drew | exact (Below.refl w11.heap.size w11).drew.drew))).mono ?_; rintro e w12 ⟨rfl, hb12'⟩; have hb12 : Below w11.heap.size w11 w12 := Below.trans (by first | exact Below.refl w11.heap.size w11 | exact (Below.refl w11.heap.size w11).drew | exact (Below.refl w11.heap.size w11).drew.drew) hb12')
              all_goals (try go_wp2_with fail)
              all_goals go_meet
              all_goals exact ⟨rfl, rfl, hb12⟩
            case rest =>
              obtain ⟨rfl, rfl, hb12⟩ := hcut
              obtain ⟨w12, hw12e⟩ : ∃ w12 : World, w12 = wc := ⟨_, rfl⟩
              subst hw12e
              have b1 := (hb12.cell (by exact hyb11)).trans a1
              have b2 := (hb12.cell (by exact hyb11)).trans a2
              have b3 := (hb12.cell (by exact hyb11)).trans a3
              have hyb12 := Nat.lt_of_lt_of_le hyb11 hb12.size
              have hsa12 := hsa11.below hb12
              have hss12 := hss11.below hb12
              have hw12 := hw11.trans (hb12.mono hw11.size)
              clear a1 a2 a3 hb12 hsa11 hss11 hw11 HF1
              go_wp2_with fail
              obtain ⟨wo, hwo⟩ : ∃ wo : World, wo = wr := ⟨_, rfl⟩
              subst hwo
              clear hbr
              go_loopw [19] (fun iv wr => ChRel la.length w12 iv wr) (fun iv _ => la.length - (intOf iv).toNat)
              case atStart => exact ⟨0, Nat.zero_le _, rfl, Below.refl _ _⟩
              case round =>
                obtain ⟨j, hj, rfl, hbj⟩ := hrel
                by_cases hltj : j < la.length
                · have hsaJ := hsa12.below hbj
                  have hssJ := hss12.below hbj
                  have d1 := (hbj.cell (by exact hyb12)).trans b1
                  have d2 := (hbj.cell (by exact hyb12)).trans b2
                  have hybJ := Nat.lt_of_lt_of_le hyb12 hbj.size
                  rcases hsaJ.cells with h0 | ⟨xb, xo, rfl, hxb, c1, c2, c3⟩
                  · rw [h0] at hltj; exact absurd hltj (Nat.not_lt_zero _)
                  have f1 := c1 j hltj
                  have f2 := c2 j hltj
                  have f3 := c3 j hltj
                  obtain ⟨z, hz, hfz⟩ := HF2.out (eAt la j) (eAt_mem la j hltj)
                  have HFz : Hid (∀ sa sc, FndC S sa sc (eAt la j).ty (eAt la j).key z) := hfz
                  have Hz : Hid (¬ ((eAt la j).ty = x.ty ∧ (eAt la j).key = x.key) → z = (eAt la j).id) := hz
                  clear c1 c2 c3 hz hfz b1 b2 b3 hsaJ
                  generalize eAt la j = y at *
                  go_wp2_with fail
                  go_cut [20, 21] from 147 to 206 (fun v20 v21 wx => v20 = .string z ∧ v21 = .bool true ∧ Below wr.heap.size wr wx)
                  case first =>
                    go_region_with (go_at_call 12; refine (HFz.out _ _ _ (hssJ.below (by first | exact Below.refl wr.heap.size wr | exact (Below.refl wr.heap.size wr).drew | exact (Below.refl wr.heap.size wr).drew.drew))).mono ?_; rintro e w13 ⟨rfl, hb13'⟩; have hb13 : Below wr.heap.size wr w13 := Below.trans (by first | exact Below.refl wr.heap.size wr | exact (Below.refl wr.heap.size wr).drew | exact (Below.refl wr.heap.size wr).drew.drew) hb13')
                    all_goals (try go_wp2_with fail)
                    all_goals go_meet
                    all_goals exact ⟨rfl, rfl, hb13⟩
                  case rest =>
                    obtain ⟨rfl, rfl, hb13⟩ := hcut
                    obtain ⟨w13, hw13e⟩ : ∃ w13 : World, w13 = wc := ⟨_, rfl⟩
                    subst hw13e
                    have g1 := (hb13.cell (by exact hxb)).trans f1
                    have g2 := (hb13.cell (by exact hxb)).trans f2
                    have g3 := (hb13.cell (by exact hxb)).trans f3
                    have k1 := (hb13.cell (by exact hybJ)).trans d1
                    have k2 := (hb13.cell (by exact hybJ)).trans d2
                    have hw13 := hbj.trans (hb13.mono hbj.size)
                    clear f1 f2 f3 d1 d2 hb13 HFz hssJ
                    go_wp2_with fail
                    go_cut [22] from 147 to 206 (fun v22 wx => CutS z y.id w13 v22 wx)
                    case first =>
                      by_cases hty : y.ty.toList = x.ty.toList
                      · have hty1 : (y.ty.toList == x.ty.toList) = true := by simp [hty]
                        by_cases hkey : y.key.toList = x.key.toList
                        · have hkey1 : (y.key.toList == x.key.toList) = true := by simp [hkey]
                          clear hty hkey
                          go_quiet (fail)
                          go_wp2_with fail
                          go_meet
                          exact ⟨true, nq, rfl, rfl, fun h => by cases h⟩
                        · have hkey1 : (y.key.toList == x.key.toList) = false := by simp [hkey]
                          have Hzz : Hid (z = y.id) := Hz.out (fun h => hkey (by rw [h.2]))
                          clear hty hkey
                          go_quiet (fail)
                          go_wp2_with fail
                          go_meet
                          exact ⟨false, nq, rfl, rfl, fun _ => Hzz.out⟩
                      · have hty1 : (y.ty.toList == x.ty.toList) = false := by simp [hty]
                        have Hzz : Hid (z = y.id) := Hz.out (fun h => hty (by rw [h.1]))
                        clear hty
                        go_quiet (fail)
                        go_wp2_with fail
                        go_meet
                        exact ⟨false, nq, rfl, rfl, fun _ => Hzz.out⟩
                    case rest =>
                      obtain ⟨bs, nq, rfl, rfl, hbs⟩ := hcut
                      have hwq : Below w12.heap.size w12 (w13.drewN nq) := hw13.trans (Dr.below ⟨nq, rfl⟩ _)
                      cases bs
                      case true =>
                        clear hbs
                        go_wp2
                        go_roundw
                        case rel => first | exact ⟨j + 1, by omega, by go_num, hwq⟩ | ((repeat apply Exists.intro); exact ⟨⟨j + 1, by omega, by go_num, hwq⟩, rfl⟩)
                        case measure => simp [intOf]; omega
                      case false =>
                        have hzz := hbs rfl
                        subst hzz
                        clear hbs
                        go_wp2
                        go_roundw
                        case rel => first | exact ⟨j + 1, by omega, by go_num, hwq⟩ | ((repeat apply Exists.intro); exact ⟨⟨j + 1, by omega, by go_num, hwq⟩, rfl⟩)
                        case measure => simp [intOf]; omega
                · have hfin := hw12.trans (hbj.mono hw12.size)
                  go_wp2
                  go_roundw
                  case rel => first | exact ⟨k + 1, by omega, by go_num, hfin⟩ | ((repeat apply Exists.intro); exact ⟨⟨k + 1, by omega, by go_num, hfin⟩, rfl⟩)
                  case measure => simp [intOf]; omega
        · have hfin := hw9.trans (hbr.mono hw9.size)
          go_wp2
          go_ret
          exact ⟨rfl, hfin⟩
end Go.Proofs.Ytfobcmememaejaa
