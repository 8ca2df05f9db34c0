/-
  impl's chain and given.
-/
import Derived.Test.YtfjfhnjoghlbfaaGreatTpA
import Derived.Test.YtfjfhnjoghlbfaaGreatMrk
namespace Go.Proofs.YtfjfhnjoghlbfaaGreat
open Go.RowKit

theorem bl_made (W : World) (n : Nat) : BlAt (W.alloc (.cells (madeCells #[.bool false] n) 4)) W.heap.size n (fun _ => false) := by
  refine ⟨by simp, fun i hi => ⟨?_, World.frozen?_alloc_at _ _ _ _ rfl⟩⟩
  rw [World.cell?_alloc_at _ _ _ _ rfl, trues_zero]
  simp [trues, hi]

theorem hitS_step {E : Nat → Ev} {n : Nat} {S : Nat → ByteArray} {k j i : Nat} (h : posV E n (S k) = (j : Int)) : (if i = j then true else hitS E n S i k) = hitS E n S i (k + 1) := by
  rw [hitS, h]
  by_cases e : i = j
  · subst e; simp
  · have : ¬ ((j : Int) = (i : Int)) := by omega
    simp [e, this]
/-- the marks behind t events and j of those that the next one rests on. -/
def rchN (E : Nat → Ev) (n : Nat) (B : Nat → Bool) (t p j : Nat) : Nat → Bool := fun i => rchT E n B t i || hitS E n (E p).Av i j
theorem rchN_step {E : Nat → Ev} {n : Nat} {B : Nat → Bool} {t p j y i : Nat} (h : posV E n ((E p).Av j) = (y : Int)) : (if i = y then true else rchN E n B t p j i) = rchN E n B t p (j + 1) i := by
  unfold rchN
  rw [← hitS_step h]
  by_cases e : i = y
  · simp [e]
  · simp [e]
theorem rchN_end {E : Nat → Ev} {n : Nat} {B : Nat → Bool} {t p i : Nat} (hp : p = n - 1 - t) (h : (B p || rchT E n B t p) = true) : rchN E n B t p (E p).na i = rchT E n B (t + 1) i := by
  subst hp
  unfold rchN
  rw [rchT, h]
  simp
theorem rchT_skip {E : Nat → Ev} {n : Nat} {B : Nat → Bool} {t p i : Nat} (hp : p = n - 1 - t) (h : (B p || rchT E n B t p) = false) : rchT E n B t i = rchT E n B (t + 1) i := by
  subst hp
  rw [rchT, h]
  simp

set_option maxRecDepth 100000 in
set_option maxHeartbeats 2000000 in
theorem chainI_sl {a : Option Addr} {n cap m : Nat} {E : Nat → Ev} {ra : Option Addr} {rc : Nat} {ga : Option Addr} {gn gc : Nat} {S : Nat → ByteArray} (w : World) (hroom : roomTo E n = true) (hr : SlL w ra n rc (restN E) (restV E))
    (hg : SlI w ga gn gc (fun i => posV E n (S i))) (hth : ∀ i, i < gn → 0 ≤ posV E n (S i)) :
    Calls Tryz.prog 83 #[.agg #[.slice a n cap, .map (some m), .slice ra n rc], .slice ga gn gc] w fun e w' =>
      ∃ b, e = .returned (.slice (some ⟨b, 0, none⟩) n n) ∧ w.heap.size ≤ b ∧ BlAt w' b n (rchT E n (fun i => hitS E n S i gn) n) ∧ Below w.heap.size w w' := by
  obtain ⟨bf, hbf⟩ : ∃ bf : Nat → Bool, bf = fun i => hitS E n S i gn := ⟨_, rfl⟩
  rw [← hbf]
  have Hbf : Hid (bf = fun i => hitS E n S i gn) := hbf
  clear hbf
  have h300 := room_300 hroom
  have hgm := Nat.le_trans hg.le hg.max
  unfold maxLen at hgm
  obtain ⟨wb, hwb⟩ : ∃ wb, wb = w.alloc (.cells #[.slice a n cap, .map (some m), .slice ra n rc] 48) := ⟨_, rfl⟩
  have hb0 : Below w.heap.size w wb := by rw [hwb]; exact (Below.refl _ _).alloc (Nat.le_refl _) _
  have hs0 : wb.heap.size = w.heap.size + 1 := by rw [hwb]; simp
  have hbx : Hid (∀ wx, Below (w.heap.size + 1) wb wx → ∀ o, wx.cell? ⟨w.heap.size, o, none⟩ = (#[.slice a n cap, .map (some m), .slice ra n rc] : Array Value)[o]?) := fun wx hx => by subst hwb; exact box_cells hx
  have hmk := make_bool n (by omega) wb
  rw [hs0] at hmk
  have hmk' : (Instr.makeSlice 56 (.int .i64 (n : Int)) (.int .i64 (n : Int))).run Tryz.prog (w.alloc (.cells #[.slice a n cap, .map (some m), .slice ra n rc] 48)) = .ok (.slice (some ⟨w.heap.size + 1, 0, none⟩) n n) (wb.alloc (.cells (madeCells #[.bool false] n) 4)) := by rw [← hwb]; exact hmk
  have hbl0 := bl_made wb n
  rw [hs0] at hbl0
  have hB0 : Below (w.heap.size + 1) wb (wb.alloc (.cells (madeCells #[.bool false] n) 4)) := (Below.refl _ _).alloc (by omega) _
  have Hth : Hid (_) := hth
  have Hroom : Hid (_) := hroom
  clear hth hroom hmk hwb
  go_enter Tryz.func83, Tryz.ntmps83
  go_wp2_with fail
  clear hmk'
  go_loopw [18] (fun i wr => ∃ k : Nat, k ≤ gn ∧ i = .int .i64 k ∧ BlAt wr (w.heap.size + 1) n (fun i => hitS E n S i k) ∧ Below (w.heap.size + 1) wb wr) (fun i _ => gn - (intOf i).toNat)
  case atStart => exact ⟨0, Nat.zero_le _, rfl, hbl0, hB0⟩
  case round =>
    clear hbl0 hB0
    obtain ⟨k, hk, rfl, hbl, hB⟩ := hrel
    have hbw := hb0.trans (hB.mono (by omega))
    by_cases hlt : k < gn
    · rcases hg.cells with h0 | ⟨bg, og, rfl, hbg, hcg⟩
      · omega
      obtain ⟨j, hj, e, _⟩ : ∃ j, j < n ∧ posV E n (S k) = (j : Int) ∧ True := by
        have := posV_bd E (S k) n
        have := Hth.out k hlt
        exact ⟨(posV E n (S k)).toNat, by omega, by omega, trivial⟩
      have hck : wr.cell? ⟨bg, og + k, none⟩ = some (.int .i64 (j : Int)) := by rw [← e]; exact (hbw.cell (by exact hbg)).trans (hcg k hlt)
      have hm1 := (hbl.2 j hj).1
      have hm2 := (hbl.2 j hj).2
      have Hbl : Hid (BlAt (wr.setCell ⟨w.heap.size + 1, j, none⟩ (.bool true)) (w.heap.size + 1) n (fun i => hitS E n S i (k + 1))) := (hbl.set hj true).congr (fun i _ => hitS_step e)
      clear hcg hbl e
      go_wp2
      go_roundw
      case rel => exact ⟨k + 1, by omega, by go_num, Hbl.out, hB.setCell (Nat.le_refl _) _⟩
      case measure => simp [intOf]; omega
    · have hkn : gn = k := by omega
      subst hkn
      obtain ⟨W, rfl⟩ : ∃ W : World, W = wr := ⟨_, rfl⟩
      have hmk := make_bool n (by omega) W
      have c0 := hbx.out _ hB 0
      have hbl2 := bl_made W n
      have hW2 : Below W.heap.size W (W.alloc (.cells (madeCells #[.bool false] n) 4)) := (Below.refl _ _).alloc (Nat.le_refl _) _
      have hsW : w.heap.size + 1 + 1 ≤ W.heap.size := hbl.1
      have c01 := (hW2.cell (by show w.heap.size < _; omega)).trans c0
      rw [← Hbf.out] at hbl
      go_wp2_with fail
      clear hmk c01
      go_loopw [9] (fun iv wr => ∃ t : Nat, t ≤ n ∧ iv = .int .i64 ((n : Int) - 1 - (t : Int)) ∧ BlAt wr W.heap.size n (rchT E n bf t) ∧ Below W.heap.size W wr) (fun iv _ => (intOf iv + 1).toNat)
      case atStart => exact ⟨0, Nat.zero_le _, by first | rfl | go_num | simp, hbl2, hW2⟩
      case round =>
        clear hbl2 hW2
        obtain ⟨t, ht, rfl, hbt, hBt⟩ := hrel
        have c0t := hbx.out _ (hB.trans (hBt.mono (by omega))) 0
        have c2t := hbx.out _ (hB.trans (hBt.mono (by omega))) 2
        have hbegt := hbl.below hBt
        by_cases hlt2 : t < n
        · obtain ⟨p, hp, ep⟩ : ∃ p : Nat, p = n - 1 - t ∧ (n : Int) - 1 - (t : Int) = (p : Int) := ⟨n - 1 - t, rfl, by omega⟩
          rw [ep]
          have hpn : p < n := by omega
          have m1 := (hbegt.2 p hpn).1
          have m2 := (hbt.2 p hpn).1
          have Hnext : Hid (IntKind.i64.wrap ((p : Int) - 1) = (n : Int) - 1 - ((t + 1 : Nat) : Int)) := by unfold Hid; rw [IntKind.wrap_i64]; omega
          cases hq : (bf p || rchT E n bf t p)
          case false =>
            rw [Bool.or_eq_false_iff] at hq
            rw [hq.1] at m1
            rw [hq.2] at m2
            have Hbt : Hid (BlAt wr W.heap.size n (rchT E n bf (t + 1))) := hbt.congr (fun i _ => rchT_skip hp (by rw [hq.1, hq.2]; rfl))
            have HP : Hid (_) := hp
            clear hq hp ep
            go_wp2
            have hp := HP.out
            exact ⟨⟨t + 1, by omega, congrArg _ (by omega), Hbt.out, hBt⟩, by simp only [intOf]; omega⟩
          case true =>
            have Hend : Hid (∀ i, rchN E n bf t p (E p).na i = rchT E n bf (t + 1) i) := fun i => rchN_end hp hq
            have hbt0 : BlAt wr W.heap.size n (rchN E n bf t p 0) := hbt.congr (fun i _ => by simp [rchN, hitS])
            rcases hr.cells with h0 | ⟨br, orr, rfl, hbr, hcr⟩
            · omega
            obtain ⟨xa, xc, hx, hxs⟩ := hcr p hpn
            have hxr : wr.cell? ⟨br, orr + p, none⟩ = some (.slice xa (restN E p) xc) := ((hbw.trans (hBt.mono hbw.size)).cell (by exact hbr)).trans hx
            have hna : (E p).na ≤ maxLen := Nat.le_trans hxs.le hxs.max
            unfold maxLen at hna
            have HP : Hid (_) := hp
            obtain ⟨wo, rfl⟩ : ∃ wo : World, wo = wr := ⟨_, rfl⟩
            clear hp ep hcr hx hbt
            cases hq1 : bf p
            case true =>
              rw [hq1] at m1
              clear hq hq1
              go_wp2_with fail
              go_loopw [56] (fun jv wi => ∃ j : Nat, j ≤ (E p).na ∧ jv = .int .i64 j ∧ BlAt wi W.heap.size n (rchN E n bf t p j) ∧ Below W.heap.size W wi) (fun jv _ => (E p).na - (intOf jv).toNat)
              case atStart => exact ⟨0, Nat.zero_le _, rfl, hbt0, hBt⟩
              case round =>
                clear hbt0 hBt
                obtain ⟨j, hj, rfl, hbj, hBj⟩ := hrel
                by_cases hlj : j < (E p).na
                · rcases hxs.cells with h0 | ⟨bx, ox, rfl, hbx', hcx⟩
                  · exact absurd h0 (by show ¬ (E p).na = 0; omega)
                  obtain ⟨y, hy, ey, _⟩ := auth_there Hroom.out hpn hlj
                  have hyr : posV E p ((E p).Av j) = (y : Int) := (room_auth Hroom.out hpn hlj).2.2.trans ey
                  have hcy : wr.cell? ⟨bx, ox + j, none⟩ = some (.int .i64 (y : Int)) := by rw [← hyr]; exact ((hbw.trans (hBj.mono hbw.size)).cell (by exact hbx')).trans (hcx j hlj)
                  have hyn : y < n := by omega
                  have n1 := (hbj.2 y hyn).1
                  have n2 := (hbj.2 y hyn).2
                  have Hbl : Hid (BlAt (wr.setCell ⟨W.heap.size, y, none⟩ (.bool true)) W.heap.size n (rchN E n bf t p (j + 1))) := (hbj.set hyn true).congr (fun i _ => rchN_step ey)
                  clear hcx hbj ey hyr
                  go_wp2
                  refine ⟨⟨j + 1, by omega, by go_num, Hbl.out, hBj.setCell (Nat.le_refl _) _⟩, by simp [intOf]; omega⟩
                · have hjn : (E p).na = j := by omega
                  subst hjn
                  go_wp2
                  have hp := HP.out
                  exact ⟨⟨t + 1, by omega, congrArg _ (by omega), hbj.congr (fun i _ => Hend.out i), hBj⟩, by simp only [intOf]; omega⟩
            case false =>
              rw [hq1, Bool.false_or] at hq
              rw [hq1] at m1
              rw [hq] at m2
              clear hq hq1
              go_wp2_with fail
              go_loopw [56] (fun jv wi => ∃ j : Nat, j ≤ (E p).na ∧ jv = .int .i64 j ∧ BlAt wi W.heap.size n (rchN E n bf t p j) ∧ Below W.heap.size W wi) (fun jv _ => (E p).na - (intOf jv).toNat)
              case atStart => exact ⟨0, Nat.zero_le _, rfl, hbt0, hBt⟩
              case round =>
                clear hbt0 hBt
                obtain ⟨j, hj, rfl, hbj, hBj⟩ := hrel
                by_cases hlj : j < (E p).na
                · rcases hxs.cells with h0 | ⟨bx, ox, rfl, hbx', hcx⟩
                  · exact absurd h0 (by show ¬ (E p).na = 0; omega)
                  obtain ⟨y, hy, ey, _⟩ := auth_there Hroom.out hpn hlj
                  have hyr : posV E p ((E p).Av j) = (y : Int) := (room_auth Hroom.out hpn hlj).2.2.trans ey
                  have hcy : wr.cell? ⟨bx, ox + j, none⟩ = some (.int .i64 (y : Int)) := by rw [← hyr]; exact ((hbw.trans (hBj.mono hbw.size)).cell (by exact hbx')).trans (hcx j hlj)
                  have hyn : y < n := by omega
                  have n1 := (hbj.2 y hyn).1
                  have n2 := (hbj.2 y hyn).2
                  have Hbl : Hid (BlAt (wr.setCell ⟨W.heap.size, y, none⟩ (.bool true)) W.heap.size n (rchN E n bf t p (j + 1))) := (hbj.set hyn true).congr (fun i _ => rchN_step ey)
                  clear hcx hbj ey hyr
                  go_wp2
                  refine ⟨⟨j + 1, by omega, by go_num, Hbl.out, hBj.setCell (Nat.le_refl _) _⟩, by simp [intOf]; omega⟩
                · have hjn : (E p).na = j := by omega
                  subst hjn
                  go_wp2
                  have hp := HP.out
                  exact ⟨⟨t + 1, by omega, congrArg _ (by omega), hbj.congr (fun i _ => Hend.out i), hBj⟩, by simp only [intOf]; omega⟩
        · have htn : n = t := by omega
          subst htn
          have e1 : (n : Int) - 1 - (n : Int) = -1 := by omega
          rw [e1]
          go_wp2
          go_ret
          exact ⟨_, rfl, by omega, hbt, hbw.trans (hBt.mono hbw.size)⟩
end Go.Proofs.YtfjfhnjoghlbfaaGreat
