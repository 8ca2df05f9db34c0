/-
  impl's isReady.
-/
import Derived.Test.YtfjfhnjoghlbfaaGreatWpA
namespace Go.Proofs.YtfjfhnjoghlbfaaGreat
open Go.RowKit

theorem rdC_any {bw b n q : Nat} {Wt : Nat → Bool} (w : World) (hc : w.cell? ⟨bw, 0, none⟩ = some (.slice (some ⟨b, 0, none⟩) n n)) (hq : q < n) (hb : w.cell? ⟨b, q, none⟩ = some (.bool (Wt q))) :
    Calls Tryz.prog 67 #[.int .i64 (q : Int), .pointer (some ⟨bw, 0, none⟩)] w fun e w' => e = .returned (.bool (Wt q)) ∧ w' = w := by
  have hx1 : (0 : Int) ≤ (q : Int) := by omega
  have hx2 : (q : Int) < (n : Int) := by omega
  generalize Wt q = bq at *
  go_enter Tryz.func67, Tryz.ntmps67
  go_wp2
  go_ret
  exact ⟨rfl, rfl⟩

/-- one of the first k bears a mark. -/
def anyTo (Wt : Nat → Bool) (X : Nat → Int) : Nat → Bool
  | 0 => false
  | k + 1 => anyTo Wt X k || Wt (X k).toNat
theorem anyTo_le (Wt : Nat → Bool) (X : Nat → Int) : ∀ m k, k < m → Wt (X k).toNat = true → anyTo Wt X m = true
  | m + 1, k, hk, e => by
    rw [anyTo]
    by_cases h : k = m
    · subst h; rw [e, Bool.or_true]
    · rw [anyTo_le Wt X m k (by omega) e]; rfl
theorem anyTo_iff (Wt : Nat → Bool) (X : Nat → Int) : ∀ m, anyTo Wt X m = true ↔ ∃ k, k < m ∧ Wt (X k).toNat = true
  | 0 => by simp [anyTo]
  | m + 1 => by
    rw [anyTo, Bool.or_eq_true, anyTo_iff Wt X m]
    constructor
    · rintro (⟨k, hk, e⟩ | e)
      · exact ⟨k, by omega, e⟩
      · exact ⟨m, by omega, e⟩
    · rintro ⟨k, hk, e⟩
      by_cases h : k = m
      · subst h; exact Or.inr e
      · exact Or.inl ⟨k, by omega, e⟩

set_option maxRecDepth 100000 in
set_option maxHeartbeats 1000000 in
theorem idxR_sl {a : Option Addr} {m cap bw b n : Nat} {X : Nat → Int} {Wt : Nat → Bool} (w : World) (hX : SlI w a m cap X) (hXn : ∀ k, k < m → ∃ q, q < n ∧ X k = (q : Int)) (hc : w.cell? ⟨bw, 0, none⟩ = some (.slice (some ⟨b, 0, none⟩) n n)) (hM : BlAt w b n Wt) :
    Calls Tryz.prog 88 #[.slice a m cap, .func (.func 67) #[] #[.pointer (some ⟨bw, 0, none⟩)]] w fun e w' => ∃ z : Int, e = .returned (.int .i64 z) ∧ Hid (decide (0 ≤ z) = anyTo Wt X m) ∧ w' = w := by
  have hmx := Nat.le_trans hX.le hX.max
  unfold maxLen at hmx
  have HX : Hid (SlI w a m cap X) := hX
  have Hn : Hid (∀ k, k < m → ∃ q, q < n ∧ X k = (q : Int)) := hXn
  have HC : Hid (∀ q, q < n → Calls Tryz.prog 67 #[.int .i64 (q : Int), .pointer (some ⟨bw, 0, none⟩)] w fun e w' => e = .returned (.bool (Wt q)) ∧ w' = w) := fun q hq => rdC_any w hc hq (hM.2 q hq).1
  clear hX hXn hc hM
  go_enter Tryz.func88, Tryz.ntmps88
  go_wp2
  go_loopw [8] (fun i wr => ∃ k : Nat, k ≤ m ∧ i = .int .i64 k ∧ Hid (anyTo Wt X k = false) ∧ wr = w) (fun i _ => m - (intOf i).toNat)
  case atStart => exact ⟨0, Nat.zero_le _, rfl, rfl, rfl⟩
  case round =>
    obtain ⟨k, hk, rfl, hto, hwr⟩ := hrel
    subst hwr
    by_cases hlt : k < m
    · rcases HX.out.cells with h0 | ⟨ba, oa, rfl, hba, hca⟩
      · omega
      obtain ⟨q, hq, eq⟩ := Hn.out k hlt
      have hck : wr.cell? ⟨ba, oa + k, none⟩ = some (.int .i64 (q : Int)) := by rw [← eq]; exact hca k hlt
      have HQ : Hid (∀ b1, Wt q = b1 → Calls Tryz.prog 67 #[.int .i64 (q : Int), .pointer (some ⟨bw, 0, none⟩)] wr fun e w' => e = .returned (.bool b1) ∧ w' = wr) := fun b1 e1 => by rw [← e1]; exact HC.out q hq
      have HS : Hid (∀ b1, Wt q = b1 → anyTo Wt X (k + 1) = b1) := fun b1 e1 => by rw [anyTo, hto.out, eq, Int.toNat_natCast, e1]; rfl
      have HT : Hid (Wt q = true → anyTo Wt X m = true) := fun e1 => anyTo_le Wt X m k hlt (by rw [eq, Int.toNat_natCast]; exact e1)
      clear hca eq hto
      cases he : Wt q
      case false =>
        have HQ' : Hid (Calls Tryz.prog 67 #[.int .i64 (q : Int), .pointer (some ⟨bw, 0, none⟩)] wr fun e w' => e = .returned (.bool false) ∧ w' = wr) := HQ.out _ he
        have hto2 : Hid (anyTo Wt X (k + 1) = false) := HS.out _ he
        clear HQ HS HT he
        go_wp2_with (go_at_call 67; refine (HQ'.out).mono ?_; rintro e w1 ⟨rfl, rfl⟩)
        go_roundw
        case rel => exact ⟨k + 1, by omega, by go_num, hto2, by first | rfl | trivial⟩
        case measure => simp [intOf]; omega
      case true =>
        have HQ' : Hid (Calls Tryz.prog 67 #[.int .i64 (q : Int), .pointer (some ⟨bw, 0, none⟩)] wr fun e w' => e = .returned (.bool true) ∧ w' = wr) := HQ.out _ he
        have hto2 : Hid (anyTo Wt X m = true) := HT.out he
        clear HQ HS HT he
        go_wp2_with (go_at_call 67; refine (HQ'.out).mono ?_; rintro e w1 ⟨rfl, rfl⟩)
        go_ret
        exact ⟨(k : Int), rfl, by unfold Hid; rw [hto2.out]; simp, rfl⟩
    · have hkn : m = k := by omega
      have hto2 : Hid (anyTo Wt X m = false) := by rw [hkn]; exact hto
      clear hto
      go_wp2
      go_ret
      exact ⟨-1, rfl, by unfold Hid; rw [hto2.out]; rfl, rfl⟩

theorem contR_sl {a : Option Addr} {m cap bw b n : Nat} {X : Nat → Int} {Wt : Nat → Bool} (w : World) (hX : SlI w a m cap X) (hXn : ∀ k, k < m → ∃ q, q < n ∧ X k = (q : Int)) (hc : w.cell? ⟨bw, 0, none⟩ = some (.slice (some ⟨b, 0, none⟩) n n)) (hM : BlAt w b n Wt) :
    Calls Tryz.prog 68 #[.slice a m cap, .func (.func 67) #[] #[.pointer (some ⟨bw, 0, none⟩)]] w fun e w' => e = .returned (.bool (anyTo Wt X m)) ∧ w' = w := by
  have HI : Hid (Calls Tryz.prog 88 #[.slice a m cap, .func (.func 67) #[] #[.pointer (some ⟨bw, 0, none⟩)]] w fun e w' => ∃ z : Int, e = .returned (.int .i64 z) ∧ Hid (decide (0 ≤ z) = anyTo Wt X m) ∧ w' = w) := idxR_sl w hX hXn hc hM
  clear hX hXn hc hM
  go_enter Tryz.func68, Tryz.ntmps68
  go_wp2_with fail
  refine (HI.out).mono ?_
  rintro e w1 ⟨z, rfl, hz, rfl⟩
  go_wp2
  go_ret
  exact ⟨ret_bool hz.out, rfl⟩

def RdPost (w : World) (E : Nat → Ev) (n p : Nat) (Wt : Nat → Bool) (e : Ending) (w' : World) : Prop := ∃ q, e = .returned (.bool q) ∧ (q = true ↔ ∀ r, Rst E n p r → Wt r = false) ∧ Below w.heap.size w w'

set_option maxRecDepth 100000 in
set_option maxHeartbeats 1000000 in
theorem rdI_sl {a : Option Addr} {n cap p b : Nat} {E : Nat → Ev} {mm : Option Nat} {ra : Option Addr} {rc : Nat} {Wt : Nat → Bool} (w : World) (hroom : roomTo E n = true) (hp : p < n) (hr : SlL w ra n rc (restN E) (restV E)) (hM : BlAt w b n Wt) :
    Calls Tryz.prog 44 #[.agg #[.slice a n cap, .map mm, .slice ra n rc], .int .i64 (p : Int), .slice (some ⟨b, 0, none⟩) n n] w (RdPost w E n p Wt) := by
  rcases hr.cells with h0 | ⟨br, orr, rfl, hbr, hrc⟩
  · omega
  obtain ⟨xa, xc, hx1, hx2⟩ := hrc p hp
  obtain ⟨wb, hwb⟩ : ∃ wb, wb = (w.alloc (.cells #[.slice a n cap, .map mm, .slice (some ⟨br, orr, none⟩) n rc] 48)).alloc (.cells #[.slice (some ⟨b, 0, none⟩) n n] 56) := ⟨_, rfl⟩
  have hb0 : Below w.heap.size w wb := by rw [hwb]; exact ((Below.refl _ _).alloc (Nat.le_refl _) _).alloc (by simp) _
  have g2 : wb.cell? ⟨w.heap.size, 2, none⟩ = some (.slice (some ⟨br, orr, none⟩) n rc) := by
    rw [hwb]
    exact box_cells ((Below.refl _ _).alloc (by simp) _) 2
  have w0 : wb.cell? ⟨w.heap.size + 1, 0, none⟩ = some (.slice (some ⟨b, 0, none⟩) n n) := by rw [hwb]; exact World.cell?_alloc_at _ _ _ _ (by simp)
  have hcp : wb.cell? ⟨br, orr + p, none⟩ = some (.slice xa (E p).na xc) := (hb0.cell (by exact hbr)).trans hx1
  have hX : SlI wb xa (E p).na xc (restV E p) := SlI.below hx2 hb0
  have HCf : Hid (Calls Tryz.prog 68 #[.slice xa (E p).na xc, .func (.func 67) #[] #[.pointer (some ⟨w.heap.size + 1, 0, none⟩)]] wb fun e w' => e = .returned (.bool (anyTo Wt (restV E p) (E p).na)) ∧ w' = wb) := contR_sl wb hX (fun k hk => by
    obtain ⟨j, hj, e, _⟩ := auth_there hroom hp hk
    exact ⟨j, by omega, (room_auth hroom hp hk).2.2.trans e⟩) w0 (hM.below hb0)
  have Hiff : Hid ((!anyTo Wt (restV E p) (E p).na) = true ↔ ∀ r, Rst E n p r → Wt r = false) := by
    unfold Hid
    rw [Bool.not_eq_true', ← Bool.not_eq_true, anyTo_iff]
    constructor
    · rintro h r ⟨k, hk, e⟩
      cases hw : Wt r
      · rfl
      · refine absurd ⟨k, hk, ?_⟩ h
        have : restV E p k = (r : Int) := (room_auth hroom hp hk).2.2.trans e
        rw [this, Int.toNat_natCast]
        exact hw
    · rintro h ⟨k, hk, e⟩
      obtain ⟨j, hj, ej, _⟩ := auth_there hroom hp hk
      have h1 : restV E p k = (j : Int) := (room_auth hroom hp hk).2.2.trans ej
      rw [h1, Int.toNat_natCast, h j ⟨k, hk, ej⟩] at e
      cases e
  have hi1 : (0 : Int) ≤ (p : Int) := by omega
  have hi2 : (p : Int) < (n : Int) := by omega
  clear hX hx1 hx2 hrc hr hM hroom
  generalize anyTo Wt (restV E p) (E p).na = av at *
  generalize (E p).na = na at *
  go_enter Tryz.func44, Tryz.ntmps44
  go_upto_region 2 with fail
  rw [← hwb]
  clear hwb
  go_wp2_with fail
  refine (HCf.out).mono ?_
  rintro e w1 ⟨rfl, rfl⟩
  go_wp2
  go_ret
  exact ⟨_, rfl, Hiff.out, hb0⟩
end Go.Proofs.YtfjfhnjoghlbfaaGreat
