/-
  impl's reachFrom.
-/
import Derived.Test.YtlopjfhdhkonbaaNsI
import Derived.Laws.OwnMore
namespace Go.Proofs.Ytlopjfhdhkonbaa
open Go.RowKit

/-- n cells of block B hold the numbers F; nothing else has turned. -/
def RowF (wb wr : World) (B n : Nat) (F : Nat → Nat) : Prop := (∀ c, c < n → wr.cell? ⟨B, c, none⟩ = some (.int .i64 ((F c : Nat) : Int))) ∧ (∀ c, wr.frozen? ⟨B, c, none⟩ = false) ∧ Mkd B (B + 1) wb wr
theorem RowF.put {wb wr : World} {B n c v : Nat} {F G : Nat → Nat} (h : RowF wb wr B n F) (hc : c < n) (hG : ∀ i, i < n → G i = if i = c then v else F i) : RowF wb (wr.setCell ⟨B, c, none⟩ (.int .i64 ((v : Nat) : Int))) B n G := by
  refine ⟨fun i hi => ?_, fun i => by rw [World.frozen?_setCell]; exact h.2.1 i, h.2.2.set (Nat.le_refl _) (Nat.lt_succ_self _) ⟨_, h.1 c hc⟩⟩
  rw [hG i hi]
  by_cases e : i = c
  · subst e; rw [if_pos rfl]; exact set_same ⟨_, h.1 i hi⟩
  · rw [if_neg e, set_far e]; exact h.1 i hi
theorem RowF.congr {wb wr : World} {B n : Nat} {F G : Nat → Nat} (h : RowF wb wr B n F) (hG : ∀ i, i < n → G i = F i) : RowF wb wr B n G := ⟨fun c hc => by rw [hG c hc]; exact h.1 c hc, h.2⟩
theorem RowF.qr {wb wr : World} {B n : Nat} {F : Nat → Nat} (h : RowF wb wr B n F) (hn : n ≤ maxLen) (hB : B < wb.heap.size) : QR wr n (fun c => ((F c : Nat) : Int)) ⟨some ⟨B, 0, none⟩, n, B, B + 1⟩ := by
  have hs := h.2.2.size
  have hlt : B < wr.heap.size := by omega
  exact ⟨⟨Nat.le_refl _, hn, Or.inr ⟨B, 0, rfl, hlt, fun i hi => by rw [Nat.zero_add]; exact h.1 i hi⟩⟩, Or.inr ⟨B, 0, rfl, Nat.le_refl _, hlt, fun i hi => by rw [Nat.zero_add]; exact ⟨⟨_, h.1 i hi⟩, h.2.1 i⟩⟩, Or.inr ⟨B, 0, rfl, Nat.le_refl _, Nat.lt_succ_self _⟩, Nat.le_succ _, hlt⟩

/-- what reachFrom answers. -/
def RfPost (w : World) (n : Nat) (F : Nat → Nat) (x : Ending) (w' : World) : Prop := ∃ t : Lr, x = .returned (.slice t.a n t.c) ∧ Hid (QR w' n (fun c => ((F c : Nat) : Int)) t) ∧ w.heap.size ≤ t.lo ∧ Below w.heap.size w w'

set_option maxRecDepth 100000 in
set_option maxHeartbeats 4000000 in
theorem rfI_any {la : Option Addr} {k lcap : Nat} {rn : Nat → Nat} {X : Nat → Nat → Nat} {r : Nat → Nat} {s : Sp} {qa : Option Addr} (m cap ch : Nat) (w : World) (hch : ch ≤ 100000) (hl : SlL w la k lcap rn (fun p c => ((X p c : Nat) : Int))) (hr : SlI w qa m cap (fun j => ((r j : Nat) : Int)))
    (hk : ∀ j, j < m → r j < k) (hn : ∀ p, p < k → rn p ≤ ch) (hz : ∀ p c, p < k → rn p ≤ c → X p c = 0) (hs : s.c < ch) :
    Calls Try.prog 22 #[.slice la k lcap, .int .i64 (ch : Int), .agg #[.int .i64 (s.c : Int), .int .i64 (s.q : Int)], .slice qa m cap] w (RfPost w ch (fun c => if c = s.c then s.q else mxTo (fun j => X (r j) c) m)) := by
  have hm := Nat.le_trans hr.le hr.max
  unfold maxLen at hm
  have hmk := make_int ch (by omega)
  obtain ⟨wb, hwb⟩ : ∃ wb, wb = (w.alloc (.cells #[.int .i64 (s.c : Int), .int .i64 (s.q : Int)] 44)).alloc (.cells (mkI ch) 3) := ⟨_, rfl⟩
  have hbb : Below w.heap.size w wb := by rw [hwb]; exact ((Below.refl _ _).alloc (Nat.le_refl _) _).alloc (by simp) _
  have hzb : wb.heap.size = w.heap.size + 2 := by rw [hwb]; simp
  have hB : w.heap.size + 1 < wb.heap.size := by omega
  have H0 : Hid (RowF wb wb (w.heap.size + 1) ch (fun _ => 0)) := by
    refine ⟨fun c hc => ?_, fun c => ?_, Mkd.refl _ _ _⟩
    · rw [hwb]
      have hx : ((w.alloc (.cells #[.int .i64 (s.c : Int), .int .i64 (s.q : Int)] 44)).alloc (.cells (mkI ch) 3)).cell? ⟨w.heap.size + 1, c, none⟩ = (mkI ch)[c]? := World.cell?_alloc_at _ _ _ _ (by simp)
      rw [hx]
      unfold mkI
      rw [← Array.getElem?_toList, toList_madeCells_one, List.getElem?_replicate, if_pos hc]
      rfl
    · rw [hwb]; exact World.frozen?_alloc_at _ _ _ _ (by simp)
  have Hsp : Hid (∀ W, Mkd (w.heap.size + 1) (w.heap.size + 1 + 1) wb W → W.cell? ⟨w.heap.size, 0, none⟩ = some (.int .i64 (s.c : Int)) ∧ W.cell? ⟨w.heap.size, 1, none⟩ = some (.int .i64 (s.q : Int))) := fun W hW => by
    refine ⟨(hW.cell (by omega) (Or.inl (Nat.lt_succ_self _))).trans ?_, (hW.cell (by omega) (Or.inl (Nat.lt_succ_self _))).trans ?_⟩ <;> rw [hwb, World.cell?_alloc_past _ _ _ (by simp)] <;> exact World.cell?_alloc_at _ _ _ _ rfl
  have Hbel : Hid (∀ W, Mkd (w.heap.size + 1) (w.heap.size + 1 + 1) wb W → Below w.heap.size w W) := fun W hW => hbb.trans ((hW.below (by omega)).mono (by omega))
  have HR : Hid (∀ W j, j < m → Mkd (w.heap.size + 1) (w.heap.size + 1 + 1) wb W → ∃ b off, qa = some ⟨b, off, none⟩ ∧ W.cell? ⟨b, off + j, none⟩ = some (.int .i64 ((r j : Nat) : Int))) := fun W j hj hW => by
    rcases hr.cells with h0 | ⟨b, off, e, hb, hc⟩
    · omega
    · exact ⟨b, off, e, ((Hbel.out W hW).cell (by exact hb)).trans (hc j hj)⟩
  have HL : Hid (∀ W p, p < k → Mkd (w.heap.size + 1) (w.heap.size + 1 + 1) wb W → ∃ lb lo ra rcp, la = some ⟨lb, lo, none⟩ ∧ W.cell? ⟨lb, lo + p, none⟩ = some (.slice ra (rn p) rcp) ∧ lb < w.heap.size ∧ (rn p = 0 ∨ ∃ xb xo, ra = some ⟨xb, xo, none⟩ ∧ xb < w.heap.size ∧ ∀ c, c < rn p → w.cell? ⟨xb, xo + c, none⟩ = some (.int .i64 ((X p c : Nat) : Int)))) := fun W p hp hW => by
    rcases hl.cells with h0 | ⟨lb, lo, e, hlb, hc⟩
    · omega
    · obtain ⟨ra, rcp, c1, hsl⟩ := hc p hp
      exact ⟨lb, lo, ra, rcp, e, ((Hbel.out W hW).cell (by exact hlb)).trans c1, hlb, hsl.cells⟩
  have hln := Nat.le_trans hl.le hl.max
  unfold maxLen at hln
  have HK : Hid (∀ j, j < m → r j < k ∧ rn (r j) ≤ ch ∧ ∀ c, rn (r j) ≤ c → X (r j) c = 0) := fun j hj => ⟨hk j hj, hn _ (hk j hj), fun c hc => hz _ c (hk j hj) hc⟩
  clear hl hr hk hn hz
  go_enter Try.func22, Try.ntmps22
  go_wp2_with fail
  rw [← hwb]
  clear hwb hmk hzb
  go_loopw [18] (fun iv wr => ∃ j : Nat, j ≤ m ∧ iv = .int .i64 (j : Int) ∧ Hid (RowF wb wr (w.heap.size + 1) ch (fun c => mxTo (fun j => X (r j) c) j))) (fun iv _ => m - (intOf iv).toNat)
  case atStart => exact ⟨0, Nat.zero_le _, rfl, H0⟩
  case round =>
    clear H0
    obtain ⟨j, hj, rfl, hF⟩ := hrel
    obtain ⟨wo, rfl⟩ : ∃ wo : World, wo = wr := ⟨_, rfl⟩
    have hMo := hF.out.2.2
    by_cases hlt : j < m
    · obtain ⟨b, off, rfl, a0⟩ := HR.out wo j hlt hMo
      obtain ⟨k1, k2, k3⟩ := HK.out j hlt
      obtain ⟨lb, lo, ra, rcp, rfl, a1, hlb, hx⟩ := HL.out wo (r j) k1 hMo
      have Hx : Hid (_) := hx
      have Hk3 : Hid (∀ c, rn (r j) ≤ c → X (r j) c = 0) := k3
      have hF0 : Hid (RowF wb wo (w.heap.size + 1) ch (fun c => if c < 0 then max (mxTo (fun j => X (r j) c) j) (X (r j) c) else mxTo (fun j => X (r j) c) j)) := hF.out.congr fun i _ => if_neg (Nat.not_lt_zero _)
      have i1 : (0 : Int) ≤ ((r j : Nat) : Int) := by omega
      have i2 : ((r j : Nat) : Int) < (k : Int) := by omega
      clear k3 hx hF
      go_wp2_with fail
      go_loopw [27] (fun iv wr => ∃ i : Nat, i ≤ rn (r j) ∧ iv = .int .i64 (i : Int) ∧ Hid (RowF wb wr (w.heap.size + 1) ch (fun c => if c < i then max (mxTo (fun j => X (r j) c) j) (X (r j) c) else mxTo (fun j => X (r j) c) j))) (fun iv _ => rn (r j) - (intOf iv).toNat)
      case atStart => exact ⟨0, Nat.zero_le _, rfl, hF0⟩
      case round =>
        clear hF0
        obtain ⟨i, hi, rfl, hF⟩ := hrel
        have hM := hF.out.2.2
        by_cases hli : i < rn (r j)
        · have hic : i < ch := by omega
          obtain ⟨xb, xo, rfl, hxb, hxc⟩ : ∃ xb xo, ra = some ⟨xb, xo, none⟩ ∧ xb < w.heap.size ∧ ∀ c, c < rn (r j) → w.cell? ⟨xb, xo + c, none⟩ = some (.int .i64 ((X (r j) c : Nat) : Int)) := by
            rcases Hx.out with h0 | h1
            · omega
            · exact h1
          have b1 : wr.cell? ⟨xb, xo + i, none⟩ = some (.int .i64 ((X (r j) i : Nat) : Int)) := ((Hbel.out wr hM).cell (by exact hxb)).trans (hxc i hli)
          have b2 : wr.cell? ⟨w.heap.size + 1, i, none⟩ = some (.int .i64 ((mxTo (fun j => X (r j) i) j : Nat) : Int)) := by
            have := hF.out.1 i hic
            dsimp only at this
            rw [if_neg (Nat.lt_irrefl _)] at this
            exact this
          have b3 := hF.out.2.1 i
          have hnew : Hid (∀ v, v = max (mxTo (fun j => X (r j) i) j) (X (r j) i) → RowF wb (wr.setCell ⟨w.heap.size + 1, i, none⟩ (.int .i64 ((v : Nat) : Int))) (w.heap.size + 1) ch (fun c => if c < i + 1 then max (mxTo (fun j => X (r j) c) j) (X (r j) c) else mxTo (fun j => X (r j) c) j)) := fun v hv => hF.out.put hic fun c _ => by
            by_cases e : c = i
            · subst e; rw [if_pos (Nat.lt_succ_self _), if_pos rfl, hv]
            · rw [if_neg e]
              by_cases e2 : c < i
              · rw [if_pos e2, if_pos (by omega)]
              · rw [if_neg e2, if_neg (by omega)]
          have j1 : (0 : Int) ≤ (i : Int) := by omega
          have j2 : (i : Int) < (rn (r j) : Int) := by omega
          have j3 : (i : Int) < (ch : Int) := by omega
          clear hxc hF
          generalize hxv : X (r j) i = xv at *
          generalize hmv : mxTo (fun j => X (r j) i) j = mv at *
          clear hxv hmv
          by_cases hle : mv < xv
          · have hle' : ((mv : Int) < (xv : Int)) := by omega
            have Hn : Hid (_) := hnew.out xv (by omega)
            clear hnew
            go_wp2
            exact ⟨⟨i + 1, by omega, by go_num, Hn⟩, by simp [intOf]; omega⟩
          · have hle' : ¬ ((mv : Int) < (xv : Int)) := by omega
            have Hn : Hid (_) := hnew.out mv (by omega)
            clear hnew
            go_wp2
            exact ⟨⟨i + 1, by omega, by go_num, Hn⟩, by simp [intOf]; omega⟩
        · have hie : i = rn (r j) := by omega
          have Hn : Hid (RowF wb wr (w.heap.size + 1) ch (fun c => mxTo (fun j => X (r j) c) (j + 1))) := hF.out.congr fun c _ => by
            show max (mxTo (fun j => X (r j) c) j) (X (r j) c) = _
            by_cases e : c < i
            · rw [if_pos e]
            · rw [if_neg e, Hk3.out c (by omega)]
              omega
          clear hF
          go_wp2
          exact ⟨⟨j + 1, by omega, by go_num, Hn⟩, by simp [intOf]; omega⟩
    · have hjm : j = m := by omega
      subst hjm
      obtain ⟨s1, s2⟩ := Hsp.out wo hMo
      have d1 := hF.out.1 s.c hs
      have d2 := hF.out.2.1 s.c
      have Hn : Hid (RowF wb (wo.setCell ⟨w.heap.size + 1, s.c, none⟩ (.int .i64 ((s.q : Nat) : Int))) (w.heap.size + 1) ch (fun c => if c = s.c then s.q else mxTo (fun j => X (r j) c) j)) := hF.out.put hs fun _ _ => rfl
      have HP : Hid (RfPost w ch (fun c => if c = s.c then s.q else mxTo (fun j => X (r j) c) j) (.returned (.slice (some ⟨w.heap.size + 1, 0, none⟩) ch ch)) (wo.setCell ⟨w.heap.size + 1, s.c, none⟩ (.int .i64 ((s.q : Nat) : Int)))) := ⟨⟨some ⟨w.heap.size + 1, 0, none⟩, ch, w.heap.size + 1, w.heap.size + 1 + 1⟩, rfl, Hn.out.qr (by unfold maxLen; omega) hB, Nat.le_succ _, Hbel.out _ Hn.out.2.2⟩
      have j1 : (0 : Int) ≤ (s.c : Int) := by omega
      have j3 : (s.c : Int) < (ch : Int) := by omega
      clear hF Hn HL HK HR
      go_wp2
      go_ret
      exact HP.out
end Go.Proofs.Ytlopjfhdhkonbaa
