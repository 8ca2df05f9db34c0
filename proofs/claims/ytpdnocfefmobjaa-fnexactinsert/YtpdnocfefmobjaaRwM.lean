/-
  markRoom on the answer of Insert; marks elsewhere.
-/
import Derived.Test.YtpdnocfefmobjaaMkY
import Derived.Test.YtpdnocfefmobjaaInS
namespace Go.Proofs.Ytpdnocfefmobjaa
open Go.RowKit

theorem SlS.mkdI {w w' : World} {a : Option Addr} {n cap lo hi lo' hi' : Nat} {S : Nat → ByteArray} (h : SlS w a n cap S) (hm : Mkd lo' hi' w w') (hv : Iv a n lo hi) (hd : hi' ≤ lo ∨ hi ≤ lo') : SlS w' a n cap S := by
  refine ⟨h.le, h.max, h.size, ?_⟩
  rcases hv with h0 | ⟨b, off, rfl, h1, h2⟩
  · exact Or.inl h0
  · refine h.cells.imp id fun ⟨b', off', e, hlt, hc⟩ => ⟨b', off', e, Nat.lt_of_lt_of_le hlt hm.size, fun i hi => ?_⟩
    have e2 : b = b' := by injection e with e; injection e
    exact (hm.cell (by exact hlt) (by show b' < lo' ∨ hi' ≤ b'; omega)).trans (hc i hi)
theorem SlG.mkdI {w w' : World} {a : Option Addr} {n cap lo hi lo' hi' : Nat} {M : Nat → ByteArray} {L : Nat → Int} (h : SlG w a n cap M L) (hm : Mkd lo' hi' w w') (hv : Iv a n lo hi) (hd : hi' ≤ lo ∨ hi ≤ lo') : SlG w' a n cap M L := by
  refine ⟨h.le, h.max, h.size, ?_⟩
  rcases hv with h0 | ⟨b, off, rfl, h1, h2⟩
  · exact Or.inl h0
  · refine h.cells.imp id fun ⟨b', off', e, hlt, hc, hl⟩ => ⟨b', off', e, Nat.lt_of_lt_of_le hlt hm.size, fun i hi => ?_, fun i hi => ?_⟩
    all_goals
      have e2 : b = b' := by injection e with e; injection e
    · exact (hm.cell (by exact hlt) (by show b' < lo' ∨ hi' ≤ b'; omega)).trans (hc i hi)
    · exact (hm.cell (by exact hlt) (by show b' < lo' ∨ hi' ≤ b'; omega)).trans (hl i hi)
theorem SlW.mkdI {w w' : World} {a : Option Addr} {n sz base lo' hi' : Nat} (h : SlW w base a n sz) (hm : Mkd lo' hi' w w') : SlW w' base a n sz :=
  h.imp id fun ⟨b, off, e, h1, h2, hc⟩ => ⟨b, off, e, h1, Nat.lt_of_lt_of_le h2 hm.size, fun i hi => ⟨hm.there _ (by exact h2) (hc i hi).1, (hm.frz _ (by exact h2)).trans (hc i hi).2⟩⟩
theorem EvIv.mkdI {w w' : World} {e : Ev} {pa : Option Addr} {cp : Nat} {aa : Option Addr} {ca : Nat} {ga : Option Addr} {cg lo m1 m2 hi lo' hi' : Nat} (h : EvIv w e pa cp aa ca ga cg lo m1 m2 hi) (hm : Mkd lo' hi' w w') (hd : hi' ≤ lo) : EvIv w' e pa cp aa ca ga cg lo m1 m2 hi := by
  have hh := h.hh
  exact ⟨⟨h.ok.hid, h.ok.hsd, h.ok.hty, h.ok.hkey, h.ok.hval, h.ok.hp.mkdI hm h.ip (Or.inl hd), h.ok.ha.mkdI hm h.ia (Or.inl (by omega)), h.ok.hg.mkdI hm h.ig (Or.inl (by omega))⟩, h.wp.mkdI hm, h.wa.mkdI hm, h.wg.mkdI hm, h.ip, h.ia, h.ig, hh.1, hh.2.1, hh.2.2.1, Nat.le_trans hh.2.2.2 hm.size⟩
theorem RowV.gt {Q : World → Ev → Ls → Prop} {w : World} {base n : Nat} {v : Value} {E : Nat → Ev} {T : Nat → Ls} (h : RowV Q w base v n E T) : ∀ g, v.ownBlock = some g → base ≤ g ∧ g < w.heap.size := fun g hg => by
  rcases h.cells with ⟨q, _⟩ | ⟨g', cap', q, q1, q2, _⟩
  · rw [q] at hg; cases hg
  · rw [q] at hg
    have : some g' = some g := hg
    injection this with this
    omega
theorem RowV.mkdI {w w' : World} {base n lo' hi' : Nat} {v : Value} {E : Nat → Ev} {T : Nat → Ls} (h : RowV QI w base v n E T) (hm : Mkd lo' hi' w w') (hd : hi' ≤ base) : RowV QI w' base v n E T :=
  ⟨own_kept h.own (fun g hg => hm.block g (h.gt g hg).2 (Or.inr (Nat.le_trans hd (h.gt g hg).1))), fun i hi => EvIv.mkdI (h.q i hi) hm (Nat.le_trans hd (h.low i hi)), h.low, h.ord, h.apart⟩

/-- what markRoom leaves of a row. -/
def MrPost (W : World) (base : Nat) (v : Value) (N : Nat) (X : Nat → Ev) (T : Nat → Ls) (x : Ending) (w' : World) : Prop :=
  x = .returned (.int .i64 ((1 + ksum X N : Nat) : Int)) ∧ (∃ a cap, v = .slice a N cap ∧ SlV w' a N cap (fun i => mkE (X i) (1 + ksum X i))) ∧ Below base W w' ∧ ∀ q, q < W.heap.size → (∀ i, i < N → (T i).hi ≤ q) → v.ownBlock ≠ some q → w'.heap[q]? = W.heap[q]?

set_option maxRecDepth 100000 in
set_option maxHeartbeats 2000000 in
theorem mkR_row {base N : Nat} {v : Value} {X : Nat → Ev} {T : Nat → Ls} (W : World) (h : RowV QI W base v N X T) (hb : base ≤ W.heap.size) (hs : 1 + ksum X N ≤ 100000000) (hn : N ≤ maxLen) :
    Calls Try.prog 12 #[.agg #[v], .int .i64 1] W (MrPost W base v N X T) := by
  have hbA : ∀ o, Below W.heap.size W (W.alloc o) := fun o => (Below.refl _ _).alloc (Nat.le_refl _) _
  rcases h.cells with ⟨rfl, rfl⟩ | ⟨g, cap, rfl, hg, hlt, hn2, hc, hx, hf⟩
  · clear h
    go_enter Try.func12, Try.ntmps12
    go_wp2_with fail
    refine (markV_zero none 0 1 _).mono ?_
    rintro e w1 ⟨rfl, rfl⟩
    go_wp2
    go_ret
    exact ⟨rfl, ⟨none, 0, rfl, ⟨Nat.le_refl _, by decide, Or.inl rfl⟩⟩, (Below.refl _ _).alloc hb _, fun q hq _ _ => (hbA _).block q hq⟩
  · have hRW : Hid (∀ W', Below W.heap.size W W' → RoomW W' base g N 0 X T) := fun W' hW => by
      have h' := h.below qcI hW
      exact ⟨fun i hi => (hx i hi).below hW hlt, fun i hi => EvIv.kp (h'.q i hi), fun i hi _ => h'.q i hi, fun i hi => ⟨h.low i hi, h.apart g rfl i hi⟩, hg, h.ord, fun o => (hW.frozen (by exact hlt)).trans (hf o), Nat.lt_of_lt_of_le hlt hW.size⟩
    have HM : Hid (∀ W', Below W.heap.size W W' → Calls Try.prog 29 #[.slice (some ⟨g, 0, none⟩) N cap, .int .i64 ((1 : Nat) : Int)] W' fun x w' => x = .returned (.int .i64 ((1 + ksum X N : Nat) : Int)) ∧ RoomW w' base g N N (mkX X 1 N) T ∧ Below base W' w' ∧ KBk W' w' g N T) := fun W' hW => markVk_any base g N cap 1 X T W' hn hs (hRW.out W' hW)
    have hap := h.apart
    clear h hx hRW
    go_enter Try.func12, Try.ntmps12
    go_wp2_with fail
    refine (HM.out _ (hbA _)).mono ?_
    rintro e w1 ⟨rfl, hR, hb1, hk⟩
    have hsl : SlV w1 (some ⟨g, 0, none⟩) N cap (mkX X 1 N) := hR.sl hn2 hc
    have hsl2 : Hid (SlV w1 (some ⟨g, 0, none⟩) N cap (fun i => mkE (X i) (1 + ksum X i))) := by
      refine ⟨hsl.le, hsl.max, hsl.cells.imp id fun ⟨b, off, e1, e2, e3⟩ => ⟨b, off, e1, e2, fun i hi => ?_⟩⟩
      have := e3 i hi
      unfold mkX at this
      rw [if_pos hi] at this
      exact this
    have hbf : Below base W w1 := ((Below.refl _ _).alloc hb _).trans hb1
    have hkf : Hid (∀ q, q < W.heap.size → (∀ i, i < N → (T i).hi ≤ q) → (Value.slice (some ⟨g, 0, none⟩) N cap).ownBlock ≠ some q → w1.heap[q]? = W.heap[q]?) := fun q h1 h2 h3 => (hk.2 q (by simp; omega) (fun e => h3 (by rw [e]; rfl)) (fun i hi => Or.inr (h2 i hi))).trans ((hbA _).block q h1)
    clear hR hb1 hk hsl HM
    go_wp2
    go_ret
    exact ⟨by first | rfl | (congr 2), ⟨_, _, rfl, hsl2.out⟩, hbf, hkf.out⟩
end Go.Proofs.Ytpdnocfefmobjaa
