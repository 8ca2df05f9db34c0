import Derived.Test.YtjmhdjjkfglbgabDoorNumS
import Derived.Test.YtjmhdjjkfglbgabDoorOwnG
import Derived.Deep.DeepCutAuto
import Derived.Deep.CutBlock
namespace Go.Proofs.YtjmhdjjkfglbgabDoor
open Go.RowKit

/-- the list that PREV or AUTH stands for. -/
def dashQ (s : ByteArray) : Bool := s.toList == [45]
def rN (s : ByteArray) : Nat := if dashQ s then 0 else cN 44 s
theorem rN_le (s : ByteArray) : rN s ≤ s.size + 1 := by unfold rN; split; · omega
                                                        exact cN_le 44 s
theorem rS_size (s : ByteArray) (i : Nat) (h : i < rN s) : (cS 44 s i).size ≤ s.size := by
  unfold rN at h; split at h
  · exact absurd h (Nat.not_lt_zero _)
  · exact cS_size 44 s i h

def OwnTPost (w : World) (n : Nat) (S : Nat → ByteArray) (e : Ending) (w' : World) : Prop := ∃ v, e = .returned v ∧ OwnT w' w.heap.size v n S ∧ Below w.heap.size w w'

theorem refsL_any (s : ByteArray) (w : World) (hs : s.size ≤ 1048576) :
    Calls Tryd.prog 47 #[.string s] w (OwnTPost w (rN s) (cS 44 s)) := by
  cases hd : dashQ s
  · have hr : Hid (rN s = cN 44 s) := by unfold Hid rN; rw [hd]; rfl
    have hd' : (s.toList == [45]) = false := hd
    have hcut : Hid (Calls Tryd.prog 45 #[.string s, .int .u8 44] w fun e w' => ∃ v, e = .returned v ∧ OwnT w' w.heap.size v (cN 44 s) (cS 44 s) ∧ Below w.heap.size w w') := cutS_any s 44 w hs
    go_enter Tryd.func47, Tryd.ntmps47
    go_wp2_with fail
    refine hcut.out.mono ?_
    rintro e w1 ⟨v, rfl, hown, hb⟩
    go_wp2
    go_ret
    exact ⟨v, rfl, by rw [hr.out]; exact hown, hb⟩
  · have hr : Hid (rN s = 0) := by unfold Hid rN; rw [hd]; rfl
    have hd' : (s.toList == [45]) = true := hd
    go_enter Tryd.func47, Tryd.ntmps47
    go_wp2
    go_ret
    exact ⟨_, rfl, by rw [hr.out]; exact OwnT.new w _ (Nat.le_refl _) _, (Below.refl _ _).alloc (Nat.le_refl _) _⟩

/-! ### grants -/
def gM (s : ByteArray) (i : Nat) : ByteArray := cS 58 (cS 44 s i) 0
noncomputable def gL (s : ByteArray) (i : Nat) : Int := (numV (cS 58 (cS 44 s i) 1).data.toList).getD 0
noncomputable def gOk (s : ByteArray) (i : Nat) : Bool := decide (cN 58 (cS 44 s i) = 2) && (numV (cS 58 (cS 44 s i) 1).data.toList).isSome
noncomputable def gTo (s : ByteArray) : Nat → Bool
  | 0 => true
  | n + 1 => gTo s n && gOk s n
theorem gTo_le (s : ByteArray) : ∀ n k, k < n → gOk s k = false → gTo s n = false
  | 0, _, h, _ => absurd h (Nat.not_lt_zero _)
  | n + 1, k, h, e => by
    by_cases hk : k = n
    · subst hk; unfold gTo; rw [e, Bool.and_false]
    · unfold gTo; rw [gTo_le s n k (by omega) e]; rfl
noncomputable def gAll (s : ByteArray) : Bool := gTo s (cN 44 s)

def GrPost (s : ByteArray) (w : World) (e : Ending) (w' : World) : Prop :=
  ∃ v, e = .returned (.tuple #[v, .bool (gAll s)]) ∧ (gAll s = true → OwnG w' w.heap.size v (cN 44 s) (gM s) (gL s)) ∧ Below w.heap.size w w'

set_option maxRecDepth 100000 in
set_option maxHeartbeats 3200000 in
theorem rdGr_any (s : ByteArray) (w : World) (hs : s.size ≤ 1048576) :
    Calls Tryd.prog 49 #[.string s] w (GrPost s w) := by
  obtain ⟨i0, hi, hz0, hz1, hz2⟩ := info_parts Tryd.infoGrant
  have hcut : Hid (∀ W, Calls Tryd.prog 45 #[.string s, .int .u8 44] W fun e w' => ∃ v, e = .returned v ∧ OwnT w' W.heap.size v (cN 44 s) (cS 44 s) ∧ Below W.heap.size W w') := fun W => cutS_any s 44 W hs
  have hN := cN_le 44 s
  go_enter Tryd.func49, Tryd.ntmps49
  go_wp2_with fail
  refine (hcut.out _).mono ?_
  rintro e w1 ⟨v, rfl, hown, hb1⟩
  have hNp := cN_pos 44 s
  rcases hown.cells with ⟨_, h0⟩ | ⟨g, cap, rfl, hg, hgl, hgn, hgc, hgx⟩
  · omega
  have hg1 : w.heap.size + 1 ≤ g := by simpa using hg
  have hb1' : Below w.heap.size w w1 := ((Below.refl _ _).alloc (Nat.le_refl _) _).trans (hb1.mono (by simp))
  have hsz1 : w.heap.size + 1 ≤ w1.heap.size := by have := hb1.size; simpa using this
  have hownG : OwnG w1 w.heap.size (.slice (some ⟨w.heap.size, 0, none⟩) 0 0) 0 (gM s) (gL s) := (OwnG.new w _ (Nat.le_refl _) _ _).below hb1
  clear hown hb1 hcut hg
  go_wp2_with fail
  go_loopw [4, 6] (fun v i wr => ∃ k : Nat, k ≤ cN 44 s ∧ i = .int .i64 k ∧ OwnG wr w.heap.size v k (gM s) (gL s) ∧ Below w.heap.size w wr ∧ Hid (gTo s k = true) ∧ Hid (∀ o, wr.cell? ⟨g, o, none⟩ = w1.cell? ⟨g, o, none⟩) ∧ Hid (∀ q, v.ownBlock = some q → q = w.heap.size ∨ w1.heap.size ≤ q) ∧ w1.heap.size ≤ wr.heap.size) (fun _ i _ => cN 44 s - (intOf i).toNat)
  case atStart => exact ⟨0, Nat.zero_le _, rfl, hownG, hb1', rfl, fun o => rfl, fun q hq => Or.inl (by cases hq; rfl), Nat.le_refl _⟩
  case round =>
    clear hownG
    obtain ⟨k, hk, rfl, hown, hbel, hto, hcel, hrow, hszr⟩ := hrel
    by_cases hlt : k < cN 44 s
    · have hp : wr.cell? ⟨g, k, none⟩ = some (.string (cS 44 s k)) := by
        rw [hcel.out]; have := hgx k hlt; rwa [Nat.zero_add] at this
      have hps : (cS 44 s k).size ≤ 1048576 := Nat.le_trans (cS_size 44 s k hlt) hs
      have hcut : Hid (∀ W, Calls Tryd.prog 45 #[.string (cS 44 s k), .int .u8 58] W fun e w' => ∃ v, e = .returned v ∧ OwnT w' W.heap.size v (cN 58 (cS 44 s k)) (cS 58 (cS 44 s k)) ∧ Below W.heap.size W w') := fun W => cutS_any (cS 44 s k) 58 W hps
      go_wp2_with fail
      refine (hcut.out _).mono ?_
      rintro e w2 ⟨v, rfl, hown2, hb2⟩
      have h2p := cN_pos 58 (cS 44 s k)
      have h2le := cN_le 58 (cS 44 s k)
      rcases hown2.cells with ⟨_, h0⟩ | ⟨g2, cap2, rfl, hg2, hgl2, hgn2, hgc2, hgx2⟩
      · omega
      clear hown2 hcut hp
      by_cases h2 : cN 58 (cS 44 s k) = 2
      · have hx0 : w2.cell? ⟨g2, 0, none⟩ = some (.string (cS 58 (cS 44 s k) 0)) := hgx2 0 (by omega)
        have hx1 : w2.cell? ⟨g2, 1, none⟩ = some (.string (cS 58 (cS 44 s k) 1)) := hgx2 1 (by omega)
        have hnum : Hid (∀ W, Calls Tryd.prog 48 #[.string (cS 58 (cS 44 s k) 1)] W (NumPost (cS 58 (cS 44 s k) 1) W)) := fun W => numS_any _ W (Nat.le_trans (cS_size 58 _ 1 (by omega)) hps)
        have hbel2 := hbel.trans (hb2.mono hbel.size)
        have hown2 := hown.below hb2
        have hcel2 : Hid (∀ o, w2.cell? ⟨g, o, none⟩ = w1.cell? ⟨g, o, none⟩) := fun o => (hb2.cell (by show g < _; omega)).trans (hcel.out o)
        have H2 : Hid (cN 58 (cS 44 s k) = 2) := h2
        have hszr2 : w1.heap.size ≤ w2.heap.size := Nat.le_trans hszr hb2.size
        simp only [h2] at hgn2 ⊢
        clear h2 h2p h2le hgx2 hcel hown hbel
        go_wp2_with fail
        refine (hnum.out _).mono ?_
        rintro e w3 ⟨z, ok, rfl, hnr, hb3⟩
        have hbel3 := hbel2.trans (hb3.mono hbel2.size)
        have hown3 := hown2.below hb3
        have hcel3 : Hid (∀ o, w3.cell? ⟨g, o, none⟩ = w1.cell? ⟨g, o, none⟩) := fun o => (hb3.cell (by show g < _; omega)).trans (hcel2.out o)
        have hy0 : w3.cell? ⟨g2, 0, none⟩ = some (.string (cS 58 (cS 44 s k) 0)) := (hb3.cell (by exact hgl2)).trans hx0
        have hszr3 : w1.heap.size ≤ w3.heap.size := Nat.le_trans hszr2 hb3.size
        clear hx0 hx1 hnum hbel2 hown2 hcel2
        cases ok
        · have hbad : Hid (gAll s = false) := gTo_le s _ k hlt (by
            unfold gOk
            cases hn : numV (cS 58 (cS 44 s k) 1).data.toList with
            | none => simp
            | some z => have := (hnr.1 z hn).2; cases this)
          go_wp2
          go_ret2
          exact ⟨u4, by rw [hbad.out]; rfl, fun h => absurd (hbad.out.symm.trans h) (by simp), hbel3⟩
        · have hn : numV (cS 58 (cS 44 s k) 1).data.toList = some z := by
            cases hn : numV (cS 58 (cS 44 s k) 1).data.toList with
            | none => have := hnr.2 hn; cases this
            | some z' => rw [(hnr.1 z' hn).1]
          have Hok : Hid (gOk s k = true) := by unfold Hid gOk; rw [hn, H2.out]; rfl
          have HL : Hid (z = gL s k) := by unfold Hid gL; rw [hn]; rfl
          have hm1 : k + 1 ≤ maxLen := by unfold maxLen; omega
          have hm2 : (k + 1) * 24 ≤ 140737488355328 := by omega
          have hm3 : ∀ o, w.heap.size ≤ (w3.alloc o).heap.size := fun o => by simp; have := hbel3.size; omega
          clear hn hnr H2
          have hag : ∀ q, u4.ownBlock = some q → w.heap.size ≤ q := fun q hq => (World.ownsRow.lt hown3 q hq).1
          have hng : some g ≠ u4.ownBlock := fun e => by
            rcases hrow.out g e.symm with h | h <;> omega
          go_wp2_with (at_builtin; refine wpList_append_lies _ rfl _ _ 24 rfl w.heap.size 64 i0 (.agg #[.string ByteArray.empty, .int .i64 0]) 2 24 Tryd.underlying24 hi hz0 hz1 hz2 rfl (by decide) _ _ _ rfl (World.ownsRow.alloc hown3 _) ⟨w3.heap.size, 0, none⟩ 1 1 [.string (cS 58 (cS 44 s k) 0), .int .i64 z] rfl rfl (two_cells _ _ _ _) (two_one _ _) (by decide) hm1 hm2 (hm3 _) (w3.heap.size + 1) (by simp) ?_; intro gg cap3 w4 hown4 hgrow hat hlt4)
          go_roundw
          case rel =>
            refine ⟨k + 1, by omega, by go_num, OwnG.snoc hown4 rfl HL.out, (hbel3.alloc hbel3.size _).grown hgrow (hm3 _) hag, ?_, ?_, ?_, ?_⟩
            · unfold Hid gTo; rw [hto.out, Hok.out]; rfl
            · exact fun o => (hgrow.cell_far _ (by simp; omega) hng).trans ((World.cell?_alloc_past _ _ _ (by show g < _; omega)).trans (hcel3.out o))
            · intro q hq
              have : gg = q := Option.some.inj hq
              subst this
              rcases hat with h | h
              · exact hrow.out _ h
              · right; omega
            · have := hgrow.size; simp at this; omega
          case measure => simp [intOf]; omega
      · have hne : (((cN 58 (cS 44 s k) : Nat) : Int) == 2) = false := by rw [beq_eq_false_iff_ne]; omega
        have hbad : Hid (gAll s = false) := gTo_le s _ k hlt (by unfold gOk; simp [h2])
        go_wp2
        go_ret2
        exact ⟨u4, by rw [hbad.out]; rfl, fun h => absurd (hbad.out.symm.trans h) (by simp), hbel.trans (hb2.mono hbel.size)⟩
    · have hkn : k = cN 44 s := by omega
      have hall : Hid (gAll s = true) := by unfold Hid gAll; rw [← hkn]; exact hto.out
      go_wp2
      go_ret2
      exact ⟨u4, by rw [hall.out]; rfl, fun _ => by rw [← hkn]; exact hown, hbel⟩
end Go.Proofs.YtjmhdjjkfglbgabDoor
