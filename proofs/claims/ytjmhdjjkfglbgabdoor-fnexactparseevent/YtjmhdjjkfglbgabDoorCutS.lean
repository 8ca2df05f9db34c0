import Derived.Test.YtjmhdjjkfglbgabDoorPureA
import Derived.Test.YtjmhdjjkfglbgabDoorOwnT
import Derived.Deep.DeepFit
import Derived.Deep.RegionHeld3
namespace Go.Proofs.YtjmhdjjkfglbgabDoor
open Go.RowKit

theorem drop_cons' {α : Type} : ∀ {L : List α} {k : Nat} {x : α} {r : List α}, L.drop k = x :: r → k < L.length ∧ L[k]? = some x ∧ L.drop (k + 1) = r
  | [], k, x, r, h => by simp at h
  | a :: L, 0, x, r, h => by simp only [List.drop_zero, List.cons.injEq] at h; obtain ⟨rfl, rfl⟩ := h; simp
  | a :: L, k + 1, x, r, h => by
    have := drop_cons' (L := L) (k := k) (by simpa using h)
    exact ⟨by simpa using this.1, by simpa using this.2.1, by simpa using this.2.2⟩
theorem drop_byte (s : ByteArray) (j : Nat) (h : j < s.size) : s.data.toList.drop j = s[j] :: s.data.toList.drop (j + 1) := by
  rw [List.drop_eq_getElem_cons (by simpa using h)]; rfl
theorem ext_list (s : ByteArray) (i j : Nat) : (s.extract i j).data.toList = (s.data.toList.drop i).take (j - i) := by
  simp [ByteArray.data_extract, List.extract]

/-- the pieces from number k on, at place j with the piece begun at fr. -/
def CutAt (c : UInt8) (s : ByteArray) (k fr j : Nat) : Prop := (cutL c s.data.toList).drop k = glue ((s.data.toList.drop fr).take (j - fr)) (cutL c (s.data.toList.drop j))
theorem cutAt_zero (c : UInt8) (s : ByteArray) : CutAt c s 0 0 0 := by
  unfold CutAt; simp [glue_nil (cutL_ne c _)]
theorem cutAt_miss {c : UInt8} {s : ByteArray} {k fr j : Nat} (h : CutAt c s k fr j) (hf : fr ≤ j) (hj : j < s.size) (hne : s[j] ≠ c) : CutAt c s k fr (j + 1) := by
  unfold CutAt at h ⊢
  rw [h, drop_byte s j hj, cutL_miss _ hne, glue_glue]
  congr 1
  have hd : (s.data.toList.drop fr).drop (j - fr) = s[j] :: s.data.toList.drop (j + 1) := by
    rw [List.drop_drop, show fr + (j - fr) = j by omega, drop_byte s j hj]
  have hk := drop_cons' hd
  rw [show j + 1 - fr = (j - fr) + 1 by omega, List.take_succ_eq_append_getElem hk.1]
  congr 1
  have := hk.2.1
  rw [List.getElem?_eq_getElem hk.1] at this
  rw [Option.some.inj this]
theorem cutAt_hit {c : UInt8} {s : ByteArray} {k fr j : Nat} (h : CutAt c s k fr j) (hj : j < s.size) (he : s[j] = c) : k + 1 < cN c s ∧ s.extract fr j = cS c s k ∧ CutAt c s (k + 1) (j + 1) (j + 1) := by
  unfold CutAt at h ⊢
  rw [drop_byte s j hj, he, cutL_hit] at h
  simp only [glue, List.append_nil] at h
  have := drop_cons' h
  refine ⟨?_, ba_ext ?_, ?_⟩
  · rcases Nat.lt_or_ge (k + 1) (cN c s) with h' | h'
    · exact h'
    · have h2 := this.2.2
      rw [List.drop_eq_nil_of_le h'] at h2
      exact absurd h2.symm (cutL_ne c _)
  · rw [ext_list, cS]; simp [List.getD, this.2.1]
  · rw [this.2.2]; simp [glue_nil (cutL_ne c _)]
theorem cutAt_end {c : UInt8} {s : ByteArray} {k fr : Nat} (h : CutAt c s k fr s.size) : k + 1 = cN c s ∧ s.extract fr s.size = cS c s k := by
  unfold CutAt at h
  rw [List.drop_eq_nil_of_le (i := s.size) (Nat.le_refl _)] at h
  simp only [cutL, glue, List.append_nil] at h
  have := drop_cons' h
  refine ⟨?_, ba_ext ?_⟩
  · have h1 := this.1
    have h2 := List.drop_eq_nil_iff.1 this.2.2
    unfold cN; omega
  · rw [ext_list, cS]; simp [List.getD, this.2.1]

set_option maxRecDepth 100000 in
set_option maxHeartbeats 1600000 in
theorem cutS_any (s : ByteArray) (c : UInt8) (w : World) (hs : s.size ≤ 1048576) :
    Calls Tryd.prog 45 #[.string s, .int .u8 (c.toNat : Int)] w fun e w' => ∃ v, e = .returned v ∧ OwnT w' w.heap.size v (cN c s) (cS c s) ∧ Below w.heap.size w w' := by
  obtain ⟨i0, hi, hz0, hz1, hz2⟩ := info_parts Tryd.infoString
  have hN := cN_le c s
  go_enter Tryd.func45, Tryd.ntmps45
  go_wp2_with fail
  go_loopw [5, 6, 7] (fun v f i wr => ∃ k fr j : Nat, f = .int .i64 fr ∧ i = .int .i64 j ∧ fr ≤ j ∧ OwnT wr w.heap.size v k (cS c s) ∧ Below w.heap.size w wr ∧ Hid ((j ≤ s.size ∧ k < cN c s ∧ CutAt c s k fr j) ∨ (j = s.size + 1 ∧ k = cN c s))) (fun _ _ i _ => s.size + 1 - (intOf i).toNat)
  case atStart => exact ⟨0, 0, 0, rfl, rfl, Nat.le_refl _, OwnT.new w _ (Nat.le_refl _) _, (Below.refl _ _).alloc (Nat.le_refl _) _, Or.inl ⟨Nat.zero_le _, cN_pos c s, cutAt_zero c s⟩⟩
  case round =>
    obtain ⟨k, fr, j, rfl, rfl, hfj, hown, hbel, hst⟩ := hrel
    rcases hst.out with ⟨hj, hk, hcut⟩ | ⟨rfl, rfl⟩
    · have hm1 : k + 1 ≤ maxLen := by unfold maxLen; omega
      have hm2 : (k + 1) * 16 ≤ 140737488355328 := by omega
      have hag : ∀ q, u5.ownBlock = some q → w.heap.size ≤ q := fun q hq => (World.ownsRow.lt hown q hq).1
      have hm3 : ∀ o, w.heap.size ≤ (wr.alloc o).heap.size := fun o => by have := hbel.size; simp; omega
      have Hcut : Hid (CutAt c s k fr j) := hcut
      clear hst hcut
      by_cases hlt : j < s.size
      · by_cases hc : s[j] = c
        · obtain ⟨hk2, hx, hcut2⟩ := cutAt_hit Hcut.out hlt hc
          have Hx : Hid (s.extract fr j = cS c s k) := hx
          have Hcut2 : Hid (CutAt c s (k + 1) (j + 1) (j + 1)) := hcut2
          clear hx hcut2 Hcut
          go_wp2_with (at_builtin; refine wpList_append_own _ rfl _ _ 23 rfl w.heap.size 9 i0 (.string ByteArray.empty) 1 16 Tryd.underlying23 hi hz0 hz1 hz2 rfl (by decide) _ _ _ rfl (World.ownsRow.alloc hown _) ⟨wr.heap.size, 0, none⟩ 1 1 [.string (s.extract fr j)] rfl rfl (one_cells _ _ _) (one_one _) hm1 hm2 (hm3 _) ?_; intro v2 w2 hown2 hgrow2 _)
          go_roundw
          case rel => exact ⟨k + 1, j + 1, j + 1, by go_num, by go_num, Nat.le_refl _, OwnT.snoc hown2 Hx.out, (hbel.alloc hbel.size _).grown hgrow2 (hm3 _) hag, Or.inl ⟨hlt, hk2, Hcut2.out⟩⟩
          case measure => simp [intOf]; omega
        · have Hcut2 : Hid (CutAt c s k fr (j + 1)) := cutAt_miss Hcut.out hfj hlt hc
          have hc2 : ((s[j].toNat : Int) == (c.toNat : Int)) = false := by
            rw [beq_eq_false_iff_ne]
            intro e
            exact hc (UInt8.toNat_inj.1 (by exact_mod_cast e))
          clear Hcut
          go_wp2
          go_roundw
          case rel => exact ⟨k, fr, j + 1, rfl, by go_num, by omega, hown, hbel, Or.inl ⟨hlt, hk, Hcut2.out⟩⟩
          case measure => simp [intOf]; omega
      · have hjs : j = s.size := by omega
        subst hjs
        obtain ⟨hk2, hx⟩ := cutAt_end Hcut.out
        have Hx : Hid (s.extract fr s.size = cS c s k) := hx
        clear hx Hcut
        go_wp2_with (at_builtin; refine wpList_append_own _ rfl _ _ 23 rfl w.heap.size 9 i0 (.string ByteArray.empty) 1 16 Tryd.underlying23 hi hz0 hz1 hz2 rfl (by decide) _ _ _ rfl (World.ownsRow.alloc hown _) ⟨wr.heap.size, 0, none⟩ 1 1 [.string (s.extract fr s.size)] rfl rfl (one_cells _ _ _) (one_one _) hm1 hm2 (hm3 _) ?_; intro v2 w2 hown2 hgrow2 _)
        go_roundw
        case rel => exact ⟨k + 1, s.size + 1, s.size + 1, by go_num, by go_num, Nat.le_refl _, OwnT.snoc hown2 Hx.out, (hbel.alloc hbel.size _).grown hgrow2 (hm3 _) hag, Or.inr ⟨rfl, hk2⟩⟩
        case measure => simp [intOf]
    · go_wp2
      go_ret
      exact ⟨_, rfl, hown, hbel⟩
end Go.Proofs.YtjmhdjjkfglbgabDoor
