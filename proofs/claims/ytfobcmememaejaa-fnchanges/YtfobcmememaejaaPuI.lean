/-
  impl.Put.
-/
import Derived.Test.YtfobcmememaejaaPaI
import Derived.Test.YtfobcmememaejaaPtS
import Derived.Test.YtfobcmememaejaaAnE
namespace Go.Proofs.Ytfobcmememaejaa
open Go.RowKit

theorem one_chB (e : Ent) : chB [e] = true := rfl
theorem put_pat {l : List Ent} {e : Ent} (he : e.id.toList.isEmpty = false) : paOk l [e] = putOk l e ∧ paV l [e] = putV l e := by
  have h1 : paOk l [e] = putOk l e := by
    unfold paOk putOk
    rw [one_chB]
    have : (e.id.toList == []) = false := by cases hl : e.id.toList with
      | nil => rw [hl] at he; cases he
      | cons _ _ => rfl
    rw [this]
    rfl
  refine ⟨h1, ?_⟩
  unfold paV putV
  rw [h1]
  rfl
theorem put_no {l : List Ent} {e : Ent} (he : e.id.toList.isEmpty = true) : putOk l e = false ∧ putV l e = [] := by
  have h1 : putOk l e = false := by
    unfold putOk
    have : (e.id.toList == []) = true := by rw [List.isEmpty_iff] at he; rw [he]; rfl
    rw [this]
    simp
  exact ⟨h1, by unfold putV; rw [h1]; rfl⟩

set_option maxRecDepth 100000 in
set_option maxHeartbeats 1000000 in
theorem putI_sl {a : Option Addr} {cap : Nat} {l : List Ent} (e0 : Ent) (w : World) (h : SlE w a cap l) (he : e0.ty.size ≤ maxLen ∧ e0.key.size ≤ maxLen ∧ e0.id.size ≤ maxLen) :
    Calls Try.prog 11 #[.slice a l.length cap, entV e0] w (AnsE (putV l e0) (putOk l e0) w) := by
  have hb0 : ∀ o, Below w.heap.size w (w.alloc o) := fun o => (Below.refl _ _).alloc (Nat.le_refl _) _
  cases hid : e0.id.toList.isEmpty
  · have hv : Hid (paOk l [e0] = putOk l e0 ∧ paV l [e0] = putV l e0) := put_pat hid
    have hb1 : Below w.heap.size w ((w.alloc (.cells #[.string e0.ty, .string e0.key, .string e0.id] 32)).alloc (.cells #[.string e0.ty, .string e0.key, .string e0.id] 32)) := (hb0 _).alloc (by simp) _
    have hsl : SlE ((w.alloc (.cells #[.string e0.ty, .string e0.key, .string e0.id] 32)).alloc (.cells #[.string e0.ty, .string e0.key, .string e0.id] 32)) (some ⟨w.heap.size + 1, 0, none⟩) 1 [e0] := by
      refine ⟨Nat.le_refl _, by decide, fun i hi => ?_, Or.inr ⟨w.heap.size + 1, 0, rfl, by simp, fun i hi => ?_, fun i hi => ?_, fun i hi => ?_⟩⟩
      all_goals
        have hi0 : i = 0 := by simpa using hi
        subst hi0
      · exact he
      · exact World.cell?_alloc_at _ _ _ _ (by simp)
      · exact World.cell?_alloc_at _ _ _ _ (by simp)
      · exact World.cell?_alloc_at _ _ _ _ (by simp)
    have Hp : Hid (Calls Try.prog 8 #[.slice a l.length cap, .slice (some ⟨w.heap.size + 1, 0, none⟩) 1 1] ((w.alloc (.cells #[.string e0.ty, .string e0.key, .string e0.id] 32)).alloc (.cells #[.string e0.ty, .string e0.key, .string e0.id] 32)) fun e w' => ∃ v, e = .returned (.tuple #[v, .bool (putOk l e0)]) ∧ OwnE w' ((w.alloc (.cells #[.string e0.ty, .string e0.key, .string e0.id] 32)).alloc (.cells #[.string e0.ty, .string e0.key, .string e0.id] 32)).heap.size v (putV l e0) ∧ Below ((w.alloc (.cells #[.string e0.ty, .string e0.key, .string e0.id] 32)).alloc (.cells #[.string e0.ty, .string e0.key, .string e0.id] 32)).heap.size ((w.alloc (.cells #[.string e0.ty, .string e0.key, .string e0.id] 32)).alloc (.cells #[.string e0.ty, .string e0.key, .string e0.id] 32)) w') := by
      have := patchI_sl _ (h.below hb1) hsl
      rw [hv.out.1, hv.out.2] at this
      exact this
    have Hok : Hid (AllOk (putV l e0)) := by
      unfold Hid
      rw [← hv.out.2]
      exact paV_okI h.ok (fun x hx => by rw [List.mem_singleton] at hx; rw [hx]; exact he)
    clear hsl hv
    go_enter Try.func11, Try.ntmps11
    go_wp2_with fail
    refine (Hp.out).mono ?_
    rintro e w1 ⟨v, rfl, ho, hb2⟩
    obtain ⟨ga, gc, rfl, _⟩ := ho.sl Hok.out.at
    have hw1 := hb1.trans (hb2.mono hb1.size)
    have ho1 := ho.base_le hb1.size
    clear Hp
    generalize putOk l e0 = qq at *
    go_wp2
    exact bodyPost_ret (v := .tuple #[.slice ga (putV l e0).length gc, .bool qq]) (by simp [results, Try.results11, go_sem]) rfl (ansE_of _ hw1 ho1 Hok.out)
  · have hv : Hid (putOk l e0 = false ∧ putV l e0 = []) := put_no hid
    go_enter Try.func11, Try.ntmps11
    go_wp2
    refine bodyPost_ret (v := .tuple #[.slice none 0 0, .bool false]) (by simp [results, Try.results11, go_sem]) rfl ?_
    rw [hv.out.1, hv.out.2]
    exact ansE_of _ (hb0 _) ⟨rfl, Or.inl ⟨rfl, rfl⟩⟩ (fun x hx => by cases hx)
end Go.Proofs.Ytfobcmememaejaa
