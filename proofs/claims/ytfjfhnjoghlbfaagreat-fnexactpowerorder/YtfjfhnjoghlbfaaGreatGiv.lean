/-
  impl's given.
-/
import Derived.Test.YtfjfhnjoghlbfaaGreatTpA
import Derived.Test.YtfjfhnjoghlbfaaGreatMpA
namespace Go.Proofs.YtfjfhnjoghlbfaaGreat
open Go.RowKit

theorem there_allG {E : Nat → Ev} {n : Nat} {S : Nat → ByteArray} {m : Nat} (h : thereB E n S m = true) : m ≤ 300 ∧ ∀ i, i < m → 0 ≤ posV E n (S i) := by
  unfold thereB at h
  rw [Bool.and_eq_true] at h
  refine ⟨of_decide_eq_true h.1, fun i hi => ?_⟩
  by_cases hc : 0 ≤ posV E n (S i)
  · exact hc
  · have := thereTo_le E n S m i hi (by rw [thereTo, decide_eq_false hc, Bool.and_false])
    rw [this] at h
    cases h.2

def GvPostG (w : World) (E : Nat → Ev) (n : Nat) (S : Nat → ByteArray) (m : Nat) (ok : Bool) (e : Ending) (w' : World) : Prop := Below w.heap.size w w' ∧
  ((ok = true ∧ ∃ ga gc, e = .returned (.tuple #[.slice ga m gc, .bool true]) ∧ SlI w' ga m gc (fun i => posV E n (S i))) ∨ (ok = false ∧ e = .returned (.tuple #[.slice none 0 0, .bool false])))

set_option maxHeartbeats 1000000 in
theorem givenG_sl {a : Option Addr} {n cap mm : Nat} {ra : Option Addr} {nr rc : Nat} {E : Nat → Ev} {ia : Option Addr} {m icap : Nat} {S : Nat → ByteArray} (w : World) (hm : MapAt w mm n (knE E n) (posV E n)) (hs : SlS w ia m icap S) :
    Calls Tryz.prog 21 #[.agg #[.slice a n cap, .map (some mm), .slice ra nr rc], .slice ia m icap] w (GvPostG w E n S m (thereB E n S m)) := by
  have hmx := Nat.le_trans hs.le hs.max
  unfold maxLen at hmx
  have hb0 : ∀ o, Below w.heap.size w (w.alloc o) := fun o => (Below.refl _ _).alloc (Nat.le_refl _) _
  by_cases h3 : m ≤ 300
  · have ht : thereB E n S m = allTo (knE E n) S m := by unfold thereB; rw [decide_eq_true h3, allTo_there]; rfl
    have Ht : Hid (_ = _) := ht
    have hg : ¬ (300 < m) := by omega
    clear ht
    go_enter Tryz.func21, Tryz.ntmps21
    go_wp2_with fail
    refine (find_sl _ (hm.below (hb0 _)) (by omega) (hs.below (hb0 _))).mono ?_
    rintro e w1 ⟨hb1, hp⟩
    have hbw := (hb0 _).trans (hb1.mono (by simp))
    rcases hp with ⟨hq, v, rfl, ho⟩ | ⟨hq, rfl⟩
    · obtain ⟨ga, gc, rfl, hsl⟩ := ho.sl
      have Hq : Hid (_) := hq
      clear hq
      go_wp2
      refine bodyPost_ret (v := .tuple #[.slice ga m gc, .bool true]) (by simp [results, Tryz.results21, go_sem]) rfl ⟨hbw, Or.inl ⟨Ht.out.trans Hq.out, ga, gc, rfl, hsl⟩⟩
    · have Hq : Hid (_) := hq
      clear hq
      go_wp2
      refine bodyPost_ret (v := .tuple #[.slice none 0 0, .bool false]) (by simp [results, Tryz.results21, go_sem]) rfl ⟨hbw, Or.inr ⟨Ht.out.trans Hq.out, rfl⟩⟩
  · have ht : Hid (thereB E n S m = false) := by unfold Hid thereB; rw [decide_eq_false h3]; rfl
    go_enter Tryz.func21, Tryz.ntmps21
    go_wp2
    refine bodyPost_ret (v := .tuple #[.slice none 0 0, .bool false]) (by simp [results, Tryz.results21, go_sem]) rfl ⟨hb0 _, Or.inr ⟨ht.out, rfl⟩⟩

end Go.Proofs.YtfjfhnjoghlbfaaGreat
