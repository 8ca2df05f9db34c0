/-
  impl.AuthChain.
-/
import Derived.Test.YtghbednpeboicaaChI
import Derived.Test.YtghbednpeboicaaSoI
namespace Go.Proofs.Ytghbednpeboicaa
open Go.RowKit

theorem there_all {E : Nat → Ev} {n : Nat} {S : Nat → ByteArray} {m : Nat} (h : thereB E n S m = true) : m ≤ 300 ∧ ∀ i, i < m → 0 ≤ posV E n (S i) := by
  unfold thereB at h
  rw [Bool.and_eq_true] at h
  refine ⟨of_decide_eq_true h.1, fun i hi => ?_⟩
  by_cases hc : 0 ≤ posV E n (S i)
  · exact hc
  · have := thereTo_le E n S m i hi (by rw [thereTo, decide_eq_false hc, Bool.and_false])
    rw [this] at h
    cases h.2

def GvPost (w : World) (E : Nat → Ev) (n : Nat) (S : Nat → ByteArray) (m : Nat) (ok : Bool) (e : Ending) (w' : World) : Prop := Below w.heap.size w w' ∧
  ((ok = true ∧ ∃ ga gc, e = .returned (.tuple #[.slice ga m gc, .bool true]) ∧ SlI w' ga m gc (fun i => posV E n (S i))) ∨ (ok = false ∧ e = .returned (.tuple #[.slice none 0 0, .bool false])))

set_option maxHeartbeats 1000000 in
theorem givenI_sl {a : Option Addr} {n cap mm : Nat} {ra : Option Addr} {nr rc : Nat} {E : Nat → Ev} {ia : Option Addr} {m icap : Nat} {S : Nat → ByteArray} (w : World) (hm : MapAt w mm n (knE E n) (posV E n)) (hs : SlS w ia m icap S) :
    Calls Try.prog 39 #[.agg #[.slice a n cap, .map (some mm), .slice ra nr rc], .slice ia m icap] w (GvPost w E n S m (thereB E n S m)) := by
  have hmx := Nat.le_trans hs.le hs.max
  unfold maxLen at hmx
  have hb0 : ∀ o, Below w.heap.size w (w.alloc o) := fun o => (Below.refl _ _).alloc (Nat.le_refl _) _
  by_cases h3 : m ≤ 300
  · have ht : thereB E n S m = allTo (knE E n) S m := by unfold thereB; rw [decide_eq_true h3, allTo_there]; rfl
    have Ht : Hid (_ = _) := ht
    have hg : ¬ (300 < m) := by omega
    clear ht
    go_enter Try.func39, Try.ntmps39
    go_wp2_with fail
    refine (find_sl _ (hm.below (hb0 _)) (by omega) (hs.below (hb0 _))).mono ?_
    rintro e w1 ⟨hb1, hp⟩
    have hbw := (hb0 _).trans (hb1.mono (by simp))
    rcases hp with ⟨hq, v, rfl, ho⟩ | ⟨hq, rfl⟩
    · obtain ⟨ga, gc, rfl, hsl⟩ := ho.sl
      have Hq : Hid (_) := hq
      clear hq
      go_wp2
      refine bodyPost_ret (v := .tuple #[.slice ga m gc, .bool true]) (by simp [results, Try.results39, go_sem]) rfl ⟨hbw, Or.inl ⟨Ht.out.trans Hq.out, ga, gc, rfl, hsl⟩⟩
    · have Hq : Hid (_) := hq
      clear hq
      go_wp2
      refine bodyPost_ret (v := .tuple #[.slice none 0 0, .bool false]) (by simp [results, Try.results39, go_sem]) rfl ⟨hbw, Or.inr ⟨Ht.out.trans Hq.out, rfl⟩⟩
  · have ht : Hid (thereB E n S m = false) := by unfold Hid thereB; rw [decide_eq_false h3]; rfl
    go_enter Try.func39, Try.ntmps39
    go_wp2
    refine bodyPost_ret (v := .tuple #[.slice none 0 0, .bool false]) (by simp [results, Try.results39, go_sem]) rfl ⟨hb0 _, Or.inr ⟨ht.out, rfl⟩⟩

/-- what AuthChain answers. -/
def AcPost (w : World) (E : Nat → Ev) (n : Nat) (S : Nat → ByteArray) (m : Nat) (e : Ending) (w' : World) : Prop := Below w.heap.size w w' ∧
  ((roomTo E n = true ∧ thereB E n S m = true ∧ ∃ v l, e = .returned (.tuple #[v, .int .i64 0]) ∧ OwnL w' w.heap.size v l ∧ Srt l ∧ ∀ s, s ∈ l ↔ Chn E n S m s) ∨
   (roomTo E n = false ∧ ∃ v, e = .returned (.tuple #[v, .int .i64 1]) ∧ OwnL w' w.heap.size v []) ∨
   (roomTo E n = true ∧ thereB E n S m = false ∧ ∃ v, e = .returned (.tuple #[v, .int .i64 2]) ∧ OwnL w' w.heap.size v []))

set_option maxRecDepth 100000 in
set_option maxHeartbeats 1000000 in
theorem acI_sl {a : Option Addr} {n cap : Nat} {E : Nat → Ev} {ia : Option Addr} {m icap : Nat} {S : Nat → ByteArray} (w : World) (h : SlV w a n cap E) (hids : SlS w ia m icap S) :
    Calls Try.prog 18 #[.agg #[.slice a n cap], .slice ia m icap] w (AcPost w E n S m) := by
  have hb0 : ∀ o, Below w.heap.size w (w.alloc o) := fun o => (Below.refl _ _).alloc (Nat.le_refl _) _
  go_enter Try.func18, Try.ntmps18
  go_wp2_with fail
  refine (graph_sl _ (h.below (hb0 _))).mono ?_
  rintro e w1 ⟨hb1, hp⟩
  have hw1 := (hb0 _).trans (hb1.mono (hb0 _).size)
  rcases hp with ⟨hq, mm, ra, rc, rfl, hmp, hrs⟩ | ⟨hq, rfl⟩
  · have Hq : Hid (_) := hq
    have hbA : ∀ o, Below w1.heap.size w1 (w1.alloc o) := fun o => (Below.refl _ _).alloc (Nat.le_refl _) _
    clear hq hb1
    go_wp2_with fail
    refine (givenI_sl _ (hmp.below (hbA _)) ((hids.below hw1).below (hbA _))).mono ?_
    rintro e w2 ⟨hb2, hp2⟩
    have hX2 := hb2.mono (B' := w1.heap.size + 1) (by simp)
    have h12 := (hbA _).trans (hb2.mono (by simp))
    have hw2 := hw1.trans (h12.mono hw1.size)
    have hcx := box_cells hX2
    clear hb2
    rcases hp2 with ⟨ht, ga, gc, rfl, hgi⟩ | ⟨ht, rfl⟩
    · have Ht : Hid (_) := ht
      clear ht
      go_wp2_with fail
      go_region_with (first
        | (go_at_call 40; refine (chainI_sl _ Hq.out (hrs.below (by first | exact h12 | exact (h12).drew | exact (h12).drew.drew | exact (h12).drew.drew.drew | exact (h12).drew.drew.drew.drew)) (hgi.below (by first | exact Below.refl w2.heap.size w2 | exact (Below.refl w2.heap.size w2).drew | exact (Below.refl w2.heap.size w2).drew.drew | exact (Below.refl w2.heap.size w2).drew.drew.drew | exact (Below.refl w2.heap.size w2).drew.drew.drew.drew)) (there_all Ht.out).2).mono ?_; rintro e w3 ⟨b3, rfl, hb3', hbl3, hb3⟩; have h23 : Below w2.heap.size w2 w3 := Below.trans (by first | exact Below.refl w2.heap.size w2 | exact (Below.refl w2.heap.size w2).drew | exact (Below.refl w2.heap.size w2).drew.drew | exact (Below.refl w2.heap.size w2).drew.drew.drew | exact (Below.refl w2.heap.size w2).drew.drew.drew.drew) hb3; have hw3 := hw2.trans (h23.mono hw2.size); have hcx3 := box_cells (hX2.trans (h23.mono (by have := hX2.size; simpa using this))))
        | (go_at_call 33; refine (soI_sl _ Hq.out (h.below (by first | exact hw3 | exact (hw3).drew | exact (hw3).drew.drew | exact (hw3).drew.drew.drew | exact (hw3).drew.drew.drew.drew)) (hbl3.below (by first | exact Below.refl w3.heap.size w3 | exact (Below.refl w3.heap.size w3).drew | exact (Below.refl w3.heap.size w3).drew.drew | exact (Below.refl w3.heap.size w3).drew.drew.drew | exact (Below.refl w3.heap.size w3).drew.drew.drew.drew))).mono ?_; rintro e w4 ⟨v, l, rfl, hown, hsrt, hmem, hb4⟩; have Hs : Hid (Srt l) := hsrt; have Hm : Hid (∀ s, s ∈ l ↔ ∃ i, i < n ∧ rchT E n (fun i => hitS E n S i m) n i = true ∧ (E i).id = s) := hmem; have h34 : Below w3.heap.size w3 w4 := Below.trans (by first | exact Below.refl w3.heap.size w3 | exact (Below.refl w3.heap.size w3).drew | exact (Below.refl w3.heap.size w3).drew.drew | exact (Below.refl w3.heap.size w3).drew.drew.drew | exact (Below.refl w3.heap.size w3).drew.drew.drew.drew) hb4; clear hsrt hmem))
      all_goals
        have hw4 := hw3.trans (h34.mono hw3.size)
        have hown4 : OwnL w4 w.heap.size v l := OwnL.mono hown (by exact hw3.size)
        go_wp2
        refine bodyPost_ret (v := .tuple #[v, .int .i64 0]) (by simp [results, Try.results18, go_sem]) rfl ?_
        exact ⟨hw4, Or.inl ⟨Hq.out, Ht.out, v, l, rfl, hown4, Hs.out, fun s => (Hm.out s).trans (rchT_chn Hq.out s)⟩⟩
    · have Ht : Hid (_) := ht
      clear ht
      go_wp2
      refine bodyPost_ret (v := .tuple #[.slice none 0 0, .int .i64 2]) (by simp [results, Try.results18, go_sem]) rfl ⟨hw2, Or.inr (Or.inr ⟨Hq.out, Ht.out, _, rfl, OwnL.nil _ _⟩)⟩
  · have Hq : Hid (_) := hq
    clear hq
    go_wp2
    refine bodyPost_ret (v := .tuple #[.slice none 0 0, .int .i64 1]) (by simp [results, Try.results18, go_sem]) rfl ⟨hw1.alloc hw1.size _, Or.inr (Or.inl ⟨Hq.out, _, rfl, OwnL.nil _ _⟩)⟩
end Go.Proofs.Ytghbednpeboicaa
