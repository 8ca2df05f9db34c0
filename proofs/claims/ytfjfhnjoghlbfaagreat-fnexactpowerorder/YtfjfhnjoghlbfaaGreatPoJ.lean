/-
  impl.PowerOrder.
-/
import Derived.Test.YtfjfhnjoghlbfaaGreatPwI
import Derived.Test.YtfjfhnjoghlbfaaGreatPoS
import Derived.Test.YtfjfhnjoghlbfaaGreatGiv
namespace Go.Proofs.YtfjfhnjoghlbfaaGreat
open Go.RowKit Go.Maps Go.ChangeMaps

/-- what marked leaves. -/
def MkP (w3 : World) (n : Nat) (M : Nat → Bool) (e : Ending) (w' : World) : Prop := ∃ b, e = .returned (.slice (some ⟨b, 0, none⟩) n n) ∧ BlAt w' b n M ∧ Below w3.heap.size w3 w'
/-- what powerOrder leaves. -/
def PwQ (w3 : World) (E : Nat → Ev) (n : Nat) (S : Nat → ByteArray) (m : Nat) (e : Ending) (w' : World) : Prop := ∃ oa oc o, e = .returned (.slice oa o.length oc) ∧ SlI w' oa o.length oc (lX o) ∧ Hid (PoOrd E n S m o) ∧ Below w3.heap.size w3 w'
/-- what idsAt leaves. -/
def IaP (w3 : World) (base : Nat) (E : Nat → Ev) (o : List Nat) (e : Ending) (w' : World) : Prop := ∃ v, e = .returned v ∧ OwnL w' base v (o.map fun p => (E p).id) ∧ Below w3.heap.size w3 w'

theorem ids_map (E : Nat → Ev) (o : List Nat) : (List.range o.length).map (fun k => (E (lX o k).toNat).id) = o.map fun p => (E p).id := by
  apply List.ext_getElem?
  intro j
  by_cases hj : j < o.length
  · simp [hj, lX, List.getD]
  · rw [List.getElem?_eq_none (by simpa using hj), List.getElem?_eq_none (by simpa using hj)]

set_option maxRecDepth 100000 in
set_option maxHeartbeats 2000000 in
theorem poJ_sl {a : Option Addr} {n cap : Nat} {E : Nat → Ev} {ia : Option Addr} {m icap : Nat} {S : Nat → ByteArray} (w : World) (h : SlV w a n cap E) (hids : SlS w ia m icap S) :
    Calls Tryz.prog 9 #[.agg #[.slice a n cap], .slice ia m icap] w (PoPost w E n S m) := by
  have hb0 : ∀ o, Below w.heap.size w (w.alloc o) := fun o => (Below.refl _ _).alloc (Nat.le_refl _) _
  have HN : Hid (∀ w', poOk E n S m = false → Below w.heap.size w w' → PoPost w E n S m (.returned (.tuple #[.slice none 0 0, .bool false])) w') := fun w' hq hb => ⟨hb, _, [], by rw [hq], OwnL.nil _ _, Or.inr ⟨hq, rfl⟩⟩
  go_enter Tryz.func9, Tryz.ntmps9
  go_wp2_with fail
  refine (graph_sl _ (h.below (hb0 _))).mono ?_
  rintro e w1 ⟨hb1, hp⟩
  have hw1 := (hb0 _).trans (hb1.mono (hb0 _).size)
  rcases hp with ⟨hq, mm, ra, rc, rfl, hmp, hrs⟩ | ⟨hq, rfl⟩
  · have Hq : Hid (_) := hq
    have h300 := room_300 hq
    have hbA : ∀ o, Below w1.heap.size w1 (w1.alloc o) := fun o => (Below.refl _ _).alloc (Nat.le_refl _) _
    clear hq hb1
    go_wp2_with fail
    refine (givenG_sl _ (hmp.below (hbA _)) ((hids.below hw1).below (hbA _))).mono ?_
    rintro e w3 ⟨hb3, hpg⟩
    have hX3 := hb3.mono (B' := w1.heap.size + 1) (by simp)
    have h13 := (hbA _).trans (hb3.mono (by simp))
    have hw3 := hw1.trans (h13.mono hw1.size)
    have hS3 : w1.heap.size + 1 ≤ w3.heap.size := by simpa using hX3.size
    rcases hpg with ⟨hth, ga, gc, rfl, hgi⟩ | ⟨hth, rfl⟩
    · have Hth : Hid (thereB E n S m = true) := hth
      have HMk : Hid (∀ W, Below w3.heap.size w3 W → Calls Tryz.prog 24 #[.agg #[.slice a n cap, .map (some mm), .slice ra n rc], .slice ga m gc] W (MkP w3 n (fun i => hitX (fun i => posV E n (S i)) i m))) := fun W hW =>
        (markI_sl W h300 (hgi.below hW) (fun i hi => by
          have h1 := (there_allP Hth.out).2 i hi
          have h2 := posV_bd E (S i) n
          exact ⟨(posV E n (S i)).toNat, by omega, by omega⟩)).mono fun e w' ⟨b, he, _, hM, hb⟩ => ⟨b, he, hM, hW.trans (hb.mono hW.size)⟩
      have HMo : Hid (∀ W b, Below w3.heap.size w3 W → BlAt W b n (fun i => hitX (fun i => posV E n (S i)) i m) → Calls Tryz.prog 23 #[.agg #[.slice a n cap, .map (some mm), .slice ra n rc], .slice (some ⟨b, 0, none⟩) n n] W (PwQ w3 E n S m)) := fun W b hW hM =>
        (pwI_sl W Hq.out ((h.below hw3).below hW) ((hrs.below h13).below hW) hM (fun p hp => hitX_iff _ p m)).mono fun e w' ⟨v, o, he, ho, hpo, hb⟩ => by
          obtain ⟨oa, oc, rfl, hsl⟩ := ho.sl
          exact ⟨oa, oc, o, he, hsl, hpo, hW.trans (hb.mono hW.size)⟩
      have HIa : Hid (∀ W oa oc o, Below w3.heap.size w3 W → SlI W oa (List.length o) oc (lX o) → Hid (PoOrd E n S m o) → Calls Tryz.prog 22 #[.agg #[.slice a n cap, .map (some mm), .slice ra n rc], .slice oa o.length oc] W (IaP w3 w.heap.size E o)) := fun W oa oc o hW hsl hpm => by
        have hmem : ∀ p ∈ o, p < n := hpm.out.lt
        have hol : o.length ≤ 1048576 := by have := ord_len hpm.out.1 (fun q hq => hq.1); omega
        refine (idsI_sl W hol ((h.below hw3).below hW) hsl (fun k hk => lX_lt hmem hk)).mono ?_
        rintro e w' ⟨v, rfl, ho, hb⟩
        have := ho.list
        rw [ids_map] at this
        exact ⟨v, rfl, this.mono (by have := hw3.size; have := hW.size; omega), hW.trans (hb.mono hW.size)⟩
      have HF : Hid (∀ w' v (o : List Nat), Below w3.heap.size w3 w' → Hid (PoOrd E n S m o) → OwnL w' w.heap.size v (o.map fun p => (E p).id) → PoPost w E n S m (.returned (.tuple #[v, .bool true])) w') := fun w' v o hb hpm ho => by
        have hok : poOk E n S m = true := by unfold poOk; rw [Hq.out, Hth.out]; rfl
        exact ⟨hw3.trans (hb.mono hw3.size), v, o, by rw [hok], ho, Or.inl ⟨hok, hpm.out⟩⟩
      have hso : Hid (∀ W, Below w3.heap.size w3 W → ∀ o, W.cell? ⟨w1.heap.size, o, none⟩ = (#[.slice a n cap, .map (some mm), .slice ra n rc] : Array Value)[o]?) := fun W hW => box_cells (hX3.trans (hW.mono hS3))
      have hcx3 := hso.out _ (Below.refl _ _)
      generalize (fun i => hitX (fun i => posV E n (S i)) i m) = M at *
      clear hth hgi hmp hrs hX3
      go_wp2_with fail
      go_region_with (first
        | (go_at_call 24; refine (HMk.out _ (by first | exact Below.refl _ _ | exact (Below.refl _ _).drew | exact (Below.refl _ _).drew.drew | exact (Below.refl _ _).drew.drew.drew)).mono ?_; rintro e w4 ⟨bm, rfl, hM4, hb4⟩; have hcx4 := hso.out _ hb4)
        | (go_at_call 23; refine (HMo.out _ _ (by first | exact hb4 | exact hb4.drew | exact hb4.drew.drew | exact hb4.drew.drew.drew) (hM4.below (by first | exact Below.refl _ _ | exact (Below.refl _ _).drew | exact (Below.refl _ _).drew.drew | exact (Below.refl _ _).drew.drew.drew))).mono ?_; rintro e w5 ⟨oa, oc, o, rfl, hsl5, hpm5, hb5⟩; have hcx5 := hso.out _ hb5)
        | (go_at_call 22; refine (HIa.out _ oa oc o (by first | exact hb5 | exact hb5.drew | exact hb5.drew.drew | exact hb5.drew.drew.drew) (hsl5.below (by first | exact Below.refl _ _ | exact (Below.refl _ _).drew | exact (Below.refl _ _).drew.drew | exact (Below.refl _ _).drew.drew.drew)) hpm5).mono ?_; rintro e w6 ⟨v, rfl, ho6, hb6⟩))
      all_goals
        go_wp2
        refine bodyPost_ret (v := .tuple #[v, .bool true]) (by simp [results, Tryz.results9, go_sem]) rfl (HF.out _ _ o (by first | exact hb6 | exact hb6.drew | exact hb6.drew.drew) hpm5 (by first | exact ho6 | exact ho6.below (Below.refl _ _).drew))
    · have Hf : Hid (poOk E n S m = false) := by unfold Hid poOk; rw [hth, Bool.and_false]
      clear hth
      go_wp2
      refine bodyPost_ret (v := .tuple #[.slice none 0 0, .bool false]) (by simp [results, Tryz.results9, go_sem]) rfl (HN.out _ Hf.out hw3)
  · have Hf : Hid (poOk E n S m = false) := by unfold Hid poOk; rw [hq]; rfl
    clear hq
    go_wp2
    refine bodyPost_ret (v := .tuple #[.slice none 0 0, .bool false]) (by simp [results, Tryz.results9, go_sem]) rfl (HN.out _ Hf.out (hw1.alloc hw1.size _))
end Go.Proofs.YtfjfhnjoghlbfaaGreat
