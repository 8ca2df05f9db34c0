/-
  impl.MainOrder.
-/
import Derived.Test.YtdapefcnmhbgkaaGreatMoI
import Derived.Test.YtdapefcnmhbgkaaGreatMoM
import Derived.Test.YtdapefcnmhbgkaaGreatGiv
namespace Go.Proofs.YtdapefcnmhbgkaaGreat
open Go.RowKit Go.Maps Go.ChangeMaps

theorem mo_fin {E : Nat → Ev} {n m : Nat} {S : Nat → ByteArray} {D : Nat → Nat} {o : List Nat} (hr : roomTo E n = true) (hth : thereB E n S m = true) (hperm : o.Perm (plsL (fun i => hitX (fun i => posV E n (S i)) i m) n)) (hpw : o.Pairwise (Bef E D)) :
    OrdL E n D (o.map fun p => (E p).id) ∧ ∀ t, t ∈ (o.map fun p => (E p).id) ↔ ∃ i, i < m ∧ S i = t := by
  have hmem : ∀ p ∈ o, p < n := fun p hp => ((plsL_mem _ p n).1 (hperm.mem_iff.1 hp)).1
  have hpl : ∀ p ∈ o, plc E n (E p).id = p := fun p hp => by unfold plc; rw [posV_here hr (hmem p hp), Int.toNat_natCast]
  have hid : ∀ j p, posV E n (S j) = ((p : Nat) : Int) → (E p).id = S j := fun j p e => by
    obtain ⟨i, hi, e2, hb⟩ := posV_found E (S j) n (by omega)
    have : i = p := by omega
    subst this
    exact ba_of_toList hb
  refine ⟨?_, fun t => ?_⟩
  · unfold OrdL
    refine List.pairwise_map.2 (hpw.imp_of_mem fun {a b} ha hb hab => ?_)
    rw [hpl a ha, hpl b hb]
    exact hab
  · rw [List.mem_map]
    constructor
    · rintro ⟨p, hp, rfl⟩
      obtain ⟨_, h2⟩ := (plsL_mem _ p n).1 (hperm.mem_iff.1 hp)
      obtain ⟨j, hj, e⟩ := (hitX_iff _ p m).1 h2
      exact ⟨j, hj, (hid j p e).symm⟩
    · rintro ⟨i, hi, rfl⟩
      obtain ⟨p, hp, e, _⟩ := posV_found E (S i) n ((there_allM hth).2 i hi)
      exact ⟨p, hperm.mem_iff.2 ((plsL_mem _ p n).2 ⟨hp, (hitX_iff _ p m).2 ⟨i, hi, e⟩⟩), hid i p e⟩

/-- what marked leaves. -/
def MkP (w3 : World) (n : Nat) (M : Nat → Bool) (e : Ending) (w' : World) : Prop := ∃ b, e = .returned (.slice (some ⟨b, 0, none⟩) n n) ∧ BlAt w' b n M ∧ Below w3.heap.size w3 w'
/-- what mainOrder leaves. -/
def MoQ2 (w3 : World) (E : Nat → Ev) (n : Nat) (l : List Nat) (M : Nat → Bool) (e : Ending) (w' : World) : Prop := ∃ oa oc o, e = .returned (.slice oa o.length oc) ∧ SlI w' oa o.length oc (lX o) ∧ Hid (o.Perm (plsL M n) ∧ o.Pairwise (Bef E (fun p : Nat => dp E n l (p : Int)))) ∧ Below w3.heap.size w3 w'
/-- what idsAt leaves. -/
def IaP (w3 : World) (base : Nat) (E : Nat → Ev) (o : List Nat) (e : Ending) (w' : World) : Prop := ∃ v, e = .returned v ∧ OwnL w' base v (o.map fun p => (E p).id) ∧ Below w3.heap.size w3 w'

theorem ids_map (E : Nat → Ev) (o : List Nat) : (List.range o.length).map (fun k => (E (lX o k).toNat).id) = o.map fun p => (E p).id := by
  apply List.ext_getElem?
  intro j
  by_cases hj : j < o.length
  · simp [hj, lX, List.getD]
  · rw [List.getElem?_eq_none (by simpa using hj), List.getElem?_eq_none (by simpa using hj)]

set_option maxRecDepth 100000 in
set_option maxHeartbeats 2000000 in
theorem moJ_sl {a : Option Addr} {n cap : Nat} {E : Nat → Ev} {ia : Option Addr} {m icap : Nat} {S : Nat → ByteArray} (s : ByteArray) (hs : s.size ≤ maxLen) (w : World) (h : SlV w a n cap E) (hids : SlS w ia m icap S) :
    Calls Tryz.prog 9 #[.agg #[.slice a n cap], .slice ia m icap, .string s] w (MoPost w E n S m s) := by
  have hb0 : ∀ o, Below w.heap.size w (w.alloc o) := fun o => (Below.refl _ _).alloc (Nat.le_refl _) _
  have HN : Hid (∀ w', moOk E n S m s = false → Below w.heap.size w w' → MoPost w E n S m s (.returned (.tuple #[.slice none 0 0, .bool false])) w') := fun w' hq hb => ⟨hb, _, [], by rw [hq], OwnL.nil _ _, Or.inr ⟨hq, rfl⟩⟩
  go_enter Tryz.func9, Tryz.ntmps9
  go_wp2_with fail
  refine (graph_sl _ (h.below (hb0 _))).mono ?_
  rintro e w1 ⟨hb1, hp⟩
  have hw1 := (hb0 _).trans (hb1.mono (hb0 _).size)
  rcases hp with ⟨hq, mm, ra, rc, rfl, hmp, hrs⟩ | ⟨hq, rfl⟩
  · have Hq : Hid (_) := hq
    have h300 := room_300 hq
    have hbA : ∀ o, Below w1.heap.size w1 (w1.alloc o) := fun o => (Below.refl _ _).alloc (Nat.le_refl _) _
    clear hq hb1
    go_wp2_with fail
    refine (lineI_sl s hs _ Hq.out ((h.below hw1).below (hbA _)) (hmp.below (hbA _)) (hrs.below (hbA _))).mono ?_
    rintro e w2 ⟨hb2, v, rfl, hown⟩
    have hX2 := hb2.mono (B' := w1.heap.size + 1) (by simp)
    have h12 := (hbA _).trans (hb2.mono (by simp))
    have hw2 := hw1.trans (h12.mono hw1.size)
    have hcx := box_cells hX2
    have hS2 : w1.heap.size + 1 ≤ w2.heap.size := by simpa using hX2.size
    obtain ⟨la, lc, rfl, hli⟩ := hown.sl
    clear hb2 hown
    cases hml : mlOk E n s
    case false =>
      have Hf : Hid (moOk E n S m s = false) := by unfold Hid moOk; rw [hml]; rfl
      clear hml
      generalize (mlL E n s).length = oL at *
      go_wp2
      refine bodyPost_ret (v := .tuple #[.slice none 0 0, .bool false]) (by simp [results, Tryz.results9, go_sem]) rfl (HN.out _ Hf.out hw2)
    case true =>
      have Hml : Hid (mlOk E n s = true) := hml
      have hl : mlL E n s = ln E n (posV E n s) := by unfold mlL; rw [hml]; rfl
      obtain ⟨l, hll⟩ : ∃ l, l = ln E n (posV E n s) := ⟨_, rfl⟩
      rw [hl, ← hll] at hli
      have Hl : Hid (_ = _) := hll
      rw [hl, ← hll]
      clear hml hl hll
      have hlen : l.length ≤ n := by rw [Hl.out]; exact ln_len E n _
      go_wp2_with fail
      refine (givenG_sl _ (hmp.below h12) (hids.below hw2)).mono ?_
      rintro e w3 ⟨hb3, hpg⟩
      have hw3 := hw2.trans (hb3.mono hw2.size)
      have h13 := h12.trans (hb3.mono h12.size)
      have hX3 := hX2.trans (hb3.mono hS2)
      rcases hpg with ⟨hth, ga, gc, rfl, hgi⟩ | ⟨hth, rfl⟩
      · have Hth : Hid (thereB E n S m = true) := hth
        have hm3 : m ≤ 300 := (there_allM hth).1
        have HMk : Hid (∀ W, Below w3.heap.size w3 W → Calls Tryz.prog 25 #[.agg #[.slice a n cap, .map (some mm), .slice ra n rc], .slice ga m gc] W (MkP w3 n (fun i => hitX (fun i => posV E n (S i)) i m))) := fun W hW =>
          (markI_sl W h300 (hgi.below hW) (fun i hi => by
            have h1 := (there_allM Hth.out).2 i hi
            have h2 := posV_bd E (S i) n
            exact ⟨(posV E n (S i)).toNat, by omega, by omega⟩)).mono fun e w' ⟨b, he, _, hM, hb⟩ => ⟨b, he, hM, hW.trans (hb.mono hW.size)⟩
        have HMo : Hid (∀ W b, Below w3.heap.size w3 W → BlAt W b n (fun i => hitX (fun i => posV E n (S i)) i m) → Calls Tryz.prog 24 #[.agg #[.slice a n cap, .map (some mm), .slice ra n rc], .slice (some ⟨b, 0, none⟩) n n, .slice la l.length lc] W (MoQ2 w3 E n l (fun i => hitX (fun i => posV E n (S i)) i m))) := fun W b hW hM =>
          (moI_sl W Hq.out (by rw [Hl.out]; exact ln_desc Hq.out (posV_bd E s n).2) (by rw [Hl.out]; exact ln_mem Hq.out (posV_bd E s n).2) hlen ((h.below hw3).below hW) ((hrs.below h13).below hW) hM ((hli.below hb3).below hW)).mono fun e w' ⟨v, o, he, ho, hpm, hpw, hb⟩ => by
            obtain ⟨oa, oc, rfl, hsl⟩ := ho.sl
            exact ⟨oa, oc, o, he, hsl, ⟨hpm, hpw⟩, hW.trans (hb.mono hW.size)⟩
        have HIa : Hid (∀ W oa oc o, Below w3.heap.size w3 W → SlI W oa (List.length o) oc (lX o) → Hid (o.Perm (plsL (fun i => hitX (fun i => posV E n (S i)) i m) n) ∧ o.Pairwise (Bef E (fun p : Nat => dp E n l (p : Int)))) → Calls Tryz.prog 23 #[.agg #[.slice a n cap, .map (some mm), .slice ra n rc], .slice oa o.length oc] W (IaP w3 w.heap.size E o)) := fun W oa oc o hW hsl hpm => by
          have hmem : ∀ p ∈ o, p < n := fun p hp => ((plsL_mem _ p n).1 (hpm.out.1.mem_iff.1 hp)).1
          have hol : o.length ≤ 1048576 := by rw [hpm.out.1.length_eq]; have := plsL_len (fun i => hitX (fun i => posV E n (S i)) i m) n; omega
          refine (idsI_sl W hol ((h.below hw3).below hW) hsl (fun k hk => lX_lt hmem hk)).mono ?_
          rintro e w' ⟨v, rfl, ho, hb⟩
          have := ho.list
          rw [ids_map] at this
          exact ⟨v, rfl, this.mono (by have := hw3.size; have := hW.size; omega), hW.trans (hb.mono hW.size)⟩
        have HF : Hid (∀ w' v (o : List Nat), Below w3.heap.size w3 w' → Hid (o.Perm (plsL (fun i => hitX (fun i => posV E n (S i)) i m) n) ∧ o.Pairwise (Bef E (fun p : Nat => dp E n l (p : Int)))) → OwnL w' w.heap.size v (o.map fun p => (E p).id) → MoPost w E n S m s (.returned (.tuple #[v, .bool true])) w') := fun w' v o hb hpm ho => by
          have hok : moOk E n S m s = true := by unfold moOk; rw [Hml.out, Hth.out]; rfl
          obtain ⟨q1, q2⟩ := mo_fin Hq.out Hth.out hpm.out.1 hpm.out.2
          rw [Hl.out] at q1
          exact ⟨hw3.trans (hb.mono hw3.size), v, _, by rw [hok], ho, Or.inl ⟨hok, q1, q2⟩⟩
        have hso : Hid (∀ W, Below w3.heap.size w3 W → ∀ o, W.cell? ⟨w1.heap.size, o, none⟩ = (#[.slice a n cap, .map (some mm), .slice ra n rc] : Array Value)[o]?) := fun W hW => box_cells (hX3.trans (hW.mono (by have := hb3.size; omega)))
        have hcx3 := hso.out _ (Below.refl _ _)
        generalize (fun i => hitX (fun i => posV E n (S i)) i m) = M at *
        clear hth hcx hgi hli hmp hrs hX2 hX3
        go_wp2_with fail
        go_region_with (first
          | (go_at_call 25; refine (HMk.out _ (by first | exact Below.refl _ _ | exact (Below.refl _ _).drew | exact (Below.refl _ _).drew.drew | exact (Below.refl _ _).drew.drew.drew)).mono ?_; rintro e w4 ⟨bm, rfl, hM4, hb4⟩; have hcx4 := hso.out _ hb4)
          | (go_at_call 24; refine (HMo.out _ _ (by first | exact hb4 | exact hb4.drew | exact hb4.drew.drew | exact hb4.drew.drew.drew) (hM4.below (by first | exact Below.refl _ _ | exact (Below.refl _ _).drew | exact (Below.refl _ _).drew.drew | exact (Below.refl _ _).drew.drew.drew))).mono ?_; rintro e w5 ⟨oa, oc, o, rfl, hsl5, hpm5, hb5⟩; have hcx5 := hso.out _ hb5)
          | (go_at_call 23; refine (HIa.out _ oa oc o (by first | exact hb5 | exact hb5.drew | exact hb5.drew.drew | exact hb5.drew.drew.drew) (hsl5.below (by first | exact Below.refl _ _ | exact (Below.refl _ _).drew | exact (Below.refl _ _).drew.drew | exact (Below.refl _ _).drew.drew.drew)) hpm5).mono ?_; rintro e w6 ⟨v, rfl, ho6, hb6⟩))
        all_goals
          go_wp2
          refine bodyPost_ret (v := .tuple #[v, .bool true]) (by simp [results, Tryz.results9, go_sem]) rfl (HF.out _ _ o (by first | exact hb6 | exact hb6.drew | exact hb6.drew.drew) hpm5 (by first | exact ho6 | exact ho6.below (Below.refl _ _).drew))
      · have Hf : Hid (moOk E n S m s = false) := by unfold Hid moOk; rw [hth, Bool.and_false]
        clear hth
        go_wp2
        refine bodyPost_ret (v := .tuple #[.slice none 0 0, .bool false]) (by simp [results, Tryz.results9, go_sem]) rfl (HN.out _ Hf.out hw3)
  · have Hf : Hid (moOk E n S m s = false) := by unfold Hid moOk mlOk; rw [hq]; rfl
    clear hq
    go_wp2
    refine bodyPost_ret (v := .tuple #[.slice none 0 0, .bool false]) (by simp [results, Tryz.results9, go_sem]) rfl (HN.out _ Hf.out (hw1.alloc hw1.size _))
end Go.Proofs.YtdapefcnmhbgkaaGreat
