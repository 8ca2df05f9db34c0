import Derived.Test.YtnkpikknkooblaaGreatLvI
import Derived.Test.YtnkpikknkooblaaGreatGrA
import Derived.Test.YtnkpikknkooblaaGreatHrAB
import Derived.Test.YtnkpikknkooblaaGreatNdA
/-
  impl's LevelOf.
-/
namespace Go.Proofs.YtnkpikknkooblaaGreat
open Go.RowKit Go.Maps Go.ChangeMaps

/-- the two slots. -/
def two : Nat → Ent
  | 0 => sCre
  | _ => sPow
theorem two_at (E : Nat → Ev) (n : Nat) (l : List Ent) (b off : Nat) : FM E n l b off two 2 sCre = .pointer (ptA b off (atV E n l tCre tNil)) ∧ FM E n l b off two 2 sPow = .pointer (ptA b off (atV E n l tPow tNil)) := by
  have e0 : FM E n l b off two 2 = if 0 ≤ atV E n l tPow tNil then putV (FM E n l b off two 1) sPow (.pointer (some ⟨b, off + (atV E n l tPow tNil).toNat * 10, none⟩)) else FM E n l b off two 1 := rfl
  have e1 : FM E n l b off two 1 = if 0 ≤ atV E n l tCre tNil then putV (fun _ => .pointer none) sCre (.pointer (some ⟨b, off + (atV E n l tCre tNil).toNat * 10, none⟩)) else (fun _ => .pointer none) := rfl
  have s1 : samB sCre sCre = true := by unfold samB; simp only [ByteArray.toList_eq]; decide
  have s2 : samB sCre sPow = false := by unfold samB; simp only [ByteArray.toList_eq]; decide
  have s3 : samB sPow sCre = false := by unfold samB; simp only [ByteArray.toList_eq]; decide
  have s4 : samB sPow sPow = true := by unfold samB; simp only [ByteArray.toList_eq]; decide
  rw [e0, e1]
  unfold ptA putV
  constructor <;> (split <;> split <;> simp only [s1, s2, s3, s4, if_true, Bool.false_eq_true, if_false])

theorem ofU_all {a : Option Addr} {n cap b off : Nat} {E : Nat → Ev} {l : List Ent} (user : ByteArray) (w : World) (hr : roomTo E n = true) (hf : fitB E n l = true) (h : SlV w a n cap E) (Ha : 0 < n → a = some ⟨b, off, none⟩) :
    Calls Tryz.prog 66 #[.agg #[.pointer (ptA b off (atV E n l tCre tNil)), .pointer (ptA b off (atV E n l tPow tNil))], .string user] w fun e w' => e = .returned (.int .i64 (lvV E n l user)) ∧ Below w.heap.size w w' := by
  have hbp : atV E n l tPow tNil < n := (posV_bd E (findB l tPow tNil) n).2
  have hbc : atV E n l tCre tNil < n := (posV_bd E (findB l tCre tNil) n).2
  have hlook : ∀ i, i < n → b < w.heap.size ∧ EvAt w b (off + i * 10) (E i) := fun i hi => by
    rcases h.cells with h0 | ⟨b2, off2, e, hlt, hc⟩
    · omega
    · rw [Ha (by omega)] at e
      injection e with e
      injection e with e1 e2
      subst e1 e2
      exact ⟨hlt, hc i hi⟩
  unfold lvV
  by_cases hp : 0 ≤ atV E n l tPow tNil
  · have hty := at_ty hr hf hp
    have hi : (atV E n l tPow tNil).toNat < n := by omega
    obtain ⟨hb, pa, cp, aa, ca, ga, cg, hc, hok⟩ := hlook _ hi
    have hcode := room_code hr hi
    have hpw : isPow (E (atV E n l tPow tNil).toNat) = true := by unfold isPow; rw [hty, ByteArray.toList_eq]; decide
    obtain ⟨h50, has⟩ := gr_asc hcode hpw
    rw [if_pos hp]
    have e2 : ptA b off (atV E n l tPow tNil) = some ⟨b, off + (atV E n l tPow tNil).toNat * 10, none⟩ := if_pos hp
    rw [e2]
    exact ofU_pow user w hb hc.c9 has h50 hok.hg
  · have e2 : ptA b off (atV E n l tPow tNil) = none := if_neg hp
    rw [if_neg hp, e2]
    by_cases hq : 0 ≤ atV E n l tCre tNil
    · have hi : (atV E n l tCre tNil).toNat < n := by omega
      obtain ⟨hb, pa, cp, aa, ca, ga, cg, hc, hok⟩ := hlook _ hi
      have e3 : ptA b off (atV E n l tCre tNil) = some ⟨b, off + (atV E n l tCre tNil).toNat * 10, none⟩ := if_pos hq
      rw [e3]
      refine (ofU_cre _ user w hb hc.c1).mono fun e w' ⟨h1, h2⟩ => ⟨?_, h2⟩
      rw [h1]
      simp only [hq, true_and]
    · have e3 : ptA b off (atV E n l tCre tNil) = none := if_neg hq
      rw [e3]
      refine (ofU_none user w).mono fun e w' ⟨h1, h2⟩ => ⟨?_, h2⟩
      rw [h1, if_neg (fun hx => hq hx.1)]

set_option maxRecDepth 100000 in
theorem idsIn_any (sa : Option Addr) (k sc : Nat) (w : World) :
    Calls Tryz.prog 33 #[.slice sa k sc] w fun e w' => ∃ bs, e = .returned (.func (.func 72) #[] #[.pointer (some ⟨bs, 0, none⟩)]) ∧ bs < w'.heap.size ∧ w'.cell? ⟨bs, 0, none⟩ = some (.slice sa k sc) ∧ Below w.heap.size w w' := by
  go_enter Tryz.func33, Tryz.ntmps33
  go_wp2
  go_ret
  exact ⟨_, rfl, by simp, World.cell?_alloc_at _ _ _ _ rfl, (Below.refl _ _).alloc (Nat.le_refl _) _⟩

theorem SlE.allOk {w : World} {a : Option Addr} {cap : Nat} {l : List Ent} (h : SlE w a cap l) : AllOk l := fun x hx => by
  obtain ⟨i, hi, rfl⟩ := List.mem_iff_getElem.1 hx
  have := h.size i hi
  rwa [eAt_get l i hi] at this

end Go.Proofs.YtnkpikknkooblaaGreat
/-
  The view that a hearing has of a state.
-/
namespace Go.Proofs.YtnkpikknkooblaaGreat
open Go.RowKit Go.Maps Go.ChangeMaps

theorem FM_out (E : Nat → Ev) (n : Nat) (l : List Ent) (b off : Nat) (X : Nat → Ent) (x : Ent) : ∀ k, (∀ i, i < k → samB (X i) x = false) → FM E n l b off X k x = .pointer none
  | 0, _ => rfl
  | k + 1, h => by
    have ih := FM_out E n l b off X x k (fun i hi => h i (by omega))
    rw [FM]
    split
    · unfold putV
      rw [if_neg (by rw [h k (by omega)]; decide)]
      exact ih
    · exact ih
/-- the hearing's view. -/
def vwO (E : Nat → Ev) (n : Nat) (l : List Ent) (e : Ev) : View := if isCr e then (fun ty key => if samB slC ⟨ty, key, tNil⟩ = true then evO E n l ty key else none) else evO E n l
theorem samB_CP : samB slC ⟨tPow, tNil, tNil⟩ = false := by
  unfold samB slC
  simp only [ByteArray.toList_eq]
  decide
theorem vwO_cre (E : Nat → Ev) (n : Nat) (l : List Ent) (e : Ev) : vwO E n l e tCre tNil = evO E n l tCre tNil := by
  unfold vwO
  split
  · exact if_pos ((samB_iff _ _).2 ⟨rfl, rfl⟩)
  · rfl
theorem alV_vw (E : Nat → Ev) (n : Nat) (l : List Ent) (e : Ev) : alV (vwO E n l e) e = alV (evO E n l) e := by
  cases hc : isCr e
  · unfold vwO; rw [hc]; rfl
  · unfold alV; rw [hc, vwO_cre]; rfl
theorem ptA_at {w : World} {a : Option Addr} {n cap b off : Nat} {E : Nat → Ev} (h : SlV w a n cap E) (Ha : 0 < n → a = some ⟨b, off, none⟩) (l : List Ent) (ty key : ByteArray) : PtAt w (ptA b off (atV E n l ty key)) (evO E n l ty key) := by
  have hbp : atV E n l ty key < n := (posV_bd E (findB l ty key) n).2
  unfold evO
  by_cases hp : 0 ≤ atV E n l ty key
  · rcases h.cells with h0 | ⟨b2, off2, e, hlt, hc⟩
    · omega
    · rw [Ha (by omega)] at e
      injection e with e
      injection e with e1 e2
      subst e1 e2
      exact Or.inr ⟨_, b, off + (atV E n l ty key).toNat * 10, if_pos hp, if_pos hp, hlt, hc _ (by omega)⟩
  · exact Or.inl ⟨if_neg hp, if_neg hp⟩
theorem nd_len (e : Ev) : (ndL e).length ≤ 5 := by
  unfold ndL ndY uq
  repeat' split
  all_goals simp
theorem nd_sok {e : Ev} (hs : e.sd.size ≤ maxLen) (hk : e.key.size ≤ maxLen) : ∀ i, i < (ndL e).length → SOk (eAt (ndL e) i) := fun i hi => by
  have hx := eAt_mem (ndL e) i hi
  generalize eAt (ndL e) i = x at hx
  have hC : SOk slC := ⟨by show slC.ty.size ≤ maxLen; decide, by show slC.key.size ≤ maxLen; decide⟩
  have hJ : SOk slJ := ⟨by show slJ.ty.size ≤ maxLen; decide, by show slJ.key.size ≤ maxLen; decide⟩
  have hP : SOk slP := ⟨by show slP.ty.size ≤ maxLen; decide, by show slP.key.size ≤ maxLen; decide⟩
  have hM : ∀ u : ByteArray, u.size ≤ maxLen → SOk (slM u) := fun u hu => ⟨by show (⟨#[109, 101, 109, 98, 101, 114]⟩ : ByteArray).size ≤ maxLen; decide, hu⟩
  unfold ndL at hx
  split at hx
  · split at hx
    · rw [List.mem_singleton] at hx; subst hx; exact hC
    · simp only [List.mem_cons, List.mem_append, List.mem_map, List.not_mem_nil, or_false] at hx
      rcases hx with rfl | (hx | ⟨u, hu, rfl⟩) | rfl
      · exact hC
      · unfold ndY at hx
        split at hx
        · rw [List.mem_singleton] at hx; subst hx; exact hJ
        · cases hx
      · rcases (uq_mem e u).1 hu with rfl | ⟨_, rfl⟩
        · exact hM _ hs
        · exact hM _ hk
      · exact hP
  · cases hx
/-- the map over the slots that an event needs. -/
abbrev ndF (E : Nat → Ev) (n : Nat) (l : List Ent) (b off : Nat) (e : Ev) : Ent → Value := FM E n l b off (eAt (ndL e)) (ndL e).length
theorem ndF_at (E : Nat → Ev) (n : Nat) (l : List Ent) (b off : Nat) (e : Ev) {y x : Ent} (hy : y ∈ ndL e) (hs : samB y x = true) : ndF E n l b off e x = .pointer (ptA b off (atV E n l x.ty x.key)) := by
  obtain ⟨i, hi, rfl⟩ := List.mem_iff_getElem.1 hy
  exact FM_at E n l b off _ x _ i hi (by rw [eAt_get _ _ hi]; exact hs)
theorem mb_not_cr {e : Ev} (h : isMb e = true) : isCr e = false := by
  unfold isMb at h
  unfold isCr
  rw [beq_iff_eq] at h
  rw [h]
  decide
theorem nd_eq {e : Ev} (hc : e.code = 0) (hcr : isCr e = false) : ndL e = slC :: (ndY e ++ (uq e).map slM ++ [slP]) := by unfold ndL; rw [if_pos hc, hcr]; rfl
theorem view_all {w : World} {a : Option Addr} {n cap b off : Nat} {E : Nat → Ev} {l : List Ent} {e : Ev} (h : SlV w a n cap E) (Ha : 0 < n → a = some ⟨b, off, none⟩) (hr : roomTo E n = true) (hf : fitB E n l = true) (hc : e.code = 0) :
    ∃ oc op, ndF E n l b off e sCre = .pointer oc ∧ ndF E n l b off e sPow = .pointer op ∧ LvAt w oc op (vwO E n l e) ∧ (isCr e = false → SlotAt w (ndF E n l b off e) (vwO E n l e) ⟨tMem, e.sd, tNil⟩) ∧ (isMb e = true → SlotAt w (ndF E n l b off e) (vwO E n l e) ⟨tMem, e.key, tNil⟩) ∧ (isMb e = true → isJn e = true → SlotAt w (ndF E n l b off e) (vwO E n l e) ⟨tRul, tNil, tNil⟩) := by
  have hasc : ∀ p, evO E n l tPow tNil = some p → AscM p.M p.ng ∧ p.ng ≤ 50 := fun p hp => by
    unfold evO at hp
    have hbp : atV E n l tPow tNil < n := (posV_bd E (findB l tPow tNil) n).2
    by_cases h0 : 0 ≤ atV E n l tPow tNil
    · rw [if_pos h0] at hp
      injection hp with hp
      have hty := at_ty hr hf h0
      have hpw : isPow (E (atV E n l tPow tNil).toNat) = true := by unfold isPow; rw [hty, ByteArray.toList_eq]; decide
      have := gr_asc (room_code hr (by omega)) hpw
      rw [hp] at this
      exact ⟨this.2, this.1⟩
    · rw [if_neg h0] at hp; cases hp
  have hsl : ∀ x : Ent, isCr e = false → (∃ y ∈ ndL e, samB y x = true) → SlotAt w (ndF E n l b off e) (vwO E n l e) x := fun x hcr ⟨y, hy, hs⟩ => by
    refine ⟨_, ndF_at E n l b off e hy hs, ?_⟩
    unfold vwO
    rw [hcr]
    exact ptA_at h Ha l x.ty x.key
  have hC : slC ∈ ndL e := by
    unfold ndL
    rw [if_pos hc]
    split
    · exact List.mem_singleton.2 rfl
    · exact List.mem_cons_self
  refine ⟨_, (if isCr e then none else ptA b off (atV E n l tPow tNil)), ndF_at E n l b off e hC ((samB_iff _ _).2 ⟨rfl, rfl⟩), ?_, ⟨?_, ?_, ?_⟩, ?_, ?_, ?_⟩
  · cases hcr : isCr e
    · exact ndF_at E n l b off e (y := slP) (by rw [nd_eq hc hcr]; simp) ((samB_iff _ _).2 ⟨rfl, rfl⟩)
    · have hL : ndL e = [slC] := by unfold ndL; rw [if_pos hc, hcr]; rfl
      unfold ndF
      rw [hL]
      exact FM_out E n l b off _ _ _ (fun i hi => by
        have : i = 0 := by simpa using hi
        subst this
        exact samB_CP)
  · rw [vwO_cre]
    exact ptA_at h Ha l tCre tNil
  · cases hcr : isCr e
    · have : vwO E n l e = evO E n l := by unfold vwO; rw [hcr]; rfl
      rw [this]
      exact ptA_at h Ha l tPow tNil
    · refine Or.inl ⟨?_, rfl⟩
      unfold vwO
      rw [hcr]
      exact if_neg (by rw [samB_CP]; decide)
  · intro p hp
    cases hcr : isCr e
    · have : vwO E n l e = evO E n l := by unfold vwO; rw [hcr]; rfl
      rw [this] at hp
      exact hasc p hp
    · unfold vwO at hp
      rw [hcr] at hp
      have h2 : (none : Option Ev) = some p := by
        rw [← hp]
        exact (if_neg (by rw [samB_CP]; decide)).symm
      cases h2
  · intro hcr
    exact hsl _ hcr ⟨slM e.sd, by rw [nd_eq hc hcr]; simp only [List.mem_cons, List.mem_append, List.mem_map]; exact Or.inr (Or.inl (Or.inr ⟨e.sd, (uq_mem e _).2 (Or.inl rfl), rfl⟩)), (samB_iff _ _).2 ⟨rfl, rfl⟩⟩
  · intro hm
    have hcr := mb_not_cr hm
    exact hsl _ hcr ⟨slM e.key, by rw [nd_eq hc hcr]; simp only [List.mem_cons, List.mem_append, List.mem_map]; exact Or.inr (Or.inl (Or.inr ⟨e.key, (uq_mem e _).2 (Or.inr ⟨hm, rfl⟩), rfl⟩)), (samB_iff _ _).2 ⟨rfl, rfl⟩⟩
  · intro hm hj
    have hcr := mb_not_cr hm
    have hY : ndY e = [slJ] := by unfold ndY; rw [hm, hj]; rfl
    exact hsl _ hcr ⟨slJ, by rw [nd_eq hc hcr, hY]; simp, (samB_iff _ _).2 ⟨rfl, rfl⟩⟩
end Go.Proofs.YtnkpikknkooblaaGreat
