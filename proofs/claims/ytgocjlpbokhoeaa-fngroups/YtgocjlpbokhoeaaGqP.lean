import Derived.Test.YtgocjlpbokhoeaaStoM
import Derived.Test.YtgocjlpbokhoeaaOwnGM
import Derived.Test.YtgocjlpbokhoeaaSvP
namespace Go.Proofs.Ytgocjlpbokhoeaa
open Go.RowKit
theorem lnk_congr {G G' : Nat → Grp} {n : Nat} (hF : Front G n) (he : ∀ j, j < n → G' j = G j) : ∀ f i, i < n → lnk G' f i = lnk G f i
  | 0, _, _ => rfl
  | f + 1, i, hi => by
    have := hF i hi
    unfold lnk
    rw [he i hi]
    by_cases hp : (G i).par < 0
    · rw [if_pos hp, if_pos hp]
    · rw [if_neg hp, if_neg hp, lnk_congr hF he f _ (by omega)]
theorem expF_congr {G G' : Nat → Grp} {n : Nat} (hF : Front G n) (he : ∀ j, j < n → G' j = G j) : ∀ f i, i < n → expF G' f i = expF G f i
  | 0, _, _ => rfl
  | f + 1, i, hi => by
    have := hF i hi
    unfold expF
    rw [he i hi]
    by_cases hp : (G i).par < 0
    · rw [if_pos hp, if_pos hp]
    · rw [if_neg hp, if_neg hp, expF_congr hF he f _ (by omega)]
theorem sto_congr {G G' : Nat → Grp} {n : Nat} (hF : Front G n) (he : ∀ j, j < n → G' j = G j) : ∀ k, k ≤ n → stoTo G' k = stoTo G k
  | 0, _ => rfl
  | k + 1, hk => by
    unfold stoTo grpOk
    rw [sto_congr hF he k (by omega), he k (by omega), lnk_congr hF he _ _ (by omega), expF_congr hF he _ _ (by omega)]
theorem exp_par {G : Nat → Grp} {n i : Nat} (hF : Front G n) (hi : i < n) (hp : ¬ (G i).par < 0) : (G i).par.toNat < i ∧ expF G (i + 1) i = patL (expF G ((G i).par.toNat + 1) (G i).par.toNat) (G i).sets (G i).sets.length := by
  have := hF i hi
  have hlt : (G i).par.toNat < i := by omega
  refine ⟨hlt, ?_⟩
  conv => lhs; unfold expF
  rw [if_neg hp, expF_fuel hF i _ (by omega) hlt]
theorem lnk_par {G : Nat → Grp} {n i : Nat} (hF : Front G n) (hi : i < n) (hp : ¬ (G i).par < 0) : lnk G (i + 1) i = 1 + lnk G ((G i).par.toNat + 1) (G i).par.toNat := by
  have := hF i hi
  have hlt : (G i).par.toNat < i := by omega
  conv => lhs; unfold lnk
  rw [if_neg hp, lnk_fuel hF i _ (by omega) hlt]
theorem grpOk_sets {G : Nat → Grp} {i : Nat} (h : grpOk G i = true) : chB (G i).sets = true ∧ ((G i).par < 0 → stB (G i).sets = true) := by
  unfold grpOk at h
  simp only [Bool.and_eq_true, decide_eq_true_eq, Bool.or_eq_true, Bool.not_eq_true', decide_eq_false_iff_not] at h
  refine ⟨h.2.1, fun hp => ?_⟩
  rcases h.2.2.1 with h1 | h1
  · exact absurd (by omega) h1
  · exact h1
theorem ch_srt {l : List Ent} (h : chB l = true) : SrtE l := by
  unfold chB at h
  rw [Bool.and_eq_true] at h
  exact srt_of h.2
theorem exp_st {G : Nat → Grp} {n : Nat} (h : stoTo G n = true) : ∀ i, i < n → stB (expF G (i + 1) i) = true := by
  intro i
  induction i using Nat.strongRecOn with
  | ind i ih =>
    intro hi
    have hg := stoTo_at h i hi
    have hl := (grpOk_parts hg).2.2.2.2
    by_cases hp : (G i).par < 0
    · have : expF G (i + 1) i = (G i).sets := by unfold expF; rw [if_pos hp]
      rw [this]
      exact (grpOk_sets hg).2 hp
    · obtain ⟨hlt, he⟩ := exp_par (stoTo_front h) hi hp
      obtain ⟨_, hS, hI⟩ := st_parts (ih _ hlt (by omega))
      rw [he] at hl
      rw [he]
      exact st_of hl (patL_srt hS _) (patL_ids hS hI _)
theorem sto_new {G : Nat → Grp} {n : Nat} {s : List Ent} (near : Int) (h : stoB G n = true) (hs : stB s = true) (hn : ¬ 1000 ≤ n) :
    stoB (extP G n (nwG G n s near)) (n + 1) = true ∧ expF (extP G n (nwG G n s near)) (n + 1) n = s := by
  obtain ⟨_, hto⟩ := stoB_parts h
  have hF := stoTo_front hto
  obtain ⟨G', hG'⟩ : ∃ G', G' = extP G n (nwG G n s near) := ⟨_, rfl⟩
  have he : ∀ j, j < n → G' j = G j := fun j hj => by rw [hG']; exact (extP_lt j hj).symm
  have hx : G' n = nwG G n s near := by rw [hG']; unfold extP; rw [if_pos rfl]
  rw [← hG']
  obtain ⟨hs3, hsS, hsI⟩ := st_parts hs
  have hchs : chB s = true := by unfold chB; rw [ord_of hsS]; simp; omega
  have key : grpOk G' n = true ∧ expF G' (n + 1) n = s := by
    cases hB : nwB G n near
    · rw [nwG_no hB] at hx
      have h1 : expF G' (n + 1) n = s := by unfold expF; rw [hx]; rfl
      have h2 : lnk G' (n + 1) n = 0 := by unfold lnk; rw [hx]; rfl
      refine ⟨?_, h1⟩
      unfold grpOk
      rw [h1, h2, hx]
      show ((decide ((-1 : Int) ≤ -1) && decide ((-1 : Int) < n)) && (chB s && ((!decide ((-1 : Int) = -1) || stB s) && (decide (0 ≤ 4) && decide (s.length ≤ 300))))) = true
      rw [hchs, hs, decide_eq_true (show (-1 : Int) < n by omega), decide_eq_true hs3]
      rfl
    · rw [nwG_yes hB] at hx
      unfold nwB at hB
      simp only [Bool.and_eq_true, decide_eq_true_eq] at hB
      obtain ⟨i, rfl⟩ : ∃ i : Nat, near = (i : Int) := ⟨near.toNat, by omega⟩
      simp only [Int.toNat_natCast] at hx hB
      have hi : i < n := by omega
      obtain ⟨hpo, hpv⟩ := chg_back (exp_st hto i hi) hs
      have hF' : Front G' n := fun j hj => by rw [he j hj]; exact hF j hj
      have hpp : patL (expF G (i + 1) i) (dl2 (expF G (i + 1) i) s s.length) (dl2 (expF G (i + 1) i) s s.length).length = s := by
        unfold paV at hpv
        rw [hpo, if_pos rfl] at hpv
        exact hpv
      have h1 : expF G' (n + 1) n = s := by
        unfold expF
        rw [hx]
        show (if ((i : Nat) : Int) < 0 then _ else patL (expF G' n ((i : Nat) : Int).toNat) _ _) = s
        rw [if_neg (by omega), Int.toNat_natCast, expF_congr hF he n i hi, expF_fuel hF n i hi hi]
        exact hpp
      have h2 : lnk G' (n + 1) n ≤ 4 := by
        unfold lnk
        rw [hx]
        show (if ((i : Nat) : Int) < 0 then _ else 1 + lnk G' n ((i : Nat) : Int).toNat) ≤ 4
        rw [if_neg (by omega), Int.toNat_natCast, lnk_congr hF he n i hi, lnk_fuel hF n i hi hi]
        omega
      have h3 : chB (dl2 (expF G (i + 1) i) s s.length) = true := by
        unfold paOk at hpo
        rw [Bool.and_eq_true, Bool.and_eq_true] at hpo
        exact hpo.1.2
      refine ⟨?_, h1⟩
      unfold grpOk
      rw [h1, hx, decide_eq_true h2, decide_eq_true hs3]
      show ((decide ((-1 : Int) ≤ i) && decide ((i : Int) < n)) && (chB (dl2 (expF G (i + 1) i) s s.length) && ((!decide ((i : Int) = -1) || stB (dl2 (expF G (i + 1) i) s s.length)) && (true && true)))) = true
      rw [h3, decide_eq_true (show (-1 : Int) ≤ i by omega), decide_eq_true (show (i : Int) < n by omega), decide_eq_false (show ¬ (i : Int) = -1 by omega)]
      rfl
  refine ⟨?_, key.2⟩
  unfold stoB stoTo
  rw [sto_congr hF he n (Nat.le_refl _), hto, key.1, decide_eq_true (show n + 1 ≤ 1000 by omega)]
  rfl
theorem sv_facts {G : Nat → Grp} {n : Nat} {s : List Ent} {near f : Int} (h : stoB G n = true) (hs : stB s = true) (hf : Fnd G s n f) (hc : 0 ≤ svC G n s f) :
    ∃ g : Nat, svC G n s f = (g : Int) ∧ g < svN G n s f ∧ n ≤ svN G n s f ∧ stoB (extP G n (nwG G n s near)) (svN G n s f) = true ∧ expF (extP G n (nwG G n s near)) (g + 1) g = s ∧ ∀ i, i < n → expF (extP G n (nwG G n s near)) (i + 1) i = expF G (i + 1) i := by
  have hok : (stoB G n && stB s) = true := by rw [h, hs]; rfl
  obtain ⟨hn, hto⟩ := stoB_parts h
  have hF := stoTo_front hto
  have he : ∀ j, j < n → extP G n (nwG G n s near) j = G j := fun j hj => (extP_lt j hj).symm
  have hex : ∀ i, i < n → expF (extP G n (nwG G n s near)) (i + 1) i = expF G (i + 1) i := fun i hi => expF_congr hF he _ i hi
  by_cases h0 : 0 ≤ f
  · obtain ⟨e1, e2⟩ := sv_old hok h0
    rcases hf with ⟨e, _⟩ | ⟨i, hi, e, h1, _⟩
    · omega
    · refine ⟨i, by rw [e2, e], by rw [e1]; exact hi, by rw [e1]; exact Nat.le_refl _, ?_, (hex i hi).trans h1, hex⟩
      rw [e1]
      unfold stoB
      rw [sto_congr hF he n (Nat.le_refl _), hto, decide_eq_true hn]
      rfl
  · by_cases h1 : 1000 ≤ n
    · rw [(sv_full hok h0 h1).2] at hc; omega
    · obtain ⟨e1, e2⟩ := sv_new hok h0 h1
      obtain ⟨h2, h3⟩ := sto_new near h hs h1
      exact ⟨n, e2, by rw [e1]; omega, by rw [e1]; omega, by rw [e1]; exact h2, h3, hex⟩
theorem lk_st {G : Nat → Grp} {n : Nat} (h : stoTo G n = true) (kind key : ByteArray) : ∀ i, i < n → (lkF G kind key (i + 1) i).1 = (match lookE (expF G (i + 1) i) ⟨kind, key, ⟨#[]⟩⟩ with | some x => x.id | none => ⟨#[]⟩) ∧ 1 ≤ (lkF G kind key (i + 1) i).2 ∧ (lkF G kind key (i + 1) i).2 ≤ lnk G (i + 1) i + 1 := by
  intro i
  induction i using Nat.strongRecOn with
  | ind i ih =>
    intro hi
    have hg := stoTo_at h i hi
    have hF := stoTo_front h
    have hsS := ch_srt (grpOk_sets hg).1
    have hun : lkF G kind key (i + 1) i = if 0 ≤ posI (G i).sets ⟨kind, key, ⟨#[]⟩⟩ then ((eAt (G i).sets (posI (G i).sets ⟨kind, key, ⟨#[]⟩⟩).toNat).id, 1) else if (G i).par < 0 then (⟨#[]⟩, 1) else ((lkF G kind key i (G i).par.toNat).1, (lkF G kind key i (G i).par.toNat).2 + 1) := rfl
    rw [hun]
    rcases posI_look (G i).sets ⟨kind, key, ⟨#[]⟩⟩ with ⟨hl, hpo⟩ | ⟨e, hl, hpo, hea⟩
    · rw [if_neg (by omega)]
      by_cases hp : (G i).par < 0
      · rw [if_pos hp]
        have : expF G (i + 1) i = (G i).sets := by unfold expF; rw [if_pos hp]
        rw [this, hl]
        exact ⟨rfl, Nat.le_refl _, Nat.le_add_left _ _⟩
      · rw [if_neg hp]
        obtain ⟨hlt, he⟩ := exp_par hF hi hp
        obtain ⟨i1, i2, i3⟩ := ih _ hlt (by omega)
        have hSp := (st_parts (exp_st h _ (show (G i).par.toNat < n by omega))).2.1
        rw [he, patL_lookAll hSp hsS, hl, lnk_par hF hi hp, lkF_fuel hF i _ (by omega) hlt]
        refine ⟨i1, ?_, ?_⟩
        · show 1 ≤ _ + 1; omega
        · show _ + 1 ≤ _; omega
    · rw [if_pos hpo, hea]
      refine ⟨?_, Nat.le_refl _, Nat.le_add_left _ _⟩
      show e.id = _
      by_cases hp : (G i).par < 0
      · have : expF G (i + 1) i = (G i).sets := by unfold expF; rw [if_pos hp]
        rw [this, hl]
      · obtain ⟨hlt, he⟩ := exp_par hF hi hp
        have hSp := (st_parts (exp_st h _ (show (G i).par.toNat < n by omega))).2.1
        rw [he, patL_lookAll hSp hsS, hl]
        show e.id = match (if e.id.toList.isEmpty then none else some e) with | some x => x.id | none => ⟨#[]⟩
        by_cases hz : e.id.toList.isEmpty = true
        · rw [if_pos hz]; exact ba_empty hz
        · rw [if_neg hz]
end Go.Proofs.Ytgocjlpbokhoeaa
