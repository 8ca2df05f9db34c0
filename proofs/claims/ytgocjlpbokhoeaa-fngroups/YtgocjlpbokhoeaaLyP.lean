import Derived.Test.YtgocjlpbokhoeaaPatP
import Derived.Test.YtgocjlpbokhoeaaStoS
import Derived.Test.YtgocjlpbokhoeaaCsIM
namespace Go.Proofs.Ytgocjlpbokhoeaa
open Go.RowKit
def chF (G : Nat → Grp) : Nat → Nat → List (List Ent)
  | 0, _ => []
  | f + 1, i => if (G i).par < 0 then [(G i).sets] else (G i).sets :: chF G f (G i).par.toNat
theorem chF_fuel {G : Nat → Grp} {n : Nat} (h : Front G n) : ∀ f i, i < n → i < f → chF G f i = chF G (i + 1) i
  | 0, _, _, h' => absurd h' (Nat.not_lt_zero _)
  | f + 1, i, hi, hf => by
    unfold chF
    by_cases hp : (G i).par < 0
    · rw [if_pos hp, if_pos hp]
    · rw [if_neg hp, if_neg hp]
      have := h i hi
      have hlt : (G i).par.toNat < i := by omega
      rw [chF_fuel h f _ (by omega) (by omega)]
      by_cases e : i = 0
      · omega
      · rw [chF_fuel h i _ (by omega) hlt]
abbrev csF (G : Nat → Grp) (i : Nat) : List (List Ent) := chF G (i + 1) i
theorem cs_root {G : Nat → Grp} {i : Nat} (hp : (G i).par < 0) : csF G i = [(G i).sets] ∧ lnk G (i + 1) i = 0 ∧ expF G (i + 1) i = (G i).sets := by
  refine ⟨?_, ?_, ?_⟩
  · show chF G (i + 1) i = _; unfold chF; rw [if_pos hp]
  · unfold lnk; rw [if_pos hp]
  · unfold expF; rw [if_pos hp]
theorem cs_node {G : Nat → Grp} {n i : Nat} (h : Front G n) (hi : i < n) (hp : ¬ (G i).par < 0) :
    (G i).par.toNat < i ∧ csF G i = (G i).sets :: csF G (G i).par.toNat ∧ lnk G (i + 1) i = 1 + lnk G ((G i).par.toNat + 1) (G i).par.toNat ∧ expF G (i + 1) i = patL (expF G ((G i).par.toNat + 1) (G i).par.toNat) (G i).sets (G i).sets.length := by
  have hf := h i hi
  have hlt : (G i).par.toNat < i := by omega
  refine ⟨hlt, ?_, ?_, ?_⟩
  · show chF G (i + 1) i = _
    conv => lhs; unfold chF
    rw [if_neg hp, chF_fuel h i _ (by omega) hlt]
  · conv => lhs; unfold lnk
    rw [if_neg hp, lnk_fuel h i _ (by omega) hlt]
  · conv => lhs; unfold expF
    rw [if_neg hp, expF_fuel h i _ (by omega) hlt]
theorem cs_facts {G : Nat → Grp} {n : Nat} (h : Front G n) : ∀ i, i < n → (csF G i).length = lnk G (i + 1) i + 1 ∧ stOf (csF G i) = expF G (i + 1) i := by
  intro i
  induction i using Nat.strongRecOn with
  | _ i ih =>
    intro hi
    by_cases hp : (G i).par < 0
    · obtain ⟨e1, e2, e3⟩ := cs_root hp
      rw [e1, e2, e3]; exact ⟨rfl, rfl⟩
    · obtain ⟨hlt, e1, e2, e3⟩ := cs_node h hi hp
      obtain ⟨i1, i2⟩ := ih _ hlt (by omega)
      rw [e1, e2, e3]
      refine ⟨by rw [List.length_cons, i1]; omega, ?_⟩
      rw [← i2]
      cases hq : csF G (G i).par.toNat with
      | nil => rw [hq] at i1; simp at i1
      | cons T R => rfl
theorem cs_cons {G : Nat → Grp} {n : Nat} (h : Front G n) {i : Nat} (hi : i < n) : ∃ T R, csF G i = T :: R := by
  have := (cs_facts h i hi).1
  cases hq : csF G i with
  | nil => rw [hq] at this; simp at this
  | cons T R => exact ⟨T, R, rfl⟩
theorem ch_parts {l : List Ent} (h : chB l = true) : l.length ≤ 600 ∧ SrtE l := by
  unfold chB at h
  rw [Bool.and_eq_true] at h
  exact ⟨of_decide_eq_true h.1, srt_of h.2⟩
theorem st_ch {l : List Ent} (h : stB l = true) : chB l = true := by
  obtain ⟨h1, h2, _⟩ := st_parts h
  unfold chB
  rw [decide_eq_true (by omega), ord_of h2]; rfl
theorem grp_root {G : Nat → Grp} {i : Nat} (hp : (G i).par = -1) : grpOk G i = stB (G i).sets := by
  obtain ⟨_, e2, e3⟩ := cs_root (G := G) (i := i) (by omega)
  unfold grpOk
  rw [e2, e3, hp]
  cases hs : stB (G i).sets
  · simp
  · rw [st_ch hs, decide_eq_true (st_parts hs).1, decide_eq_true (by omega : (-1 : Int) < (i : Int))]
    rfl
theorem grp_node {G : Nat → Grp} {i : Nat} (hp : (G i).par ≠ -1) : grpOk G i = ((decide (0 ≤ (G i).par) && decide ((G i).par < i)) && (chB (G i).sets && (decide (lnk G (i + 1) i ≤ 4) && decide ((expF G (i + 1) i).length ≤ 300)))) := by
  unfold grpOk
  rw [decide_eq_false hp, show decide (-1 ≤ (G i).par) = decide (0 ≤ (G i).par) from by rw [decide_eq_decide]; omega]
  simp
theorem cs_ok {G : Nat → Grp} {n : Nat} (h : stoTo G n = true) (hk : ∀ i, i < n → AllOk (G i).sets) : ∀ i, i < n → ChOk (csF G i) := by
  have hF := stoTo_front h
  intro i
  induction i using Nat.strongRecOn with
  | _ i ih =>
    intro hi
    have hg := stoTo_at h i hi
    by_cases hp : (G i).par < 0
    · have hp1 : (G i).par = -1 := by have := hF i hi; omega
      rw [grp_root hp1] at hg
      obtain ⟨h1, h2, h3⟩ := st_parts hg
      rw [(cs_root hp).1]
      exact ⟨h2, by omega, hk i hi, h3⟩
    · obtain ⟨hlt, e1, _, _⟩ := cs_node hF hi hp
      rw [grp_node (by omega)] at hg
      simp only [Bool.and_eq_true] at hg
      obtain ⟨h1, h2⟩ := ch_parts hg.2.1
      have ihp := ih _ hlt (by omega)
      rw [e1]
      obtain ⟨T, R, e⟩ := cs_cons hF (show (G i).par.toNat < n by omega)
      rw [e] at ihp ⊢
      exact ⟨h2, h1, hk i hi, ihp⟩
theorem cs_bd {G : Nat → Grp} {n : Nat} (h : stoTo G n = true) : ∀ i, i < n → (csF G i).length ≤ 5 ∧ (stOf (csF G i)).length ≤ 300 := fun i hi => by
  have hf := cs_facts (stoTo_front h) i hi
  have hg := grpOk_parts (stoTo_at h i hi)
  rw [hf.1, hf.2]
  exact ⟨by omega, hg.2.2.2.2⟩
end Go.Proofs.Ytgocjlpbokhoeaa
