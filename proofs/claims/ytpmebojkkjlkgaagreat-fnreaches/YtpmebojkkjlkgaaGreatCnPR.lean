import Derived.Test.YtpmebojkkjlkgaaGreatRmZR
namespace Go.Proofs.YtpmebojkkjlkgaaGreat
open Go.RowKit
theorem gNm_small (i : Nat) : (gNm i).size <= 8 := by
 unfold gNm
 split <;> decide
theorem gTo_small (bs : Nat -> Nat) (m k bits q : Nat) : ∀ i x, x ∈ (gTo bs m k bits q i).2 -> x.1.size <= 8
 | 0, x, h => by cases h
 | i + 1, x, h => by
  unfold gTo at h
  split at h
  ·rcases List.mem_append.1 h with h | h
   ·exact gTo_small bs m k bits q i x h
   ·rw [List.mem_singleton] at h; subst h; exact gNm_small i
  ·exact gTo_small bs m k bits q i x h
theorem gM_small {l : List (ByteArray × Int)} (h : ∀ x ∈ l, x.1.size <= 8) (i : Nat) : (gM l i).size <= 8 := by
 unfold gM
 by_cases hi : i < l.length
 ·rw [List.getD_eq_getElem?_getD, List.getElem?_eq_getElem hi]; exact h _ (List.getElem_mem hi)
 ·rw [List.getD_eq_getElem?_getD, List.getElem?_eq_none (by omega)]; exact Nat.zero_le _
theorem cDr_keep (bs : Nat -> Nat) (m q : Nat) (e : Ev) : (cDr bs m q e).id = e.id ∧ (cDr bs m q e).sd = e.sd ∧ (cDr bs m q e).tm = e.tm ∧ (cDr bs m q e).np = e.np ∧ (cDr bs m q e).Pv = e.Pv ∧ (cDr bs m q e).na = e.na ∧ (cDr bs m q e).Av = e.Av := by
 unfold cDr cnE
 repeat' split
 all_goals exact ⟨rfl, rfl, rfl, rfl, rfl, rfl, rfl⟩
theorem mVal_small (i : Nat) : (mVal i).size <= 100 := by
 unfold mVal
 repeat' split
 all_goals decide
theorem jVal_small (i : Nat) : (jVal i).size <= 100 := by
 unfold jVal
 repeat' split
 all_goals decide
theorem usr_small (k : Nat) : (usr k).size <= 100 := by rw [usr_size]; decide
theorem tdec_small (k : Nat) (h : k < 256) : ((⟨#[116]⟩ : ByteArray) ++ decB (k / 16)).size <= 100 := by
 rw [ByteArray.size_append]
 have := decB_size (k / 16) (by omega)
 show 1 + _ <= 100
 omega
theorem cDr_small {bs : Nat -> Nat} {m q : Nat} {e : Ev} (hk : nxB bs m q < 256) (h1 : e.sd.size <= 100) (h2 : e.key.size <= 100) (h3 : e.val.size <= 100) (h4 : ∀ i, (e.M i).size <= 100) : (cDr bs m q e).ty.size <= 100 ∧ (cDr bs m q e).key.size <= 100 ∧ (cDr bs m q e).val.size <= 100 ∧ ∀ i, ((cDr bs m q e).M i).size <= 100 := by
 unfold cDr cnE
 repeat' split
 ·exact ⟨by dsimp only; decide, usr_small _, mVal_small _, h4⟩
 ·exact ⟨by dsimp only; decide, h1, by dsimp only; decide, h4⟩
 ·exact ⟨by dsimp only; decide, h2, h3, fun i => Nat.le_trans (gM_small (gTo_small _ _ _ _ _ _) i) (by decide)⟩
 ·exact ⟨by dsimp only; decide, h2, jVal_small _, h4⟩
 ·exact ⟨by dsimp only; decide, usr_small _, tdec_small _ hk, h4⟩
 ·exact ⟨by dsimp only; decide, h2, tdec_small _ hk, h4⟩
 ·exact ⟨by dsimp only; decide, h2, h3, h4⟩
end Go.Proofs.YtpmebojkkjlkgaaGreat
