import Derived.Test.YtpmebojkkjlkgaaGreatRsSZ
namespace Go.Proofs.YtpmebojkkjlkgaaGreat
open Go.RowKit
def gwP (k n i : Nat) : Nat := if k % 3 = 0 then n - 1 - i % n else n - 1 - (k / 8 % 4 + i * 3) % n
theorem gwP_lt {k n i : Nat} (h : 0 < n) : gwP k n i < n := by
 unfold gwP
 split <;> omega
def gwC (k : Nat) : Nat := if 5 <= k % 8 then 2 + k % 8 / 7 else 1
theorem gwC_le (k : Nat) : gwC k <= 3 ∧ 1 <= gwC k := by
 unfold gwC
 split <;> omega
def gwL (k n : Nat) : Nat -> List Nat
 | 0 => []
 | i + 1 => if gwP k n i ∈ gwL k n i then gwL k n i else gwL k n i ++ [gwP k n i]
theorem gwL_len (k n : Nat) : ∀ i, (gwL k n i).length <= i
 | 0 => Nat.le_refl _
 | i + 1 => by
  have := gwL_len k n i
  unfold gwL
  split
  ·omega
  ·simp; omega
theorem gwL_lt {k n : Nat} (hn : 0 < n) : ∀ i, ∀ x ∈ gwL k n i, x < n
 | 0, x, h => by cases h
 | i + 1, x, h => by
  unfold gwL at h
  split at h
  ·exact gwL_lt hn i x h
  ·rcases List.mem_append.1 h with h | h
   ·exact gwL_lt hn i x h
   ·rw [List.mem_singleton] at h; subst h; exact gwP_lt hn
def qwB : ByteArray := ⟨#[113, 119, 101, 114, 116, 121, 117, 105, 111, 112, 97, 115, 100, 102]⟩
def gwId (k n : Nat) : ByteArray := ⟨#[36]⟩ ++ qwB.extract ((k + n) % 14) ((k + n) % 14 + 1) ++ decB n
def gw0 (k n : Nat) (E : Nat -> Ev) : Ev :=
 { id := gwId k n, sd := usr (k / 4 % 16 % 5), ty := ⟨#[]⟩, key := ⟨#[]⟩, val := ⟨#[]⟩, st := false, tm := 100 + ((k % 7 : Nat) : Int), np := (gwL k n (gwC k)).length, na := 0, ng := 0, Pv := getL ((gwL k n (gwC k)).map fun p => (E p).id), Av := getL [], M := gM [], L := gL [] }
def gw1 (bs : Nat -> Nat) (m q : Nat) (E : Nat -> Ev) (n : Nat) : Ev := cDr bs m (nxQ m q) (gw0 (nxB bs m q) n E)
def auTo (b nd : List Ent) : Nat -> List ByteArray
 | 0 => []
 | j + 1 => if fdOk b (eAt nd j).ty (eAt nd j).key = true then auTo b nd j ++ [fdV b (eAt nd j).ty (eAt nd j).key] else auTo b nd j
theorem auTo_len (b nd : List Ent) : ∀ j, (auTo b nd j).length <= j
 | 0 => Nat.le_refl _
 | j + 1 => by
  have := auTo_len b nd j
  unfold auTo
  split
  ·simp; omega
  ·omega
def gwA (k : Nat) (E : Nat -> Ev) (l : List ByteArray) : List ByteArray := if l.length = 0 ∨ k % 32 = 31 then [(E 0).id] else l
def gwB (k n : Nat) (E : Nat -> Ev) (l : List ByteArray) : List ByteArray := if k % 16 = 7 ∧ hasB (getL l) l.length (E (n - 1)).id = false then l ++ [(E (n - 1)).id] else l
def gwE (bs : Nat -> Nat) (m q : Nat) (E : Nat -> Ev) (n : Nat) (b : List Ent) : Ev :=
 { gw1 bs m q E n with na := (gwB (nxB bs m q) n E (gwA (nxB bs m q) E (auTo b (ndL (gw1 bs m q E n)) (ndL (gw1 bs m q E n)).length))).length, Av := getL (gwB (nxB bs m q) n E (gwA (nxB bs m q) E (auTo b (ndL (gw1 bs m q E n)) (ndL (gw1 bs m q E n)).length))) }
def GwR (bs : Nat -> Nat) (m q : Nat) (E : Nat -> Ev) (n : Nat) (A : Nat -> List Ent) (e : Ev) : Prop :=
 ∃ b, ResR E n (fun i => A ((gwL (nxB bs m q) n (gwC (nxB bs m q))).getD i 0)) (gwL (nxB bs m q) n (gwC (nxB bs m q))).length b ∧ e = gwE bs m q E n b
theorem GwR.uniq {bs : Nat -> Nat} {m q : Nat} {E : Nat -> Ev} {n : Nat} {A : Nat -> List Ent} {e e' : Ev} (h : GwR bs m q E n A e) (h' : GwR bs m q E n A e') : e = e' := by
 obtain ⟨b, h1, rfl⟩ := h
 obtain ⟨b', h1', rfl⟩ := h'
 rw [h1.uniq h1']
def gwQ (bs : Nat -> Nat) (m q : Nat) : Nat := cQr bs m (nxQ m q)
theorem fdV_size {l : List Ent} (h : ∀ i, i < l.length -> (eAt l i).id.size <= maxLen) (kind key : ByteArray) : (fdV l kind key).size <= maxLen := by
 unfold fdV findB posI
 repeat' split
 all_goals first
  | exact Nat.zero_le _
  | (refine h _ ?_; simp only [Int.toNat_natCast]; assumption)
  | omega
theorem auTo_size {l nd : List Ent} (h : ∀ i, i < l.length -> (eAt l i).id.size <= maxLen) : ∀ j, ∀ s ∈ auTo l nd j, s.size <= maxLen
 | 0, s, hs => by cases hs
 | j + 1, s, hs => by
  unfold auTo at hs
  split at hs
  ·rcases List.mem_append.1 hs with hs | hs
   ·exact auTo_size h j s hs
   ·rw [List.mem_singleton] at hs; subst hs; exact fdV_size h _ _
  ·exact auTo_size h j s hs
theorem ndL_len (e : Ev) : (ndL e).length <= 8 := by
 have := (uq_len e).1
 unfold ndL ndY
 repeat' split
 all_goals (simp; try omega)
theorem gNm_small (i : Nat) : (gNm i).size <= 8 := by
 unfold gNm
 split <;> decide
theorem gTo_small (bs : Nat -> Nat) (m k bits q : Nat) : ∀ i x, x ∈ (gTo bs m k bits q i).2 -> x.1.size <= 8
 | 0, x, h => by cases h
 | i + 1, x, h => by
  unfold gTo at h
  split at h
  ·rcases List.mem_append.1 h with h | h
   ·exact gTo_small bs m k bits q i x h
   ·rw [List.mem_singleton] at h; subst h; exact gNm_small i
  ·exact gTo_small bs m k bits q i x h
theorem gM_small {l : List (ByteArray × Int)} (h : ∀ x ∈ l, x.1.size <= 8) (i : Nat) : (gM l i).size <= 8 := by
 unfold gM
 by_cases hi : i < l.length
 ·rw [List.getD_eq_getElem?_getD, List.getElem?_eq_getElem hi]; exact h _ (List.getElem_mem hi)
 ·rw [List.getD_eq_getElem?_getD, List.getElem?_eq_none (by omega)]; exact Nat.zero_le _
theorem cDr_keep (bs : Nat -> Nat) (m q : Nat) (e : Ev) : (cDr bs m q e).id = e.id ∧ (cDr bs m q e).sd = e.sd ∧ (cDr bs m q e).tm = e.tm ∧ (cDr bs m q e).np = e.np ∧ (cDr bs m q e).Pv = e.Pv ∧ (cDr bs m q e).na = e.na ∧ (cDr bs m q e).Av = e.Av := by
 unfold cDr cnE
 repeat' split
 all_goals exact ⟨rfl, rfl, rfl, rfl, rfl, rfl, rfl⟩
theorem mVal_small (i : Nat) : (mVal i).size <= 100 := by
 unfold mVal
 repeat' split
 all_goals decide
theorem jVal_small (i : Nat) : (jVal i).size <= 100 := by
 unfold jVal
 repeat' split
 all_goals decide
theorem usr_small (k : Nat) : (usr k).size <= 100 := by rw [usr_size]; decide
theorem tdec_small (k : Nat) (h : k < 256) : ((⟨#[116]⟩ : ByteArray) ++ decB (k / 16)).size <= 100 := by
 rw [ByteArray.size_append]
 have := decB_size (k / 16) (by omega)
 show 1 + _ <= 100
 omega
theorem cDr_small {bs : Nat -> Nat} {m q : Nat} {e : Ev} (hk : nxB bs m q < 256) (h1 : e.sd.size <= 100) (h2 : e.key.size <= 100) (h3 : e.val.size <= 100) (h4 : ∀ i, (e.M i).size <= 100) : (cDr bs m q e).ty.size <= 100 ∧ (cDr bs m q e).key.size <= 100 ∧ (cDr bs m q e).val.size <= 100 ∧ ∀ i, ((cDr bs m q e).M i).size <= 100 := by
 unfold cDr cnE
 repeat' split
 ·exact ⟨by dsimp only; decide, usr_small _, mVal_small _, h4⟩
 ·exact ⟨by dsimp only; decide, h1, by dsimp only; decide, h4⟩
 ·exact ⟨by dsimp only; decide, h2, h3, fun i => Nat.le_trans (gM_small (gTo_small _ _ _ _ _ _) i) (by decide)⟩
 ·exact ⟨by dsimp only; decide, h2, jVal_small _, h4⟩
 ·exact ⟨by dsimp only; decide, usr_small _, tdec_small _ hk, h4⟩
 ·exact ⟨by dsimp only; decide, h2, tdec_small _ hk, h4⟩
 ·exact ⟨by dsimp only; decide, h2, h3, h4⟩
end Go.Proofs.YtpmebojkkjlkgaaGreat
