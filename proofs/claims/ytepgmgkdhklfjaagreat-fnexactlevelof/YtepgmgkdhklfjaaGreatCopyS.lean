import Derived.Test.YtepgmgkdhklfjaaGreatSetA
import Derived.Deep.AppendSrc
namespace Go.Proofs.YtepgmgkdhklfjaaGreat
open Go.RowKit

theorem encL_one (l : List Ent) (u : Value) (h : u ∈ encL l) : u.oneCell' = true := by
  obtain ⟨x, _, hx⟩ := List.mem_flatMap.1 h
  exact encE_one x u hx

theorem encL_at (l : List Ent) (w : World) (b off : Nat)
    (c1 : ∀ i, i < l.length → w.cell? ⟨b, off + i * 3, none⟩ = some (.string (eAt l i).ty)) (c2 : ∀ i, i < l.length → w.cell? ⟨b, off + i * 3 + 1, none⟩ = some (.string (eAt l i).key)) (c3 : ∀ i, i < l.length → w.cell? ⟨b, off + i * 3 + 2, none⟩ = some (.string (eAt l i).id))
    (j : Nat) (u : Value) (h : (encL l)[j]? = some u) : w.cell? ((⟨b, off, none⟩ : Addr).add j) = some u := by
  have hj : j < l.length * 3 := by
    rcases Nat.lt_or_ge j (l.length * 3) with h' | h'
    · exact h'
    · rw [List.getElem?_eq_none (by rw [encL_len]; exact h')] at h; cases h
  have hadd : (⟨b, off, none⟩ : Addr).add j = ⟨b, off + j, none⟩ := by unfold Addr.add; split <;> simp_all
  rw [hadd]
  have hi : j / 3 < l.length := by omega
  have hg := encL_get l (j / 3) hi
  rcases (by omega : j = j / 3 * 3 ∨ j = j / 3 * 3 + 1 ∨ j = j / 3 * 3 + 2) with e | e | e
  · rw [e] at h ⊢
    rw [hg.1] at h; cases h
    exact c1 _ hi
  · rw [e] at h ⊢
    rw [hg.2.1] at h; cases h
    rw [← Nat.add_assoc]; exact c2 _ hi
  · rw [e] at h ⊢
    rw [hg.2.2] at h; cases h
    rw [← Nat.add_assoc]; exact c3 _ hi

end Go.Proofs.YtepgmgkdhklfjaaGreat
