/-
  Lists of ids in the order of their places.
-/
import Derived.Test.YtfjfhnjoghlbfaaGreatTpA
import Derived.Test.YtfjfhnjoghlbfaaGreatSpecA
namespace Go.Proofs.YtfjfhnjoghlbfaaGreat
open Go.RowKit

/-- the place of an id. -/
def plc (E : Nat → Ev) (n : Nat) (s : ByteArray) : Nat := (posV E n s).toNat
/-- ids in the order of their places. -/
def OrdL (E : Nat → Ev) (n : Nat) (D : Nat → Nat) (l : List ByteArray) : Prop := l.Pairwise fun a b => Bef E D (plc E n a) (plc E n b)
theorem ord_get {E : Nat → Ev} {n : Nat} {D : Nat → Nat} {l : List ByteArray} (h : OrdL E n D l) {i j : Nat} (hij : i < j) (hj : j < l.length) : Bef E D (plc E n (getL l i)) (plc E n (getL l j)) := by
  have := List.pairwise_iff_getElem.1 h i j (by omega) hj hij
  simpa [getL, List.getD, List.getElem?_eq_getElem hj, List.getElem?_eq_getElem (show i < l.length by omega)] using this
theorem ins_ord {E : Nat → Ev} {n : Nat} {D : Nat → Nat} {l : List ByteArray} {k : Nat} {x : ByteArray} (h : OrdL E n D l) (hlo : ∀ i, i < k → i < l.length → Bef E D (plc E n (getL l i)) (plc E n x)) (hhi : ∀ i, k ≤ i → i < l.length → Bef E D (plc E n x) (plc E n (getL l i))) : OrdL E n D (insAt l k x) := by
  have h' : (l.take k ++ l.drop k).Pairwise fun a b => Bef E D (plc E n a) (plc E n b) := by rw [List.take_append_drop]; exact h
  obtain ⟨p1, p2, p3⟩ := List.pairwise_append.1 h'
  unfold OrdL insAt
  refine List.pairwise_append.2 ⟨p1, List.pairwise_cons.2 ⟨fun b hb => ?_, p2⟩, fun a ha b hb => ?_⟩
  · obtain ⟨i, hi, rfl⟩ := mem_getL hb
    rw [List.length_drop] at hi
    have : getL (l.drop k) i = getL l (k + i) := by simp [getL, List.getD]
    rw [this]
    exact hhi _ (by omega) (by omega)
  · rcases List.mem_cons.1 hb with rfl | hb
    · obtain ⟨i, hi, rfl⟩ := mem_getL ha
      rw [List.length_take] at hi
      have : getL (l.take k) i = getL l i := by simp [getL, List.getD, show i < k by omega]
      rw [this]
      exact hlo _ (by omega) (by omega)
    · exact p3 a ha b hb
theorem ord_done {E : Nat → Ev} {n : Nat} {D : Nat → Nat} {l : List ByteArray} {x : ByteArray} {j : Nat} (hr : roomTo E n = true) (hin : ∀ s ∈ l, 0 ≤ posV E n s) (hx0 : 0 ≤ posV E n x) (h : OrdL E n D l) (hx : x ∉ l) (hj : j ≤ l.length) (hhi : ∀ i, j ≤ i → i < l.length → Bef E D (plc E n x) (plc E n (getL l i)))
    (hstop : j = 0 ∨ ∃ q, j = q + 1 ∧ ¬ Bef E D (plc E n x) (plc E n (getL l q))) : OrdL E n D (insAt l j x) := by
  refine ins_ord h (fun i hi hl => ?_) hhi
  rcases hstop with h0 | ⟨q, rfl, hq⟩
  · omega
  · have hql : q < l.length := by omega
    have h1 : Bef E D (plc E n (getL l q)) (plc E n x) := by
      have hq0 := hin _ (getL_mem hql)
      have b1 := posV_bd E x n
      have b2 := posV_bd E (getL l q) n
      have hne : plc E n x ≠ plc E n (getL l q) := fun e => by
        obtain ⟨i1, _, e1, hb1⟩ := posV_found E x n hx0
        obtain ⟨i2, _, e2, hb2⟩ := posV_found E (getL l q) n hq0
        unfold plc at e
        have : i1 = i2 := by omega
        subst this
        have : x = getL l q := (ba_of_toList hb1).symm.trans (ba_of_toList hb2)
        exact hx (this ▸ getL_mem hql)
      rcases Bef.total hr (show plc E n x < n by unfold plc; omega) (show plc E n (getL l q) < n by unfold plc; omega) hne with h' | h'
      · exact absurd h' hq
      · exact h'
    by_cases e : i = q
    · subst e; exact h1
    · exact (ord_get h (show i < q by omega) hql).trans h1
/-- what l6MainOrder answers. -/
def MrPost (w : World) (E : Nat → Ev) (n : Nat) (D : Nat → Nat) (S : Nat → ByteArray) (m : Nat) (e : Ending) (w' : World) : Prop :=
  ∃ v l, e = .returned v ∧ OwnL w' w.heap.size v l ∧ OrdL E n D l ∧ (∀ s, s ∈ l ↔ ∃ i, i < m ∧ S i = s) ∧ Below w.heap.size w w'
theorem mem_moreM {S : Nat → ByteArray} {l l' : List ByteArray} {k : Nat} (h : ∀ s, s ∈ l ↔ ∃ i, i < k ∧ S i = s) (h' : ∀ s, s ∈ l' ↔ s = S k ∨ s ∈ l) (s : ByteArray) : s ∈ l' ↔ ∃ i, i < k + 1 ∧ S i = s := by
  rw [h', h]
  constructor
  · rintro (rfl | ⟨i, hi, e⟩)
    · exact ⟨k, by omega, rfl⟩
    · exact ⟨i, by omega, e⟩
  · rintro ⟨i, hi, e⟩
    by_cases ek : i = k
    · subst ek; exact Or.inl e.symm
    · exact Or.inr ⟨i, by omega, e⟩
end Go.Proofs.YtfjfhnjoghlbfaaGreat
