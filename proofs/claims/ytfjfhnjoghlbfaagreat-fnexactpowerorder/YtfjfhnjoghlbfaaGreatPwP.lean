/-
  The order by a heap: plain; what a compare reads, kept.
-/
import Derived.Test.YtfjfhnjoghlbfaaGreatHpA
import Derived.Test.YtfjfhnjoghlbfaaGreatRsI
import Derived.Test.YtfjfhnjoghlbfaaGreatRdI
import Derived.Test.YtfjfhnjoghlbfaaGreatAuI
namespace Go.Proofs.YtfjfhnjoghlbfaaGreat
open Go.RowKit

theorem ord_rests {E : Nat → Ev} {n : Nat} {T : Nat → Prop} {D : Nat → Nat} {o : List Nat} (h : OrdP E n T D o) {q r : Nat} (hq : q ∈ o) (hr : Rst E n q r) (ht : T r) : r ∈ o := by
  obtain ⟨i, hi, rfl⟩ := List.mem_iff_getElem.1 hq
  have := (h i _ (List.getElem?_eq_getElem hi)).1.2.2 r hr ht
  exact List.mem_of_mem_take this
theorem cand_step {E : Nat → Ev} {n : Nat} {T : Nat → Prop} {D : Nat → Nat} {o : List Nat} {p : Nat} (hr : roomTo E n = true) (hT : ∀ q, T q → q < n) (ho : OrdP E n T D o) (hp : Nxt E n T D o p) (q : Nat) :
    Cand E n T (o ++ [p]) q ↔ (Cand E n T o q ∧ q ≠ p) ∨ (T q ∧ Rst E n q p ∧ Rdy E n T (o ++ [p]) q) := by
  constructor
  · rintro ⟨h1, h2, h3⟩
    rw [List.mem_append, List.mem_singleton, not_or] at h2
    by_cases h4 : Rst E n q p
    · exact Or.inr ⟨h1, h4, h3⟩
    · refine Or.inl ⟨⟨h1, h2.1, fun r hr' ht => ?_⟩, h2.2⟩
      have := h3 r hr' ht
      rw [List.mem_append, List.mem_singleton] at this
      rcases this with h5 | h5
      · exact h5
      · subst h5; exact absurd hr' h4
  · rintro (⟨⟨h1, h2, h3⟩, h4⟩ | ⟨h1, h2, h3⟩)
    · exact ⟨h1, by rw [List.mem_append, List.mem_singleton, not_or]; exact ⟨h2, h4⟩, fun r hr' ht => List.mem_append_left _ (h3 r hr' ht)⟩
    · refine ⟨h1, ?_, h3⟩
      rw [List.mem_append, List.mem_singleton, not_or]
      refine ⟨fun hq => hp.1.2.1 (ord_rests ho hq h2 hp.1.1), fun e => ?_⟩
      subst e
      have := rst_lt hr (hT q h1) h2
      omega
/-- the first of the heap comes next. -/
theorem nxt_heap {E : Nat → Ev} {n : Nat} {T : Nat → Prop} {D : Nat → Nat} {o : List Nat} {len : Nat} {X : Nat → Nat} (hr : roomTo E n = true) (hT : ∀ q, T q → q < n) (hh : Heap E D (len + 1) X) (hm : ∀ q, MemX X (len + 1) q ↔ Cand E n T o q) : Nxt E n T D o (X 0) := by
  have h0 : Cand E n T o (X 0) := (hm _).1 ⟨0, by omega, rfl⟩
  refine ⟨h0, fun q hq => ?_⟩
  obtain ⟨i, hi, rfl⟩ := (hm q).2 hq
  by_cases e : X i = X 0
  · exact Or.inl e
  · rcases Bef.total (D := D) hr (hT _ hq.1) (hT _ h0.1) e with h1 | h1
    · exact absurd h1 (heap_min hh i hi)
    · exact Or.inr h1
theorem inj_len {X : Nat → Nat} {len n : Nat} (hI : InjX X len) (hX : ∀ p, MemX X len p → p < n) : len ≤ n := by
  have h1 : ((List.range len).map X).Nodup := by
    refine List.pairwise_map.2 (List.pairwise_iff_getElem.2 fun i j hi hj hij e => ?_)
    simp only [List.getElem_range] at e
    simp only [List.length_range] at hi hj
    have := hI i j hi hj e
    omega
  have := h1.length_le_of_subset (l₂ := List.range n) (fun p hp => by
    obtain ⟨i, hi, rfl⟩ := List.mem_map.1 hp
    rw [List.mem_range]
    exact hX _ ⟨i, List.mem_range.1 hi, rfl⟩)
  simpa using this
theorem ord_len {E : Nat → Ev} {n : Nat} {T : Nat → Prop} {D : Nat → Nat} {o : List Nat} (ho : OrdP E n T D o) (hT : ∀ q, T q → q < n) : o.length ≤ n := by
  have := ho.nodup.length_le_of_subset (l₂ := List.range n) (fun p hp => by rw [List.mem_range]; exact hT p (ho.sub p hp))
  simpa using this
theorem ord_full {E : Nat → Ev} {n : Nat} {T : Nat → Prop} {o : List Nat} (hr : roomTo E n = true) (hT : ∀ q, T q → q < n) (h : ∀ q, ¬ Cand E n T o q) : ∀ p, T p → p ∈ o := fun p hp => Classical.byContradiction fun hn => by
  obtain ⟨q, hq⟩ := cand_ex hr hT p hp hn
  exact h q hq

theorem BlAt.kp {P : Nat → Prop} {w w' : World} {b n : Nat} {M : Nat → Bool} (h : BlAt w b n M) (hk : Kp P w w') (hP : ¬ P b) : BlAt w' b n M :=
  ⟨Nat.lt_of_lt_of_le h.1 hk.size, fun i hi => ⟨(hk.cell (p := ⟨b, i, none⟩) h.1 hP).trans (h.2 i hi).1, (hk.frozen (p := ⟨b, i, none⟩) h.1 hP).trans (h.2 i hi).2⟩⟩
theorem GfAt.kp {P : Nat → Prop} {w w' : World} {bg bw b off n cap db dc : Nat} {E : Nat → Ev} {D : Nat → Int} (h : GfAt w bg bw b off n cap db dc E D) (hk : Kp P w w') (l1 : bg < w.heap.size) (l2 : bw < w.heap.size) (l3 : b < w.heap.size) (l4 : db < w.heap.size) (p1 : ¬ P bg) (p2 : ¬ P bw) (p3 : ¬ P b) (p4 : ¬ P db) : GfAt w' bg bw b off n cap db dc E D :=
  ⟨(hk.cell (p := ⟨bg, 0, none⟩) l1 p1).trans h.g0, (hk.cell (p := ⟨bw, 0, none⟩) l2 p2).trans h.w0, fun p hp => (hk.cell (p := ⟨b, off + p * 10, none⟩) l3 p3).trans (h.id p hp), fun p hp => (hk.cell (p := ⟨b, off + p * 10 + 5, none⟩) l3 p3).trans (h.tm p hp), fun p hp => (hk.cell (p := ⟨db, 0 + p, none⟩) l4 p4).trans (h.wt p hp)⟩
theorem cmpG_au {E : Nat → Ev} {n p q : Nat} (hr : roomTo E n = true) (hp : p < n) (hq : q < n) : cmpG E (auV E n) p q < 0 ↔ Bef E (auN E n) p q := by
  have e : cmpG E (auV E n) p q = cmpG E (fun i => (auN E n i : Int)) p q := by
    have b1 := auV_lo hr hp
    have b2 := auV_lo hr hq
    have e1 : cC (auV E n q) (auV E n p) = cC ((auN E n q : Nat) : Int) ((auN E n p : Nat) : Int) := by
      unfold cC auN
      have f1 : (((auV E n q + 1000000).toNat : Nat) : Int) = auV E n q + 1000000 := by omega
      have f2 : (((auV E n p + 1000000).toNat : Nat) : Int) = auV E n p + 1000000 := by omega
      rw [f1, f2]
      (repeat' split) <;> omega
    unfold cmpG
    rw [e1]
  rw [e]
  exact cmpG_lt E (auN E n) p q
/-- what the heap's variable and its function are, behind the third statement. -/
def HpCut (w2 : World) (E : Nat → Ev) (n bt : Nat) (pv : Value) (wx : World) : Prop := ∃ hb bg bw, pv = .pointer (some ⟨hb, 0, none⟩) ∧ w2.heap.size ≤ hb ∧ hb < wx.heap.size ∧ wx.cell? ⟨hb, 0, none⟩ = some (.slice none 0 0) ∧ wx.cell? ⟨hb, 1, none⟩ = some (gfV bg bw) ∧ (∀ o, wx.frozen? ⟨hb, o, none⟩ = false) ∧
  (∀ W base, wx.heap.size ≤ base → Kp (fun b => b = bt ∨ b = hb ∨ wx.heap.size ≤ b) wx W → CmpOk E (auN E n) n bg bw hb base W) ∧ Below w2.heap.size w2 wx
theorem cmp_ok {wx W : World} {bt hb bg bw base n db dc cap : Nat} {a : Option Addr} {E : Nat → Ev} (hr : roomTo E n = true) (hB : wx.heap.size ≤ base) (hK : Kp (fun b => b = bt ∨ b = hb ∨ wx.heap.size ≤ b) wx W)
    (h : 0 < n → ∃ b off, a = some ⟨b, off, none⟩ ∧ GfAt wx bg bw b off n cap db dc E (auV E n) ∧ bg < wx.heap.size ∧ bw < wx.heap.size ∧ b < wx.heap.size ∧ db < wx.heap.size ∧ bg ≠ bt ∧ bw ≠ bt ∧ b ≠ bt ∧ db ≠ bt ∧ bg ≠ hb ∧ bw ≠ hb ∧ b ≠ hb ∧ db ≠ hb) : CmpOk E (auN E n) n bg bw hb base W := by
  intro W' hW' p q hp hq
  obtain ⟨b, off, _, hG, l1, l2, l3, l4, t1, t2, t3, t4, s1, s2, s3, s4⟩ := h (by omega)
  have hK2 : Kp (fun b => b = bt ∨ b = hb ∨ wx.heap.size ≤ b) wx W' := hK.transN hW' (fun i hi e => by
    rcases e with e | e
    · exact Or.inr (Or.inl e)
    · exact Or.inr (Or.inr (by omega)))
  have hG' := hG.kp hK2 l1 l2 l3 l4 (by omega) (by omega) (by omega) (by omega)
  refine (gfc_any p q hp hq hG').mono ?_
  rintro e w' ⟨rfl, hg⟩
  exact ⟨_, rfl, cmpG_au hr hp hq, hg.below⟩
end Go.Proofs.YtfjfhnjoghlbfaaGreat
