/-
  What PowerOrder takes and answers.
-/
import Derived.Test.YtfjfhnjoghlbfaaGreatPoN
namespace Go.Proofs.YtfjfhnjoghlbfaaGreat
open Go.RowKit

/-- what the ids told by G rest on. -/
inductive ChQ (E : Nat → Ev) (n : Nat) (G : ByteArray → Prop) : ByteArray → Prop
  | base {p k : Nat} : p < n → G (E p).id → k < (E p).na → ChQ E n G ((E p).Av k)
  | step {s : ByteArray} {k p : Nat} : ChQ E n G s → p < n → (E p).id = s → k < (E p).na → ChQ E n G ((E p).Av k)
theorem chn_iff {E : Nat → Ev} {n : Nat} {S : Nat → ByteArray} {m : Nat} {s : ByteArray} : Chn E n S m s ↔ ChQ E n (fun t => ∃ i, i < m ∧ S i = t) s := by
  constructor
  · intro h
    induction h with
    | base hi hp e hk => exact ChQ.base hp ⟨_, hi, e.symm⟩ hk
    | step _ hp e hk ih => exact ChQ.step ih hp e hk
  · intro h
    induction h with
    | base hp hG hk => obtain ⟨i, hi, e⟩ := hG; exact Chn.base hi hp e.symm hk
    | step _ hp e hk ih => exact Chn.step ih hp e hk
theorem ChQ.mono {E : Nat → Ev} {n : Nat} {G G' : ByteArray → Prop} (hG : ∀ t, G t → G' t) {s : ByteArray} (h : ChQ E n G s) : ChQ E n G' s := by
  induction h with
  | base hp h1 hk => exact ChQ.base hp (hG _ h1) hk
  | step _ hp e hk ih => exact ChQ.step ih hp e hk
/-- p is one of the given. -/
def gvP (E : Nat → Ev) (n : Nat) (S : Nat → ByteArray) (m p : Nat) : Prop := ∃ i, i < m ∧ posV E n (S i) = (p : Int)
/-- the id of a weighty event of the given. -/
def wgP (E : Nat → Ev) (n : Nat) (S : Nat → ByteArray) (m : Nat) (t : ByteArray) : Prop := ∃ q, q < n ∧ gvP E n S m q ∧ wtyB (E q) = true ∧ (E q).id = t
/-- p is taken. -/
def TkP (E : Nat → Ev) (n : Nat) (S : Nat → ByteArray) (m p : Nat) : Prop := p < n ∧ gvP E n S m p ∧ (wgP E n S m (E p).id ∨ ChQ E n (wgP E n S m) (E p).id)
theorem OrdP.congr {E : Nat → Ev} {n : Nat} {T T' : Nat → Prop} {D : Nat → Nat} {l : List Nat} (h : OrdP E n T D l) (hT : ∀ p, T p ↔ T' p) : OrdP E n T' D l := by
  have : T = T' := funext fun p => propext (hT p)
  rw [← this]
  exact h
/-- the order that PowerOrder asks for. -/
def PoOrd (E : Nat → Ev) (n : Nat) (S : Nat → ByteArray) (m : Nat) (o : List Nat) : Prop := OrdP E n (TkP E n S m) (auN E n) o ∧ ∀ p, TkP E n S m p → p ∈ o
theorem PoOrd.uniq {E : Nat → Ev} {n : Nat} {S : Nat → ByteArray} {m : Nat} {o o' : List Nat} (h : PoOrd E n S m o) (h' : PoOrd E n S m o') : o = o' := h.1.uniq h'.1 h.2 h'.2
theorem PoOrd.lt {E : Nat → Ev} {n : Nat} {S : Nat → ByteArray} {m : Nat} {o : List Nat} (h : PoOrd E n S m o) : ∀ p ∈ o, p < n := fun p hp => (h.1.sub p hp).1
/-- PowerOrder says true. -/
def poOk (E : Nat → Ev) (n : Nat) (S : Nat → ByteArray) (m : Nat) : Bool := roomTo E n && thereB E n S m
/-- what PowerOrder answers. -/
def PoPost (w : World) (E : Nat → Ev) (n : Nat) (S : Nat → ByteArray) (m : Nat) (e : Ending) (w' : World) : Prop := Below w.heap.size w w' ∧
  ∃ v o, e = .returned (.tuple #[v, .bool (poOk E n S m)]) ∧ OwnL w' w.heap.size v (o.map fun p => (E p).id) ∧ ((poOk E n S m = true ∧ PoOrd E n S m o) ∨ (poOk E n S m = false ∧ o = []))

theorem idsL_get {E : Nat → Ev} {l : List Nat} {i : Nat} (hi : i < l.length) : idsL E l i = getL (l.map fun p => (E p).id) i := by
  show (E (lX l i).toNat).id = _
  unfold lX getL
  rw [Int.toNat_natCast]
  simp [List.getD, List.getElem?_eq_getElem hi]
theorem OwnL.nsl {w : World} {base : Nat} {v : Value} {E : Nat → Ev} {l : List Nat} (h : OwnL w base v (l.map fun p => (E p).id)) (hs : ∀ p ∈ l, (E p).id.size ≤ maxLen) : ∃ a cap, v = .slice a l.length cap ∧ SlS w a l.length cap (idsL E l) := by
  obtain ⟨a, cap, e, hsl, _⟩ := h.sl (fun s hs' => by
    obtain ⟨p, hp, rfl⟩ := List.mem_map.1 hs'
    exact hs p hp)
  rw [List.length_map] at e hsl
  refine ⟨a, cap, e, hsl.le, hsl.max, fun i hi => by rw [idsL_get hi]; exact hsl.size i hi, ?_⟩
  rcases hsl.cells with h0 | ⟨b, off, ea, hb, hc⟩
  · exact Or.inl h0
  · exact Or.inr ⟨b, off, ea, hb, fun i hi => by rw [idsL_get hi]; exact hc i hi⟩
theorem getD_mem {l : List Nat} {k : Nat} (hk : k < l.length) : l.getD k 0 ∈ l := by
  rw [List.getD, List.getElem?_eq_getElem hk]; exact List.getElem_mem _
/-- the places found among the first k ids, by a test. -/
theorem grow_mem {E : Nat → Ev} {n : Nat} {S : Nat → ByteArray} {k y : Nat} {l l' : List Nat} {P : Nat → Prop} (hy : posV E n (S k) = (y : Int)) (h : ∀ q, q ∈ l ↔ gvP E n S k q ∧ P q) (h' : ∀ q, q ∈ l' ↔ q ∈ l ∨ (q = y ∧ P y)) (q : Nat) : q ∈ l' ↔ gvP E n S (k + 1) q ∧ P q := by
  rw [h', h]
  constructor
  · rintro (⟨⟨i, hi, e⟩, hp⟩ | ⟨rfl, hp⟩)
    · exact ⟨⟨i, by omega, e⟩, hp⟩
    · exact ⟨⟨k, by omega, hy⟩, hp⟩
  · rintro ⟨⟨i, hi, e⟩, hp⟩
    by_cases ei : i = k
    · subst ei
      have : q = y := by omega
      subst this
      exact Or.inr ⟨rfl, hp⟩
    · exact Or.inl ⟨⟨i, by omega, e⟩, hp⟩
theorem short_left {l o : List Nat} (hl : l.Nodup) (h : o.length < l.length) : ∃ p, p ∈ l ∧ p ∉ o := by
  apply Classical.byContradiction
  intro hn
  have : ∀ p ∈ l, p ∈ o := fun p hp => Classical.byContradiction fun h' => hn ⟨p, hp, h'⟩
  have := hl.length_le_of_subset this
  omega
theorem full_in {l o : List Nat} (ho : o.Nodup) (hs : ∀ p ∈ o, p ∈ l) (h : l.length ≤ o.length) : ∀ p ∈ l, p ∈ o := by
  intro p hp
  apply Classical.byContradiction
  intro hn
  have h1 : (p :: o).Nodup := List.nodup_cons.2 ⟨hn, ho⟩
  have := h1.length_le_of_subset (l₂ := l) (fun q hq => by
    rcases List.mem_cons.1 hq with rfl | hq
    · exact hp
    · exact hs q hq)
  simp at this
  omega
end Go.Proofs.YtfjfhnjoghlbfaaGreat
