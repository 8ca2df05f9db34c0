/-
  The power of an event and the line of powers: plain functions.
-/
import Derived.Test.YtepajkhgigfbpaaChP
namespace Go.Proofs.Ytepajkhgigfbpaa
open Go.RowKit

/-- the place of the first event with P among the first j that e rests on, -1 where there is none. -/
def scTo (E : Nat → Ev) (n : Nat) (P : Ev → Bool) (e : Ev) : Nat → Int
  | 0 => -1
  | j + 1 => if 0 ≤ scTo E n P e j then scTo E n P e j else if P (E (posV E n (e.Av j)).toNat) then posV E n (e.Av j) else -1
theorem scTo_miss {E : Nat → Ev} {n : Nat} {P : Ev → Bool} {e : Ev} : ∀ j, (∀ i, i < j → P (E (posV E n (e.Av i)).toNat) = false) → scTo E n P e j = -1
  | 0, _ => rfl
  | j + 1, h => by
    rw [scTo, scTo_miss j (fun i hi => h i (by omega)), if_neg (by omega), h j (by omega)]
    simp
theorem scTo_stay {E : Nat → Ev} {n : Nat} {P : Ev → Bool} {e : Ev} (k : Nat) (hk : 0 ≤ scTo E n P e k) : ∀ j, k ≤ j → scTo E n P e j = scTo E n P e k
  | 0, h => by have : k = 0 := by omega
               subst this; rfl
  | j + 1, h => by
    by_cases ek : k = j + 1
    · subst ek; rfl
    · have := scTo_stay k hk j (by omega)
      rw [scTo, this, if_pos hk]
theorem scTo_hit {E : Nat → Ev} {n : Nat} {P : Ev → Bool} {e : Ev} {j k p : Nat} (hk : k < j) (h0 : ∀ i, i < k → P (E (posV E n (e.Av i)).toNat) = false) (hp : posV E n (e.Av k) = (p : Int)) (h1 : P (E p) = true) : scTo E n P e j = (p : Int) := by
  have e1 : scTo E n P e (k + 1) = (p : Int) := by rw [scTo, scTo_miss k h0, if_neg (by omega), hp, Int.toNat_natCast, h1]; simp
  rw [scTo_stay (k + 1) (by omega) j (by omega), e1]
theorem scTo_case (E : Nat → Ev) (n : Nat) (P : Ev → Bool) (e : Ev) : ∀ j, scTo E n P e j = -1 ∨ ∃ i, i < j ∧ scTo E n P e j = posV E n (e.Av i) ∧ P (E (posV E n (e.Av i)).toNat) = true ∧ (0 ≤ posV E n (e.Av i) ∨ scTo E n P e j < 0)
  | 0 => Or.inl rfl
  | j + 1 => by
    rw [scTo]
    by_cases h0 : 0 ≤ scTo E n P e j
    · rw [if_pos h0]
      rcases scTo_case E n P e j with h | ⟨i, hi, r⟩
      · omega
      · exact Or.inr ⟨i, by omega, r⟩
    · rw [if_neg h0]
      cases hP : P (E (posV E n (e.Av j)).toNat)
      · exact Or.inl (by simp)
      · refine Or.inr ⟨j, by omega, by simp, hP, ?_⟩
        rw [if_pos rfl]
        omega
theorem scTo_bd {E : Nat → Ev} {n p : Nat} {P : Ev → Bool} (h : roomTo E n = true) (hp : p < n) : scTo E n P (E p) (E p).na = -1 ∨ ∃ q, q < p ∧ scTo E n P (E p) (E p).na = (q : Int) ∧ P (E q) = true := by
  rcases scTo_case E n P (E p) (E p).na with h0 | ⟨i, hi, e, hP, _⟩
  · exact Or.inl h0
  · obtain ⟨j, hj, ej, _⟩ := auth_there h hp hi
    refine Or.inr ⟨j, hj, e.trans ej, ?_⟩
    rw [ej, Int.toNat_natCast] at hP
    exact hP
theorem scTo_congr {E : Nat → Ev} {n p : Nat} {P Q : Ev → Bool} (h : roomTo E n = true) (hp : p < n) (hPQ : ∀ i, i < n → P (E i) = Q (E i)) : ∀ j, j ≤ (E p).na → scTo E n P (E p) j = scTo E n Q (E p) j
  | 0, _ => rfl
  | j + 1, hj => by
    rw [scTo, scTo, scTo_congr h hp hPQ j (by omega)]
    obtain ⟨i, hi, e, _⟩ := auth_there h hp (show j < (E p).na by omega)
    rw [e, Int.toNat_natCast, hPQ i (by omega)]

/-- the event is of type power. -/
def isPow (e : Ev) : Bool := e.ty.toList == [112, 111, 119, 101, 114]
/-- the place of an event's power. -/
def pwV (E : Nat → Ev) (n p : Nat) : Int := scTo E n isPow (E p) (E p).na
theorem pwV_bd {E : Nat → Ev} {n p : Nat} (h : roomTo E n = true) (hp : p < n) : -1 ≤ pwV E n p ∧ pwV E n p < p := by
  rcases scTo_bd (P := isPow) h hp with h0 | ⟨q, hq, e, _⟩
  · unfold pwV; omega
  · unfold pwV; omega

/-- the line from place q on. -/
def lnF (E : Nat → Ev) (n : Nat) : Nat → Int → List Nat
  | 0, _ => []
  | f + 1, q => if q < 0 then [] else q.toNat :: lnF E n f (pwV E n q.toNat)
theorem lnF_neg (E : Nat → Ev) (n : Nat) {q : Int} (hq : q < 0) : ∀ f, lnF E n f q = []
  | 0 => rfl
  | f + 1 => by rw [lnF, if_pos hq]
theorem lnF_more {E : Nat → Ev} {n : Nat} (h : roomTo E n = true) : ∀ (f f' : Nat) (q : Int), q < f → q < n → f ≤ f' → lnF E n f' q = lnF E n f q
  | 0, f', q, hq, _, _ => by rw [lnF_neg E n (by omega), lnF_neg E n (by omega)]
  | f + 1, 0, q, _, _, hf => by omega
  | f + 1, f' + 1, q, hq, hn, hf => by
    rw [lnF, lnF]
    by_cases h0 : q < 0
    · rw [if_pos h0, if_pos h0]
    · rw [if_neg h0, if_neg h0]
      have := pwV_bd h (show q.toNat < n by omega)
      rw [lnF_more h f f' _ (by omega) (by omega) (by omega)]
theorem lnF_len (E : Nat → Ev) (n : Nat) : ∀ (f : Nat) (q : Int), (lnF E n f q).length ≤ f
  | 0, _ => Nat.le_refl _
  | f + 1, q => by
    rw [lnF]
    split
    · simp
    · have := lnF_len E n f (pwV E n q.toNat)
      simp; exact this
theorem lnF_mem {E : Nat → Ev} {n : Nat} (h : roomTo E n = true) : ∀ (f : Nat) (q : Int), q < n → ∀ i ∈ lnF E n f q, i < n
  | 0, _, _, i, hi => by simp [lnF] at hi
  | f + 1, q, hq, i, hi => by
    rw [lnF] at hi
    by_cases h0 : q < 0
    · rw [if_pos h0] at hi; cases hi
    · rw [if_neg h0] at hi
      rcases List.mem_cons.1 hi with rfl | hi
      · omega
      · exact lnF_mem h f _ (by have := pwV_bd h (show q.toNat < n by omega); omega) i hi
def ln (E : Nat → Ev) (n : Nat) (q : Int) : List Nat := lnF E n n q
theorem ln_neg (E : Nat → Ev) (n : Nat) {q : Int} (hq : q < 0) : ln E n q = [] := lnF_neg E n hq n
theorem ln_len (E : Nat → Ev) (n : Nat) (q : Int) : (ln E n q).length ≤ n := lnF_len E n n q
theorem ln_mem {E : Nat → Ev} {n : Nat} (h : roomTo E n = true) {q : Int} (hq : q < n) : ∀ i ∈ ln E n q, i < n := lnF_mem h n q hq
theorem ln_cons {E : Nat → Ev} {n p : Nat} (h : roomTo E n = true) (hp : p < n) : ln E n (p : Int) = p :: ln E n (pwV E n p) := by
  obtain ⟨m, rfl⟩ : ∃ m, n = m + 1 := ⟨n - 1, by omega⟩
  have hb := pwV_bd h hp
  unfold ln
  rw [lnF_more h m (m + 1) (pwV E (m + 1) p) (by omega) (by omega) (by omega), lnF, if_neg (by omega), Int.toNat_natCast]

/-- the k-th place of a list, as a number. -/
def lX (l : List Nat) (k : Nat) : Int := ((l.getD k 0 : Nat) : Int)
theorem ln_at {l : List Nat} {k p : Nat} {r : List Nat} (h : l.drop k = p :: r) : lX l k = (p : Int) ∧ l.drop (k + 1) = r ∧ k < l.length := by
  have h1 : l[k]? = some p := by
    have : (l.drop k)[0]? = some p := by rw [h]; rfl
    simpa using this
  refine ⟨by simp [lX, List.getD, h1], ?_, ?_⟩
  · rw [← List.drop_drop, h]; rfl
  · rcases Nat.lt_or_ge k l.length with h' | h'
    · exact h'
    · rw [List.getElem?_eq_none h'] at h1; cases h1
theorem ln_end {l : List Nat} {k : Nat} (h : l.drop k = []) (hk : k ≤ l.length) : k = l.length := by
  have := List.drop_eq_nil_iff.1 h
  omega
theorem lX_lt {l : List Nat} {n k : Nat} (h : ∀ i ∈ l, i < n) (hk : k < l.length) : ∃ p, p < n ∧ lX l k = (p : Int) := by
  refine ⟨l[k], h _ (List.getElem_mem hk), ?_⟩
  simp [lX, List.getD, List.getElem?_eq_getElem hk]

/-- what is known of a well-formed event. -/
theorem ev_id {e : Ev} (h : e.code = 0) : e.id.toList.isEmpty = false := by
  unfold Ev.code evCode at h
  split at h
  · cases h
  rename_i h1
  have hw : isW e.id = true := by
    cases hq : isW e.id
    · exact absurd (Or.inl hq) h1
    · rfl
  unfold isW at hw
  simp only [Bool.and_eq_true, decide_eq_true_eq] at hw
  cases hq : e.id.toList.isEmpty
  · rfl
  · have h0 : e.id.toList = [] := by simpa using hq
    have : e.id.size = 0 := by rw [size_list, h0]; rfl
    omega
theorem ev_pow {e : Ev} (h : e.code = 0) (ht : isPow e = true) : e.st = true ∧ e.key.toList.isEmpty = true := by
  unfold isPow at ht
  unfold Ev.code evCode at h
  split at h
  · cases h
  split at h
  · cases h
  split at h
  · cases h
  split at h
  · cases h
  split at h
  · cases h
  rename_i h5
  have hc : ctB e.ty e.key e.val e.st e.np e.na e.ng e.M e.L = true := by
    cases hq : ctB e.ty e.key e.val e.st e.np e.na e.ng e.M e.L
    · exact absurd hq h5
    · rfl
  have ht' : e.ty.toList = [112, 111, 119, 101, 114] := by simpa using ht
  unfold ctB at hc
  rw [ht'] at hc
  have e1 : (([112, 111, 119, 101, 114] : List UInt8) == [99, 114, 101, 97, 116, 101]) = false := by decide
  have e2 : (([112, 111, 119, 101, 114] : List UInt8) == [109, 101, 109, 98, 101, 114]) = false := by decide
  have e3 : (([112, 111, 119, 101, 114] : List UInt8) == [106, 111, 105, 110, 95, 114, 117, 108, 101, 115]) = false := by decide
  rw [e1, e2, e3] at hc
  simp at hc
  exact ⟨hc.1.1.1, by simp [hc.1.1.2]⟩
theorem room_code {E : Nat → Ev} {n i : Nat} (h : roomTo E n = true) (hi : i < n) : (E i).code = 0 := (ins_fresh (room_ins E n i hi h)).2.1
theorem posV_empty {E : Nat → Ev} {n : Nat} {s : ByteArray} (h : roomTo E n = true) (hs : s.toList.isEmpty = true) : posV E n s = -1 :=
  posV_miss E s n fun i hi => by
    have h1 := ev_id (room_code h hi)
    have h2 : s.toList = [] := by simpa using hs
    rw [h2]
    cases hq : (E i).id.toList
    · rw [hq] at h1; cases h1
    · rfl

/-- Mainline says true. -/
def mlOk (E : Nat → Ev) (n : Nat) (s : ByteArray) : Bool := roomTo E n && (s.toList.isEmpty || (decide (0 ≤ posV E n s) && isPow (E (posV E n s).toNat)))
/-- the places that Mainline gives. -/
def mlL (E : Nat → Ev) (n : Nat) (s : ByteArray) : List Nat := if mlOk E n s then ln E n (posV E n s) else []
/-- what Mainline answers. -/
def MlPost (w : World) (E : Nat → Ev) (n : Nat) (s : ByteArray) (e : Ending) (w' : World) : Prop := Below w.heap.size w w' ∧
  ∃ v, e = .returned (.tuple #[v, .bool (mlOk E n s)]) ∧ OwnT w' w.heap.size v (mlL E n s).length (fun k => (E (lX (mlL E n s) k).toNat).id)
theorem MlPost.no {w : World} {E : Nat → Ev} {n : Nat} {s : ByteArray} {v : Value} {w' : World} (h : mlOk E n s = false) (hb : Below w.heap.size w w') (ho : ∀ S, OwnT w' w.heap.size v 0 S) : MlPost w E n s (.returned (.tuple #[v, .bool false])) w' := by
  refine ⟨hb, v, by rw [h], ?_⟩
  unfold mlL
  rw [h]
  exact ho _
theorem MlPost.yes {w : World} {E : Nat → Ev} {n : Nat} {s : ByteArray} {v : Value} {w' : World} {l : List Nat} (h : mlOk E n s = true) (hl : l = ln E n (posV E n s)) (hb : Below w.heap.size w w') (ho : OwnT w' w.heap.size v l.length (fun k => (E (lX l k).toNat).id)) : MlPost w E n s (.returned (.tuple #[v, .bool true])) w' := by
  refine ⟨hb, v, by rw [h], ?_⟩
  unfold mlL
  rw [h, if_pos rfl, ← hl]
  exact ho
theorem OwnT.mono {w : World} {base base' n : Nat} {v : Value} {S : Nat → ByteArray} (h : OwnT w base v n S) (hb : base' ≤ base) : OwnT w base' v n S := by
  obtain ⟨h1, h2⟩ := h
  exact ⟨h1, h2.imp id fun ⟨g, cap, cur, e, hg, r⟩ => ⟨g, cap, cur, e, Nat.le_trans hb hg, r⟩⟩
theorem OwnT.list {w : World} {base n : Nat} {v : Value} {S : Nat → ByteArray} (h : OwnT w base v n S) : OwnL w base v ((List.range n).map S) := by
  unfold OwnL
  unfold OwnT strs at h
  rw [List.length_map, List.length_range, List.map_map]
  exact h
end Go.Proofs.Ytepajkhgigfbpaa
