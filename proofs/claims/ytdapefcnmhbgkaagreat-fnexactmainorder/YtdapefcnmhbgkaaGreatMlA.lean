import Derived.Test.YtdapefcnmhbgkaaGreatTpA
import Derived.Lib.Bytealg
import Derived.Sort.Walk0
/-
  The power of an event and the line of powers: plain functions.
-/
namespace Go.Proofs.YtdapefcnmhbgkaaGreat
open Go.RowKit

/-- the place of the first event with P among the first j that e rests on, -1 where there is none. -/
def scTo (E : Nat → Ev) (n : Nat) (P : Ev → Bool) (e : Ev) : Nat → Int
  | 0 => -1
  | j + 1 => if 0 ≤ scTo E n P e j then scTo E n P e j else if P (E (posV E n (e.Av j)).toNat) then posV E n (e.Av j) else -1
theorem scTo_miss {E : Nat → Ev} {n : Nat} {P : Ev → Bool} {e : Ev} : ∀ j, (∀ i, i < j → P (E (posV E n (e.Av i)).toNat) = false) → scTo E n P e j = -1
  | 0, _ => rfl
  | j + 1, h => by
    rw [scTo, scTo_miss j (fun i hi => h i (by omega)), if_neg (by omega), h j (by omega)]
    simp
theorem scTo_stay {E : Nat → Ev} {n : Nat} {P : Ev → Bool} {e : Ev} (k : Nat) (hk : 0 ≤ scTo E n P e k) : ∀ j, k ≤ j → scTo E n P e j = scTo E n P e k
  | 0, h => by have : k = 0 := by omega
               subst this; rfl
  | j + 1, h => by
    by_cases ek : k = j + 1
    · subst ek; rfl
    · have := scTo_stay k hk j (by omega)
      rw [scTo, this, if_pos hk]
theorem scTo_hit {E : Nat → Ev} {n : Nat} {P : Ev → Bool} {e : Ev} {j k p : Nat} (hk : k < j) (h0 : ∀ i, i < k → P (E (posV E n (e.Av i)).toNat) = false) (hp : posV E n (e.Av k) = (p : Int)) (h1 : P (E p) = true) : scTo E n P e j = (p : Int) := by
  have e1 : scTo E n P e (k + 1) = (p : Int) := by rw [scTo, scTo_miss k h0, if_neg (by omega), hp, Int.toNat_natCast, h1]; simp
  rw [scTo_stay (k + 1) (by omega) j (by omega), e1]
theorem scTo_case (E : Nat → Ev) (n : Nat) (P : Ev → Bool) (e : Ev) : ∀ j, scTo E n P e j = -1 ∨ ∃ i, i < j ∧ scTo E n P e j = posV E n (e.Av i) ∧ P (E (posV E n (e.Av i)).toNat) = true ∧ (0 ≤ posV E n (e.Av i) ∨ scTo E n P e j < 0)
  | 0 => Or.inl rfl
  | j + 1 => by
    rw [scTo]
    by_cases h0 : 0 ≤ scTo E n P e j
    · rw [if_pos h0]
      rcases scTo_case E n P e j with h | ⟨i, hi, r⟩
      · omega
      · exact Or.inr ⟨i, by omega, r⟩
    · rw [if_neg h0]
      cases hP : P (E (posV E n (e.Av j)).toNat)
      · exact Or.inl (by simp)
      · refine Or.inr ⟨j, by omega, by simp, hP, ?_⟩
        rw [if_pos rfl]
        omega
theorem scTo_bd {E : Nat → Ev} {n p : Nat} {P : Ev → Bool} (h : roomTo E n = true) (hp : p < n) : scTo E n P (E p) (E p).na = -1 ∨ ∃ q, q < p ∧ scTo E n P (E p) (E p).na = (q : Int) ∧ P (E q) = true := by
  rcases scTo_case E n P (E p) (E p).na with h0 | ⟨i, hi, e, hP, _⟩
  · exact Or.inl h0
  · obtain ⟨j, hj, ej, _⟩ := auth_there h hp hi
    refine Or.inr ⟨j, hj, e.trans ej, ?_⟩
    rw [ej, Int.toNat_natCast] at hP
    exact hP
theorem scTo_congr {E : Nat → Ev} {n p : Nat} {P Q : Ev → Bool} (h : roomTo E n = true) (hp : p < n) (hPQ : ∀ i, i < n → P (E i) = Q (E i)) : ∀ j, j ≤ (E p).na → scTo E n P (E p) j = scTo E n Q (E p) j
  | 0, _ => rfl
  | j + 1, hj => by
    rw [scTo, scTo, scTo_congr h hp hPQ j (by omega)]
    obtain ⟨i, hi, e, _⟩ := auth_there h hp (show j < (E p).na by omega)
    rw [e, Int.toNat_natCast, hPQ i (by omega)]

/-- the event is of type power. -/
def isPow (e : Ev) : Bool := e.ty.toList == [112, 111, 119, 101, 114]
/-- the place of an event's power. -/
def pwV (E : Nat → Ev) (n p : Nat) : Int := scTo E n isPow (E p) (E p).na
theorem pwV_bd {E : Nat → Ev} {n p : Nat} (h : roomTo E n = true) (hp : p < n) : -1 ≤ pwV E n p ∧ pwV E n p < p := by
  rcases scTo_bd (P := isPow) h hp with h0 | ⟨q, hq, e, _⟩
  · unfold pwV; omega
  · unfold pwV; omega

/-- the line from place q on. -/
def lnF (E : Nat → Ev) (n : Nat) : Nat → Int → List Nat
  | 0, _ => []
  | f + 1, q => if q < 0 then [] else q.toNat :: lnF E n f (pwV E n q.toNat)
theorem lnF_neg (E : Nat → Ev) (n : Nat) {q : Int} (hq : q < 0) : ∀ f, lnF E n f q = []
  | 0 => rfl
  | f + 1 => by rw [lnF, if_pos hq]
theorem lnF_more {E : Nat → Ev} {n : Nat} (h : roomTo E n = true) : ∀ (f f' : Nat) (q : Int), q < f → q < n → f ≤ f' → lnF E n f' q = lnF E n f q
  | 0, f', q, hq, _, _ => by rw [lnF_neg E n (by omega), lnF_neg E n (by omega)]
  | f + 1, 0, q, _, _, hf => by omega
  | f + 1, f' + 1, q, hq, hn, hf => by
    rw [lnF, lnF]
    by_cases h0 : q < 0
    · rw [if_pos h0, if_pos h0]
    · rw [if_neg h0, if_neg h0]
      have := pwV_bd h (show q.toNat < n by omega)
      rw [lnF_more h f f' _ (by omega) (by omega) (by omega)]
theorem lnF_len (E : Nat → Ev) (n : Nat) : ∀ (f : Nat) (q : Int), (lnF E n f q).length ≤ f
  | 0, _ => Nat.le_refl _
  | f + 1, q => by
    rw [lnF]
    split
    · simp
    · have := lnF_len E n f (pwV E n q.toNat)
      simp; exact this
theorem lnF_mem {E : Nat → Ev} {n : Nat} (h : roomTo E n = true) : ∀ (f : Nat) (q : Int), q < n → ∀ i ∈ lnF E n f q, i < n
  | 0, _, _, i, hi => by simp [lnF] at hi
  | f + 1, q, hq, i, hi => by
    rw [lnF] at hi
    by_cases h0 : q < 0
    · rw [if_pos h0] at hi; cases hi
    · rw [if_neg h0] at hi
      rcases List.mem_cons.1 hi with rfl | hi
      · omega
      · exact lnF_mem h f _ (by have := pwV_bd h (show q.toNat < n by omega); omega) i hi
def ln (E : Nat → Ev) (n : Nat) (q : Int) : List Nat := lnF E n n q
theorem ln_neg (E : Nat → Ev) (n : Nat) {q : Int} (hq : q < 0) : ln E n q = [] := lnF_neg E n hq n
theorem ln_len (E : Nat → Ev) (n : Nat) (q : Int) : (ln E n q).length ≤ n := lnF_len E n n q
theorem ln_mem {E : Nat → Ev} {n : Nat} (h : roomTo E n = true) {q : Int} (hq : q < n) : ∀ i ∈ ln E n q, i < n := lnF_mem h n q hq
theorem ln_cons {E : Nat → Ev} {n p : Nat} (h : roomTo E n = true) (hp : p < n) : ln E n (p : Int) = p :: ln E n (pwV E n p) := by
  obtain ⟨m, rfl⟩ : ∃ m, n = m + 1 := ⟨n - 1, by omega⟩
  have hb := pwV_bd h hp
  unfold ln
  rw [lnF_more h m (m + 1) (pwV E (m + 1) p) (by omega) (by omega) (by omega), lnF, if_neg (by omega), Int.toNat_natCast]

/-- the k-th place of a list, as a number. -/
def lX (l : List Nat) (k : Nat) : Int := ((l.getD k 0 : Nat) : Int)
theorem ln_at {l : List Nat} {k p : Nat} {r : List Nat} (h : l.drop k = p :: r) : lX l k = (p : Int) ∧ l.drop (k + 1) = r ∧ k < l.length := by
  have h1 : l[k]? = some p := by
    have : (l.drop k)[0]? = some p := by rw [h]; rfl
    simpa using this
  refine ⟨by simp [lX, List.getD, h1], ?_, ?_⟩
  · rw [← List.drop_drop, h]; rfl
  · rcases Nat.lt_or_ge k l.length with h' | h'
    · exact h'
    · rw [List.getElem?_eq_none h'] at h1; cases h1
theorem ln_end {l : List Nat} {k : Nat} (h : l.drop k = []) (hk : k ≤ l.length) : k = l.length := by
  have := List.drop_eq_nil_iff.1 h
  omega
theorem lX_lt {l : List Nat} {n k : Nat} (h : ∀ i ∈ l, i < n) (hk : k < l.length) : ∃ p, p < n ∧ lX l k = (p : Int) := by
  refine ⟨l[k], h _ (List.getElem_mem hk), ?_⟩
  simp [lX, List.getD, List.getElem?_eq_getElem hk]

/-- what is known of a well-formed event. -/
theorem ev_id {e : Ev} (h : e.code = 0) : e.id.toList.isEmpty = false := by
  unfold Ev.code evCode at h
  split at h
  · cases h
  rename_i h1
  have hw : isW e.id = true := by
    cases hq : isW e.id
    · exact absurd (Or.inl hq) h1
    · rfl
  unfold isW at hw
  simp only [Bool.and_eq_true, decide_eq_true_eq] at hw
  cases hq : e.id.toList.isEmpty
  · rfl
  · have h0 : e.id.toList = [] := by simpa using hq
    have : e.id.size = 0 := by rw [size_list, h0]; rfl
    omega
theorem ev_pow {e : Ev} (h : e.code = 0) (ht : isPow e = true) : e.st = true ∧ e.key.toList.isEmpty = true := by
  unfold isPow at ht
  unfold Ev.code evCode at h
  split at h
  · cases h
  split at h
  · cases h
  split at h
  · cases h
  split at h
  · cases h
  split at h
  · cases h
  rename_i h5
  have hc : ctB e.ty e.key e.val e.st e.np e.na e.ng e.M e.L = true := by
    cases hq : ctB e.ty e.key e.val e.st e.np e.na e.ng e.M e.L
    · exact absurd hq h5
    · rfl
  have ht' : e.ty.toList = [112, 111, 119, 101, 114] := by simpa using ht
  unfold ctB at hc
  rw [ht'] at hc
  have e1 : (([112, 111, 119, 101, 114] : List UInt8) == [99, 114, 101, 97, 116, 101]) = false := by decide
  have e2 : (([112, 111, 119, 101, 114] : List UInt8) == [109, 101, 109, 98, 101, 114]) = false := by decide
  have e3 : (([112, 111, 119, 101, 114] : List UInt8) == [106, 111, 105, 110, 95, 114, 117, 108, 101, 115]) = false := by decide
  rw [e1, e2, e3] at hc
  simp at hc
  exact ⟨hc.1.1.1, by simp [hc.1.1.2]⟩
theorem room_code {E : Nat → Ev} {n i : Nat} (h : roomTo E n = true) (hi : i < n) : (E i).code = 0 := (ins_fresh (room_ins E n i hi h)).2.1
theorem posV_empty {E : Nat → Ev} {n : Nat} {s : ByteArray} (h : roomTo E n = true) (hs : s.toList.isEmpty = true) : posV E n s = -1 :=
  posV_miss E s n fun i hi => by
    have h1 := ev_id (room_code h hi)
    have h2 : s.toList = [] := by simpa using hs
    rw [h2]
    cases hq : (E i).id.toList
    · rw [hq] at h1; cases h1
    · rfl

/-- Mainline says true. -/
def mlOk (E : Nat → Ev) (n : Nat) (s : ByteArray) : Bool := roomTo E n && (s.toList.isEmpty || (decide (0 ≤ posV E n s) && isPow (E (posV E n s).toNat)))
/-- the places that Mainline gives. -/
def mlL (E : Nat → Ev) (n : Nat) (s : ByteArray) : List Nat := if mlOk E n s then ln E n (posV E n s) else []
/-- what Mainline answers. -/
def MlPost (w : World) (E : Nat → Ev) (n : Nat) (s : ByteArray) (e : Ending) (w' : World) : Prop := Below w.heap.size w w' ∧
  ∃ v, e = .returned (.tuple #[v, .bool (mlOk E n s)]) ∧ OwnT w' w.heap.size v (mlL E n s).length (fun k => (E (lX (mlL E n s) k).toNat).id)
theorem MlPost.no {w : World} {E : Nat → Ev} {n : Nat} {s : ByteArray} {v : Value} {w' : World} (h : mlOk E n s = false) (hb : Below w.heap.size w w') (ho : ∀ S, OwnT w' w.heap.size v 0 S) : MlPost w E n s (.returned (.tuple #[v, .bool false])) w' := by
  refine ⟨hb, v, by rw [h], ?_⟩
  unfold mlL
  rw [h]
  exact ho _
theorem MlPost.yes {w : World} {E : Nat → Ev} {n : Nat} {s : ByteArray} {v : Value} {w' : World} {l : List Nat} (h : mlOk E n s = true) (hl : l = ln E n (posV E n s)) (hb : Below w.heap.size w w') (ho : OwnT w' w.heap.size v l.length (fun k => (E (lX l k).toNat).id)) : MlPost w E n s (.returned (.tuple #[v, .bool true])) w' := by
  refine ⟨hb, v, by rw [h], ?_⟩
  unfold mlL
  rw [h, if_pos rfl, ← hl]
  exact ho
theorem OwnT.mono {w : World} {base base' n : Nat} {v : Value} {S : Nat → ByteArray} (h : OwnT w base v n S) (hb : base' ≤ base) : OwnT w base' v n S := by
  obtain ⟨h1, h2⟩ := h
  exact ⟨h1, h2.imp id fun ⟨g, cap, cur, e, hg, r⟩ => ⟨g, cap, cur, e, Nat.le_trans hb hg, r⟩⟩
theorem OwnT.list {w : World} {base n : Nat} {v : Value} {S : Nat → ByteArray} (h : OwnT w base v n S) : OwnL w base v ((List.range n).map S) := by
  unfold OwnL
  unfold OwnT strs at h
  rw [List.length_map, List.length_range, List.map_map]
  exact h
end Go.Proofs.YtdapefcnmhbgkaaGreat
/-
  Depths by a mainline and the order by them: plain functions.
-/
namespace Go.Proofs.YtdapefcnmhbgkaaGreat
open Go.RowKit

/-- the position of p in the line, its length when it is not there. -/
def lnI (line : List Nat) (p : Nat) : Nat := line.findIdx (fun x => x == p)
theorem lnI_le (line : List Nat) (p : Nat) : lnI line p ≤ line.length := List.findIdx_le_length
theorem lnI_hit {line : List Nat} {p k : Nat} (hk : k < line.length) (h0 : ∀ i, i < k → line.getD i 0 ≠ p) (h1 : line.getD k 0 = p) : lnI line p = k := by
  unfold lnI
  rw [List.findIdx_eq hk]
  refine ⟨by simpa [List.getD, List.getElem?_eq_getElem hk] using h1, fun j hj => ?_⟩
  have := h0 j hj
  have hj' : j < line.length := by omega
  simpa [List.getD, List.getElem?_eq_getElem hj'] using this
theorem lnI_miss {line : List Nat} {p : Nat} (h0 : ∀ i, i < line.length → line.getD i 0 ≠ p) : lnI line p = line.length := by
  unfold lnI
  rw [List.findIdx_eq_length]
  intro x hx
  obtain ⟨i, hi, rfl⟩ := List.mem_iff_getElem.1 hx
  have := h0 i hi
  simpa [List.getD, List.getElem?_eq_getElem hi] using this

/-- the depth from place q on. -/
def dpF (E : Nat → Ev) (n : Nat) (line : List Nat) : Nat → Int → Nat
  | 0, _ => line.length
  | f + 1, q => if q < 0 then line.length else if lnI line q.toNat < line.length then lnI line q.toNat else dpF E n line f (pwV E n q.toNat)
theorem dpF_neg (E : Nat → Ev) (n : Nat) (line : List Nat) {q : Int} (hq : q < 0) : ∀ f, dpF E n line f q = line.length
  | 0 => rfl
  | f + 1 => by rw [dpF, if_pos hq]
theorem dpF_more {E : Nat → Ev} {n : Nat} (line : List Nat) (h : roomTo E n = true) : ∀ (f f' : Nat) (q : Int), q < f → q < n → f ≤ f' → dpF E n line f' q = dpF E n line f q
  | 0, f', q, hq, _, _ => by rw [dpF_neg E n line (by omega), dpF_neg E n line (by omega)]
  | f + 1, 0, q, _, _, hf => by omega
  | f + 1, f' + 1, q, hq, hn, hf => by
    rw [dpF, dpF]
    by_cases h0 : q < 0
    · rw [if_pos h0, if_pos h0]
    · rw [if_neg h0, if_neg h0]
      split
      · rfl
      · have := pwV_bd h (show q.toNat < n by omega)
        rw [dpF_more line h f f' _ (by omega) (by omega) (by omega)]
theorem dpF_le (E : Nat → Ev) (n : Nat) (line : List Nat) : ∀ (f : Nat) (q : Int), dpF E n line f q ≤ line.length
  | 0, _ => Nat.le_refl _
  | f + 1, q => by
    rw [dpF]
    split
    · exact Nat.le_refl _
    · split
      · exact lnI_le _ _
      · exact dpF_le E n line f _
def dp (E : Nat → Ev) (n : Nat) (line : List Nat) (q : Int) : Nat := dpF E n line n q
theorem dp_neg (E : Nat → Ev) (n : Nat) (line : List Nat) {q : Int} (hq : q < 0) : dp E n line q = line.length := dpF_neg E n line hq n
theorem dp_le (E : Nat → Ev) (n : Nat) (line : List Nat) (q : Int) : dp E n line q ≤ line.length := dpF_le E n line n q
theorem dp_in {E : Nat → Ev} {n p : Nat} {line : List Nat} (hp : p < n) (h : lnI line p < line.length) : dp E n line (p : Int) = lnI line p := by
  obtain ⟨m, rfl⟩ : ∃ m, n = m + 1 := ⟨n - 1, by omega⟩
  unfold dp
  rw [dpF, if_neg (by omega), Int.toNat_natCast, if_pos h]
theorem dp_step {E : Nat → Ev} {n p : Nat} {line : List Nat} (hr : roomTo E n = true) (hp : p < n) (h : lnI line p = line.length) : dp E n line (p : Int) = dp E n line (pwV E n p) := by
  obtain ⟨m, rfl⟩ : ∃ m, n = m + 1 := ⟨n - 1, by omega⟩
  have hb := pwV_bd hr hp
  unfold dp
  rw [dpF_more line hr m (m + 1) (pwV E (m + 1) p) (by omega) (by omega) (by omega), dpF, if_neg (by omega), Int.toNat_natCast, if_neg (by omega)]

/-- by greater depth, then lesser time, then lesser id. -/
def Bef (E : Nat → Ev) (D : Nat → Nat) (a b : Nat) : Prop := D b < D a ∨ (D a = D b ∧ ((E a).tm < (E b).tm ∨ ((E a).tm = (E b).tm ∧ (E a).id.data.toList < (E b).id.data.toList)))
theorem Bef.irrefl {E : Nat → Ev} {D : Nat → Nat} (a : Nat) : ¬ Bef E D a a := by
  rintro (h | ⟨_, h | ⟨_, h⟩⟩)
  · omega
  · omega
  · exact List.lt_irrefl _ h
theorem Bef.trans {E : Nat → Ev} {D : Nat → Nat} {a b c : Nat} (h1 : Bef E D a b) (h2 : Bef E D b c) : Bef E D a c := by
  rcases h1 with h1 | ⟨e1, h1⟩
  · rcases h2 with h2 | ⟨e2, h2⟩
    · exact Or.inl (by omega)
    · exact Or.inl (by omega)
  · rcases h2 with h2 | ⟨e2, h2⟩
    · exact Or.inl (by omega)
    · refine Or.inr ⟨by omega, ?_⟩
      rcases h1 with h1 | ⟨f1, h1⟩ <;> rcases h2 with h2 | ⟨f2, h2⟩
      · exact Or.inl (by omega)
      · exact Or.inl (by omega)
      · exact Or.inl (by omega)
      · exact Or.inr ⟨by omega, List.lt_trans h1 h2⟩
theorem Bef.asymm {E : Nat → Ev} {D : Nat → Nat} {a b : Nat} (h : Bef E D a b) : ¬ Bef E D b a := fun h' => Bef.irrefl a (h.trans h')
theorem Bef.total {E : Nat → Ev} {D : Nat → Nat} {n a b : Nat} (hr : roomTo E n = true) (ha : a < n) (hb : b < n) (hne : a ≠ b) : Bef E D a b ∨ Bef E D b a := by
  unfold Bef
  by_cases h1 : D b < D a
  · exact Or.inl (Or.inl h1)
  by_cases h2 : D a < D b
  · exact Or.inr (Or.inl h2)
  have e1 : D a = D b := by omega
  by_cases h3 : (E a).tm < (E b).tm
  · exact Or.inl (Or.inr ⟨e1, Or.inl h3⟩)
  by_cases h4 : (E b).tm < (E a).tm
  · exact Or.inr (Or.inr ⟨e1.symm, Or.inl h4⟩)
  have e2 : (E a).tm = (E b).tm := by omega
  have hid : (E a).id.data.toList ≠ (E b).id.data.toList := fun e => hne (by
    have e3 : (E a).id = (E b).id := ba_inj e
    have e4 := posV_here hr ha
    rw [e3, posV_here hr hb] at e4
    omega)
  rcases Nat.lt_or_ge 0 1 with _ | h
  · by_cases h5 : (E a).id.data.toList < (E b).id.data.toList
    · exact Or.inl (Or.inr ⟨e1, Or.inr ⟨e2, h5⟩⟩)
    · rcases List.le_iff_lt_or_eq.1 (List.not_lt.1 h5) with h6 | h6
      · exact Or.inr (Or.inr ⟨e1.symm, Or.inr ⟨e2.symm, h6⟩⟩)
      · exact absurd h6.symm hid
  · omega
/-- two lists of places in order that have the same are the same. -/
theorem bef_unique {E : Nat → Ev} {D : Nat → Nat} {l1 l2 : List Nat} (h1 : l1.Pairwise (Bef E D)) (h2 : l2.Pairwise (Bef E D)) (h : ∀ p, p ∈ l1 ↔ p ∈ l2) : l1 = l2 := by
  have n1 : l1.Nodup := h1.imp fun {a b} hab e => by subst e; exact Bef.irrefl a hab
  have n2 : l2.Nodup := h2.imp fun {a b} hab e => by subst e; exact Bef.irrefl a hab
  exact List.Perm.eq_of_pairwise (le := Bef E D) (fun a b _ _ hab hba => absurd hba hab.asymm) h1 h2 ((List.perm_ext_iff_of_nodup n1 n2).2 h)
end Go.Proofs.YtdapefcnmhbgkaaGreat
/-
  Depths, round by round: plain facts.
-/
namespace Go.Proofs.YtdapefcnmhbgkaaGreat
open Go.RowKit

theorem lnF_desc {E : Nat → Ev} {n : Nat} (h : roomTo E n = true) : ∀ (f : Nat) (q : Int), q < n → (∀ i ∈ lnF E n f q, (i : Int) ≤ q) ∧ (lnF E n f q).Pairwise (fun a b => b < a)
  | 0, q, _ => ⟨fun i hi => (by rw [lnF] at hi; cases hi), (by rw [lnF]; exact List.Pairwise.nil)⟩
  | f + 1, q, hq => by
    rw [lnF]
    by_cases h0 : q < 0
    · rw [if_pos h0]; exact ⟨fun i hi => (by cases hi), List.Pairwise.nil⟩
    · rw [if_neg h0]
      have hb := pwV_bd h (show q.toNat < n by omega)
      obtain ⟨h1, h2⟩ := lnF_desc h f (pwV E n q.toNat) (by omega)
      refine ⟨fun i hi => ?_, List.pairwise_cons.2 ⟨fun i hi => ?_, h2⟩⟩
      · rcases List.mem_cons.1 hi with rfl | hi
        · omega
        · have := h1 i hi; omega
      · have := h1 i hi; omega
theorem ln_desc {E : Nat → Ev} {n : Nat} (h : roomTo E n = true) {q : Int} (hq : q < n) : (ln E n q).Pairwise (fun a b => b < a) := (lnF_desc h n q hq).2

theorem desc_ne {l : List Nat} (h : l.Pairwise (fun a b => b < a)) {i k : Nat} (hi : i < k) (hk : k < l.length) : l.getD i 0 ≠ l.getD k 0 := by
  have := List.pairwise_iff_getElem.1 h i k (by omega) hk hi
  simp only [List.getD, List.getElem?_eq_getElem hk, List.getElem?_eq_getElem (show i < l.length by omega), Option.getD_some]
  omega
theorem lnI_self {l : List Nat} (h : l.Pairwise (fun a b => b < a)) {k : Nat} (hk : k < l.length) : lnI l (l.getD k 0) = k := lnI_hit hk (fun _ hi => desc_ne h hi hk) rfl
theorem lnI_back {l : List Nat} {p : Nat} (h : lnI l p < l.length) : l.getD (lnI l p) 0 = p := by
  have : (l[lnI l p]'h == p) = true := List.findIdx_getElem (w := h) (p := fun x => x == p)
  simpa [List.getD, List.getElem?_eq_getElem h] using this

/-- what the first loop has written behind k rounds. -/
def dpA (l : List Nat) (k i : Nat) : Int := if lnI l i < k then (lnI l i : Int) else (l.length : Int)
theorem dpA_zero (l : List Nat) (i : Nat) : (l.length : Int) = dpA l 0 i := by unfold dpA; rw [if_neg (by omega)]
theorem dpA_step {l : List Nat} (h : l.Pairwise (fun a b => b < a)) {k p i : Nat} (hk : k < l.length) (hp : lX l k = (p : Int)) : (if i = p then (k : Int) else dpA l k i) = dpA l (k + 1) i := by
  have e : l.getD k 0 = p := by unfold lX at hp; omega
  unfold dpA
  by_cases hi : i = p
  · subst hi
    rw [if_pos rfl, ← e, lnI_self h hk, if_pos (by omega)]
  · rw [if_neg hi]
    have : lnI l i ≠ k := fun e2 => hi (by rw [← e, ← e2]; exact (lnI_back (by omega)).symm)
    by_cases h1 : lnI l i < k
    · rw [if_pos h1, if_pos (by omega)]
    · rw [if_neg h1, if_neg (by omega)]
theorem dpA_all (l : List Nat) (i : Nat) : dpA l l.length i = (lnI l i : Int) := by
  unfold dpA
  have := lnI_le l i
  by_cases h : lnI l i < l.length
  · rw [if_pos h]
  · rw [if_neg h]; omega

/-- what the second loop has left behind k rounds. -/
def dpB (E : Nat → Ev) (n : Nat) (l : List Nat) (k i : Nat) : Int := if i < k then (dp E n l (i : Int) : Int) else (lnI l i : Int)
theorem dpB_zero (E : Nat → Ev) (n : Nat) (l : List Nat) (i : Nat) : dpA l l.length i = dpB E n l 0 i := by rw [dpA_all]; unfold dpB; rw [if_neg (by omega)]
theorem dpB_all (E : Nat → Ev) (n : Nat) (l : List Nat) {i : Nat} (hi : i < n) : dpB E n l n i = (dp E n l (i : Int) : Int) := by unfold dpB; rw [if_pos hi]
theorem dpB_here (E : Nat → Ev) (n : Nat) (l : List Nat) (k : Nat) : dpB E n l k k = (lnI l k : Int) := by unfold dpB; rw [if_neg (by omega)]
/-- the place keeps what it has. -/
theorem dpB_keep {E : Nat → Ev} {n : Nat} {l : List Nat} {k : Nat} (hr : roomTo E n = true) (hk : k < n) (h : ¬ lnI l k = l.length ∨ pwV E n k = -1) (i : Nat) : dpB E n l k i = dpB E n l (k + 1) i := by
  unfold dpB
  by_cases h1 : i < k
  · rw [if_pos h1, if_pos (by omega)]
  · rw [if_neg h1]
    by_cases h2 : i = k
    · subst h2
      rw [if_pos (by omega)]
      have hle := lnI_le l i
      by_cases h3 : lnI l i < l.length
      · rw [dp_in hk h3]
      · have e : lnI l i = l.length := by omega
        rcases h with h | h
        · exact absurd e h
        · rw [dp_step hr hk e, h, dp_neg _ _ _ (by decide), e]
    · rw [if_neg (by omega)]
/-- the place takes that of its power. -/
theorem dpB_take {E : Nat → Ev} {n : Nat} {l : List Nat} {k q : Nat} (hr : roomTo E n = true) (hk : k < n) (h : lnI l k = l.length) (hq : pwV E n k = (q : Int)) (i : Nat) : (if i = k then dpB E n l k q else dpB E n l k i) = dpB E n l (k + 1) i := by
  have hb := pwV_bd hr hk
  unfold dpB
  by_cases h2 : i = k
  · subst h2
    rw [if_pos rfl, if_pos (by omega), if_pos (by omega), dp_step hr hk h, hq]
  · rw [if_neg h2]
    by_cases h1 : i < k
    · rw [if_pos h1, if_pos (by omega)]
    · rw [if_neg h1, if_neg (by omega)]
end Go.Proofs.YtdapefcnmhbgkaaGreat
/-
  Places compared: by weight, time and id.
-/
namespace Go.Proofs.YtdapefcnmhbgkaaGreat
open Go.RowKit

theorem ba_eqG {s t : ByteArray} (h : s.data.toList = t.data.toList) : s = t := by
  obtain ⟨s⟩ := s; obtain ⟨t⟩ := t
  exact congrArg _ (Array.toList_inj.1 h)
theorem cmp_casesG : ∀ x y : List UInt8, (x < y ∧ Lib.compareBytes x y = -1) ∨ (x = y ∧ Lib.compareBytes x y = 0) ∨ (y < x ∧ Lib.compareBytes x y = 1)
  | [], [] => Or.inr (Or.inl ⟨rfl, rfl⟩)
  | [], b :: y => Or.inl ⟨by simp, rfl⟩
  | a :: x, [] => Or.inr (Or.inr ⟨by simp, rfl⟩)
  | a :: x, b :: y => by
    unfold Lib.compareBytes
    by_cases h1 : a < b
    · rw [if_pos h1]; exact Or.inl ⟨List.cons_lt_cons_iff.2 (Or.inl h1), rfl⟩
    · rw [if_neg h1]
      by_cases h2 : b < a
      · rw [if_pos h2]; exact Or.inr (Or.inr ⟨List.cons_lt_cons_iff.2 (Or.inl h2), rfl⟩)
      · rw [if_neg h2]
        have e : a = b := UInt8.le_antisymm (UInt8.not_lt.1 h2) (UInt8.not_lt.1 h1)
        subst e
        rcases cmp_casesG x y with ⟨h, e⟩ | ⟨rfl, e⟩ | ⟨h, e⟩
        · exact Or.inl ⟨List.cons_lt_cons_iff.2 (Or.inr ⟨rfl, h⟩), e⟩
        · exact Or.inr (Or.inl ⟨rfl, e⟩)
        · exact Or.inr (Or.inr ⟨List.cons_lt_cons_iff.2 (Or.inr ⟨rfl, h⟩), e⟩)

/-- two texts compared. -/
def cB (a b : ByteArray) : Int := Lib.compareBytes a.data.toList b.data.toList

/-- two numbers compared. -/
def cC (x y : Int) : Int := if x < y then -1 else if y < x then 1 else 0
/-- the first that is not 0. -/
def or3 (x y z : Int) : Int := if x = 0 then (if y = 0 then z else y) else x
/-- two places compared. -/
def cmpG (E : Nat → Ev) (D : Nat → Int) (a b : Nat) : Int := or3 (cC (D b) (D a)) (cC (E a).tm (E b).tm) (cB (E a).id (E b).id)
theorem cC_cases (x y : Int) : (x < y ∧ cC x y = -1) ∨ (x = y ∧ cC x y = 0) ∨ (y < x ∧ cC x y = 1) := by
  unfold cC
  by_cases h1 : x < y
  · rw [if_pos h1]; exact Or.inl ⟨h1, rfl⟩
  · rw [if_neg h1]
    by_cases h2 : y < x
    · rw [if_pos h2]; exact Or.inr (Or.inr ⟨h2, rfl⟩)
    · rw [if_neg h2]; exact Or.inr (Or.inl ⟨by omega, rfl⟩)
theorem cmpG_lt (E : Nat → Ev) (D : Nat → Nat) (a b : Nat) : cmpG E (fun i => (D i : Int)) a b < 0 ↔ Bef E D a b := by
  unfold cmpG or3 Bef cB
  rcases cC_cases (D b : Int) (D a : Int) with ⟨h1, e1⟩ | ⟨h1, e1⟩ | ⟨h1, e1⟩
  · rw [e1, if_neg (by decide)]
    exact ⟨fun _ => Or.inl (by omega), fun _ => by decide⟩
  · rw [e1, if_pos rfl]
    rcases cC_cases (E a).tm (E b).tm with ⟨h2, e2⟩ | ⟨h2, e2⟩ | ⟨h2, e2⟩
    · rw [e2, if_neg (by decide)]
      exact ⟨fun _ => Or.inr ⟨by omega, Or.inl h2⟩, fun _ => by decide⟩
    · rw [e2, if_pos rfl]
      rcases cmp_casesG (E a).id.data.toList (E b).id.data.toList with ⟨h3, e3⟩ | ⟨h3, e3⟩ | ⟨h3, e3⟩
      · rw [e3]
        exact ⟨fun _ => Or.inr ⟨by omega, Or.inr ⟨h2, h3⟩⟩, fun _ => by decide⟩
      · rw [e3]
        refine ⟨fun h => absurd h (by decide), ?_⟩
        rintro (h | ⟨_, h | ⟨_, h⟩⟩)
        · omega
        · omega
        · rw [h3] at h; exact absurd h (List.lt_irrefl _)
      · rw [e3]
        refine ⟨fun h => absurd h (by decide), ?_⟩
        rintro (h | ⟨_, h | ⟨_, h⟩⟩)
        · omega
        · omega
        · exact absurd h (fun h' => List.lt_irrefl _ (List.lt_trans h' h3))
    · rw [e2, if_neg (by decide)]
      refine ⟨fun h => absurd h (by decide), ?_⟩
      rintro (h | ⟨_, h | ⟨_, h⟩⟩) <;> omega
  · rw [e1, if_neg (by decide)]
    refine ⟨fun h => absurd h (by decide), ?_⟩
    rintro (h | ⟨_, h⟩) <;> omega
end Go.Proofs.YtdapefcnmhbgkaaGreat
