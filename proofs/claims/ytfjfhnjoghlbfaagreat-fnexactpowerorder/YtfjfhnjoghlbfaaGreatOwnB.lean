import Derived.Test.YtfjfhnjoghlbfaaGreatProg
import Derived.Test.YtfjfhnjoghlbfaaGreatSl
import Derived.Test.YtfjfhnjoghlbfaaGreatPureA
import Derived.OwnWalk
import Derived.Deep.AppendLies
import Derived.Test.YtfjfhnjoghlbfaaGreatMkD
import Derived.Laws.OwnMore
/-
  Rows of texts that a call owns.
-/
namespace Go.Proofs.YtfjfhnjoghlbfaaGreat
open Go.RowKit

theorem Tryz.infoString : (Tryz.prog.info? 9).map (fun i => (i.zero, i.size, i.bytes)) = some (some (.string ByteArray.empty), 1, 16) := by kernel_rfl

theorem ownsRow_blw {w w' : World} {base e size n : Nat} {v : Value} {xs : List Value} (h : w.ownsRow base e size v n xs) (hb : Below w.heap.size w w') : w'.ownsRow base e size v n xs := by
  obtain ⟨h1, h2⟩ := h
  refine ⟨h1, ?_⟩
  rcases h2 with h2 | ⟨g, cap, cur, hv, hg, hh, r⟩
  · exact Or.inl h2
  · have hlt : g < w.heap.size := by
      rcases Nat.lt_or_ge g w.heap.size with h' | h'
      · exact h'
      · rw [Array.getElem?_eq_none h'] at hh; cases hh
    exact Or.inr ⟨g, cap, cur, hv, hg, by rw [hb.block g hlt]; exact hh, r⟩

/-- the first n texts as values. -/
def strs (S : Nat → ByteArray) (n : Nat) : List Value := (List.range n).map fun i => .string (S i)
theorem strs_len (S : Nat → ByteArray) (n : Nat) : (strs S n).length = n := by simp [strs]
theorem strs_get (S : Nat → ByteArray) (n i : Nat) (h : i < n) : (strs S n)[i]? = some (.string (S i)) := by simp [strs, h]
theorem strs_snoc (S : Nat → ByteArray) (n : Nat) : strs S n ++ [.string (S n)] = strs S (n + 1) := by simp [strs, List.range_succ]

/-- the value v owns the texts S 0 .. S (n-1), among the blocks from base on. -/
def OwnT (w : World) (base : Nat) (v : Value) (n : Nat) (S : Nat → ByteArray) : Prop := w.ownsRow base 9 1 v n (strs S n)

theorem OwnT.below {w w' : World} {base n : Nat} {v : Value} {S : Nat → ByteArray} (h : OwnT w base v n S) (hb : Below w.heap.size w w') : OwnT w' base v n S := ownsRow_blw h hb
theorem OwnT.snoc {w : World} {base n : Nat} {v : Value} {S : Nat → ByteArray} {x : ByteArray} (h : w.ownsRow base 9 1 v (n + 1) (strs S n ++ [.string x])) (hx : x = S n) : OwnT w base v (n + 1) S := by
  subst hx; rw [strs_snoc] at h; exact h
theorem OwnT.nil (w : World) (base : Nat) (S : Nat → ByteArray) : OwnT w base (.slice none 0 0) 0 S := ⟨rfl, Or.inl ⟨rfl, rfl⟩⟩
theorem OwnT.new (w : World) (base : Nat) (hb : base ≤ w.heap.size) (S : Nat → ByteArray) : OwnT (w.alloc (.cells #[] 9)) base (.slice (some ⟨w.heap.size, 0, none⟩) 0 0) 0 S :=
  ⟨rfl, Or.inr ⟨w.heap.size, 0, #[], rfl, hb, by show (w.heap.push _)[w.heap.size]? = _; simp, Nat.le_refl _, by decide, rfl, rfl⟩⟩

theorem OwnT.cells {w : World} {base n : Nat} {v : Value} {S : Nat → ByteArray} (h : OwnT w base v n S) :
    (v = .slice none 0 0 ∧ n = 0) ∨ ∃ g cap, v = .slice (some ⟨g, 0, none⟩) n cap ∧ base ≤ g ∧ g < w.heap.size ∧ n ≤ cap ∧ cap ≤ maxLen ∧ ∀ i, i < n → w.cell? ⟨g, 0 + i, none⟩ = some (.string (S i)) := by
  obtain ⟨h1, h2⟩ := h
  rcases h2 with ⟨rfl, h0⟩ | ⟨g, cap, cur, rfl, hg, hh, hn, hc, hcs, hx⟩
  · exact Or.inl ⟨rfl, h0⟩
  · have hlt : g < w.heap.size := by
      rcases Nat.lt_or_ge g w.heap.size with h' | h'
      · exact h'
      · rw [Array.getElem?_eq_none h'] at hh; cases hh
    refine Or.inr ⟨g, cap, rfl, hg, hlt, hn, hc, fun j hj => ?_⟩
    rw [← strs_get S n j hj, ← hx, List.getElem?_take, if_pos (by omega), Nat.zero_add]
    simp [World.cell?, hh]

theorem OwnT.sl {w : World} {base n : Nat} {v : Value} {S : Nat → ByteArray} (h : OwnT w base v n S) (hs : ∀ i, i < n → (S i).size ≤ maxLen) :
    ∃ a cap, v = .slice a n cap ∧ SlS w a n cap S := by
  rcases h.cells with ⟨rfl, rfl⟩ | ⟨g, cap, rfl, hg, hlt, hn, hc, hx⟩
  · exact ⟨none, 0, rfl, ⟨Nat.le_refl _, by decide, hs, Or.inl rfl⟩⟩
  · exact ⟨_, cap, rfl, ⟨hn, hc, hs, Or.inr ⟨g, 0, rfl, hlt, hx⟩⟩⟩

theorem one_cells (w1 : World) (x : Value) (t : TypeId) (j : Nat) (u : Value) (h : [x][j]? = some u) : (w1.alloc (.cells #[x] t)).cell? ((⟨w1.heap.size, 0, none⟩ : Addr).add j) = some u := by
  have hj : j < 1 := by
    rcases Nat.lt_or_ge j 1 with h' | h'
    · exact h'
    · rw [List.getElem?_eq_none (by simpa using h')] at h; cases h
  match j, hj, h with
  | 0, _, h => rw [show (⟨w1.heap.size, 0, none⟩ : Addr).add 0 = ⟨w1.heap.size, 0, none⟩ from rfl, World.cell?_alloc_at _ _ _ _ rfl]; exact h
theorem one_one (x : ByteArray) (u : Value) (h : u ∈ [Value.string x]) : u.oneCell' = true := by
  simp only [List.mem_cons, List.not_mem_nil, or_false] at h
  subst h; rfl

theorem eight_sl (W : World) (t : TypeId) (a b c d e f g h : ByteArray) (hs : ∀ i, (eight a b c d e f g h i).size ≤ 3200) :
    SlS (W.alloc (.cells #[.string a, .string b, .string c, .string d, .string e, .string f, .string g, .string h] t)) (some ⟨W.heap.size, 0, none⟩) 8 8 (eight a b c d e f g h) := by
  refine ⟨Nat.le_refl _, by decide, fun i _ => Nat.le_trans (hs i) (by decide), Or.inr ⟨_, 0, rfl, by simp, fun i hi => ?_⟩⟩
  rw [World.cell?_alloc_at _ _ _ _ rfl, Nat.zero_add]
  match i, hi with
  | 0, _ => rfl
  | 1, _ => rfl
  | 2, _ => rfl
  | 3, _ => rfl
  | 4, _ => rfl
  | 5, _ => rfl
  | 6, _ => rfl
  | 7, _ => rfl
end Go.Proofs.YtfjfhnjoghlbfaaGreat
/-
  Rows of texts that a call owns, by their list; sorted lists.
-/
namespace Go.Proofs.YtfjfhnjoghlbfaaGreat
open Go.RowKit

def getL (l : List ByteArray) (i : Nat) : ByteArray := l.getD i ByteArray.empty
theorem getL_some {l : List ByteArray} {i : Nat} (h : i < l.length) : l[i]? = some (getL l i) := by
  simp [getL, List.getD, List.getElem?_eq_getElem h]
theorem getL_mem {l : List ByteArray} {i : Nat} (h : i < l.length) : getL l i ∈ l := List.mem_of_getElem? (getL_some h)
theorem mem_getL {l : List ByteArray} {s : ByteArray} (h : s ∈ l) : ∃ i, i < l.length ∧ getL l i = s := by
  obtain ⟨i, hi, e⟩ := List.mem_iff_getElem.1 h
  exact ⟨i, hi, by simp [getL, List.getD, List.getElem?_eq_getElem hi, e]⟩

/-- the value v owns the texts of l, among the blocks from base on. -/
def OwnL (w : World) (base : Nat) (v : Value) (l : List ByteArray) : Prop := w.ownsRow base 9 1 v l.length (l.map Value.string)
theorem OwnL.below {w w' : World} {base : Nat} {v : Value} {l : List ByteArray} (h : OwnL w base v l) (hb : Below w.heap.size w w') : OwnL w' base v l := ownsRow_blw h hb
theorem OwnL.snoc {w : World} {base : Nat} {v : Value} {l : List ByteArray} {x : ByteArray} (h : w.ownsRow base 9 1 v (l.length + 1) (l.map Value.string ++ [.string x])) : OwnL w base v (l ++ [x]) := by
  unfold OwnL
  simpa using h
theorem OwnL.nil (w : World) (base : Nat) : OwnL w base (.slice none 0 0) [] := ⟨rfl, Or.inl ⟨rfl, rfl⟩⟩
theorem OwnL.new (w : World) (base : Nat) (hb : base ≤ w.heap.size) : OwnL (w.alloc (.cells #[] 9)) base (.slice (some ⟨w.heap.size, 0, none⟩) 0 0) [] :=
  ⟨rfl, Or.inr ⟨w.heap.size, 0, #[], rfl, hb, by show (w.heap.push _)[w.heap.size]? = _; simp, Nat.le_refl _, by decide, rfl, rfl⟩⟩
theorem OwnL.mono {w : World} {base base' : Nat} {v : Value} {l : List ByteArray} (h : OwnL w base v l) (hb : base' ≤ base) : OwnL w base' v l := by
  obtain ⟨h1, h2⟩ := h
  exact ⟨h1, h2.imp id fun ⟨g, cap, cur, e, hg, r⟩ => ⟨g, cap, cur, e, Nat.le_trans hb hg, r⟩⟩
theorem OwnL.kept {w w' : World} {base : Nat} {v : Value} {l : List ByteArray} (h : OwnL w base v l) (hb : ∀ g, base ≤ g → g < w.heap.size → w'.heap[g]? = w.heap[g]?) : OwnL w' base v l := by
  obtain ⟨h1, h2⟩ := h
  refine ⟨h1, ?_⟩
  rcases h2 with h2 | ⟨g, cap, cur, hv, hg, hh, r⟩
  · exact Or.inl h2
  · have hlt : g < w.heap.size := by
      rcases Nat.lt_or_ge g w.heap.size with h' | h'
      · exact h'
      · rw [Array.getElem?_eq_none h'] at hh; cases hh
    exact Or.inr ⟨g, cap, cur, hv, hg, by rw [hb g hg hlt]; exact hh, r⟩

theorem OwnL.shape {w : World} {base : Nat} {v : Value} {l : List ByteArray} (h : OwnL w base v l) :
    (v = .slice none 0 0 ∧ l = []) ∨ ∃ g cap, v = .slice (some ⟨g, 0, none⟩) l.length cap ∧ base ≤ g ∧ g < w.heap.size ∧ l.length ≤ cap ∧ cap ≤ maxLen := by
  obtain ⟨h1, h2⟩ := h
  rcases h2 with ⟨rfl, h0⟩ | ⟨g, cap, cur, rfl, hg, hh, hn, hc, hcs, hx⟩
  · exact Or.inl ⟨rfl, List.eq_nil_of_length_eq_zero h0⟩
  · have hlt : g < w.heap.size := by
      rcases Nat.lt_or_ge g w.heap.size with h' | h'
      · exact h'
      · rw [Array.getElem?_eq_none h'] at hh; cases hh
    exact Or.inr ⟨g, cap, rfl, hg, hlt, hn, hc⟩
theorem OwnL.cell {w : World} {base g cap n : Nat} {l : List ByteArray} (h : OwnL w base (.slice (some ⟨g, 0, none⟩) n cap) l) (hn : n = l.length) {i : Nat} (hi : i < l.length) : w.cell? ⟨g, i, none⟩ = some (.string (getL l i)) := by
  subst hn
  rw [World.ownsRow.cellAt h i (by omega), List.getElem?_map, getL_some hi]; rfl
theorem OwnL.frozen {w : World} {base g cap n : Nat} {l : List ByteArray} (h : OwnL w base (.slice (some ⟨g, 0, none⟩) n cap) l) (hn : n = l.length) (i : Nat) : w.frozen? ⟨g, i, none⟩ = false := by
  subst hn
  exact World.ownsRow.frozenAt h i
theorem OwnL.put {w : World} {base g cap n : Nat} {l : List ByteArray} (h : OwnL w base (.slice (some ⟨g, 0, none⟩) n cap) l) (hn : n = l.length) (i : Nat) (x : ByteArray) :
    OwnL (w.setCell ⟨g, i, none⟩ (.string x)) base (.slice (some ⟨g, 0, none⟩) n cap) (l.set i x) := by
  subst hn
  have := (World.ownsRow.stored h i (.string x)).1
  unfold OwnL
  rw [List.length_set, List.map_set]
  exact this

theorem OwnL.sl {w : World} {base : Nat} {v : Value} {l : List ByteArray} (h : OwnL w base v l) (hs : ∀ s ∈ l, s.size ≤ maxLen) :
    ∃ a cap, v = .slice a l.length cap ∧ SlS w a l.length cap (getL l) ∧ Wr0 w base a l.length := by
  rcases h.shape with ⟨rfl, rfl⟩ | ⟨g, cap, rfl, hg, hlt, hn, hc⟩
  · exact ⟨none, 0, rfl, ⟨Nat.le_refl _, by decide, fun i hi => absurd hi (Nat.not_lt_zero _), Or.inl rfl⟩, Or.inl rfl⟩
  · refine ⟨_, cap, rfl, ⟨hn, hc, fun i hi => hs _ (getL_mem hi), Or.inr ⟨g, 0, rfl, hlt, fun i hi => by rw [Nat.zero_add]; exact h.cell rfl hi⟩⟩, Or.inr ⟨g, 0, rfl, hg, hlt, fun i hi => ?_⟩⟩
    rw [Nat.zero_add]
    exact ⟨⟨_, h.cell rfl hi⟩, h.frozen rfl i⟩

/-- sorted, each once. -/
def Srt (l : List ByteArray) : Prop := l.Pairwise fun a b => a.data.toList < b.data.toList
theorem ba_inj {s t : ByteArray} (h : s.data.toList = t.data.toList) : s = t := by
  obtain ⟨s⟩ := s; obtain ⟨t⟩ := t
  exact congrArg _ (Array.toList_inj.1 h)
theorem Srt.nodup {l : List ByteArray} (h : Srt l) : l.Nodup := h.imp fun {a b} hab e => by subst e; exact absurd hab (List.lt_irrefl _)
theorem srt_unique {l1 l2 : List ByteArray} (h1 : Srt l1) (h2 : Srt l2) (h : ∀ s, s ∈ l1 ↔ s ∈ l2) : l1 = l2 := by
  refine List.Perm.eq_of_pairwise (le := fun a b : ByteArray => a.data.toList < b.data.toList) (fun a b _ _ hab hba => ?_) h1 h2 ((List.perm_ext_iff_of_nodup h1.nodup h2.nodup).2 h)
  exact absurd (List.lt_trans hab hba) (List.lt_irrefl _)

/-- x put into l at place k. -/
def insAt (l : List ByteArray) (k : Nat) (x : ByteArray) : List ByteArray := l.take k ++ x :: l.drop k
theorem insAt_len {l : List ByteArray} {k : Nat} {x : ByteArray} (h : k ≤ l.length) : (insAt l k x).length = l.length + 1 := by simp [insAt]; omega
theorem insAt_end (l : List ByteArray) (x : ByteArray) : insAt l l.length x = l ++ [x] := by simp [insAt]
theorem insAt_get {l : List ByteArray} {k : Nat} {x : ByteArray} (h : k ≤ l.length) : getL (insAt l k x) k = x := by
  simp [getL, insAt, List.getD, h]
theorem insAt_before {l : List ByteArray} {k : Nat} {x : ByteArray} (h : k < l.length) : getL (insAt l (k + 1) x) k = getL l k := by
  have : min (k + 1) l.length = k + 1 := by omega
  simp [getL, insAt, List.getD, List.getElem?_append, this, List.getElem?_eq_getElem h]
theorem insAt_swap {l : List ByteArray} {k : Nat} {x : ByteArray} (h : k < l.length) : ((insAt l (k + 1) x).set (k + 1) (getL l k)).set k x = insAt l k x := by
  apply List.ext_getElem?
  intro i
  have h1 : (insAt l (k + 1) x).length = l.length + 1 := insAt_len (by omega)
  have m1 : min (k + 1) l.length = k + 1 := by omega
  have m2 : min k l.length = k := by omega
  by_cases e1 : i = k
  · subst e1
    rw [List.getElem?_set_self (by rw [List.length_set, h1]; omega)]
    simp [insAt, m2]
  · rw [List.getElem?_set_ne (by omega)]
    by_cases e2 : i = k + 1
    · subst e2
      rw [List.getElem?_set_self (by rw [h1]; omega)]
      simp [insAt, List.getElem?_append, m2, getL, List.getD, List.getElem?_eq_getElem h]
    · rw [List.getElem?_set_ne (by omega)]
      unfold insAt
      rw [List.getElem?_append, List.getElem?_append, List.length_take, List.length_take, m1, m2]
      by_cases e3 : i < k
      · rw [if_pos (by omega), if_pos e3, List.getElem?_take, List.getElem?_take, if_pos (by omega), if_pos e3]
      · rw [if_neg (by omega), if_neg e3]
        obtain ⟨q, rfl⟩ : ∃ q, i = k + 2 + q := ⟨i - (k + 2), by omega⟩
        rw [show k + 2 + q - (k + 1) = q + 1 by omega, show k + 2 + q - k = (q + 1) + 1 by omega, List.getElem?_cons_succ, List.getElem?_cons_succ, List.getElem?_drop, List.getElem?_drop]
        congr 1
        omega
theorem insAt_mem {l : List ByteArray} {k : Nat} {x s : ByteArray} : s ∈ insAt l k x ↔ s = x ∨ s ∈ l := by
  unfold insAt
  rw [List.mem_append, List.mem_cons]
  constructor
  · rintro (h | h | h)
    · exact Or.inr (List.mem_of_mem_take h)
    · exact Or.inl h
    · exact Or.inr (List.mem_of_mem_drop h)
  · rintro (h | h)
    · exact Or.inr (Or.inl h)
    · rw [← List.take_append_drop k l, List.mem_append] at h
      exact h.imp id Or.inr
theorem insAt_srt {l : List ByteArray} {k : Nat} {x : ByteArray} (h : Srt l) (hlo : ∀ i, i < k → i < l.length → (getL l i).data.toList < x.data.toList) (hhi : ∀ i, k ≤ i → i < l.length → x.data.toList < (getL l i).data.toList) : Srt (insAt l k x) := by
  have h' : (l.take k ++ l.drop k).Pairwise fun a b : ByteArray => a.data.toList < b.data.toList := by rw [List.take_append_drop]; exact h
  obtain ⟨p1, p2, p3⟩ := List.pairwise_append.1 h'
  unfold Srt insAt
  refine List.pairwise_append.2 ⟨p1, List.pairwise_cons.2 ⟨fun b hb => ?_, p2⟩, fun a ha b hb => ?_⟩
  · obtain ⟨i, hi, rfl⟩ := mem_getL hb
    rw [List.length_drop] at hi
    have : getL (l.drop k) i = getL l (k + i) := by simp [getL, List.getD]
    rw [this]
    exact hhi _ (by omega) (by omega)
  · rcases List.mem_cons.1 hb with rfl | hb
    · obtain ⟨i, hi, rfl⟩ := mem_getL ha
      rw [List.length_take] at hi
      have : getL (l.take k) i = getL l i := by simp [getL, List.getD, show i < k by omega]
      rw [this]
      exact hlo _ (by omega) (by omega)
    · exact p3 a ha b hb
theorem srt_get {l : List ByteArray} (h : Srt l) {i j : Nat} (hij : i < j) (hj : j < l.length) : (getL l i).data.toList < (getL l j).data.toList := by
  have := List.pairwise_iff_getElem.1 h i j (by omega) hj hij
  simpa [getL, List.getD, List.getElem?_eq_getElem hj, List.getElem?_eq_getElem (show i < l.length by omega)] using this

theorem hasB_mem (l : List ByteArray) (s : ByteArray) : ∀ n, n ≤ l.length → (hasB (getL l) n s = true ↔ s ∈ l.take n)
  | 0, _ => by simp [hasB]
  | n + 1, h => by
    have e : l.take (n + 1) = l.take n ++ [getL l n] := by rw [List.take_add_one, getL_some (by omega)]; rfl
    rw [hasB, e, List.mem_append, Bool.or_eq_true, hasB_mem l s n (by omega), List.mem_singleton]
    refine or_congr Iff.rfl ⟨fun h => ?_, fun h => by rw [h]; simp⟩
    rw [beq_iff_eq, ByteArray.toList_eq, ByteArray.toList_eq] at h
    exact (ba_inj h).symm
end Go.Proofs.YtfjfhnjoghlbfaaGreat
