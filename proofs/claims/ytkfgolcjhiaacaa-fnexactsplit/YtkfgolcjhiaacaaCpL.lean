/-
  slices.Sort and slices.Compact at a row of texts of the call's own.
-/
import Derived.Test.YtkfgolcjhiaacaaOwnL
import Derived.Test.YtkfgolcjhiaacaaShelf
import Derived.Sort.OwnSorted
import Derived.Lib.SlicesCompact
import Derived.Lib.RowBridge
namespace Go.Proofs.Ytkfgolcjhiaacaa
open Go.RowKit Go.Sort

/-- texts as bytes, in order. -/
def bytS (l : List ByteArray) : List (List UInt8) := l.map fun s => s.data.toList
def srtS (l : List ByteArray) : List (List UInt8) := (bytS l).mergeSort fun x y => decide (x ≤ y)
def txtS (x : List UInt8) : ByteArray := ⟨x.toArray⟩
theorem txtS_bytes (s : ByteArray) : txtS s.data.toList = s := by unfold txtS; rw [Array.toArray_toList]
theorem bytS_txtS (z : List (List UInt8)) : bytS (z.map txtS) = z := by
  unfold bytS
  rw [List.map_map]
  have : ((fun s : ByteArray => s.data.toList) ∘ txtS) = id := by funext x; simp [txtS]
  rw [this, List.map_id]
theorem leT_trans (a b c : List UInt8) (h1 : decide (a ≤ b) = true) (h2 : decide (b ≤ c) = true) : decide (a ≤ c) = true := by
  rw [decide_eq_true_eq] at *
  exact List.le_trans h1 h2
theorem leT_total (a b : List UInt8) : (decide (a ≤ b) || decide (b ≤ a)) = true := by
  rw [Bool.or_eq_true, decide_eq_true_eq, decide_eq_true_eq]
  exact List.le_total a b
theorem srtS_le (l : List ByteArray) : (srtS l).Pairwise fun x y => x ≤ y := by
  have h1 : (srtS l).Pairwise fun x y => decide (x ≤ y) = true := List.pairwise_mergeSort leT_trans leT_total _
  exact h1.imp fun {a b} h => of_decide_eq_true h
theorem srtS_mem (l : List ByteArray) (x : List UInt8) : x ∈ srtS l ↔ txtS x ∈ l := by
  unfold srtS bytS
  rw [List.mem_mergeSort, List.mem_map]
  constructor
  · rintro ⟨s, hs, rfl⟩
    rw [txtS_bytes]; exact hs
  · intro h
    exact ⟨txtS x, h, by simp [txtS]⟩
theorem srtS_len (l : List ByteArray) : (srtS l).length = l.length := by simp [srtS, bytS]

/-- what is kept of a list in order. -/
theorem comp_facts {z : List (List UInt8)} (h : z.Pairwise fun x y => x ≤ y) : ∀ m, m ≤ z.length → (Lib.compactUpTo z.toArray m).Pairwise (fun x y => x < y) ∧ (∀ x, x ∈ Lib.compactUpTo z.toArray m ↔ ∃ i, i < m ∧ z.toArray[i]! = x) ∧ (∀ x ∈ Lib.compactUpTo z.toArray m, 0 < m → x ≤ z.toArray[m - 1]!)
  | 0, _ => ⟨(by simp [Lib.compactUpTo]), fun x => ⟨fun hx => (by simp [Lib.compactUpTo] at hx), fun ⟨i, hi, _⟩ => absurd hi (Nat.not_lt_zero _)⟩, fun x hx => (by simp [Lib.compactUpTo] at hx)⟩
  | m + 1, hm => by
    obtain ⟨i1, i2, i3⟩ := comp_facts h m (by omega)
    have hget : ∀ i, i < z.length → z.toArray[i]! = z.getD i [] := fun i hi => by simp [hi]
    have hle : ∀ i, i ≤ m → z.toArray[i]! ≤ z.toArray[m]! := fun i hi => by
      by_cases e : i = m
      · rw [e]; exact List.le_refl _
      · have := List.pairwise_iff_getElem.1 h i m (by omega) (by omega) (by omega)
        simpa [show i < z.length by omega, show m < z.length by omega] using this
    rw [Lib.compactUpTo_succ]
    by_cases hk : Lib.keeps z.toArray m = true
    · rw [if_pos hk]
      have hlt : ∀ x ∈ Lib.compactUpTo z.toArray m, x < z.toArray[m]! := fun x hx => by
        obtain ⟨i, hi, _⟩ := (i2 x).1 hx
        have h1 := i3 x hx (by omega)
        have h2 := hle (m - 1) (by omega)
        have h3 : z.toArray[m]! ≠ z.toArray[m - 1]! := by
          have := of_decide_eq_true hk
          rcases this with h0 | h0
          · omega
          · exact h0
        rcases List.le_iff_lt_or_eq.1 h2 with h4 | h4
        · exact List.lt_of_le_of_lt h1 h4
        · exact absurd h4.symm h3
      refine ⟨List.pairwise_append.2 ⟨i1, List.pairwise_singleton _ _, fun x hx y hy => ?_⟩, fun x => ?_, fun x hx _ => ?_⟩
      · rw [List.mem_singleton] at hy; rw [hy]; exact hlt x hx
      · rw [List.mem_append, i2, List.mem_singleton]
        constructor
        · rintro (⟨i, hi, e⟩ | rfl)
          · exact ⟨i, by omega, e⟩
          · exact ⟨m, by omega, rfl⟩
        · rintro ⟨i, hi, e⟩
          by_cases em : i = m
          · subst em; exact Or.inr e.symm
          · exact Or.inl ⟨i, by omega, e⟩
      · rw [Nat.add_sub_cancel]
        rcases List.mem_append.1 hx with hx | hx
        · exact List.le_of_lt (hlt x hx)
        · rw [List.mem_singleton] at hx; rw [hx]; exact List.le_refl _
    · rw [if_neg hk, List.append_nil]
      have hm0 : 0 < m := by
        rcases Nat.eq_zero_or_pos m with h0 | h0
        · subst h0; exact absurd (Lib.keeps_lt_one _ 0 (by omega)) hk
        · exact h0
      have he : z.toArray[m]! = z.toArray[m - 1]! := by
        by_cases e : z.toArray[m]! = z.toArray[m - 1]!
        · exact e
        · exact absurd (Lib.keeps_pos e) hk
      refine ⟨i1, fun x => ?_, fun x hx _ => ?_⟩
      · rw [i2]
        constructor
        · rintro ⟨i, hi, e⟩; exact ⟨i, by omega, e⟩
        · rintro ⟨i, hi, e⟩
          by_cases em : i = m
          · subst em; exact ⟨i - 1, by omega, by rw [← he]; exact e⟩
          · exact ⟨i, by omega, e⟩
      · rw [Nat.add_sub_cancel, he]
        exact i3 x hx hm0
/-- sorted and compacted: each text once, in order. -/
theorem comp_srt (l : List ByteArray) : Srt ((Lib.compact (srtS l)).map txtS) ∧ ∀ t, t ∈ (Lib.compact (srtS l)).map txtS ↔ t ∈ l := by
  obtain ⟨h1, h2, _⟩ := comp_facts (srtS_le l) (srtS l).length (Nat.le_refl _)
  have hm : ∀ x, x ∈ Lib.compact (srtS l) ↔ x ∈ srtS l := fun x => by
    show x ∈ Lib.compactUpTo (srtS l).toArray (srtS l).length ↔ _
    rw [h2]
    constructor
    · rintro ⟨i, hi, rfl⟩
      rw [getElem!_pos (srtS l).toArray i (by simpa using hi)]
      simp
    · intro hx
      obtain ⟨i, hi, rfl⟩ := List.mem_iff_getElem.1 hx
      exact ⟨i, hi, by rw [getElem!_pos (srtS l).toArray i (by simpa using hi)]; simp⟩
  refine ⟨List.pairwise_map.2 (h1.imp fun {a b} hab => by simpa [txtS] using hab), fun t => ?_⟩
  rw [List.mem_map]
  constructor
  · rintro ⟨x, hx, rfl⟩
    exact (srtS_mem l x).1 ((hm x).1 hx)
  · intro ht
    exact ⟨t.data.toList, (hm _).2 ((srtS_mem l _).2 (by rw [txtS_bytes]; exact ht)), txtS_bytes t⟩

theorem encS_of (l : List ByteArray) : (bytS l).map encStr = l.map Value.string := by
  unfold bytS
  rw [List.map_map]
  exact List.map_congr_left fun s _ => by simp [encStr]
theorem encS_txt (l : List (List UInt8)) : (l.map txtS).map Value.string = l.map encStr := by
  rw [List.map_map]
  exact List.map_congr_left fun s _ => by simp [encStr, txtS]
theorem grown_reflS (w : World) (row : Option Nat) : w.grownBy w row := ⟨rfl, rfl, rfl, Nat.le_refl _, fun _ _ _ => rfl⟩

theorem sortS_own {w : World} {base : Nat} {v : Value} {l : List ByteArray} (h : OwnL w base v l) (hl : l.length ≤ 1048576) :
    Calls Try.prog 41 #[v] w fun e w' => e = .returned (.tuple #[]) ∧ OwnL w' base v ((srtS l).map txtS) ∧ w.grownBy w' v.ownBlock := by
  have h' := h
  obtain ⟨h1, h2⟩ := h
  rcases h2 with ⟨rfl, h0⟩ | ⟨g, cap, cur, rfl, hg, hh, hn, hc, hcs, hx⟩
  · have : l = [] := List.eq_nil_of_length_eq_zero h0
    subst this
    refine (Try.slices_Sort_string_none none 0 w).mono ?_
    rintro e w' ⟨rfl, rfl⟩
    exact ⟨rfl, by simpa [srtS, bytS] using h', grown_reflS _ _⟩
  · have hlt : g < w.heap.size := (Array.getElem?_eq_some_iff.1 hh).1
    have e1 : (bytS l).length = l.length := by simp [bytS]
    have ht : cur.toList.take (bytS l).length = (bytS l).map encStr := by rw [encS_of, e1]; simpa using hx
    have hC := Try.slices_Sort_string g 0 cap (bytS l) w (holds_of_block hh ht) hlt (by rw [e1]; omega)
    rw [e1] at hC
    refine hC.mono ?_
    rintro e w' ⟨rfl, nn, os, rfl⟩
    refine ⟨rfl, ?_, grownBy_sorted _⟩
    have hs := ownsRow_sorted (w := w) (n := nn) (os := os) (ss := bytS l) (ts := srtS l) (by rw [srtS_len, e1]) hg hh (by rw [e1]; exact hn) hc hcs
    rw [e1] at hs
    unfold OwnL
    rw [List.length_map, srtS_len, encS_txt]
    exact hs

theorem compS_own {w : World} {base : Nat} {v : Value} {l : List ByteArray} (h : OwnL w base v l) (hl : l.length ≤ 1048576) :
    Calls Try.prog 42 #[v] w fun e w' => ∃ v', e = .returned v' ∧ OwnL w' base v' ((Lib.compact (bytS l)).map txtS) ∧ w.grownBy w' v.ownBlock := by
  have h' := h
  obtain ⟨h1, h2⟩ := h
  rcases h2 with ⟨rfl, h0⟩ | ⟨g, cap, cur, rfl, hg, hh, hn, hc, hcs, hx⟩
  · have : l = [] := List.eq_nil_of_length_eq_zero h0
    subst this
    refine (Try.slices_Compact_string_empty none 0 w).mono ?_
    rintro e w' ⟨rfl, rfl⟩
    exact ⟨_, rfl, by simpa [bytS, Lib.compact, Lib.compactUpTo] using h', grown_reflS _ _⟩
  · have e1 : (bytS l).length = l.length := by simp [bytS]
    have ht : cur.toList.take (bytS l).length = (bytS l).map encStr := by rw [encS_of, e1]; simpa using hx
    have hC := Try.slices_Compact_string g 0 cap (bytS l) w (holds_of_block hh ht) (by rw [e1]; omega) (by rw [e1]; exact hn)
    rw [e1] at hC
    refine hC.mono ?_
    rintro e w' ⟨rfl, q, rfl⟩
    have hcl := Lib.compact_length_le (bytS l)
    obtain ⟨K, hK⟩ : ∃ K, K = Lib.compact (bytS l) := ⟨_, rfl⟩
    rw [← hK] at hcl ⊢
    have hts : (K ++ List.replicate (l.length - K.length) []).length = (bytS l).length := by rw [List.length_append, List.length_replicate, e1]; omega
    have hs := ownsRow_sorted (w := w) (n := q) (os := #[]) (ss := bytS l) (ts := K ++ List.replicate (l.length - K.length) []) hts hg hh (by rw [e1]; exact hn) hc hcs
    have hg2 := grownBy_sorted (w := w) (g := g) (n := q) (os := #[]) (K ++ List.replicate (l.length - K.length) []).toArray
    rw [grow_empty] at hs hg2
    refine ⟨_, rfl, ?_, hg2⟩
    obtain ⟨_, hs2⟩ := hs
    rcases hs2 with ⟨hf, _⟩ | ⟨g', cap', cur', ev, hg', hh', hn', hc', hcs', hx'⟩
    · cases hf
    · injection ev with ev1 ev2 ev3
      injection ev1 with ev1
      injection ev1 with ev1 _ _
      subst ev1 ev3
      unfold OwnL
      rw [List.length_map, encS_txt]
      refine ⟨by simp, Or.inr ⟨g, cap, cur', rfl, hg', hh', by omega, hc', hcs', ?_⟩⟩
      have : (cur'.toList.take ((bytS l).length * 1)).take K.length = ((K ++ List.replicate (l.length - K.length) []).map encStr).take K.length := by rw [hx']
      rw [List.take_take, Nat.min_eq_left (by omega)] at this
      rw [Nat.mul_one, this, List.map_append, List.take_append_of_le_length (by simp), List.take_of_length_le (by simp)]
end Go.Proofs.Ytkfgolcjhiaacaa
