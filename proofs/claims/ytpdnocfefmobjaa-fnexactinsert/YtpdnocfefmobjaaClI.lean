/-
  slices.Clone at texts and at grants.
-/
import Derived.Test.YtpdnocfefmobjaaOwnG
import Derived.Lib.SliceRun
namespace Go.Proofs.Ytpdnocfefmobjaa
open Go.RowKit

theorem strs_src {w : World} {b off n : Nat} {S : Nat → ByteArray} (hc : ∀ i, i < n → w.cell? ⟨b, off + i, none⟩ = some (.string (S i))) (j : Nat) (u : Value) (h : (strs S n)[j]? = some u) : w.cell? ((⟨b, off, none⟩ : Addr).add j) = some u := by
  have hj : j < n := by
    have := (List.getElem?_eq_some_iff.1 h).1
    rwa [strs_len] at this
  rw [strs_get S n j hj] at h
  rw [Addr.add_lit]
  exact (hc j hj).trans h
theorem strs_one (S : Nat → ByteArray) (n : Nat) (u : Value) (h : u ∈ strs S n) : u.oneCell' = true := by
  unfold strs at h
  obtain ⟨i, _, rfl⟩ := List.mem_map.1 h
  rfl
theorem encG_src {w : World} {b off n : Nat} {M : Nat → ByteArray} {L : Nat → Int} (h1 : ∀ i, i < n → w.cell? ⟨b, off + i * 2, none⟩ = some (.string (M i))) (h2 : ∀ i, i < n → w.cell? ⟨b, off + i * 2 + 1, none⟩ = some (.int .i64 (L i))) (j : Nat) (u : Value) (h : (encG M L n)[j]? = some u) : w.cell? ((⟨b, off, none⟩ : Addr).add j) = some u := by
  have hj : j < n * 2 := by
    have := (List.getElem?_eq_some_iff.1 h).1
    rwa [encG_len] at this
  have hi := encG_get M L n (j / 2) (by omega)
  rcases (by omega : j = j / 2 * 2 ∨ j = j / 2 * 2 + 1) with e | e
  · rw [e, hi.1] at h
    have := (h1 (j / 2) (by omega)).trans h
    rw [← e] at this
    rw [Addr.add_lit]
    exact this
  · rw [e, hi.2] at h
    have := (h2 (j / 2) (by omega)).trans h
    rw [show off + j / 2 * 2 + 1 = off + j by omega] at this
    rw [Addr.add_lit]
    exact this
theorem encG_one (M : Nat → ByteArray) (L : Nat → Int) (n : Nat) (u : Value) (h : u ∈ encG M L n) : u.oneCell' = true := by
  unfold encG at h
  obtain ⟨i, _, hi⟩ := List.mem_flatMap.1 h
  simp only [List.mem_cons, List.not_mem_nil, or_false] at hi
  rcases hi with rfl | rfl <;> rfl
theorem OwnG.slw {w : World} {base n : Nat} {v : Value} {M : Nat → ByteArray} {L : Nat → Int} (h : OwnG w base v n M L) (hs : ∀ i, i < n → (M i).size ≤ maxLen) :
    ∃ a cap, v = .slice a n cap ∧ SlG w a n cap M L ∧ SlW w base a n 2 := by
  rcases row_cells h with ⟨rfl, rfl⟩ | ⟨g, cap, rfl, hg, hlt, hn, hc, hx, hf⟩
  · exact ⟨none, 0, rfl, ⟨Nat.le_refl _, by decide, hs, Or.inl rfl⟩, Or.inl rfl⟩
  · refine ⟨_, cap, rfl, ⟨hn, hc, hs, Or.inr ⟨g, 0, rfl, hlt, fun i hi => ?_, fun i hi => ?_⟩⟩, Or.inr ⟨g, 0, rfl, hg, hlt, fun i hi => ⟨?_, hf _⟩⟩⟩
    · rw [show 0 + i * 2 = 0 + (i * 2) by omega, hx _ (by omega)]; exact (encG_get M L n i hi).1
    · rw [show 0 + i * 2 + 1 = 0 + (i * 2 + 1) by omega, hx _ (by omega)]; exact (encG_get M L n i hi).2
    · exact ⟨_, (hx i hi).trans (List.getElem?_eq_getElem (by rw [encG_len]; omega))⟩

set_option maxRecDepth 100000 in
set_option maxHeartbeats 1000000 in
theorem clS_sl {a : Option Addr} {n cap : Nat} {S : Nat → ByteArray} (w : World) (hr : n * 16 ≤ 140737488355328) (h : SlS w a n cap S) :
    Calls Try.prog 41 #[.slice a n cap] w fun x w' => ∃ a' c', x = .returned (.slice a' n c') ∧ SlS w' a' n c' S ∧ SlW w' w.heap.size a' n 1 ∧ Below w.heap.size w w' := by
  have q22 : ∀ (w : World) (a : Option Addr) (n c n' c' : Nat), (binOp .eql 25 (.slice a n c) (.slice none n' c')).run Try.prog w = .ok (.bool a.isNone) w := fun w a n c n' c' => Lib.run_eql_slice_nil w _ _ a n c n' c' Try.underlying25
  obtain ⟨i0, hi, hz0, hz1, hz2⟩ := info_parts Try.infoString
  have hsz := h.size
  have hn : n ≤ maxLen := Nat.le_trans h.le h.max
  cases a with
  | none =>
    have hn0 : n = 0 := by
      rcases h.cells with h0 | ⟨b, off, e, _⟩
      · exact h0
      · cases e
    subst hn0
    clear h
    go_enter Try.func41, Try.ntmps41
    go_wp2
    go_ret
    exact ⟨none, 0, rfl, ⟨Nat.le_refl _, by decide, hsz, Or.inl rfl⟩, Or.inl rfl, Below.refl _ _⟩
  | some ad =>
    have HS : Hid (∀ j u, (strs S n)[j]? = some u → (w.alloc (.cells #[] 9)).cell? (ad.add j) = some u) := fun j u hj => by
      rcases h.cells with rfl | ⟨b, off, e, hb, hc⟩
      · cases hj
      · injection e with e
        subst e
        have hb0 : Below w.heap.size w (w.alloc (.cells #[] 9)) := (Below.refl _ _).alloc (Nat.le_refl _) _
        have := strs_src hc j u hj
        rw [Addr.add_lit] at this ⊢
        exact (hb0.cell (by exact hb)).trans this
    clear h
    go_enter Try.func41, Try.ntmps41
    go_wp2_with (at_builtin; refine wpList_append_own _ rfl _ _ 25 rfl w.heap.size 9 i0 (.string ByteArray.empty) 1 16 Try.underlying25 hi hz0 hz1 hz2 rfl (by decide) _ _ _ rfl (OwnT.new w w.heap.size (Nat.le_refl _) S) ad n cap (strs S n) rfl (by rw [strs_len, Nat.mul_one]) HS.out (strs_one S n) (by rw [Nat.zero_add]; exact hn) (by rw [Nat.zero_add]; exact hr) (by simp) ?_; intro v' w1 hown hgrow _)
    have hown' : OwnT w1 w.heap.size v' n S := by
      unfold OwnT
      have := hown
      rw [Nat.zero_add] at this
      exact this
    obtain ⟨a', c', rfl, h1, h2⟩ := hown'.slw hsz
    have hbel : Below w.heap.size w w1 := ((Below.refl _ w).alloc (Nat.le_refl _) _).grown hgrow (by simp) (fun k hk => by
      have hk2 : some w.heap.size = some k := hk
      injection hk2 with hk2
      omega)
    clear hown hown' hgrow
    go_wp2
    go_ret
    exact ⟨a', c', rfl, h1, h2, hbel⟩

set_option maxRecDepth 100000 in
set_option maxHeartbeats 1000000 in
theorem clG_sl {a : Option Addr} {n cap : Nat} {M : Nat → ByteArray} {L : Nat → Int} (w : World) (hr : n * 24 ≤ 140737488355328) (h : SlG w a n cap M L) :
    Calls Try.prog 42 #[.slice a n cap] w fun x w' => ∃ a' c', x = .returned (.slice a' n c') ∧ SlG w' a' n c' M L ∧ SlW w' w.heap.size a' n 2 ∧ Below w.heap.size w w' := by
  have q22 : ∀ (w : World) (a : Option Addr) (n c n' c' : Nat), (binOp .eql 37 (.slice a n c) (.slice none n' c')).run Try.prog w = .ok (.bool a.isNone) w := fun w a n c n' c' => Lib.run_eql_slice_nil w _ _ a n c n' c' Try.underlying37
  obtain ⟨i0, hi, hz0, hz1, hz2⟩ := info_parts Try.infoGrant
  have hsz := h.size
  have hn : n ≤ maxLen := Nat.le_trans h.le h.max
  cases a with
  | none =>
    have hn0 : n = 0 := by
      rcases h.cells with h0 | ⟨b, off, e, _⟩
      · exact h0
      · cases e
    subst hn0
    clear h
    go_enter Try.func42, Try.ntmps42
    go_wp2
    go_ret
    exact ⟨none, 0, rfl, ⟨Nat.le_refl _, by decide, hsz, Or.inl rfl⟩, Or.inl rfl, Below.refl _ _⟩
  | some ad =>
    have HS : Hid (∀ j u, (encG M L n)[j]? = some u → (w.alloc (.cells #[] 69)).cell? (ad.add j) = some u) := fun j u hj => by
      rcases h.cells with rfl | ⟨b, off, e, hb, h1, h2⟩
      · cases hj
      · injection e with e
        subst e
        have hb0 : Below w.heap.size w (w.alloc (.cells #[] 69)) := (Below.refl _ _).alloc (Nat.le_refl _) _
        have := encG_src h1 h2 j u hj
        rw [Addr.add_lit] at this ⊢
        exact (hb0.cell (by exact hb)).trans this
    clear h
    go_enter Try.func42, Try.ntmps42
    go_wp2_with (at_builtin; refine wpList_append_own _ rfl _ _ 37 rfl w.heap.size 69 i0 (.agg #[.string ByteArray.empty, .int .i64 0]) 2 24 Try.underlying37 hi hz0 hz1 hz2 rfl (by decide) _ _ _ rfl (OwnG.new w w.heap.size (Nat.le_refl _) M L) ad n cap (encG M L n) rfl (encG_len M L n) HS.out (encG_one M L n) (by rw [Nat.zero_add]; exact hn) (by rw [Nat.zero_add]; exact hr) (by simp) ?_; intro v' w1 hown hgrow _)
    have hown' : OwnG w1 w.heap.size v' n M L := by
      unfold OwnG
      have := hown
      rw [Nat.zero_add] at this
      exact this
    obtain ⟨a', c', rfl, h1, h2⟩ := hown'.slw hsz
    have hbel : Below w.heap.size w w1 := ((Below.refl _ w).alloc (Nat.le_refl _) _).grown hgrow (by simp) (fun k hk => by
      have hk2 : some w.heap.size = some k := hk
      injection hk2 with hk2
      omega)
    clear hown hown' hgrow
    go_wp2
    go_ret
    exact ⟨a', c', rfl, h1, h2, hbel⟩
end Go.Proofs.Ytpdnocfefmobjaa
