import Derived.Test.YtihacnhmiopalaaDoorOwnTT
namespace Go.Proofs.YtihacnhmiopalaaDoor
open Go.RowKit
theorem Tryd.infoGrant : (Tryd.prog.info? 57).map (fun i => (i.zero, i.size, i.bytes)) = some (some (.agg #[.string ByteArray.empty, .int .i64 0]), 2, 24) := by kernel_rfl
def encG (M : Nat -> ByteArray) (L : Nat -> Int) (n : Nat) : List Value := (List.range n).flatMap fun i => [.string (M i), .int .i64 (L i)]
theorem encG_snoc (M : Nat -> ByteArray) (L : Nat -> Int) (n : Nat) : encG M L n ++ [.string (M n), .int .i64 (L n)] = encG M L (n + 1) := by simp [encG, List.range_succ]
theorem encG_len (M : Nat -> ByteArray) (L : Nat -> Int) (n : Nat) : (encG M L n).length = n * 2 := by
 induction n with
 | zero => rfl
 | succ n ih => rw [<- encG_snoc, List.length_append, ih]; simp; omega
theorem encG_get (M : Nat -> ByteArray) (L : Nat -> Int) : ∀ n i, i < n -> (encG M L n)[i * 2]? = some (.string (M i)) ∧ (encG M L n)[i * 2 + 1]? = some (.int .i64 (L i))
 | 0, _, h => absurd h (Nat.not_lt_zero _)
 | n + 1, i, h => by
  rw [<- encG_snoc]
  by_cases e : i = n
  ·subst e
   rw [List.getElem?_append_right (by rw [encG_len]; omega), List.getElem?_append_right (by rw [encG_len]; omega), encG_len]
   simp
  ·have := encG_get M L n i (by omega)
   rw [List.getElem?_append_left (by rw [encG_len]; omega), List.getElem?_append_left (by rw [encG_len]; omega)]
   exact this
def OwnG (w : World) (base : Nat) (v : Value) (n : Nat) (M : Nat -> ByteArray) (L : Nat -> Int) : Prop := w.ownsRow base 57 2 v n (encG M L n)
theorem OwnG.below {w w' : World} {base n : Nat} {v : Value} {M : Nat -> ByteArray} {L : Nat -> Int} (h : OwnG w base v n M L) (hb : Below w.heap.size w w') : OwnG w' base v n M L := ownsRow_blw h hb
theorem OwnG.snoc {w : World} {base n : Nat} {v : Value} {M : Nat -> ByteArray} {L : Nat -> Int} {x : ByteArray} {z : Int} (h : w.ownsRow base 57 2 v (n + 1) (encG M L n ++ [.string x, .int .i64 z])) (hx : x = M n) (hz : z = L n) : OwnG w base v (n + 1) M L := by
 subst hx hz; rw [encG_snoc] at h; exact h
theorem OwnG.nil (w : World) (base : Nat) (M : Nat -> ByteArray) (L : Nat -> Int) : OwnG w base (.slice none 0 0) 0 M L := ⟨rfl, Or.inl ⟨rfl, rfl⟩⟩
theorem OwnG.new (w : World) (base : Nat) (hb : base <= w.heap.size) (M : Nat -> ByteArray) (L : Nat -> Int) : OwnG (w.alloc (.cells #[] 57)) base (.slice (some ⟨w.heap.size, 0, none⟩) 0 0) 0 M L :=
 ⟨rfl, Or.inr ⟨w.heap.size, 0, #[], rfl, hb, by show (w.heap.push _)[w.heap.size]? = _; simp, Nat.le_refl _, by decide, rfl, rfl⟩⟩
def SlW (w : World) (base : Nat) (a : Option Addr) (n sz : Nat) : Prop :=
 n = 0 ∨ ∃ b off, a = some ⟨b, off, none⟩ ∧ base <= b ∧ b < w.heap.size ∧ ∀ i, i < n * sz -> (∃ v, w.cell? ⟨b, off + i, none⟩ = some v) ∧ w.frozen? ⟨b, off + i, none⟩ = false
theorem SlW.below {w w' : World} {base n sz : Nat} {a : Option Addr} (h : SlW w base a n sz) (hb : Below w.heap.size w w') : SlW w' base a n sz :=
 h.imp id fun ⟨b, off, e, h1, h2, hc⟩ => ⟨b, off, e, h1, Nat.lt_of_lt_of_le h2 hb.size, fun i hi => by
  obtain ⟨⟨v, hv⟩, hf⟩ := hc i hi
  exact ⟨⟨v, (hb.cell (by exact h2)).trans hv⟩, (hb.frozen (by exact h2)).trans hf⟩⟩
theorem SlW.base_le {w : World} {base base' n sz : Nat} {a : Option Addr} (h : SlW w base a n sz) (hb : base' <= base) : SlW w base' a n sz :=
 h.imp id fun ⟨b, off, e, h1, h2, hc⟩ => ⟨b, off, e, Nat.le_trans hb h1, h2, hc⟩
theorem row_cells {w : World} {base e size n : Nat} {v : Value} {xs : List Value} (h : w.ownsRow base e size v n xs) :
  (v = .slice none 0 0 ∧ n = 0) ∨ ∃ g cap, v = .slice (some ⟨g, 0, none⟩) n cap ∧ base <= g ∧ g < w.heap.size ∧ n <= cap ∧ cap <= maxLen ∧ (∀ j, j < n * size -> w.cell? ⟨g, 0 + j, none⟩ = xs[j]?) ∧ ∀ j, w.frozen? ⟨g, j, none⟩ = false := by
 obtain ⟨h1, h2⟩ := h
 rcases h2 with ⟨rfl, h0⟩ | ⟨g, cap, cur, rfl, hg, hh, hn, hc, hcs, hx⟩
 ·exact Or.inl ⟨rfl, h0⟩
 ·have hlt : g < w.heap.size := by
   rcases Nat.lt_or_ge g w.heap.size with h' | h'
   ·exact h'
   ·rw [Array.getElem?_eq_none h'] at hh; cases hh
  refine Or.inr ⟨g, cap, rfl, hg, hlt, hn, hc, fun j hj => ?_, fun j => ?_⟩
  ·rw [<- hx, List.getElem?_take, if_pos hj, Nat.zero_add]
   simp [World.cell?, hh]
  ·simp [World.frozen?, hh]
theorem OwnG.sl {w : World} {base n : Nat} {v : Value} {M : Nat -> ByteArray} {L : Nat -> Int} (h : OwnG w base v n M L) (hs : ∀ i, i < n -> (M i).size <= maxLen) :
  ∃ a cap, v = .slice a n cap ∧ SlG w a n cap M L ∧ SlW w base a n 2 := by
 have hlen : (encG M L n).length = n * 2 := encG_len M L n
 rcases row_cells h with ⟨rfl, rfl⟩ | ⟨g, cap, rfl, hg, hlt, hn, hc, hx, hf⟩
 ·exact ⟨none, 0, rfl, ⟨Nat.le_refl _, by decide, hs, Or.inl rfl⟩, Or.inl rfl⟩
 ·refine ⟨_, cap, rfl, ⟨hn, hc, hs, Or.inr ⟨g, 0, rfl, hlt, fun i hi => ?_, fun i hi => ?_⟩⟩, Or.inr ⟨g, 0, rfl, hg, hlt, fun i hi => ⟨?_, hf _⟩⟩⟩
  ·rw [hx _ (by omega)]; exact (encG_get M L n i hi).1
  ·rw [Nat.add_assoc, hx _ (by omega)]; exact (encG_get M L n i hi).2
  ·exact ⟨_, (hx i hi).trans (List.getElem?_eq_getElem (by rw [hlen]; exact hi))⟩
theorem OwnT.slw {w : World} {base n : Nat} {v : Value} {S : Nat -> ByteArray} (h : OwnT w base v n S) (hs : ∀ i, i < n -> (S i).size <= maxLen) :
  ∃ a cap, v = .slice a n cap ∧ SlS w a n cap S ∧ SlW w base a n 1 := by
 rcases row_cells h with ⟨rfl, rfl⟩ | ⟨g, cap, rfl, hg, hlt, hn, hc, hx, hf⟩
 ·exact ⟨none, 0, rfl, ⟨Nat.le_refl _, by decide, hs, Or.inl rfl⟩, Or.inl rfl⟩
 ·refine ⟨_, cap, rfl, ⟨hn, hc, hs, Or.inr ⟨g, 0, rfl, hlt, fun i hi => ?_⟩⟩, Or.inr ⟨g, 0, rfl, hg, hlt, fun i hi => ⟨?_, hf _⟩⟩⟩
  ·rw [hx _ (by omega)]; exact strs_get S n i hi
  ·exact ⟨_, (hx i hi).trans (List.getElem?_eq_getElem (by rw [strs_len]; omega))⟩
theorem two_cells (w1 : World) (x y : Value) (t : TypeId) (j : Nat) (u : Value) (h : [x, y][j]? = some u) : (w1.alloc (.cells #[x, y] t)).cell? ((⟨w1.heap.size, 0, none⟩ : Addr).add j) = some u := by
 have hj : j < 2 := by
  rcases Nat.lt_or_ge j 2 with h' | h'
  ·exact h'
  ·rw [List.getElem?_eq_none (by simpa using h')] at h; cases h
 match j, hj, h with
 | 0, _, h => rw [show (⟨w1.heap.size, 0, none⟩ : Addr).add 0 = ⟨w1.heap.size, 0, none⟩ from rfl, World.cell?_alloc_at _ _ _ _ rfl]; exact h
 | 1, _, h => rw [show (⟨w1.heap.size, 0, none⟩ : Addr).add 1 = ⟨w1.heap.size, 1, none⟩ from rfl, World.cell?_alloc_at _ _ _ _ rfl]; exact h
theorem two_one (x : ByteArray) (z : Int) (u : Value) (h : u ∈ [Value.string x, .int .i64 z]) : u.oneCell' = true := by
 simp only [List.mem_cons, List.not_mem_nil, or_false] at h
 rcases h with rfl | rfl <;> rfl
end Go.Proofs.YtihacnhmiopalaaDoor
