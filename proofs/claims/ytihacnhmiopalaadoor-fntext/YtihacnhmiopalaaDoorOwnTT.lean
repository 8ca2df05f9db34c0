import Derived.Test.YtihacnhmiopalaaDoorProg
import Derived.Test.YtihacnhmiopalaaDoorPure6T
import Derived.OwnWalk
import Derived.Deep.AppendLies
namespace Go.Proofs.YtihacnhmiopalaaDoor
open Go.RowKit
theorem Tryd.infoString : (Tryd.prog.info? 9).map (fun i => (i.zero, i.size, i.bytes)) = some (some (.string ByteArray.empty), 1, 16) := by kernel_rfl
theorem ownsRow_blw {w w' : World} {base e size n : Nat} {v : Value} {xs : List Value} (h : w.ownsRow base e size v n xs) (hb : Below w.heap.size w w') : w'.ownsRow base e size v n xs := by
 obtain ⟨h1, h2⟩ := h
 refine ⟨h1, ?_⟩
 rcases h2 with h2 | ⟨g, cap, cur, hv, hg, hh, r⟩
 ·exact Or.inl h2
 ·have hlt : g < w.heap.size := by
   rcases Nat.lt_or_ge g w.heap.size with h' | h'
   ·exact h'
   ·rw [Array.getElem?_eq_none h'] at hh; cases hh
  exact Or.inr ⟨g, cap, cur, hv, hg, by rw [hb.block g hlt]; exact hh, r⟩
def strs (S : Nat -> ByteArray) (n : Nat) : List Value := (List.range n).map fun i => .string (S i)
theorem strs_len (S : Nat -> ByteArray) (n : Nat) : (strs S n).length = n := by simp [strs]
theorem strs_get (S : Nat -> ByteArray) (n i : Nat) (h : i < n) : (strs S n)[i]? = some (.string (S i)) := by simp [strs, h]
theorem strs_snoc (S : Nat -> ByteArray) (n : Nat) : strs S n ++ [.string (S n)] = strs S (n + 1) := by simp [strs, List.range_succ]
def OwnT (w : World) (base : Nat) (v : Value) (n : Nat) (S : Nat -> ByteArray) : Prop := w.ownsRow base 9 1 v n (strs S n)
theorem OwnT.below {w w' : World} {base n : Nat} {v : Value} {S : Nat -> ByteArray} (h : OwnT w base v n S) (hb : Below w.heap.size w w') : OwnT w' base v n S := ownsRow_blw h hb
theorem OwnT.snoc {w : World} {base n : Nat} {v : Value} {S : Nat -> ByteArray} {x : ByteArray} (h : w.ownsRow base 9 1 v (n + 1) (strs S n ++ [.string x])) (hx : x = S n) : OwnT w base v (n + 1) S := by
 subst hx; rw [strs_snoc] at h; exact h
theorem OwnT.nil (w : World) (base : Nat) (S : Nat -> ByteArray) : OwnT w base (.slice none 0 0) 0 S := ⟨rfl, Or.inl ⟨rfl, rfl⟩⟩
theorem OwnT.cells {w : World} {base n : Nat} {v : Value} {S : Nat -> ByteArray} (h : OwnT w base v n S) :
  (v = .slice none 0 0 ∧ n = 0) ∨ ∃ g cap, v = .slice (some ⟨g, 0, none⟩) n cap ∧ base <= g ∧ g < w.heap.size ∧ n <= cap ∧ cap <= maxLen ∧ ∀ i, i < n -> w.cell? ⟨g, 0 + i, none⟩ = some (.string (S i)) := by
 obtain ⟨h1, h2⟩ := h
 rcases h2 with ⟨rfl, h0⟩ | ⟨g, cap, cur, rfl, hg, hh, hn, hc, hcs, hx⟩
 ·exact Or.inl ⟨rfl, h0⟩
 ·have hlt : g < w.heap.size := by
   rcases Nat.lt_or_ge g w.heap.size with h' | h'
   ·exact h'
   ·rw [Array.getElem?_eq_none h'] at hh; cases hh
  refine Or.inr ⟨g, cap, rfl, hg, hlt, hn, hc, fun j hj => ?_⟩
  rw [<- strs_get S n j hj, <- hx, List.getElem?_take, if_pos (by omega), Nat.zero_add]
  simp [World.cell?, hh]
theorem OwnT.sl {w : World} {base n : Nat} {v : Value} {S : Nat -> ByteArray} (h : OwnT w base v n S) (hs : ∀ i, i < n -> (S i).size <= maxLen) :
  ∃ a cap, v = .slice a n cap ∧ SlS w a n cap S := by
 rcases h.cells with ⟨rfl, rfl⟩ | ⟨g, cap, rfl, hg, hlt, hn, hc, hx⟩
 ·exact ⟨none, 0, rfl, ⟨Nat.le_refl _, by decide, hs, Or.inl rfl⟩⟩
 ·exact ⟨_, cap, rfl, ⟨hn, hc, hs, Or.inr ⟨g, 0, rfl, hlt, hx⟩⟩⟩
theorem one_cells (w1 : World) (x : Value) (t : TypeId) (j : Nat) (u : Value) (h : [x][j]? = some u) : (w1.alloc (.cells #[x] t)).cell? ((⟨w1.heap.size, 0, none⟩ : Addr).add j) = some u := by
 have hj : j < 1 := by
  rcases Nat.lt_or_ge j 1 with h' | h'
  ·exact h'
  ·rw [List.getElem?_eq_none (by simpa using h')] at h; cases h
 match j, hj, h with
 | 0, _, h => rw [show (⟨w1.heap.size, 0, none⟩ : Addr).add 0 = ⟨w1.heap.size, 0, none⟩ from rfl, World.cell?_alloc_at _ _ _ _ rfl]; exact h
theorem one_one (x : ByteArray) (u : Value) (h : u ∈ [Value.string x]) : u.oneCell' = true := by
 simp only [List.mem_cons, List.not_mem_nil, or_false] at h
 subst h; rfl
theorem eight_sl (W : World) (t : TypeId) (a b c d e f g h : ByteArray) (hs : ∀ i, (eight a b c d e f g h i).size <= 3200) :
  SlS (W.alloc (.cells #[.string a, .string b, .string c, .string d, .string e, .string f, .string g, .string h] t)) (some ⟨W.heap.size, 0, none⟩) 8 8 (eight a b c d e f g h) := by
 refine ⟨Nat.le_refl _, by decide, fun i _ => Nat.le_trans (hs i) (by decide), Or.inr ⟨_, 0, rfl, by simp, fun i hi => ?_⟩⟩
 rw [World.cell?_alloc_at _ _ _ _ rfl, Nat.zero_add]
 match i, hi with
 | 0, _ => rfl
 | 1, _ => rfl
 | 2, _ => rfl
 | 3, _ => rfl
 | 4, _ => rfl
 | 5, _ => rfl
 | 6, _ => rfl
 | 7, _ => rfl
end Go.Proofs.YtihacnhmiopalaaDoor
