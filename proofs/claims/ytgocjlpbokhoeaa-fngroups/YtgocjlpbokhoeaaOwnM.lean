import Derived.Test.YtgocjlpbokhoeaaStS
import Derived.Test.YtgocjlpbokhoeaaProg
import Derived.Test.YtgocjlpbokhoeaaEntM
namespace Go.Proofs.Ytgocjlpbokhoeaa
open Go.RowKit
def findB (l : List Ent) (kind key : ByteArray) : ByteArray := if 0 ≤ posI l ⟨kind, key, ⟨#[]⟩⟩ then (eAt l (posI l ⟨kind, key, ⟨#[]⟩⟩).toNat).id else ⟨#[]⟩
theorem posI_bd (l : List Ent) (e : Ent) : -1 ≤ posI l e ∧ posI l e < l.length := by
  unfold posI
  split <;> omega
set_option maxHeartbeats 1000000 in
theorem l4Find_sl {a : Option Addr} {cap : Nat} {l : List Ent} (kind key : ByteArray) (w : World) (h : SlE w a cap l) :
    Calls Try.prog 45 #[.slice a l.length cap, .string kind, .string key] w fun e w' => e = .returned (.string (findB l kind key)) ∧ Below w.heap.size w w' := by
  have hbd := posI_bd l ⟨kind, key, ⟨#[]⟩⟩
  by_cases hp : 0 ≤ posI l ⟨kind, key, ⟨#[]⟩⟩
  · obtain ⟨p, hpn⟩ : ∃ p : Nat, posI l ⟨kind, key, ⟨#[]⟩⟩ = (p : Int) := ⟨(posI l ⟨kind, key, ⟨#[]⟩⟩).toNat, by omega⟩
    have hv : Hid (findB l kind key = (eAt l p).id) := by unfold Hid findB; rw [if_pos hp, hpn]; rfl
    have hat : Hid (∀ W, SlE W a cap l → Calls Try.prog 46 #[.slice a l.length cap, entV ⟨kind, key, ⟨#[]⟩⟩] W fun e w' => e = .returned (.int .i64 (p : Int)) ∧ Below W.heap.size W w') := fun W hW => by
      have := at_sl ⟨kind, key, ⟨#[]⟩⟩ W hW
      rw [hpn] at this
      exact this
    have hlt : p < l.length := by omega
    clear hp hpn hbd
    have hs := h
    rcases h.cells with rfl | ⟨b, off, rfl, hb, h1, h2, h3⟩
    · exact absurd hlt (Nat.not_lt_zero _)
    have hle := Nat.le_trans h.le h.max
    unfold maxLen at hle
    have c3 := h3 p hlt
    clear h1 h2 h3
    go_enter Try.func45, Try.ntmps45
    go_wp2_with fail
    refine (hat.out _ hs).mono ?_
    rintro e w1 ⟨rfl, hb1⟩
    have c31 := (hb1.cell (by exact hb)).trans c3
    go_wp2
    go_ret
    exact ⟨by rw [hv.out]; rfl, hb1⟩
  · have hv : Hid (findB l kind key = ⟨#[]⟩) := by unfold Hid findB; rw [if_neg hp]
    have hpn : posI l ⟨kind, key, ⟨#[]⟩⟩ = -1 := by omega
    have hat : Hid (∀ W, SlE W a cap l → Calls Try.prog 46 #[.slice a l.length cap, entV ⟨kind, key, ⟨#[]⟩⟩] W fun e w' => e = .returned (.int .i64 (-1)) ∧ Below W.heap.size W w') := fun W hW => by
      have := at_sl ⟨kind, key, ⟨#[]⟩⟩ W hW
      rw [hpn] at this
      exact this
    clear hp hpn hbd
    go_enter Try.func45, Try.ntmps45
    go_wp2_with fail
    refine (hat.out _ h).mono ?_
    rintro e w1 ⟨rfl, hb1⟩
    go_wp2
    go_ret
    exact ⟨by rw [hv.out]; rfl, hb1⟩
end Go.Proofs.Ytgocjlpbokhoeaa
namespace Go.Proofs.Ytgocjlpbokhoeaa
open Go.RowKit
def mkE (n : Nat) : Array Value := madeCells #[.string ByteArray.empty, .string ByteArray.empty, .string ByteArray.empty] (n * 3)
theorem mkE_size (n : Nat) : (mkE n).size = n * 3 := size_madeCells _ _
theorem Try.infoEntry : (Try.prog.info? 38).map (fun i => (i.zero, i.size, i.bytes)) = some (some (.agg #[.string ByteArray.empty, .string ByteArray.empty, .string ByteArray.empty]), 3, 48) := by kernel_rfl
end Go.Proofs.Ytgocjlpbokhoeaa
namespace Go.Proofs.Ytgocjlpbokhoeaa
open Go.RowKit
def encE (e : Ent) : List Value := [.string e.ty, .string e.key, .string e.id]
def encL (l : List Ent) : List Value := l.flatMap encE
theorem encL_len (l : List Ent) : (encL l).length = l.length * 3 := by
  induction l with
  | nil => rfl
  | cons x l ih => simp only [encL, List.flatMap_cons, List.length_append, List.length_cons] at ih ⊢; rw [ih]; simp [encE]; omega
theorem encL_snoc (l : List Ent) (e : Ent) : encL l ++ encE e = encL (l ++ [e]) := by simp [encL]
theorem encL_get (l : List Ent) (i : Nat) (h : i < l.length) : (encL l)[i * 3]? = some (.string (eAt l i).ty) ∧ (encL l)[i * 3 + 1]? = some (.string (eAt l i).key) ∧ (encL l)[i * 3 + 2]? = some (.string (eAt l i).id) := by
  induction l generalizing i with
  | nil => exact absurd h (Nat.not_lt_zero _)
  | cons x l ih =>
    cases i with
    | zero => simp [encL, encE, eAt]
    | succ i =>
      have := ih i (by simpa using h)
      have e1 : encL (x :: l) = .string x.ty :: .string x.key :: .string x.id :: encL l := by simp [encL, encE]
      have e2 : eAt (x :: l) (i + 1) = eAt l i := by simp [eAt]
      rw [e1, e2, show (i + 1) * 3 = i * 3 + 3 by omega]
      simpa using this
def OwnE (w : World) (base : Nat) (v : Value) (l : List Ent) : Prop := w.ownsRow base 38 3 v l.length (encL l)
theorem ownsRow_below {w w' : World} {base e size n : Nat} {v : Value} {xs : List Value} (h : w.ownsRow base e size v n xs) (hb : Below w.heap.size w w') : w'.ownsRow base e size v n xs := by
  obtain ⟨h1, h2⟩ := h
  refine ⟨h1, ?_⟩
  rcases h2 with h2 | ⟨g, cap, cur, hv, hg, hh, r⟩
  · exact Or.inl h2
  · have hlt : g < w.heap.size := by
      rcases Nat.lt_or_ge g w.heap.size with h' | h'
      · exact h'
      · rw [Array.getElem?_eq_none h'] at hh; cases hh
    exact Or.inr ⟨g, cap, cur, hv, hg, by rw [hb.block g hlt]; exact hh, r⟩
theorem OwnE.below {w w' : World} {base : Nat} {v : Value} {l : List Ent} (h : OwnE w base v l) (hb : Below w.heap.size w w') : OwnE w' base v l := ownsRow_below h hb
theorem OwnE.sl {w : World} {base : Nat} {v : Value} {l : List Ent} (h : OwnE w base v l) (hs : ∀ i, i < l.length → (eAt l i).ty.size ≤ maxLen ∧ (eAt l i).key.size ≤ maxLen ∧ (eAt l i).id.size ≤ maxLen) :
    ∃ a cap, v = .slice a l.length cap ∧ SlE w a cap l := by
  obtain ⟨h1, h2⟩ := h
  rcases h2 with ⟨rfl, h0⟩ | ⟨g, cap, cur, rfl, hg, hh, hn, hc, hcs, hx⟩
  · have : l = [] := List.eq_nil_of_length_eq_zero h0
    subst this
    exact ⟨none, 0, rfl, ⟨Nat.le_refl _, by decide, hs, Or.inl rfl⟩⟩
  · refine ⟨_, cap, rfl, ⟨hn, hc, hs, ?_⟩⟩
    by_cases h0 : l = []
    · exact Or.inl h0
    · have hlt : g < w.heap.size := by
        rcases Nat.lt_or_ge g w.heap.size with h' | h'
        · exact h'
        · rw [Array.getElem?_eq_none h'] at hh; cases hh
      have hcell : ∀ j, j < l.length * 3 → w.cell? ⟨g, 0 + j, none⟩ = (encL l)[j]? := by
        intro j hj
        rw [← hx, List.getElem?_take, if_pos hj, Nat.zero_add]
        simp [World.cell?, hh]
      exact Or.inr ⟨g, 0, rfl, hlt, fun i hi => by rw [hcell _ (by omega)]; exact (encL_get l i hi).1, fun i hi => by rw [Nat.add_assoc, hcell _ (by omega)]; exact (encL_get l i hi).2.1, fun i hi => by rw [Nat.add_assoc, hcell _ (by omega)]; exact (encL_get l i hi).2.2⟩
end Go.Proofs.Ytgocjlpbokhoeaa
