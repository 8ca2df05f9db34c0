import Derived.Test.YtpmebojkkjlkgaaGreatDfSZ
import Derived.Test.YtpmebojkkjlkgaaGreatEeSZ
namespace Go.Proofs.YtpmebojkkjlkgaaGreat
open Go.RowKit
def NIn (a : Option Addr) (n : Nat) (row : Option Nat) : Prop := n = 0 ∨ ∀ b off, a = some ⟨b, off, none⟩ -> row ≠ some b
structure LC {α : Type} (len : α -> Nat) (P : World -> Option Addr -> Nat -> α -> Prop) : Prop where
 below : ∀ {w w' : World} {a : Option Addr} {c : Nat} {x : α}, P w a c x -> Below w.heap.size w w' -> P w' a c x
 grown : ∀ {w w' : World} {a : Option Addr} {c : Nat} {x : α} {row : Option Nat}, P w a c x -> w.grownBy w' row -> NIn a (len x) row -> P w' a c x
 lt : ∀ {w : World} {a : Option Addr} {c : Nat} {x : α}, P w a c x -> len x = 0 ∨ ∃ b off, a = some ⟨b, off, none⟩ ∧ b < w.heap.size
def encA {α : Type} (len : α -> Nat) (L : Nat -> α) (A : Nat -> Option Addr) (C : Nat -> Nat) (n : Nat) : List Value := (List.range n).map fun i => .slice (A i) (len (L i)) (C i)
theorem encA_snoc {α : Type} (len : α -> Nat) (L : Nat -> α) (A : Nat -> Option Addr) (C : Nat -> Nat) (n : Nat) : encA len L A C n ++ [.slice (A n) (len (L n)) (C n)] = encA len L A C (n + 1) := by simp [encA, List.range_succ]
theorem encA_get {α : Type} (len : α -> Nat) (L : Nat -> α) (A : Nat -> Option Addr) (C : Nat -> Nat) (n i : Nat) (h : i < n) : (encA len L A C n)[i]? = some (.slice (A i) (len (L i)) (C i)) := by simp [encA, h]
def extF {β : Type} (f : Nat -> β) (n : Nat) (x : β) : Nat -> β := fun i => if i = n then x else f i
theorem extF_at {β : Type} (f : Nat -> β) (n : Nat) (x : β) : extF f n x n = x := if_pos rfl
theorem extF_lt {β : Type} (f : Nat -> β) {n i : Nat} (x : β) (h : i < n) : extF f n x i = f i := if_neg (by omega)
theorem encA_congr {α : Type} {len : α -> Nat} {L L' : Nat -> α} {A A' : Nat -> Option Addr} {C C' : Nat -> Nat} {n : Nat} (h : ∀ i, i < n -> L i = L' i ∧ A i = A' i ∧ C i = C' i) : encA len L A C n = encA len L' A' C' n := by
 unfold encA
 refine List.map_congr_left fun i hi => ?_
 obtain ⟨h1, h2, h3⟩ := h i (List.mem_range.1 hi)
 rw [h1, h2, h3]
structure RowL {α : Type} (len : α -> Nat) (P : World -> Option Addr -> Nat -> α -> Prop) (t : TypeId) (w : World) (base : Nat) (v : Value) (n : Nat) (L : Nat -> α) (A : Nat -> Option Addr) (C : Nat -> Nat) : Prop where
 own : w.ownsRow base t 1 v n (encA len L A C n)
 sl : ∀ i, i < n -> P w (A i) (C i) (L i)
 apart : ∀ i, i < n -> NIn (A i) (len (L i)) v.ownBlock
section
variable {α : Type} {len : α -> Nat} {P : World -> Option Addr -> Nat -> α -> Prop} {t : TypeId}
theorem RowL.below (c : LC len P) {w w' : World} {base n : Nat} {v : Value} {L : Nat -> α} {A : Nat -> Option Addr} {C : Nat -> Nat} (h : RowL len P t w base v n L A C) (hb : Below w.heap.size w w') : RowL len P t w' base v n L A C :=
 ⟨ownsRow_below h.own hb, fun i hi => c.below (h.sl i hi) hb, h.apart⟩
theorem RowL.new (w : World) (base : Nat) (hb : base <= w.heap.size) (L : Nat -> α) (A : Nat -> Option Addr) (C : Nat -> Nat) : RowL len P t (w.alloc (.cells #[] t)) base (.slice (some ⟨w.heap.size, 0, none⟩) 0 0) 0 L A C :=
 ⟨⟨rfl, Or.inr ⟨w.heap.size, 0, #[], rfl, hb, by show (w.heap.push _)[w.heap.size]? = _; simp, Nat.le_refl _, by decide, rfl, rfl⟩⟩, fun i hi => absurd hi (Nat.not_lt_zero _), fun i hi => absurd hi (Nat.not_lt_zero _)⟩
theorem RowL.mono {w : World} {base base' n : Nat} {v : Value} {L : Nat -> α} {A : Nat -> Option Addr} {C : Nat -> Nat} (h : RowL len P t w base v n L A C) (hb : base' <= base) : RowL len P t w base' v n L A C := by
 refine ⟨?_, h.sl, h.apart⟩
 obtain ⟨h1, h2⟩ := h.own
 refine ⟨h1, ?_⟩
 rcases h2 with h2 | ⟨g, cap, cur, hv, hg, r⟩
 ·exact Or.inl h2
 ·exact Or.inr ⟨g, cap, cur, hv, Nat.le_trans hb hg, r⟩
theorem RowL.snoc (c : LC len P) {w w' : World} {base n g cap : Nat} {v : Value} {L : Nat -> α} {A : Nat -> Option Addr} {C : Nat -> Nat} {x : α} {a : Option Addr} {k : Nat} (h : RowL len P t w base v n L A C) (hx : P w a k x) (hn : NIn a (len x) v.ownBlock)
  (hown : w'.ownsRow base t 1 (.slice (some ⟨g, 0, none⟩) (n + 1) cap) (n + 1) (encA len L A C n ++ [.slice a (len x) k])) (hgr : w.grownBy w' v.ownBlock) (hg : v.ownBlock = some g ∨ w.heap.size <= g) : RowL len P t w' base (.slice (some ⟨g, 0, none⟩) (n + 1) cap) (n + 1) (extF L n x) (extF A n a) (extF C n k) := by
 have hN : ∀ {a : Option Addr} {k : Nat} {x : α}, P w a k x -> NIn a (len x) v.ownBlock -> NIn a (len x) (Value.slice (some ⟨g, 0, none⟩) (n + 1) cap).ownBlock := fun {a k x} hp hn => by
  rcases c.lt hp with h0 | ⟨b, off, e, hb⟩
  ·exact Or.inl h0
  ·rcases hn with h0 | hn
   ·exact Or.inl h0
   ·refine Or.inr fun b' off' e' q => ?_
    have q' : some g = some b' := q
    injection q' with q'
    rw [e] at e'
    injection e' with e'
    injection e' with e1 _ _
    rcases hg with hg | hg
    ·exact hn b off e (by rw [hg]; congr 1; omega)
    ·omega
 have hc : ∀ i, i < n -> L i = extF L n x i ∧ A i = extF A n a i ∧ C i = extF C n k i := fun i hi => ⟨(extF_lt L x hi).symm, (extF_lt A a hi).symm, (extF_lt C k hi).symm⟩
 refine ⟨?_, fun i hi => ?_, fun i hi => ?_⟩
 ·rw [<- encA_snoc, <- encA_congr hc, extF_at, extF_at, extF_at]
  exact hown
 ·by_cases e : i = n
  ·subst e
   rw [extF_at, extF_at, extF_at]
   exact c.grown hx hgr hn
  ·rw [extF_lt _ _ (by omega), extF_lt _ _ (by omega), extF_lt _ _ (by omega)]
   exact c.grown (h.sl i (by omega)) hgr (h.apart i (by omega))
 ·by_cases e : i = n
  ·subst e
   rw [extF_at, extF_at]
   exact hN hx hn
  ·rw [extF_lt _ _ (by omega), extF_lt _ _ (by omega)]
   exact hN (h.sl i (by omega)) (h.apart i (by omega))
theorem RowL.cells {w : World} {base n : Nat} {v : Value} {L : Nat -> α} {A : Nat -> Option Addr} {C : Nat -> Nat} (h : RowL len P t w base v n L A C) :
  (v = .slice none 0 0 ∧ n = 0) ∨ ∃ g cap, v = .slice (some ⟨g, 0, none⟩) n cap ∧ base <= g ∧ g < w.heap.size ∧ n <= cap ∧ cap <= maxLen ∧ ∀ i, i < n -> w.cell? ⟨g, 0 + i, none⟩ = some (.slice (A i) (len (L i)) (C i)) := by
 obtain ⟨h1, h2⟩ := h.own
 rcases h2 with ⟨rfl, h0⟩ | ⟨g, cap, cur, rfl, hg, hh, hn, hc, hcs, hx⟩
 ·exact Or.inl ⟨rfl, h0⟩
 ·have hlt : g < w.heap.size := (Array.getElem?_eq_some_iff.1 hh).1
  refine Or.inr ⟨g, cap, rfl, hg, hlt, hn, hc, fun i hi => ?_⟩
  rw [<- encA_get len L A C n i hi, <- hx, List.getElem?_take, if_pos (by omega), Nat.zero_add]
  simp [World.cell?, hh]
end
def PT (w : World) (a : Option Addr) (c : Nat) (l : List ByteArray) : Prop := SlS w a l.length c (getL l)
theorem lcT : LC List.length PT := by
 refine ⟨fun h hb => SlS.below h hb, fun {w w' a c x row} h hg hn => ?_, fun {w a c x} h => ?_⟩
 ·refine ⟨h.le, h.max, h.size, ?_⟩
  rcases h.cells with h0 | ⟨b, off, e, hb, hc⟩
  ·exact Or.inl h0
  ·rcases hn with h0 | hn
   ·exact Or.inl h0
   ·exact Or.inr ⟨b, off, e, Nat.lt_of_lt_of_le hb hg.size, fun i hi => (World.cell?_of_block (a := ⟨b, off + i, none⟩) (hg.block b hb (fun q => hn b off e q.symm))).trans (hc i hi)⟩
 ·rcases h.cells with h0 | ⟨b, off, e, hb, _⟩
  ·exact Or.inl h0
  ·exact Or.inr ⟨b, off, e, hb⟩
def PE (w : World) (a : Option Addr) (c : Nat) (l : List Ent) : Prop := SlE w a c l
theorem lcE : LC List.length PE := by
 refine ⟨fun h hb => SlE.below h hb, fun {w w' a c x row} h hg hn => ?_, fun {w a c x} h => ?_⟩
 ·refine ⟨h.le, h.max, h.size, ?_⟩
  rcases h.cells with h0 | ⟨b, off, e, hb, c1, c2, c3⟩
  ·exact Or.inl h0
  ·rcases hn with h0 | hn
   ·exact Or.inl (List.length_eq_zero_iff.1 h0)
   ·have hk : ∀ o, w'.cell? ⟨b, o, none⟩ = w.cell? ⟨b, o, none⟩ := fun o => World.cell?_of_block (a := ⟨b, o, none⟩) (hg.block b hb (fun q => hn b off e q.symm))
    exact Or.inr ⟨b, off, e, Nat.lt_of_lt_of_le hb hg.size, fun i hi => (hk _).trans (c1 i hi), fun i hi => (hk _).trans (c2 i hi), fun i hi => (hk _).trans (c3 i hi)⟩
 ·rcases h.cells with h0 | ⟨b, off, e, hb, _⟩
  ·exact Or.inl (by rw [h0]; rfl)
  ·exact Or.inr ⟨b, off, e, hb⟩
theorem RowL.tt {t : TypeId} {w : World} {base n : Nat} {v : Value} {L : Nat -> List ByteArray} {A : Nat -> Option Addr} {C : Nat -> Nat} (h : RowL List.length PT t w base v n L A C) : ∃ a cap, v = .slice a n cap ∧ SlTT w a n cap L := by
 rcases h.cells with ⟨rfl, rfl⟩ | ⟨g, cap, rfl, _, hlt, hn, hc, hx⟩
 ·exact ⟨none, 0, rfl, Nat.le_refl _, by decide, Or.inl rfl⟩
 ·exact ⟨_, cap, rfl, hn, hc, Or.inr ⟨g, 0, rfl, hlt, fun i hi => ⟨A i, C i, hx i hi, h.sl i hi⟩⟩⟩
theorem RowL.ee {t : TypeId} {w : World} {base n : Nat} {v : Value} {L : Nat -> List Ent} {A : Nat -> Option Addr} {C : Nat -> Nat} (h : RowL List.length PE t w base v n L A C) : ∃ a cap, v = .slice a n cap ∧ SlEE w a n cap L := by
 rcases h.cells with ⟨rfl, rfl⟩ | ⟨g, cap, rfl, _, hlt, hn, hc, hx⟩
 ·exact ⟨none, 0, rfl, Nat.le_refl _, by decide, Or.inl rfl⟩
 ·exact ⟨_, cap, rfl, hn, hc, Or.inr ⟨g, 0, rfl, hlt, fun i hi => ⟨A i, C i, hx i hi, h.sl i hi⟩⟩⟩
theorem one_cellS (W : World) (v : Value) (ty : TypeId) (j : Nat) (u : Value) (h : [v][j]? = some u) : (W.alloc (.cells #[v] ty)).cell? ((⟨W.heap.size, 0, none⟩ : Addr).add j) = some u := by
 rw [Addr.add_lit, Nat.zero_add, World.cell?_alloc_at _ _ _ _ rfl, <- h]
 rw [List.getElem?_toArray]
set_option maxRecDepth 100000 in
theorem app_any (W : World) (base base2 : Nat) (v sv : Value) (l news : List ByteArray) (ty : TypeId) (hown : OwnL W base v l) (hs : OwnL W base2 sv news) (hb : base <= W.heap.size) (hsz : l.length + news.length <= 1000000) :
  ∃ v' w', (Builtin.append_ #[38, 38] ty #[v, sv]).run Tryz.prog W = .ok v' w' ∧ OwnL w' base v' (l ++ news) ∧ W.grownBy w' v.ownBlock := by
 obtain ⟨i0, hi, hz0, hz1, hz2⟩ := info_parts Tryz.infoString
 rcases hs.shape with ⟨rfl, rfl⟩ | ⟨g, cap, rfl, _, _, _, _⟩
 ·refine ⟨v, W, run_append_owned_none W base 38 ty 9 i0 1 Tryz.underlying38 hi v l.length _ hown, by rw [List.append_nil]; exact hown, ⟨rfl, rfl, rfl, Nat.le_refl _, fun _ _ _ => rfl⟩⟩
 ·obtain ⟨v', w', hr, h2, h3, _⟩ := run_append_own (P := Tryz.prog) W base 38 ty 9 i0 (.string ByteArray.empty) 1 16 Tryz.underlying38 hi hz0 hz1 hz2 rfl (by decide) _ _ _ hown ⟨g, 0, none⟩ news.length cap (news.map Value.string) (by simp) (fun j u hj => hs.src rfl j u hj) (strL_one news) (by unfold maxLen; omega) (by omega) hb
  refine ⟨v', w', hr, ?_, h3⟩
  unfold OwnL
  rw [List.length_append, List.map_append]
  exact h2
end Go.Proofs.YtpmebojkkjlkgaaGreat
