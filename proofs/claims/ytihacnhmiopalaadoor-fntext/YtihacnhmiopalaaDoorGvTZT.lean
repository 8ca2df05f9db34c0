import Derived.Sort.Grow
import Derived.Lib.Walk
import Derived.Test.YtihacnhmiopalaaDoorNdPZT
import Derived.Laws.StructEq
import Derived.Laws.IdiomCopy
import Derived.Test.YtihacnhmiopalaaDoorDgCT
namespace Go.Proofs.YtihacnhmiopalaaDoor
open Go.RowKit
theorem ownsRow_k {w w' : World} {base st n : Nat} {t : TypeId} {v : Value} {xs : List Value} (h : w.ownsRow base t st v n xs) (hk : ∀ g, v.ownBlock = some g -> g < w.heap.size -> w'.heap[g]? = w.heap[g]?) : w'.ownsRow base t st v n xs := by
 obtain ⟨h1, h2⟩ := h
 refine ⟨h1, ?_⟩
 rcases h2 with h2 | ⟨g, cap, cur, hv, hg2, hh, r⟩
 ·exact Or.inl h2
 ·have hlt : g < w.heap.size := (Array.getElem?_eq_some_iff.1 hh).1
  exact Or.inr ⟨g, cap, cur, hv, hg2, by rw [hk g (by rw [hv]; rfl) hlt]; exact hh, r⟩
theorem ownsRow_blk {w : World} {base st n : Nat} {t : TypeId} {v : Value} {xs : List Value} (h : w.ownsRow base t st v n xs) (b : Nat) (hb : v.ownBlock = some b) : base <= b ∧ b < w.heap.size := by
 obtain ⟨h1, h2⟩ := h
 rcases h2 with ⟨rfl, _⟩ | ⟨g, cap, cur, rfl, hg2, hh, r⟩
 ·cases hb
 ·have hlt : g < w.heap.size := (Array.getElem?_eq_some_iff.1 hh).1
  have : g = b := by simpa [Value.ownBlock] using hb
  omega
def LoS (a : Option Addr) (n lo : Nat) : Prop := n = 0 ∨ ∃ b off, a = some ⟨b, off, none⟩ ∧ lo <= b
theorem own_lo {w : World} {base lo st n n' cap : Nat} {t : TypeId} {a : Option Addr} {xs : List Value} (h : w.ownsRow base t st (.slice a n' cap) n xs) (hl : lo <= base) : LoS a n' lo := by
 obtain ⟨_, h2⟩ := h
 rcases h2 with ⟨e, _⟩ | ⟨g, cap', cur, e, hg, _⟩
 ·injection e with _ e2 _
  exact Or.inl e2
 ·injection e with e1 _ _
  exact Or.inr ⟨g, 0, e1, Nat.le_trans hl hg⟩
def Kb (B : Nat) (w w' : World) : Prop := w.heap.size <= w'.heap.size ∧ ∀ b, b < w.heap.size -> b ≠ B -> w'.heap[b]? = w.heap[b]?
theorem Kb.refl (B : Nat) (w : World) : Kb B w w := ⟨Nat.le_refl _, fun _ _ _ => rfl⟩
theorem Kb.grow {B : Nat} {w w1 w2 : World} {row : Option Nat} (h : Kb B w w1) (hg : w1.grownBy w2 row) (hr : ∀ b, row = some b -> b = B ∨ w.heap.size <= b) : Kb B w w2 := ⟨Nat.le_trans h.1 hg.size, fun b h1 h2 => (hg.block b (Nat.lt_of_lt_of_le h1 h.1) (fun q => by rcases hr b q.symm with e | e <;> omega)).trans (h.2 b h1 h2)⟩
theorem Kb.set {B : Nat} {w w1 : World} (h : Kb B w w1) (o : Nat) (x : Value) : Kb B w (w1.setCell ⟨B, o, none⟩ x) := h.grow (Lib.grownBy_setCell w1 B o x) (fun b hb => by injection hb with hb; exact Or.inl hb.symm)
section
variable {p : Nat} {w W : World} {bs : Nat -> Nat} {m q : Nat} {rv : Value} {B : Nat} {c : Nat -> Value} {pl : List ByteArray} {sv : Value} {vals : List Value}
theorem Kb.fill10 (B : Nat) (W : World) (x0 x1 x2 x3 x4 x5 x6 x7 x8 x9 : Value) :
  Kb B W ((((((((((W.setCell ⟨B, 0, none⟩ x0).setCell ⟨B, 1, none⟩ x1).setCell ⟨B, 2, none⟩ x2).setCell ⟨B, 3, none⟩ x3).setCell ⟨B, 4, none⟩ x4).setCell ⟨B, 5, none⟩ x5).setCell ⟨B, 6, none⟩ x6).setCell ⟨B, 7, none⟩ x7).setCell ⟨B, 8, none⟩ x8).setCell ⟨B, 9, none⟩ x9) :=
 (((((((((((Kb.refl B W).set 0 x0).set 1 x1).set 2 x2).set 3 x3).set 4 x4).set 5 x5).set 6 x6).set 7 x7).set 8 x8).set 9 x9)
theorem OwnG.slg {base n cap : Nat} {a : Option Addr} {M : Nat -> ByteArray} {L : Nat -> Int} (h : OwnG W base (.slice a n cap) n M L) (hs : ∀ i, i < n -> (M i).size <= maxLen) : SlG W a n cap M L := by
 rcases row_cells h with ⟨e, rfl⟩ | ⟨g, cap', e, hg, hlt, hn, hc, hx, hf⟩
 ·injection e with e1 e2 e3
  subst e1 e3
  exact ⟨Nat.le_refl _, by decide, hs, Or.inl rfl⟩
 ·injection e with e1 e2 e3
  subst e1 e3
  refine ⟨hn, hc, hs, Or.inr ⟨g, 0, rfl, hlt, fun i hi => ?_, fun i hi => ?_⟩⟩
  ·rw [show 0 + i * 2 = 0 + (i * 2) by omega, hx _ (by omega)]; exact (encG_get M L n i hi).1
  ·rw [show 0 + i * 2 + 1 = 0 + (i * 2 + 1) by omega, hx _ (by omega)]; exact (encG_get M L n i hi).2
end
def codeTl : Code -> Code
 | .seq _ b => b
 | c => c
def tlN (c : Code) : Nat -> Code
 | 0 => c
 | n + 1 => codeTl (tlN c n)
structure QO (w : World) (e : Ev) (t : Ls) : Prop where
 j : QJ w e t
 p : OwnT w t.lo (.slice t.pa e.np t.cp) e.np e.Pv
 a : OwnT w t.lo (.slice t.aa e.na t.ca) e.na e.Av
 g : OwnG w t.lo (.slice t.ga e.ng t.cg) e.ng e.M e.L
 d : ∀ b, (Value.slice t.pa e.np t.cp).ownBlock = some b -> (Value.slice t.aa e.na t.ca).ownBlock ≠ some b
 h : ∀ b, ((Value.slice t.pa e.np t.cp).ownBlock = some b ∨ (Value.slice t.aa e.na t.ca).ownBlock = some b ∨ (Value.slice t.ga e.ng t.cg).ownBlock = some b) -> b < t.hi
theorem QO.grown {w w' : World} {e : Ev} {t : Ls} {row : Option Nat} (h : QO w e t) (hg : w.grownBy w' row) (hr : ∀ b, row = some b -> b < t.lo ∨ t.hi <= b) : QO w' e t := by
 have k1 : ∀ b, t.lo <= b -> b < t.hi -> b < w.heap.size -> w'.heap[b]? = w.heap[b]? := fun b h1 h2 hl => hg.block b hl (fun q => by have := hr b q.symm; omega)
 exact ⟨qcJ.grown h.j hg hr, ownsRow_k h.p (fun b hb hl => k1 b (ownsRow_blk h.p b hb).1 (h.h b (Or.inl hb)) hl), ownsRow_k h.a (fun b hb hl => k1 b (ownsRow_blk h.a b hb).1 (h.h b (Or.inr (Or.inl hb))) hl), ownsRow_k h.g (fun b hb hl => k1 b (ownsRow_blk h.g b hb).1 (h.h b (Or.inr (Or.inr hb))) hl), h.d, h.h⟩
theorem qcO : QC QO := ⟨fun h hb => ⟨qcJ.below h.j hb, h.p.below hb, h.a.below hb, h.g.below hb, h.d, h.h⟩, fun h hg hr => h.grown hg hr, fun h => h.j.ok, fun h => h.j.hh⟩
theorem Kb.cell {c : Nat} {w w' : World} (h : Kb c w w') {b o : Nat} (hb : b < w.heap.size) (hn : b ≠ c) : w'.cell? ⟨b, o, none⟩ = w.cell? ⟨b, o, none⟩ := World.cell?_of_block (a := ⟨b, o, none⟩) (h.2 b hb hn)
theorem SlS.kx {w w' : World} {a : Option Addr} {n cap lo hi c : Nat} {S : Nat -> ByteArray} (h : SlS w a n cap S) (hv : Iv a n lo hi) (hk : Kb c w w') (hr : c < lo ∨ hi <= c) : SlS w' a n cap S := by
 refine ⟨h.le, h.max, h.size, ?_⟩
 rcases hv with h0 | ⟨b, off, rfl, h1, h2⟩
 ·exact Or.inl h0
 ·refine h.cells.imp id fun ⟨b', off', e, hlt, hc⟩ => ⟨b', off', e, Nat.lt_of_lt_of_le hlt hk.1, fun i hi => ?_⟩
  have e2 : b = b' := by injection e with e; injection e
  exact (hk.cell hlt (by omega)).trans (hc i hi)
theorem SlG.kx {w w' : World} {a : Option Addr} {n cap lo hi c : Nat} {M : Nat -> ByteArray} {L : Nat -> Int} (h : SlG w a n cap M L) (hv : Iv a n lo hi) (hk : Kb c w w') (hr : c < lo ∨ hi <= c) : SlG w' a n cap M L := by
 refine ⟨h.le, h.max, h.size, ?_⟩
 rcases hv with h0 | ⟨b, off, rfl, h1, h2⟩
 ·exact Or.inl h0
 ·refine h.cells.imp id fun ⟨b', off', e, hlt, hc, hl⟩ => ⟨b', off', e, Nat.lt_of_lt_of_le hlt hk.1, fun i hi => ?_, fun i hi => ?_⟩
  all_goals
   have e2 : b = b' := by injection e with e; injection e
  ·exact (hk.cell hlt (by omega)).trans (hc i hi)
  ·exact (hk.cell hlt (by omega)).trans (hl i hi)
theorem QJ.kx {w w' : World} {e : Ev} {t : Ls} {c : Nat} (h : QJ w e t) (hk : Kb c w w') (hr : c < t.lo ∨ t.hi <= c) : QJ w' e t :=
 ⟨⟨h.ok.hid, h.ok.hsd, h.ok.hty, h.ok.hkey, h.ok.hval, h.ok.hp.kx h.ip hk hr, h.ok.ha.kx h.ia hk hr, h.ok.hg.kx h.ig hk hr⟩, h.ip, h.ia, h.ig, h.hh.1, Nat.le_trans h.hh.2 hk.1⟩
theorem QO.kx {w w' : World} {e : Ev} {t : Ls} {c : Nat} (h : QO w e t) (hk : Kb c w w') (hr : c < t.lo ∨ t.hi <= c) : QO w' e t := by
 have k1 : ∀ b, t.lo <= b -> b < t.hi -> b < w.heap.size -> w'.heap[b]? = w.heap[b]? := fun b h1 h2 hl => hk.2 b hl (by omega)
 exact ⟨h.j.kx hk hr, ownsRow_k h.p (fun b hb hl => k1 b (ownsRow_blk h.p b hb).1 (h.h b (Or.inl hb)) hl), ownsRow_k h.a (fun b hb hl => k1 b (ownsRow_blk h.a b hb).1 (h.h b (Or.inr (Or.inl hb))) hl), ownsRow_k h.g (fun b hb hl => k1 b (ownsRow_blk h.g b hb).1 (h.h b (Or.inr (Or.inr hb))) hl), h.d, h.h⟩
end Go.Proofs.YtihacnhmiopalaaDoor
