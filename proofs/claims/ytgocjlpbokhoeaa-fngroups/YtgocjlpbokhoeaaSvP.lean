import Derived.Test.YtgocjlpbokhoeaaOwP
import Derived.Test.YtgocjlpbokhoeaaDlPM
import Derived.Test.YtgocjlpbokhoeaaStoS
namespace Go.Proofs.Ytgocjlpbokhoeaa
open Go.RowKit
def Fnd (G : Nat → Grp) (s : List Ent) (n : Nat) (f : Int) : Prop :=
  (f = -1 ∧ ∀ i, i < n → expF G (i + 1) i ≠ s) ∨ ∃ i : Nat, i < n ∧ f = (i : Int) ∧ expF G (i + 1) i = s ∧ ∀ j, j < i → expF G (j + 1) j ≠ s
theorem fnd_zero (G : Nat → Grp) (s : List Ent) : Fnd G s 0 (-1) := Or.inl ⟨rfl, fun _ hi => absurd hi (Nat.not_lt_zero _)⟩
theorem fnd_old {G : Nat → Grp} {s : List Ent} {n : Nat} {f : Int} (h : Fnd G s n f) (hf : 0 ≤ f) : Fnd G s (n + 1) f := by
  rcases h with ⟨e, _⟩ | ⟨i, hi, e, h1, h2⟩
  · omega
  · exact Or.inr ⟨i, by omega, e, h1, h2⟩
theorem fnd_no {G : Nat → Grp} {s : List Ent} {n : Nat} {f : Int} (h : Fnd G s n f) (hf : f < 0) (hn : expF G (n + 1) n ≠ s) : Fnd G s (n + 1) f := by
  rcases h with ⟨e, h0⟩ | ⟨i, hi, e, h1, h2⟩
  · refine Or.inl ⟨e, fun i hi => ?_⟩
    by_cases q : i = n
    · subst q; exact hn
    · exact h0 i (by omega)
  · omega
theorem fnd_yes {G : Nat → Grp} {s : List Ent} {n : Nat} {f : Int} (h : Fnd G s n f) (hf : f < 0) (hn : expF G (n + 1) n = s) : Fnd G s (n + 1) (n : Int) := by
  rcases h with ⟨e, h0⟩ | ⟨i, hi, e, h1, h2⟩
  · exact Or.inr ⟨n, by omega, rfl, hn, h0⟩
  · omega
theorem fnd_ex (G : Nat → Grp) (s : List Ent) : ∀ n, ∃ f, Fnd G s n f
  | 0 => ⟨-1, fnd_zero G s⟩
  | n + 1 => by
    obtain ⟨f, hf⟩ := fnd_ex G s n
    by_cases h0 : 0 ≤ f
    · exact ⟨f, fnd_old hf h0⟩
    · rcases Classical.em (expF G (n + 1) n = s) with e | e
      · exact ⟨_, fnd_yes hf (by omega) e⟩
      · exact ⟨_, fnd_no hf (by omega) e⟩
theorem fnd_uniq {G : Nat → Grp} {s : List Ent} {n : Nat} {f f' : Int} (h : Fnd G s n f) (h' : Fnd G s n f') : f = f' := by
  rcases h with ⟨e, h0⟩ | ⟨i, hi, e, h1, h2⟩
  · rcases h' with ⟨e', _⟩ | ⟨i', hi', _, h1', _⟩
    · omega
    · exact absurd h1' (h0 i' hi')
  · rcases h' with ⟨_, h0⟩ | ⟨i', hi', e', h1', h2'⟩
    · exact absurd h1 (h0 i hi)
    · rcases Nat.lt_trichotomy i i' with q | q | q
      · exact absurd h1 (h2' i q)
      · rw [e, e', q]
      · exact absurd h1' (h2 i' q)
theorem fnd_ge {G : Nat → Grp} {s : List Ent} {n : Nat} {f : Int} (h : Fnd G s n f) : -1 ≤ f ∧ f < n := by
  rcases h with ⟨e, _⟩ | ⟨i, hi, e, _⟩ <;> omega
def nwB (G : Nat → Grp) (n : Nat) (near : Int) : Bool := decide (0 ≤ near) && (decide (near < n) && decide (lnk G (near.toNat + 1) near.toNat < 4))
def nwG (G : Nat → Grp) (n : Nat) (s : List Ent) (near : Int) : Grp := if nwB G n near then ⟨near, dl2 (expF G (near.toNat + 1) near.toNat) s s.length⟩ else ⟨-1, s⟩
def svN (G : Nat → Grp) (n : Nat) (s : List Ent) (f : Int) : Nat := if stoB G n && stB s then (if 0 ≤ f then n else if 1000 ≤ n then 0 else n + 1) else 0
def svC (G : Nat → Grp) (n : Nat) (s : List Ent) (f : Int) : Int := if stoB G n && stB s then (if 0 ≤ f then f else if 1000 ≤ n then -1 else n) else -1
def SvPost (G : Nat → Grp) (n : Nat) (s : List Ent) (near f : Int) (w : World) (x : Ending) (w' : World) : Prop :=
  ∃ v T, x = .returned (.tuple #[.agg #[v], .int .i64 (svC G n s f)]) ∧ Hid (RowP w' w.heap.size v (svN G n s f) (extP G n (nwG G n s near)) T) ∧ Below w.heap.size w w'
theorem extP_lt {G : Nat → Grp} {n : Nat} {g : Grp} : ∀ i, i < n → G i = extP G n g i := fun i hi => (if_neg (by omega)).symm
theorem nwG_no {G : Nat → Grp} {n : Nat} {s : List Ent} {near : Int} (h : nwB G n near = false) : nwG G n s near = ⟨-1, s⟩ := by unfold nwG; rw [h]; rfl
theorem nwG_yes {G : Nat → Grp} {n : Nat} {s : List Ent} {near : Int} (h : nwB G n near = true) : nwG G n s near = ⟨near, dl2 (expF G (near.toNat + 1) near.toNat) s s.length⟩ := by unfold nwG; rw [h]; rfl
theorem sv_bad {G : Nat → Grp} {n : Nat} {s : List Ent} {f : Int} (h : (stoB G n && stB s) = false) : svN G n s f = 0 ∧ svC G n s f = -1 := by unfold svN svC; rw [h]; exact ⟨rfl, rfl⟩
theorem sv_old {G : Nat → Grp} {n : Nat} {s : List Ent} {f : Int} (h : (stoB G n && stB s) = true) (hf : 0 ≤ f) : svN G n s f = n ∧ svC G n s f = f := by unfold svN svC; rw [h, if_pos rfl, if_pos rfl, if_pos hf, if_pos hf]; exact ⟨rfl, rfl⟩
theorem sv_full {G : Nat → Grp} {n : Nat} {s : List Ent} {f : Int} (h : (stoB G n && stB s) = true) (hf : ¬ 0 ≤ f) (hn : 1000 ≤ n) : svN G n s f = 0 ∧ svC G n s f = -1 := by unfold svN svC; rw [h, if_pos rfl, if_pos rfl, if_neg hf, if_neg hf, if_pos hn, if_pos hn]; exact ⟨rfl, rfl⟩
theorem sv_new {G : Nat → Grp} {n : Nat} {s : List Ent} {f : Int} (h : (stoB G n && stB s) = true) (hf : ¬ 0 ≤ f) (hn : ¬ 1000 ≤ n) : svN G n s f = n + 1 ∧ svC G n s f = n := by unfold svN svC; rw [h, if_pos rfl, if_pos rfl, if_neg hf, if_neg hf, if_neg hn, if_neg hn]; exact ⟨rfl, rfl⟩
theorem SvPost.none {G : Nat → Grp} {n : Nat} {s : List Ent} {near f : Int} {w w' : World} (h : svN G n s f = 0 ∧ svC G n s f = -1) (hb : Below w.heap.size w w') : SvPost G n s near f w (.returned (.tuple #[.agg #[.slice .none 0 0], .int .i64 (-1)])) w' :=
  ⟨.slice .none 0 0, fun _ => ⟨.none, 0, 0, 0⟩, by rw [h.2], by unfold Hid; rw [h.1]; exact RowP.none _ _ _ _, hb⟩
structure CRp (w wr : World) (B : Nat) (a : Option Addr) (n cap : Nat) (v : Value) : Prop where
  x0 : wr.cell? ⟨w.heap.size, 0, none⟩ = some (.slice a n cap)
  x1 : ∃ u, wr.cell? ⟨w.heap.size + 1, 0, none⟩ = some u
  x3 : wr.cell? ⟨B + 1, 0, none⟩ = some v
  f1 : wr.frozen? ⟨w.heap.size + 1, 0, none⟩ = false
  f3 : wr.frozen? ⟨B + 1, 0, none⟩ = false
  sz : B + 1 < wr.heap.size
  bel : Below w.heap.size w wr
  hB : w.heap.size + 2 ≤ B
theorem CRp.below {w wr w' : World} {B n cap : Nat} {a : Option Addr} {v : Value} (h : CRp w wr B a n cap v) (hb : Below wr.heap.size wr w') : CRp w w' B a n cap v := by
  have hB := h.hB
  have hs := h.sz
  exact ⟨(hb.cell (by show w.heap.size < wr.heap.size; omega)).trans h.x0, h.x1.imp fun _ hu => (hb.cell (by show w.heap.size + 1 < wr.heap.size; omega)).trans hu, (hb.cell (by exact hs)).trans h.x3, (hb.frozen (by show w.heap.size + 1 < wr.heap.size; omega)).trans h.f1, (hb.frozen (by exact hs)).trans h.f3, Nat.lt_of_lt_of_le hs hb.size, h.bel.trans (hb.mono h.bel.size), hB⟩
theorem own_inj {g q n c : Nat} (h : (Value.slice (some ⟨g, 0, none⟩) n c).ownBlock = some q) : g = q := by
  have : some g = some q := h
  injection this
theorem RowP.some_lt {w : World} {base n m g c : Nat} {G : Nat → Grp} {T : Nat → Lg} (h : RowP w base (.slice (some ⟨g, 0, .none⟩) m c) n G T) : base ≤ g ∧ g < w.heap.size := h.gt g rfl
theorem crp_far {w wr X w3 : World} {B n cap g c k : Nat} {a : Option Addr} (hC : CRp w wr B a n cap (.slice (some ⟨g, 0, none⟩) k c)) (hg0 : w.heap.size + 2 ≤ g) (hg1 : g ≠ B + 1) (hwX : Below wr.heap.size wr X) (hgr : X.grownBy w3 (some g)) :
    CRp w w3 B a n cap (.slice (some ⟨g, 0, none⟩) k c) := by
  have hB := hC.hB
  have hs := hC.sz
  have hsX := hwX.size
  have hs3 := hgr.size
  have far : ∀ q, q < wr.heap.size → q ≠ g → ∀ o, w3.cell? ⟨q, o, none⟩ = wr.cell? ⟨q, o, none⟩ := fun q h2 h3 o => (hgr.cell_far _ (by show q < X.heap.size; omega) (fun e => by
    have e2 : some q = some g := e
    injection e2 with e2
    omega)).trans (hwX.cell (by exact h2))
  have farz : ∀ q, q < wr.heap.size → q ≠ g → ∀ o, w3.frozen? ⟨q, o, none⟩ = wr.frozen? ⟨q, o, none⟩ := fun q h2 h3 o => (hgr.frozen_far _ (by show q < X.heap.size; omega) (fun e => by
    have e2 : some q = some g := e
    injection e2 with e2
    omega)).trans (hwX.frozen (by exact h2))
  refine ⟨(far _ (by omega) (by omega) 0).trans hC.x0, hC.x1.imp fun _ hu => (far _ (by omega) (by omega) 0).trans hu, (far _ hs (by omega) 0).trans hC.x3, (farz _ (by omega) (by omega) 0).trans hC.f1, (farz _ hs (by omega) 0).trans hC.f3, by omega, ?_, hB⟩
  exact (hC.bel.trans (hwX.mono hC.bel.size)).grown hgr (by have := hC.bel.size; omega) (fun q hq => by
    have : some g = some q := hq
    injection this with this
    omega)
theorem crp_push {w wr X w3 : World} {B n cap g c k gg cc : Nat} {a : Option Addr} {G : Nat → Grp} {T : Nat → Lg} {t : Lg} (hC : CRp w wr B a n cap (.slice (some ⟨g, 0, none⟩) k c)) (hV : RowP wr (w.heap.size + 2) (.slice (some ⟨g, 0, none⟩) k c) k G T) (hg1 : g ≠ B + 1) (hT : ∀ i, i < k → B + 1 < (T i).lo) (hwX : Below wr.heap.size wr X) (hq : QP X (G k) t) (hlo : wr.heap.size ≤ t.lo)
    (hown : w3.ownsRow (w.heap.size + 2) 46 2 (.slice (some ⟨gg, 0, none⟩) (k + 1) cc) (k + 1) (encP G T k ++ gpL (G k) t)) (hgr : X.grownBy w3 (some g)) (hgg : some g = some gg ∨ X.heap.size ≤ gg) :
    CRp w (w3.setCell ⟨B + 1, 0, none⟩ (.slice (some ⟨gg, 0, none⟩) (k + 1) cc)) B a n cap (.slice (some ⟨gg, 0, none⟩) (k + 1) cc) ∧ RowP (w3.setCell ⟨B + 1, 0, none⟩ (.slice (some ⟨gg, 0, none⟩) (k + 1) cc)) (w.heap.size + 2) (.slice (some ⟨gg, 0, none⟩) (k + 1) cc) (k + 1) G (extL T k t) ∧ gg ≠ B + 1 ∧ ∀ i, i < k + 1 → B + 1 < (extL T k t i).lo := by
  have hB := hC.hB
  have hs := hC.sz
  have hgl := hV.some_lt
  have hsX := hwX.size
  have hC3 := crp_far hC hgl.1 hg1 hwX hgr
  have hVs := (hV.below hwX).snoc hq (by omega) (fun i hi => Nat.le_trans (hV.q i hi).hh.2 hlo) (fun q hq => Or.inl (by have := own_inj hq; omega)) hown hgr hgg
  have hg3 : gg ≠ B + 1 := by
    rcases hgg with q | q
    · injection q with q; omega
    · omega
  have hT2 : ∀ i, i < k + 1 → B + 1 < (extL T k t i).lo := fun i hi => by
    unfold extL
    by_cases e : i = k
    · rw [if_pos e]; omega
    · rw [if_neg e]; exact hT i (by omega)
  refine ⟨⟨by rw [far_block (by omega)]; exact hC3.x0, hC3.x1.imp fun _ hu => by rw [far_block (by omega)]; exact hu, set_same ⟨_, hC3.x3⟩, by rw [World.frozen?_setCell]; exact hC3.f1, by rw [World.frozen?_setCell]; exact hC3.f3, by have := hC3.sz; simpa [World.setCell] using this, hC3.bel.setCell (by show w.heap.size ≤ B + 1; omega) _, hB⟩, hVs.setB (fun q hq => by have := own_inj hq; omega) (fun i hi => Or.inl (hT2 i hi)), hg3, hT2⟩
end Go.Proofs.Ytgocjlpbokhoeaa
