/-
  A cover that is being made: its two rows.
-/
import Derived.Test.YtlopjfhdhkonbaaRfI
import Derived.Test.YtlopjfhdhkonbaaFulS
import Derived.Test.YtlopjfhdhkonbaaGrA
import Derived.Test.YtlopjfhdhkonbaaRmC
import Derived.Deep.AppendLies
import Derived.Deep.RegionLaw
import Derived.Deep.CutRange
namespace Go.Proofs.Ytlopjfhdhkonbaa
open Go.RowKit

theorem typApart {w : World} {base base' e e' size size' n n' : Nat} {v u : Value} {xs ys : List Value} (h : w.ownsRow base e size v n xs) (h' : w.ownsRow base' e' size' u n' ys) (he : e ≠ e') (q : Nat) (hq : v.ownBlock = some q) : u.ownBlock ≠ some q := fun eq => by
  obtain ⟨_, h2⟩ := h
  obtain ⟨_, h3⟩ := h'
  rcases h2 with ⟨rfl, _⟩ | ⟨g, cap, cur, rfl, _, hh, _⟩
  · cases hq
  · rcases h3 with ⟨rfl, _⟩ | ⟨g', cap', cur', rfl, _, hh', _⟩
    · cases eq
    · have e1 : g = q := ownInj hq
      have e2 : g' = q := ownInj eq
      subst e1
      rw [e2, hh] at hh'
      injection hh' with hh'
      injection hh' with _ h5 _
      exact he h5

structure CovO (w : World) (base : Nat) (sv : Value) (i : Nat) (rv : Value) (j : Nat) (f : Nat → Sp) (rn : Nat → Nat) (X : Nat → Nat → Int) (T : Nat → Lr) : Prop where
  s : OwnS w base sv i f
  r : RowR w base rv j rn X T
  ap : ∀ g, sv.ownBlock = some g → ∀ p, p < j → g < (T p).lo ∨ (T p).hi ≤ g
section
variable {w w' : World} {base i j : Nat} {sv rv : Value} {f : Nat → Sp} {rn : Nat → Nat} {X : Nat → Nat → Int} {T : Nat → Lr}
theorem CovO.below (h : CovO w base sv i rv j f rn X T) (hb : Below w.heap.size w w') : CovO w' base sv i rv j f rn X T := ⟨ownsRow_blw h.s hb, h.r.below hb, h.ap⟩
theorem CovO.ne (h : CovO w base sv i rv j f rn X T) (q : Nat) (hq : sv.ownBlock = some q) : rv.ownBlock ≠ some q := typApart h.s h.r.own (by decide) q hq
theorem CovO.base_le {base' : Nat} (h : CovO w base sv i rv j f rn X T) (hb : base' ≤ base) : CovO w base' sv i rv j f rn X T := ⟨rowLow h.s hb, h.r.base_le hb, h.ap⟩
theorem CovO.setB {C o : Nat} {x : Value} (h : CovO w base sv i rv j f rn X T) (hC : C < base) : CovO (w.setCell ⟨C, o, none⟩ x) base sv i rv j f rn X T :=
  ⟨rowKept h.s (fun g hg => Below.heap_setCell _ _ _ _ (by show g ≠ C; have := rowGt h.s g hg; omega)), h.r.setB (fun g hg => by have := rowGt h.r.own g hg; omega) (fun p hp => Or.inl (by have := h.r.low p hp; omega)), h.ap⟩
theorem CovO.grownX {row : Option Nat} (h : CovO w base sv i rv j f rn X T) (hg : w.grownBy w' row) (h1 : ∀ g, sv.ownBlock = some g → some g ≠ row) (h2 : ∀ g, rv.ownBlock = some g → some g ≠ row) (h3 : ∀ p, p < j → ∀ b, row = some b → b < (T p).lo ∨ (T p).hi ≤ b) : CovO w' base sv i rv j f rn X T :=
  ⟨rowKept h.s (fun g q => hg.block g (rowGt h.s g q).2 (h1 g q)), h.r.grownX hg h2 h3, h.ap⟩
theorem CovO.pushS {gg cc : Nat} (h : CovO w base sv i rv j f rn X T) (hown : w'.ownsRow base 44 2 (.slice (some ⟨gg, 0, none⟩) (i + 1) cc) (i + 1) (encS f i ++ spV (f i))) (hgr : w.grownBy w' sv.ownBlock) (hgg : sv.ownBlock = some gg ∨ w.heap.size ≤ gg) : CovO w' base (.slice (some ⟨gg, 0, none⟩) (i + 1) cc) (i + 1) rv j f rn X T := by
  refine ⟨by unfold OwnS; rw [← encS_snoc]; exact hown, h.r.grownX hgr (fun g hg e => h.ne g e.symm hg) (fun p hp b hb => h.ap b hb p hp), fun g hg p hp => ?_⟩
  have := ownInj hg
  subst this
  rcases hgg with q | q
  · exact h.ap _ q p hp
  · exact Or.inr (Nat.le_trans (h.r.q p hp).hh.2 q)
theorem CovO.pushR {w0 : World} {t : Lr} {gg cc : Nat} (h : CovO w0 base sv i rv j f rn X T) (hb : Below w0.heap.size w0 w) (hbs : base ≤ w0.heap.size) (ht : QR w (rn j) (X j) t) (hlo : w0.heap.size ≤ t.lo)
    (hown : w'.ownsRow base 52 1 (.slice (some ⟨gg, 0, none⟩) (j + 1) cc) (j + 1) (encR rn T j ++ [.slice t.a (rn j) t.c])) (hgr : w.grownBy w' rv.ownBlock) (hgg : rv.ownBlock = some gg ∨ w.heap.size ≤ gg) : CovO w' base sv i (.slice (some ⟨gg, 0, none⟩) (j + 1) cc) (j + 1) f rn X (extR T j t) := by
  have hw := h.below hb
  refine ⟨rowKept hw.s (fun g q => hgr.block g (rowGt hw.s g q).2 (fun e => h.ne g q e.symm)), hw.r.snoc ht (by omega) (fun p hp => Nat.le_trans (h.r.q p hp).hh.2 hlo) (fun g hg => Or.inl (by have := rowGt h.r.own g hg; omega)) hown hgr hgg, fun g hg p hp => ?_⟩
  unfold extR
  by_cases e : p = j
  · rw [if_pos e]; exact Or.inl (by have := rowGt h.s g hg; omega)
  · rw [if_neg e]; exact h.ap g hg p (by omega)
theorem CovO.sls (h : CovO w base sv i rv j f rn X T) : ∃ a cap, sv = .slice a i cap ∧ SlP w a i cap (spC f) (spQ f) := h.s.sl
end
/-- what MakeCover answers. -/
def mcN (E : Nat → Ev) (n : Nat) : Nat := if roomTo E n then n else 0
abbrev mcF (E : Nat → Ev) (n : Nat) : Nat → Sp := sp (naE E) (rsE E n)
abbrev mcR (E : Nat → Ev) (n : Nat) : Nat → Nat := fun p => chN (naE E) (rsE E n) (p + 1)
abbrev mcX (E : Nat → Ev) (n : Nat) : Nat → Nat → Int := fun p c => ((rc (naE E) (rsE E n) p c : Nat) : Int)
def McPost (E : Nat → Ev) (n : Nat) (w : World) (x : Ending) (w' : World) : Prop :=
  ∃ sv rv T, x = .returned (.tuple #[.agg #[sv, rv], .bool (roomTo E n)]) ∧ Hid (CovO w' w.heap.size sv (mcN E n) rv (mcN E n) (mcF E n) (mcR E n) (mcX E n) T) ∧ Below w.heap.size w w'
theorem McPost.none {E : Nat → Ev} {n : Nat} {w w' : World} (h : roomTo E n = false) (hb : Below w.heap.size w w') : McPost E n w (.returned (.tuple #[.agg #[.slice .none 0 0, .slice .none 0 0], .bool false])) w' := by
  refine ⟨.slice .none 0 0, .slice .none 0 0, fun _ => ⟨.none, 0, 0, 0⟩, by rw [h], ?_, hb⟩
  have : mcN E n = 0 := by unfold mcN; rw [h]; rfl
  unfold Hid
  rw [this]
  exact ⟨OwnS.nil _ _ _, RowR.nil _ _ _ _ _, fun g hg => by cases hg⟩
theorem endF_new {na : Nat → Nat} {rs : Nat → Nat → Nat} {n k c : Nat} (H : ∀ k, k < n → ∀ j, j < na k → rs k j < k) (hk : k ≤ n) (hc : chN na rs k ≤ c) : endF na rs k c = 0 := by
  rcases (endF_spec H k hk c).2 with h | ⟨i, hi, e, _⟩
  · exact h
  · have := ((sp_inv H k hk).1 i hi).1
    omega
theorem OwnI.putY {w : World} {base g cap n c : Nat} {X Y : Nat → Int} {y : Int} (h : OwnI w base (.slice (some ⟨g, 0, none⟩) n cap) n X) (hY : ∀ i, i < n → Y i = if i = c then y else X i) : OwnI (w.setCell ⟨g, c, none⟩ (.int .i64 y)) base (.slice (some ⟨g, 0, none⟩) n cap) n Y := by
  have := (World.ownsRow.stored h c (.int .i64 y)).1
  unfold OwnI
  have e : ints Y n = (ints X n).set c (.int .i64 y) := by
    refine List.ext_getElem? fun i => ?_
    by_cases hi : i < n
    · rw [ints_get Y n i hi, List.getElem?_set, hY i hi]
      by_cases e : c = i
      · subst e; rw [if_pos rfl, if_pos rfl, if_pos (by rw [ints_len]; exact hi)]
      · rw [if_neg e, if_neg (fun q => e q.symm), ints_get X n i hi]
    · rw [List.getElem?_eq_none (by rw [ints_len]; omega), List.getElem?_eq_none (by rw [List.length_set, ints_len]; omega)]
  rw [e]
  exact this
end Go.Proofs.Ytlopjfhdhkonbaa
