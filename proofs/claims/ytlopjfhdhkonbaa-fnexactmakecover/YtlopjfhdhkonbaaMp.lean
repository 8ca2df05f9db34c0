/-
  A map from texts to numbers, by what it knows.
-/
import Derived.Test.YtlopjfhdhkonbaaCovA
import Derived.Test.YtlopjfhdhkonbaaSl
import Derived.Maps.OwnSet
namespace Go.Proofs.Ytlopjfhdhkonbaa
open Go.RowKit Go.Maps Go.ChangeMaps

theorem lawStr : Keyed Try.prog 9 := string_keyed Try.underlying9
theorem zeroInt (w : World) : (zeroValue 3).run Try.prog w = .ok (.int .i64 0) w := by kernel_rfl
abbrev keyL (s : ByteArray) : Lit := .string s.data.toList
theorem keyL_ne {s t : ByteArray} (h : s ≠ t) : keyL s ≠ keyL t := fun e => h (by
  injection e with e
  obtain ⟨s⟩ := s; obtain ⟨t⟩ := t
  exact congrArg _ (Array.toList_inj.1 e))

/-- block m of w is a map of at most n entries: Kn says which texts are keys, V what stands at them. -/
def MapAt (w : World) (m n : Nat) (Kn : ByteArray → Bool) (V : ByteArray → Int) : Prop :=
  ∃ D : DataW Unit, w.ownsMap Try.prog 9 (plainElem Try.prog 3) m n D ∧ ∀ s : ByteArray, has D (keyL s) = Kn s ∧ (Kn s = true → D.atKey (keyL s) (.lit (.int .i64 0)) = .lit (.int .i64 (V s)))

theorem MapAt.lt {w : World} {m n : Nat} {Kn : ByteArray → Bool} {V : ByteArray → Int} (h : MapAt w m n Kn V) : m < w.heap.size := by
  obtain ⟨D, h, _⟩ := h; exact h.lt
theorem MapAt.kept {w w' : World} {m n : Nat} {Kn : ByteArray → Bool} {V : ByteArray → Int} (h : MapAt w m n Kn V) (hb : w'.heap[m]? = w.heap[m]?) : MapAt w' m n Kn V := by
  obtain ⟨D, ⟨es, clock, h1, r⟩, h2⟩ := h
  exact ⟨D, ⟨es, clock, hb.trans h1, r⟩, h2⟩
theorem MapAt.below {w w' : World} {m n : Nat} {Kn : ByteArray → Bool} {V : ByteArray → Int} (h : MapAt w m n Kn V) (hb : Below w.heap.size w w') : MapAt w' m n Kn V := h.kept (hb.block m h.lt)
theorem MapAt.set {w : World} {m n C j : Nat} {Kn : ByteArray → Bool} {V : ByteArray → Int} (h : MapAt w m n Kn V) (hC : m ≠ C) (x : Value) : MapAt (w.setCell ⟨C, j, none⟩ x) m n Kn V := by
  obtain ⟨D, h1, h2⟩ := h
  exact ⟨D, h1.setCell (by exact hC) _, h2⟩
theorem MapAt.made (w : World) : MapAt (w.alloc (.map #[] 0)) w.heap.size 0 (fun _ => false) (fun _ => 0) :=
  ⟨.map [], World.ownsMap_made w _ _ _, fun s => ⟨rfl, fun h => by cases h⟩⟩
theorem MapAt.congr {w : World} {m n : Nat} {Kn Kn' : ByteArray → Bool} {V V' : ByteArray → Int} (h : MapAt w m n Kn V) (hK : ∀ s, Kn s = Kn' s) (hV : ∀ s, Kn' s = true → V s = V' s) : MapAt w m n Kn' V' := by
  obtain ⟨D, h1, h2⟩ := h
  refine ⟨D, h1, fun s => ⟨(h2 s).1.trans (hK s), fun hs => ?_⟩⟩
  rw [(h2 s).2 ((hK s).trans hs), hV s hs]
/-- behind a store. -/
theorem mapAt_put {w : World} {m n : Nat} {D : DataW Unit} {Kn : ByteArray → Bool} {V : ByteArray → Int} {k : ByteArray} {x : Int} (hD : IsMap D)
    (hown : w.ownsMap Try.prog 9 (plainElem Try.prog 3) m (n + 1) (D.put (keyL k) (.lit (.int .i64 x))))
    (h2 : ∀ s : ByteArray, has D (keyL s) = Kn s ∧ (Kn s = true → D.atKey (keyL s) (.lit (.int .i64 0)) = .lit (.int .i64 (V s)))) :
    MapAt w m (n + 1) (fun s => decide (s = k) || Kn s) (fun s => if s = k then x else V s) := by
  refine ⟨_, hown, fun s => ?_⟩
  by_cases e : s = k
  · subst e
    exact ⟨by rw [has_put_same hD (k := keyL s) trivial]; simp, fun _ => by rw [atKey_put_same hD (k := keyL s) trivial]; simp⟩
  · refine ⟨by rw [has_put_other (keyL_ne e), (h2 s).1]; simp [e], fun hs => ?_⟩
    have hs' : Kn s = true := by simpa [e] using hs
    rw [atKey_put_other (keyL_ne e), (h2 s).2 hs']; simp [e]

/-- the first n texts are all keys. -/
def allTo (Kn : ByteArray → Bool) (S : Nat → ByteArray) : Nat → Bool
  | 0 => true
  | n + 1 => allTo Kn S n && Kn (S n)
theorem allTo_le (Kn : ByteArray → Bool) (S : Nat → ByteArray) : ∀ n k, k < n → Kn (S k) = false → allTo Kn S n = false
  | 0, _, h, _ => absurd h (Nat.not_lt_zero _)
  | n + 1, k, h, e => by
    unfold allTo
    by_cases hk : k = n
    · subst hk; rw [e]; simp
    · rw [allTo_le Kn S n k (by omega) e]; rfl

def FindPost (w : World) (Kn : ByteArray → Bool) (V : ByteArray → Int) (S : Nat → ByteArray) (k : Nat) (e : Ending) (w' : World) : Prop :=
  Below w.heap.size w w' ∧ ((allTo Kn S k = true ∧ ∃ v, e = .returned (.tuple #[v, .bool true]) ∧ OwnI w' w.heap.size v k (fun i => V (S i))) ∨ (allTo Kn S k = false ∧ e = .returned (.tuple #[.slice none 0 0, .bool false])))

theorem make_find (n : Nat) (h : n * 8 ≤ 140737488351232) (W : World) :
    (Instr.makeSlice 52 (.int .i64 0) (.int .i64 (n : Int))).run Try.prog W = .ok (.slice (some ⟨W.heap.size, 0, none⟩) 0 n) (W.alloc (.cells (madeCells #[.int .i64 0] n) 3)) := by
  obtain ⟨i0, hi, hz0, hz1, hz2⟩ := info_parts Try.infoIntO
  have := run_make (P := Try.prog) W 52 3 i0 (.int .i64 0) Try.underlying52 hi hz0 .i64 .i64 0 (n : Int) (by omega) (by omega) (by rw [hz2]; omega) (by omega)
  rw [this, hz1]
  simp [Value.cells]
end Go.Proofs.Ytlopjfhdhkonbaa
