import Derived.Test.YtfjfhnjoghlbfaaGreatCovA
import Derived.Test.YtfjfhnjoghlbfaaGreatSl
import Derived.Maps.OwnSet
/-
  A map from texts to numbers, by what it knows.
-/
namespace Go.Proofs.YtfjfhnjoghlbfaaGreat
open Go.RowKit Go.Maps Go.ChangeMaps

theorem lawStr : Keyed Tryz.prog 9 := string_keyed Tryz.underlying9
theorem zeroInt (w : World) : (zeroValue 3).run Tryz.prog w = .ok (.int .i64 0) w := by kernel_rfl
abbrev keyL (s : ByteArray) : Lit := .string s.data.toList
theorem keyL_ne {s t : ByteArray} (h : s ≠ t) : keyL s ≠ keyL t := fun e => h (by
  injection e with e
  obtain ⟨s⟩ := s; obtain ⟨t⟩ := t
  exact congrArg _ (Array.toList_inj.1 e))

/-- block m of w is a map of at most n entries: Kn says which texts are keys, V what stands at them. -/
def MapAt (w : World) (m n : Nat) (Kn : ByteArray → Bool) (V : ByteArray → Int) : Prop :=
  ∃ D : DataW Unit, w.ownsMap Tryz.prog 9 (plainElem Tryz.prog 3) m n D ∧ ∀ s : ByteArray, has D (keyL s) = Kn s ∧ (Kn s = true → D.atKey (keyL s) (.lit (.int .i64 0)) = .lit (.int .i64 (V s)))

theorem MapAt.lt {w : World} {m n : Nat} {Kn : ByteArray → Bool} {V : ByteArray → Int} (h : MapAt w m n Kn V) : m < w.heap.size := by
  obtain ⟨D, h, _⟩ := h; exact h.lt
theorem MapAt.kept {w w' : World} {m n : Nat} {Kn : ByteArray → Bool} {V : ByteArray → Int} (h : MapAt w m n Kn V) (hb : w'.heap[m]? = w.heap[m]?) : MapAt w' m n Kn V := by
  obtain ⟨D, ⟨es, clock, h1, r⟩, h2⟩ := h
  exact ⟨D, ⟨es, clock, hb.trans h1, r⟩, h2⟩
theorem MapAt.below {w w' : World} {m n : Nat} {Kn : ByteArray → Bool} {V : ByteArray → Int} (h : MapAt w m n Kn V) (hb : Below w.heap.size w w') : MapAt w' m n Kn V := h.kept (hb.block m h.lt)
theorem MapAt.set {w : World} {m n C j : Nat} {Kn : ByteArray → Bool} {V : ByteArray → Int} (h : MapAt w m n Kn V) (hC : m ≠ C) (x : Value) : MapAt (w.setCell ⟨C, j, none⟩ x) m n Kn V := by
  obtain ⟨D, h1, h2⟩ := h
  exact ⟨D, h1.setCell (by exact hC) _, h2⟩
theorem MapAt.made (w : World) : MapAt (w.alloc (.map #[] 0)) w.heap.size 0 (fun _ => false) (fun _ => 0) :=
  ⟨.map [], World.ownsMap_made w _ _ _, fun s => ⟨rfl, fun h => by cases h⟩⟩
theorem MapAt.congr {w : World} {m n : Nat} {Kn Kn' : ByteArray → Bool} {V V' : ByteArray → Int} (h : MapAt w m n Kn V) (hK : ∀ s, Kn s = Kn' s) (hV : ∀ s, Kn' s = true → V s = V' s) : MapAt w m n Kn' V' := by
  obtain ⟨D, h1, h2⟩ := h
  refine ⟨D, h1, fun s => ⟨(h2 s).1.trans (hK s), fun hs => ?_⟩⟩
  rw [(h2 s).2 ((hK s).trans hs), hV s hs]
/-- behind a store. -/
theorem mapAt_put {w : World} {m n : Nat} {D : DataW Unit} {Kn : ByteArray → Bool} {V : ByteArray → Int} {k : ByteArray} {x : Int} (hD : IsMap D)
    (hown : w.ownsMap Tryz.prog 9 (plainElem Tryz.prog 3) m (n + 1) (D.put (keyL k) (.lit (.int .i64 x))))
    (h2 : ∀ s : ByteArray, has D (keyL s) = Kn s ∧ (Kn s = true → D.atKey (keyL s) (.lit (.int .i64 0)) = .lit (.int .i64 (V s)))) :
    MapAt w m (n + 1) (fun s => decide (s = k) || Kn s) (fun s => if s = k then x else V s) := by
  refine ⟨_, hown, fun s => ?_⟩
  by_cases e : s = k
  · subst e
    exact ⟨by rw [has_put_same hD (k := keyL s) trivial]; simp, fun _ => by rw [atKey_put_same hD (k := keyL s) trivial]; simp⟩
  · refine ⟨by rw [has_put_other (keyL_ne e), (h2 s).1]; simp [e], fun hs => ?_⟩
    have hs' : Kn s = true := by simpa [e] using hs
    rw [atKey_put_other (keyL_ne e), (h2 s).2 hs']; simp [e]

/-- the first n texts are all keys. -/
def allTo (Kn : ByteArray → Bool) (S : Nat → ByteArray) : Nat → Bool
  | 0 => true
  | n + 1 => allTo Kn S n && Kn (S n)
theorem allTo_le (Kn : ByteArray → Bool) (S : Nat → ByteArray) : ∀ n k, k < n → Kn (S k) = false → allTo Kn S n = false
  | 0, _, h, _ => absurd h (Nat.not_lt_zero _)
  | n + 1, k, h, e => by
    unfold allTo
    by_cases hk : k = n
    · subst hk; rw [e]; simp
    · rw [allTo_le Kn S n k (by omega) e]; rfl

def FindPost (w : World) (Kn : ByteArray → Bool) (V : ByteArray → Int) (S : Nat → ByteArray) (k : Nat) (e : Ending) (w' : World) : Prop :=
  Below w.heap.size w w' ∧ ((allTo Kn S k = true ∧ ∃ v, e = .returned (.tuple #[v, .bool true]) ∧ OwnI w' w.heap.size v k (fun i => V (S i))) ∨ (allTo Kn S k = false ∧ e = .returned (.tuple #[.slice none 0 0, .bool false])))

theorem make_find (n : Nat) (h : n * 8 ≤ 140737488351232) (W : World) :
    (Instr.makeSlice 51 (.int .i64 0) (.int .i64 (n : Int))).run Tryz.prog W = .ok (.slice (some ⟨W.heap.size, 0, none⟩) 0 n) (W.alloc (.cells (madeCells #[.int .i64 0] n) 3)) := by
  obtain ⟨i0, hi, hz0, hz1, hz2⟩ := info_parts Tryz.infoIntO
  have := run_make (P := Tryz.prog) W 51 3 i0 (.int .i64 0) Tryz.underlying51 hi hz0 .i64 .i64 0 (n : Int) (by omega) (by omega) (by rw [hz2]; omega) (by omega)
  rw [this, hz1]
  simp [Value.cells]
end Go.Proofs.YtfjfhnjoghlbfaaGreat
namespace Go.Proofs.YtfjfhnjoghlbfaaGreat
open Go.RowKit Go.Maps Go.ChangeMaps

set_option maxHeartbeats 1600000 in
theorem find_zero (m : Nat) (Kn : ByteArray → Bool) (V : ByteArray → Int) (S : Nat → ByteArray) (a : Option Addr) (cap : Nat) (w : World) :
    Calls Tryz.prog 38 #[.map (some m), .slice a 0 cap] w (FindPost w Kn V S 0) := by
  have hmk := make_find 0 (by decide) w
  simp only [Int.ofNat_zero] at hmk
  go_enter Tryz.func38, Tryz.ntmps38
  go_wp2
  clear hmk
  refine wp_loop_rounds 1 ?_
  rw [rounds_succ]
  go_wp2
  refine bodyPost_ret (v := .tuple #[.slice (some ⟨w.heap.size, 0, none⟩) 0 0, .bool true]) (by simp [results, Tryz.results38, go_sem]) rfl ⟨(Below.refl _ _).alloc (Nat.le_refl _) _, Or.inl ⟨rfl, _, rfl, OwnI.made w _ 0 _ (by decide) (size_madeCells _ _) (Nat.le_refl _) _⟩⟩

set_option maxHeartbeats 1600000 in
theorem find_any (m n : Nat) (Kn : ByteArray → Bool) (V : ByteArray → Int) (S : Nat → ByteArray) (b off k cap : Nat) (w : World) (hm : MapAt w m n Kn V) (hk : k ≤ 1048576) (hb : b < w.heap.size)
    (hs : ∀ i, i < k → (S i).size ≤ maxLen) (hc : ∀ i, i < k → w.cell? ⟨b, off + i, none⟩ = some (.string (S i))) :
    Calls Tryz.prog 38 #[.map (some m), .slice (some ⟨b, off, none⟩) k cap] w (FindPost w Kn V S k) := by
  obtain ⟨i0, hi, hz0, hz1, hz2⟩ := info_parts Tryz.infoIntO
  have hmk := make_find k (by omega) w
  go_enter Tryz.func38, Tryz.ntmps38
  go_wp2
  clear hmk
  go_loopw [6, 16] (fun v i wr => ∃ j : Nat, j ≤ k ∧ i = .int .i64 j ∧ Hid (allTo Kn S j = true) ∧ OwnI wr w.heap.size v j (fun i => V (S i)) ∧ Below w.heap.size w wr) (fun _ i _ => k - (intOf i).toNat)
  case atStart => exact ⟨0, Nat.zero_le _, rfl, rfl, OwnI.made w _ k _ (by unfold maxLen; omega) (size_madeCells _ _) (Nat.le_refl _) _, (Below.refl _ _).alloc (Nat.le_refl _) _⟩
  case round =>
    obtain ⟨j, hj, rfl, hall, hown, hbel⟩ := hrel
    by_cases hlt : j < k
    · obtain ⟨D, hD, hK⟩ := hm.below hbel
      have hck : wr.cell? ⟨b, off + j, none⟩ = some (.string (S j)) := (hbel.cell (by exact hb)).trans (hc j hlt)
      have hkey : keyOf Tryz.prog 9 (.string (S j)) = some (.string (S j).data.toList) := Go.WideMaps.keyOf_string_mk Tryz.underlying9 (hs j hlt)
      have hhas : has D (.string (S j).data.toList) = Kn (S j) := (hK (S j)).1
      have hat0 : Hid (Kn (S j) = true → D.atKey (.string (S j).data.toList) (.lit (.int .i64 0)) = .lit (.int .i64 (V (S j)))) := (hK (S j)).2
      have hm1 : j + 1 ≤ maxLen := by unfold maxLen; omega
      have hm2 : (j + 1) * 8 ≤ 140737488355328 := by omega
      have hag : ∀ q, u6.ownBlock = some q → w.heap.size ≤ q := fun q hq => (World.ownsRow.lt hown q hq).1
      have hm3 : ∀ o, w.heap.size ≤ (wr.alloc o).heap.size := fun o => by have := hbel.size; simp; omega
      clear hK
      cases hkn : Kn (S j)
      · rw [hkn] at hhas
        have hv : Hid (allTo Kn S k = false) := allTo_le Kn S k j hlt hkn
        go_wp2_with (at_lookup; refine wpList_lookup_own_ok_int _ rfl _ _ 45 rfl 9 3 .i64 lawStr Tryz.underlying45 Tryz.underlying3 (zeroInt _) m n D rfl hD _ _ rfl hkey ?_; intro c hat hwc; rw [hhas])
        refine bodyPost_ret (v := .tuple #[.slice none 0 0, .bool false]) (by simp [results, Tryz.results38, go_sem]) rfl ⟨hbel, Or.inr ⟨hv.out, rfl⟩⟩
      · rw [hkn] at hhas
        have hall2 : Hid (allTo Kn S (j + 1) = true) := by unfold Hid allTo; rw [hall.out, hkn]; rfl
        have hat1 := hat0.out hkn
        go_wp2_with (first
          | (at_lookup; refine wpList_lookup_own_ok_int _ rfl _ _ 45 rfl 9 3 .i64 lawStr Tryz.underlying45 Tryz.underlying3 (zeroInt _) m n D rfl hD _ _ rfl hkey ?_; intro c hat hwc; rw [hhas]; have hcv : Hid (c = V (S j)) := by (have := hat.symm.trans hat1; simpa [Hid] using this))
          | (at_builtin; refine wpList_append_own _ rfl _ _ 51 rfl w.heap.size 3 i0 (.int .i64 0) 1 8 Tryz.underlying51 hi hz0 hz1 hz2 rfl (by decide) _ _ _ rfl (World.ownsRow.alloc hown _) ⟨wr.heap.size, 0, none⟩ 1 1 [.int .i64 c] rfl rfl (one_cellsI _ _ _) (one_oneI _) hm1 hm2 (hm3 _) ?_; intro v2 w2 hown2 hgrow2 _))
        go_roundw
        case rel => exact ⟨j + 1, by omega, by go_num, hall2, OwnI.snoc hown2 hcv.out, (hbel.alloc hbel.size _).grown hgrow2 (hm3 _) hag⟩
        case measure => simp [intOf]; omega
    · have hjk : j = k := by omega
      subst hjk
      go_wp2
      refine bodyPost_ret (v := .tuple #[u6, .bool true]) (by simp [results, Tryz.results38, go_sem]) rfl ⟨hbel, Or.inl ⟨hall.out, _, rfl, hown⟩⟩

theorem find_sl {m n : Nat} {Kn : ByteArray → Bool} {V : ByteArray → Int} {S : Nat → ByteArray} {a : Option Addr} {k cap : Nat} (w : World) (hm : MapAt w m n Kn V) (hk : k ≤ 1048576) (hs : SlS w a k cap S) :
    Calls Tryz.prog 38 #[.map (some m), .slice a k cap] w (FindPost w Kn V S k) := by
  rcases hs.cells with rfl | ⟨b, off, rfl, hb, hc⟩
  · exact find_zero m Kn V S a cap w
  · exact find_any m n Kn V S b off k cap w hm hk hb hs.size hc

theorem knows_sl {m n : Nat} {Kn : ByteArray → Bool} {V : ByteArray → Int} {S : Nat → ByteArray} {a : Option Addr} {k cap : Nat} (w : World) (hm : MapAt w m n Kn V) (hk : k ≤ 1048576) (hs : SlS w a k cap S) :
    Calls Tryz.prog 57 #[.map (some m), .slice a k cap] w fun e w' => e = .returned (.bool (allTo Kn S k)) ∧ Below w.heap.size w w' := by
  go_enter Tryz.func57, Tryz.ntmps57
  go_wp2_with fail
  refine (find_sl w hm hk hs).mono ?_
  rintro e w1 ⟨hb1, hpost⟩
  rcases hpost with ⟨ht, v, rfl, _⟩ | ⟨hf, rfl⟩
  · have hv : Hid (true = allTo Kn S k) := ht.symm
    clear ht
    go_wp2
    go_ret
    exact ⟨ret_bool hv.out, hb1⟩
  · have hv : Hid (false = allTo Kn S k) := hf.symm
    clear hf
    go_wp2
    go_ret
    exact ⟨ret_bool hv.out, hb1⟩
end Go.Proofs.YtfjfhnjoghlbfaaGreat
