import Derived.Test.YtfjfhnjoghlbfaaGreatBase
import Derived.Test.YtfjfhnjoghlbfaaGreatProg
import Derived.Laws.BytesArg
import Derived.Lib.ItoaLen
import Derived.Deep.DeepFit
import Derived.Test.YtfjfhnjoghlbfaaGreatOwnB
import Derived.Test.YtfjfhnjoghlbfaaGreatPureA
import Derived.Test.YtfjfhnjoghlbfaaGreatSl
import Derived.Deep.RegionWith
import Derived.Test.YtfjfhnjoghlbfaaGreatMkD
namespace Go.Proofs.YtfjfhnjoghlbfaaGreat
open Go.RowKit

theorem strOfNums_one (n : Nat) : strOfNums [(n : Int)] = ⟨#[UInt8.ofNat n]⟩ := by
  simp [strOfNums]

theorem conv_one (W : World) (B n : Nat) (hc : W.cell? ⟨B, 0, none⟩ = some (.int .u8 (n : Int))) :
    (convert 88 9 (.slice (some ⟨B, 0, none⟩) 1 1)).run Tryz.prog W = .ok (.string ⟨#[UInt8.ofNat n]⟩) W := by
  rw [run_convert_bytes_arg W 88 5 Tryz.underlying88 Tryz.underlying5 B 0 1 1 [(n : Int)] rfl (fun i hi => by
    have : i = 0 := by omega
    subst this; exact hc) 9 Tryz.underlying9, strOfNums_one n]

end Go.Proofs.YtfjfhnjoghlbfaaGreat
/-
  The marks that the laws write into an answer: markText, markStringS, heldStringS.
-/
namespace Go.Proofs.YtfjfhnjoghlbfaaGreat
open Go.RowKit

/-- the mark of a number. -/
def mkT (k : Nat) : ByteArray := ⟨(109 :: Lib.decDigits k).toArray⟩
theorem mkT_size {k : Nat} (h : k ≤ 1000000000000) : (mkT k).size ≤ 41 := by
  show (109 :: Lib.decDigits k).toArray.size ≤ 41
  rw [List.size_toArray, List.length_cons, Lib.decDigits_length]
  have := Lib.nDigits_le20 k (by omega)
  omega
theorem mkT_zero : mkT 0 = ⟨#[109, 48]⟩ := by
  unfold mkT; rw [Lib.decDigits_one (by decide)]; rfl

/-- the digits that are still to come, and those that are there. -/
def DecAt (k0 k : Nat) (X : ByteArray) : Prop := (k = 0 ∧ X.data.toList = Lib.decDigits k0) ∨ (0 < k ∧ Lib.decDigits k ++ X.data.toList = Lib.decDigits k0)
theorem decAt_step {k0 k : Nat} {X : ByteArray} (hk : 0 < k) (h : DecAt k0 k X) : DecAt k0 (k / 10) (⟨#[UInt8.ofNat (48 + k % 10)]⟩ ++ X) := by
  rcases h with ⟨h0, _⟩ | ⟨_, h⟩
  · omega
  · have hd : (⟨#[UInt8.ofNat (48 + k % 10)]⟩ ++ X : ByteArray).data.toList = UInt8.ofNat (48 + k % 10) :: X.data.toList := by simp [ByteArray.data_append]
    by_cases h10 : k < 10
    · left
      refine ⟨by omega, ?_⟩
      rw [hd, ← h, Lib.decDigits_one h10, show k % 10 = k by omega]; rfl
    · right
      refine ⟨by omega, ?_⟩
      rw [hd, ← h, Lib.decDigits.eq_1 k, dif_neg h10, List.append_assoc]; rfl
theorem decAt_len {k0 k : Nat} {X : ByteArray} (h : DecAt k0 k X) (hk : k0 ≤ 1000000000000) : X.size ≤ 20 := by
  have hl : (Lib.decDigits k0).length ≤ 20 := by rw [Lib.decDigits_length]; exact Lib.nDigits_le20 k0 (by omega)
  have hx : X.size = X.data.toList.length := rfl
  rcases h with ⟨_, h⟩ | ⟨_, h⟩
  · rw [hx, h]; exact hl
  · have := congrArg List.length h
    rw [List.length_append] at this
    omega

set_option maxRecDepth 100000 in
set_option maxHeartbeats 800000 in
theorem mkT_any (k0 : Nat) (w : World) (h1 : k0 ≤ 1000000000000) :
    Calls Tryz.prog 27 #[.int .i64 (k0 : Int)] w fun e w' => e = .returned (.string (mkT k0)) ∧ Below w.heap.size w w' := by
  by_cases h0 : k0 = 0
  · subst h0
    have hz := mkT_zero
    go_enter Tryz.func27, Tryz.ntmps27
    go_wp2
    go_ret
    exact ⟨ret_str hz.symm, Below.refl _ _⟩
  · have hpos : ¬ ((k0 : Int) ≤ 0) := by omega
    go_enter Tryz.func27, Tryz.ntmps27
    go_wp2_with fail
    go_loopw [0, 3] (fun kv ov wr => ∃ (k : Nat) (X : ByteArray), kv = .int .i64 k ∧ ov = .string X ∧ k ≤ k0 ∧ Hid (DecAt k0 k X) ∧ Below w.heap.size w wr) (fun kv _ _ => (intOf kv).toNat)
    case atStart => exact ⟨k0, ByteArray.empty, rfl, rfl, Nat.le_refl _, Or.inr ⟨by omega, by simp⟩, Below.refl _ _⟩
    case round =>
      obtain ⟨k, X, rfl, rfl, hk, hat, hbel⟩ := hrel
      have hX := decAt_len hat.out h1
      by_cases hz : 0 < k
      · obtain ⟨m, hm⟩ : ∃ m : Nat, (k : Int) / 10 = m := ⟨k / 10, by omega⟩
        obtain ⟨d, hd⟩ : ∃ d : Nat, (k : Int) % 10 = d := ⟨k % 10, by omega⟩
        have Hnew : Hid (DecAt k0 m (⟨#[UInt8.ofNat (48 + d)]⟩ ++ X)) := by
          have := decAt_step hz hat.out
          rw [show k / 10 = m by omega, show k % 10 = d by omega] at this
          exact this
        have hd9 : d ≤ 9 := by omega
        have hmk : m < k := by omega
        have ew1 : IntKind.i64.wrap ((k : Int) / 10) = m := by rw [IntKind.wrap_i64]; omega
        have ew2 : (k : Int).tmod 10 = d := by rw [Int.tmod_eq_emod_of_nonneg (by omega), hd]
        have ew3 : IntKind.i64.wrap (48 + (d : Int)) = 48 + d := by rw [IntKind.wrap_i64]; omega
        have ew4 : IntKind.u8.wrap (48 + (d : Int)) = 48 + d := by rw [IntKind.wrap_u8]; omega
        have hcv : (convert 88 9 (.slice (some ⟨wr.heap.size, 0, none⟩) 1 1)).run Tryz.prog (wr.alloc (.cells #[.int .u8 (48 + (d : Int))] 5)) = .ok (.string ⟨#[UInt8.ofNat (48 + d)]⟩) (wr.alloc (.cells #[.int .u8 (48 + (d : Int))] 5)) :=
          conv_one _ _ (48 + d) (by rw [World.cell?_alloc_at _ _ _ _ rfl]; simp)
        have hY1 : (⟨#[UInt8.ofNat (48 + d)]⟩ : ByteArray).size = 1 := rfl
        generalize (⟨#[UInt8.ofNat (48 + d)]⟩ : ByteArray) = Y at hcv Hnew hY1
        have hx : ¬ 9223372036854775807 < Y.size + X.size := by omega
        clear hm hd hat hX hY1
        go_wp2
        go_roundw
        case rel => exact ⟨m, _, by go_num, rfl, by omega, Hnew.out, hbel.alloc hbel.size _⟩
        case measure => simp [intOf]; omega
      · have hk0 : k = 0 := by omega
        subst hk0
        have hx2 : X.data.toList = Lib.decDigits k0 := by
          rcases hat.out with ⟨_, h⟩ | ⟨h, _⟩
          · exact h
          · omega
        have hx : ¬ 9223372036854775807 < 1 + X.size := by omega
        have Hx : Hid ((⟨#[109]⟩ : ByteArray) ++ X = mkT k0) := by
          apply ByteArray.ext
          apply Array.toList_inj.1
          simp [ByteArray.data_append, mkT, hx2]
        clear hx2
        go_wp2
        go_ret
        exact ⟨ret_str Hx.out, hbel⟩
end Go.Proofs.YtfjfhnjoghlbfaaGreat
/-
  Rows of grants that a call owns; slices that may be written.
-/
namespace Go.Proofs.YtfjfhnjoghlbfaaGreat
open Go.RowKit

theorem Tryz.infoGrant : (Tryz.prog.info? 111).map (fun i => (i.zero, i.size, i.bytes)) = some (some (.agg #[.string ByteArray.empty, .int .i64 0]), 2, 24) := by kernel_rfl

/-- the first n grants as cells. -/
def encG (M : Nat → ByteArray) (L : Nat → Int) (n : Nat) : List Value := (List.range n).flatMap fun i => [.string (M i), .int .i64 (L i)]
theorem encG_snoc (M : Nat → ByteArray) (L : Nat → Int) (n : Nat) : encG M L n ++ [.string (M n), .int .i64 (L n)] = encG M L (n + 1) := by simp [encG, List.range_succ]
theorem encG_len (M : Nat → ByteArray) (L : Nat → Int) (n : Nat) : (encG M L n).length = n * 2 := by
  induction n with
  | zero => rfl
  | succ n ih => rw [← encG_snoc, List.length_append, ih]; simp; omega
theorem encG_get (M : Nat → ByteArray) (L : Nat → Int) : ∀ n i, i < n → (encG M L n)[i * 2]? = some (.string (M i)) ∧ (encG M L n)[i * 2 + 1]? = some (.int .i64 (L i))
  | 0, _, h => absurd h (Nat.not_lt_zero _)
  | n + 1, i, h => by
    rw [← encG_snoc]
    by_cases e : i = n
    · subst e
      rw [List.getElem?_append_right (by rw [encG_len]; omega), List.getElem?_append_right (by rw [encG_len]; omega), encG_len]
      simp
    · have := encG_get M L n i (by omega)
      rw [List.getElem?_append_left (by rw [encG_len]; omega), List.getElem?_append_left (by rw [encG_len]; omega)]
      exact this

/-- the value v owns the grants, among the blocks from base on. -/
def OwnG (w : World) (base : Nat) (v : Value) (n : Nat) (M : Nat → ByteArray) (L : Nat → Int) : Prop := w.ownsRow base 111 2 v n (encG M L n)
theorem OwnG.below {w w' : World} {base n : Nat} {v : Value} {M : Nat → ByteArray} {L : Nat → Int} (h : OwnG w base v n M L) (hb : Below w.heap.size w w') : OwnG w' base v n M L := ownsRow_blw h hb
theorem OwnG.snoc {w : World} {base n : Nat} {v : Value} {M : Nat → ByteArray} {L : Nat → Int} {x : ByteArray} {z : Int} (h : w.ownsRow base 111 2 v (n + 1) (encG M L n ++ [.string x, .int .i64 z])) (hx : x = M n) (hz : z = L n) : OwnG w base v (n + 1) M L := by
  subst hx hz; rw [encG_snoc] at h; exact h
theorem OwnG.nil (w : World) (base : Nat) (M : Nat → ByteArray) (L : Nat → Int) : OwnG w base (.slice none 0 0) 0 M L := ⟨rfl, Or.inl ⟨rfl, rfl⟩⟩
theorem OwnG.new (w : World) (base : Nat) (hb : base ≤ w.heap.size) (M : Nat → ByteArray) (L : Nat → Int) : OwnG (w.alloc (.cells #[] 111)) base (.slice (some ⟨w.heap.size, 0, none⟩) 0 0) 0 M L :=
  ⟨rfl, Or.inr ⟨w.heap.size, 0, #[], rfl, hb, by show (w.heap.push _)[w.heap.size]? = _; simp, Nat.le_refl _, by decide, rfl, rfl⟩⟩

/-- n elements of sz cells of the slice at a may be written, among the blocks from base on. -/
def SlW (w : World) (base : Nat) (a : Option Addr) (n sz : Nat) : Prop :=
  n = 0 ∨ ∃ b off, a = some ⟨b, off, none⟩ ∧ base ≤ b ∧ b < w.heap.size ∧ ∀ i, i < n * sz → (∃ v, w.cell? ⟨b, off + i, none⟩ = some v) ∧ w.frozen? ⟨b, off + i, none⟩ = false
theorem SlW.below {w w' : World} {base n sz : Nat} {a : Option Addr} (h : SlW w base a n sz) (hb : Below w.heap.size w w') : SlW w' base a n sz :=
  h.imp id fun ⟨b, off, e, h1, h2, hc⟩ => ⟨b, off, e, h1, Nat.lt_of_lt_of_le h2 hb.size, fun i hi => by
    obtain ⟨⟨v, hv⟩, hf⟩ := hc i hi
    exact ⟨⟨v, (hb.cell (by exact h2)).trans hv⟩, (hb.frozen (by exact h2)).trans hf⟩⟩
theorem SlW.base_le {w : World} {base base' n sz : Nat} {a : Option Addr} (h : SlW w base a n sz) (hb : base' ≤ base) : SlW w base' a n sz :=
  h.imp id fun ⟨b, off, e, h1, h2, hc⟩ => ⟨b, off, e, Nat.le_trans hb h1, h2, hc⟩

theorem row_cells {w : World} {base e size n : Nat} {v : Value} {xs : List Value} (h : w.ownsRow base e size v n xs) :
    (v = .slice none 0 0 ∧ n = 0) ∨ ∃ g cap, v = .slice (some ⟨g, 0, none⟩) n cap ∧ base ≤ g ∧ g < w.heap.size ∧ n ≤ cap ∧ cap ≤ maxLen ∧ (∀ j, j < n * size → w.cell? ⟨g, 0 + j, none⟩ = xs[j]?) ∧ ∀ j, w.frozen? ⟨g, j, none⟩ = false := by
  obtain ⟨h1, h2⟩ := h
  rcases h2 with ⟨rfl, h0⟩ | ⟨g, cap, cur, rfl, hg, hh, hn, hc, hcs, hx⟩
  · exact Or.inl ⟨rfl, h0⟩
  · have hlt : g < w.heap.size := by
      rcases Nat.lt_or_ge g w.heap.size with h' | h'
      · exact h'
      · rw [Array.getElem?_eq_none h'] at hh; cases hh
    refine Or.inr ⟨g, cap, rfl, hg, hlt, hn, hc, fun j hj => ?_, fun j => ?_⟩
    · rw [← hx, List.getElem?_take, if_pos hj, Nat.zero_add]
      simp [World.cell?, hh]
    · simp [World.frozen?, hh]

theorem OwnG.sl {w : World} {base n : Nat} {v : Value} {M : Nat → ByteArray} {L : Nat → Int} (h : OwnG w base v n M L) (hs : ∀ i, i < n → (M i).size ≤ maxLen) :
    ∃ a cap, v = .slice a n cap ∧ SlG w a n cap M L ∧ SlW w base a n 2 := by
  have hlen : (encG M L n).length = n * 2 := encG_len M L n
  rcases row_cells h with ⟨rfl, rfl⟩ | ⟨g, cap, rfl, hg, hlt, hn, hc, hx, hf⟩
  · exact ⟨none, 0, rfl, ⟨Nat.le_refl _, by decide, hs, Or.inl rfl⟩, Or.inl rfl⟩
  · refine ⟨_, cap, rfl, ⟨hn, hc, hs, Or.inr ⟨g, 0, rfl, hlt, fun i hi => ?_, fun i hi => ?_⟩⟩, Or.inr ⟨g, 0, rfl, hg, hlt, fun i hi => ⟨?_, hf _⟩⟩⟩
    · rw [hx _ (by omega)]; exact (encG_get M L n i hi).1
    · rw [Nat.add_assoc, hx _ (by omega)]; exact (encG_get M L n i hi).2
    · exact ⟨_, (hx i hi).trans (List.getElem?_eq_getElem (by rw [hlen]; exact hi))⟩
theorem OwnT.slw {w : World} {base n : Nat} {v : Value} {S : Nat → ByteArray} (h : OwnT w base v n S) (hs : ∀ i, i < n → (S i).size ≤ maxLen) :
    ∃ a cap, v = .slice a n cap ∧ SlS w a n cap S ∧ SlW w base a n 1 := by
  rcases row_cells h with ⟨rfl, rfl⟩ | ⟨g, cap, rfl, hg, hlt, hn, hc, hx, hf⟩
  · exact ⟨none, 0, rfl, ⟨Nat.le_refl _, by decide, hs, Or.inl rfl⟩, Or.inl rfl⟩
  · refine ⟨_, cap, rfl, ⟨hn, hc, hs, Or.inr ⟨g, 0, rfl, hlt, fun i hi => ?_⟩⟩, Or.inr ⟨g, 0, rfl, hg, hlt, fun i hi => ⟨?_, hf _⟩⟩⟩
    · rw [hx _ (by omega)]; exact strs_get S n i hi
    · exact ⟨_, (hx i hi).trans (List.getElem?_eq_getElem (by rw [strs_len]; omega))⟩

theorem two_cells (w1 : World) (x y : Value) (t : TypeId) (j : Nat) (u : Value) (h : [x, y][j]? = some u) : (w1.alloc (.cells #[x, y] t)).cell? ((⟨w1.heap.size, 0, none⟩ : Addr).add j) = some u := by
  have hj : j < 2 := by
    rcases Nat.lt_or_ge j 2 with h' | h'
    · exact h'
    · rw [List.getElem?_eq_none (by simpa using h')] at h; cases h
  match j, hj, h with
  | 0, _, h => rw [show (⟨w1.heap.size, 0, none⟩ : Addr).add 0 = ⟨w1.heap.size, 0, none⟩ from rfl, World.cell?_alloc_at _ _ _ _ rfl]; exact h
  | 1, _, h => rw [show (⟨w1.heap.size, 0, none⟩ : Addr).add 1 = ⟨w1.heap.size, 1, none⟩ from rfl, World.cell?_alloc_at _ _ _ _ rfl]; exact h
theorem two_one (x : ByteArray) (z : Int) (u : Value) (h : u ∈ [Value.string x, .int .i64 z]) : u.oneCell' = true := by
  simp only [List.mem_cons, List.not_mem_nil, or_false] at h
  rcases h with rfl | rfl <;> rfl
end Go.Proofs.YtfjfhnjoghlbfaaGreat
namespace Go.Proofs.YtfjfhnjoghlbfaaGreat
open Go.RowKit

/-- a slice's block. -/
def blk (a : Option Addr) : Option Nat := a.map (·.block)

/-- the block that is written where n elements at a are. -/
def rowOf (a : Option Addr) (n : Nat) : Option Nat := if n = 0 then none else blk a

/-- where only row has been written. -/
theorem grown_cell {w w' : World} {row : Option Nat} (hg : w.grownBy w' row) {b : Nat} (hb : b < w.heap.size) (hne : some b ≠ row) (o : Nat) : w'.cell? ⟨b, o, none⟩ = w.cell? ⟨b, o, none⟩ := hg.cell_far _ hb hne

theorem grown_refl (w : World) (row : Option Nat) : w.grownBy w row := ⟨rfl, rfl, rfl, Nat.le_refl _, fun _ _ _ => rfl⟩
theorem grown_blw {w wr w1 : World} {row : Option Nat} (h : w.grownBy wr row) (hb : Below wr.heap.size wr w1) : w.grownBy w1 row :=
  ⟨hb.os.trans h.os, hb.tape.trans h.tape, hb.output.trans h.output, Nat.le_trans h.size hb.size, fun k hk hne => (hb.block k (Nat.lt_of_lt_of_le hk h.size)).trans (h.block k hk hne)⟩
theorem grown_set {w wr : World} {b j : Nat} {x : Value} (h : w.grownBy wr (some b)) : w.grownBy (wr.setCell ⟨b, j, none⟩ x) (some b) := by
  refine ⟨by rw [← h.os]; rfl, by rw [← h.tape]; rfl, by rw [← h.output]; rfl, by simpa [World.setCell] using h.size, fun k hk hne => ?_⟩
  rw [← h.block k hk hne]
  exact Below.heap_setCell _ _ _ _ (fun e => hne (by rw [e]))

theorem markS_zero (a : Option Addr) (cap k : Nat) (w : World) :
    Calls Tryz.prog 13 #[.slice a 0 cap, .int .i64 (k : Int)] w fun e w' => e = .returned (.int .i64 (k : Int)) ∧ w' = w := by
  go_enter Tryz.func13, Tryz.ntmps13
  go_wp2
  refine wp_loop_rounds 1 ?_
  rw [rounds_succ]
  go_wp2
  go_ret
  exact ⟨rfl, rfl⟩

set_option maxRecDepth 100000 in
set_option maxHeartbeats 800000 in
theorem markS_any (b off n cap k0 : Nat) (w : World) (hn : n ≤ 1000000000) (hk0 : k0 ≤ 1000000000) (hb : b < w.heap.size)
    (hf : ∀ i, i < n → (∃ v, w.cell? ⟨b, off + i, none⟩ = some v) ∧ w.frozen? ⟨b, off + i, none⟩ = false) :
    Calls Tryz.prog 13 #[.slice (some ⟨b, off, none⟩) n cap, .int .i64 (k0 : Int)] w fun e w' =>
      e = .returned (.int .i64 ((k0 + n : Nat) : Int)) ∧ (∀ i, i < n → w'.cell? ⟨b, off + i, none⟩ = some (.string (mkT (k0 + i)))) ∧ w.grownBy w' (some b) := by
  go_enter Tryz.func13, Tryz.ntmps13
  go_wp2_with fail
  go_loopw [1, 5] (fun kv iv wr => ∃ j : Nat, j ≤ n ∧ kv = .int .i64 ((k0 + j : Nat) : Int) ∧ iv = .int .i64 (j : Int) ∧ (∀ i, i < j → wr.cell? ⟨b, off + i, none⟩ = some (.string (mkT (k0 + i)))) ∧ (∀ i, i < n → (∃ v, wr.cell? ⟨b, off + i, none⟩ = some v) ∧ wr.frozen? ⟨b, off + i, none⟩ = false) ∧ w.grownBy wr (some b)) (fun _ iv _ => n - (intOf iv).toNat)
  case atStart => exact ⟨0, Nat.zero_le _, rfl, rfl, fun i hi => absurd hi (Nat.not_lt_zero _), hf, grown_refl _ _⟩
  case round =>
    obtain ⟨j, hj, rfl, rfl, hdone, hfree, hgr⟩ := hrel
    have hbr : b < wr.heap.size := Nat.lt_of_lt_of_le hb hgr.size
    by_cases hlt : j < n
    · have hmk : Hid (∀ W, Calls Tryz.prog 27 #[.int .i64 ((k0 + j : Nat) : Int)] W fun e w' => e = .returned (.string (mkT (k0 + j))) ∧ Below W.heap.size W w') := fun W => mkT_any (k0 + j) W (by omega)
      have Hdone : Hid (∀ i, i < j → wr.cell? ⟨b, off + i, none⟩ = some (.string (mkT (k0 + i)))) := hdone
      have Hfree : Hid (∀ i, i < n → (∃ v, wr.cell? ⟨b, off + i, none⟩ = some v) ∧ wr.frozen? ⟨b, off + i, none⟩ = false) := hfree
      clear hdone hfree hf
      go_wp2_with fail
      go_fit (hmk.out _)
      rintro e w1 ⟨rfl, hb1⟩
      have hfree1 : ∀ i, i < n → (∃ v, w1.cell? ⟨b, off + i, none⟩ = some v) ∧ w1.frozen? ⟨b, off + i, none⟩ = false := fun i hi => by
        obtain ⟨⟨v, hv⟩, hf⟩ := Hfree.out i hi
        exact ⟨⟨v, (hb1.cell (by exact hbr)).trans hv⟩, (hb1.frozen (by exact hbr)).trans hf⟩
      have Hfree1 : Hid (∀ i, i < n → (∃ v, w1.cell? ⟨b, off + i, none⟩ = some v) ∧ w1.frozen? ⟨b, off + i, none⟩ = false) := hfree1
      obtain ⟨⟨v, hv⟩, hfz⟩ := hfree1 j hlt
      clear hfree1
      go_wp2
      go_roundw
      case rel =>
        refine ⟨j + 1, by omega, by go_num, by go_num, fun i hi => ?_, fun i hi => ?_, grown_set (grown_blw hgr hb1)⟩
        · by_cases e : i = j
          · subst e; exact set_same ⟨_, hv⟩
          · rw [set_far (by omega)]
            exact (hb1.cell (by exact hbr)).trans (Hdone.out i (by omega))
        · refine ⟨?_, by rw [World.frozen?_setCell]; exact (Hfree1.out i hi).2⟩
          by_cases e : i = j
          · subst e; exact ⟨_, set_same ⟨_, hv⟩⟩
          · rw [set_far (by omega)]; exact (Hfree1.out i hi).1
      case measure => simp [intOf]; omega
    · have hje : j = n := by omega
      subst hje
      clear hfree hf
      go_wp2
      go_ret
      exact ⟨by first | rfl | (congr 2), hdone, hgr⟩
end Go.Proofs.YtfjfhnjoghlbfaaGreat
namespace Go.Proofs.YtfjfhnjoghlbfaaGreat
open Go.RowKit

theorem markS_sl {a : Option Addr} {n cap k0 : Nat} {S : Nat → ByteArray} {base : Nat} (w : World) (hn : n ≤ 1000000000) (hk0 : k0 ≤ 1000000000) (h : SlS w a n cap S) (hw : SlW w base a n 1) :
    Calls Tryz.prog 13 #[.slice a n cap, .int .i64 (k0 : Int)] w fun e w' =>
      e = .returned (.int .i64 ((k0 + n : Nat) : Int)) ∧ SlS w' a n cap (fun i => mkT (k0 + i)) ∧ w.grownBy w' (rowOf a n) := by
  have hsz : ∀ i, i < n → (mkT (k0 + i)).size ≤ maxLen := fun i hi => Nat.le_trans (mkT_size (by omega)) (by decide)
  by_cases h0 : n = 0
  · subst h0
    refine (markS_zero a cap k0 w).mono ?_
    rintro e w' ⟨rfl, rfl⟩
    exact ⟨rfl, ⟨h.le, h.max, hsz, Or.inl rfl⟩, grown_refl _ _⟩
  · rcases hw with h' | ⟨b, off, rfl, _, hb, hf⟩
    · exact absurd h' h0
    · refine (markS_any b off n cap k0 w hn hk0 hb (fun i hi => hf i (by omega))).mono ?_
      rintro e w' ⟨rfl, hc, hg⟩
      exact ⟨rfl, ⟨h.le, h.max, hsz, Or.inr ⟨b, off, rfl, Nat.lt_of_lt_of_le hb hg.size, hc⟩⟩, by unfold rowOf; rw [if_neg h0]; exact hg⟩

theorem heldS_zero (a : Option Addr) (cap k : Nat) (w : World) :
    Calls Tryz.prog 14 #[.slice a 0 cap, .int .i64 (k : Int)] w fun e w' => e = .returned (.int .i64 (k : Int)) ∧ w' = w := by
  go_enter Tryz.func14, Tryz.ntmps14
  go_wp2
  refine wp_loop_rounds 1 ?_
  rw [rounds_succ]
  go_wp2
  go_ret
  exact ⟨rfl, rfl⟩

set_option maxRecDepth 100000 in
set_option maxHeartbeats 800000 in
theorem heldS_any (b off n cap k0 : Nat) (w : World) (hn : n ≤ 1000000000) (hk0 : k0 ≤ 1000000000) (hb : b < w.heap.size)
    (hc : ∀ i, i < n → w.cell? ⟨b, off + i, none⟩ = some (.string (mkT (k0 + i)))) :
    Calls Tryz.prog 14 #[.slice (some ⟨b, off, none⟩) n cap, .int .i64 (k0 : Int)] w fun e w' =>
      e = .returned (.int .i64 ((k0 + n : Nat) : Int)) ∧ Below w.heap.size w w' := by
  go_enter Tryz.func14, Tryz.ntmps14
  go_wp2_with fail
  go_loopw [1, 5] (fun kv iv wr => ∃ j : Nat, j ≤ n ∧ kv = .int .i64 ((k0 + j : Nat) : Int) ∧ iv = .int .i64 (j : Int) ∧ Below w.heap.size w wr) (fun _ iv _ => n - (intOf iv).toNat)
  case atStart => exact ⟨0, Nat.zero_le _, rfl, rfl, Below.refl _ _⟩
  case round =>
    obtain ⟨j, hj, rfl, rfl, hbel⟩ := hrel
    by_cases hlt : j < n
    · have hmk : Hid (∀ W, Calls Tryz.prog 27 #[.int .i64 ((k0 + j : Nat) : Int)] W fun e w' => e = .returned (.string (mkT (k0 + j))) ∧ Below W.heap.size W w') := fun W => mkT_any (k0 + j) W (by omega)
      have hbr : b < wr.heap.size := Nat.lt_of_lt_of_le hb hbel.size
      have hck : wr.cell? ⟨b, off + j, none⟩ = some (.string (mkT (k0 + j))) := (hbel.cell (by exact hb)).trans (hc j hlt)
      clear hc
      go_wp2_with fail
      go_region_with (go_at_call 27; go_fit (hmk.out _); rintro e w1 ⟨rfl, hb1⟩; have hB1 : Below wr.heap.size wr w1 := Below.trans (by first | exact Below.refl _ _ | exact (Below.refl _ _).drew | exact (Below.refl _ _).drew.drew) hb1; have hck := (hB1.cell (by exact hbr)).trans hck)
      all_goals
        go_wp2
        go_roundw
        case rel => exact ⟨j + 1, by omega, by go_num, by go_num, hbel.trans (hB1.mono hbel.size)⟩
        case measure => simp [intOf]; omega
    · have hje : j = n := by omega
      subst hje
      go_wp2
      go_ret
      exact ⟨rfl, hbel⟩

theorem heldS_sl {a : Option Addr} {n cap k0 : Nat} (w : World) (hn : n ≤ 1000000000) (hk0 : k0 ≤ 1000000000) (h : SlS w a n cap (fun i => mkT (k0 + i))) :
    Calls Tryz.prog 14 #[.slice a n cap, .int .i64 (k0 : Int)] w fun e w' => e = .returned (.int .i64 ((k0 + n : Nat) : Int)) ∧ Below w.heap.size w w' := by
  rcases h.cells with rfl | ⟨b, off, rfl, hb, hc⟩
  · refine (heldS_zero a cap k0 w).mono ?_
    rintro e w' ⟨rfl, rfl⟩
    exact ⟨rfl, Below.refl _ _⟩
  · exact heldS_any b off n cap k0 w hn hk0 hb hc
end Go.Proofs.YtfjfhnjoghlbfaaGreat
namespace Go.Proofs.YtfjfhnjoghlbfaaGreat
open Go.RowKit

theorem eqS_zero (a a' : Option Addr) (cap cap' : Nat) (w : World) :
    Calls Tryz.prog 10 #[.slice a 0 cap, .slice a' 0 cap'] w fun e w' => e = .returned (.bool true) ∧ w' = w := by
  go_enter Tryz.func10, Tryz.ntmps10
  go_wp2
  refine wp_loop_rounds 1 ?_
  rw [rounds_succ]
  go_wp2
  go_ret
  exact ⟨rfl, rfl⟩

set_option maxHeartbeats 400000 in
theorem eqS_any (b off cap b' off' cap' n : Nat) (S : Nat → ByteArray) (w : World) (hn : n ≤ maxLen)
    (hc : ∀ i, i < n → w.cell? ⟨b, off + i, none⟩ = some (.string (S i))) (hc' : ∀ i, i < n → w.cell? ⟨b', off' + i, none⟩ = some (.string (S i))) :
    Calls Tryz.prog 10 #[.slice (some ⟨b, off, none⟩) n cap, .slice (some ⟨b', off', none⟩) n cap'] w fun e w' => e = .returned (.bool true) ∧ Dr w w' := by
  unfold maxLen at hn
  go_enter Tryz.func10, Tryz.ntmps10
  go_wp2
  go_loopw [5] (fun i wr => ∃ k : Nat, k ≤ n ∧ i = .int .i64 k ∧ Dr w wr) (fun i _ => n - (intOf i).toNat)
  case atStart => exact ⟨0, Nat.zero_le _, rfl, Dr.refl _⟩
  case round =>
    obtain ⟨k, hk, rfl, hdr⟩ := hrel
    by_cases hlt : k < n
    · have hck : wr.cell? ⟨b, off + k, none⟩ = some (.string (S k)) := (hdr.cell _).trans (hc k hlt)
      have hck' : wr.cell? ⟨b', off' + k, none⟩ = some (.string (S k)) := (hdr.cell _).trans (hc' k hlt)
      go_wp2_with fail
      go_quiet (fail)
      go_wp2
      go_roundw
      case rel => exact ⟨k + 1, by omega, by go_num, hdr.drewN _⟩
      case measure => simp [intOf]; omega
    · go_wp2
      go_ret
      exact ⟨rfl, hdr⟩

theorem eqS_sl {a a' : Option Addr} {n cap cap' : Nat} {S : Nat → ByteArray} (w : World) (h : SlS w a n cap S) (h' : SlS w a' n cap' S) :
    Calls Tryz.prog 10 #[.slice a n cap, .slice a' n cap'] w fun e w' => e = .returned (.bool true) ∧ Dr w w' := by
  rcases h.cells with rfl | ⟨b, off, rfl, hb, hc⟩
  · refine (eqS_zero a a' cap cap' w).mono ?_
    rintro e w' ⟨rfl, rfl⟩
    exact ⟨rfl, Dr.refl _⟩
  · rcases h'.cells with rfl | ⟨b', off', rfl, hb', hc'⟩
    · refine (eqS_zero _ a' cap cap' w).mono ?_
      rintro e w' ⟨rfl, rfl⟩
      exact ⟨rfl, Dr.refl _⟩
    · exact eqS_any b off cap b' off' cap' n S w (Nat.le_trans h.le h.max) hc hc'

theorem eqG1_any (s : ByteArray) (lv : Int) (w : World) :
    Calls Tryz.prog 89 #[.agg #[.string s, .int .i64 lv], .agg #[.string s, .int .i64 lv]] w fun e w' =>
      e = .returned (.bool true) ∧ Below w.heap.size w w' := by
  go_enter Tryz.func89, Tryz.ntmps89
  go_wp2
  go_ret
  exact ⟨rfl, ((Below.refl _ _).alloc (Nat.le_refl _) _).alloc (by simp) _⟩

theorem eqG_zero (a a' : Option Addr) (cap cap' : Nat) (w : World) :
    Calls Tryz.prog 72 #[.slice a 0 cap, .slice a' 0 cap'] w fun e w' => e = .returned (.bool true) ∧ w' = w := by
  go_enter Tryz.func72, Tryz.ntmps72
  go_wp2
  refine wp_loop_rounds 1 ?_
  rw [rounds_succ]
  go_wp2
  go_ret
  exact ⟨rfl, rfl⟩

set_option maxHeartbeats 1000000 in
theorem eqG_any (b off cap b' off' cap' n : Nat) (M : Nat → ByteArray) (L : Nat → Int) (w : World) (hn : n ≤ maxLen) (hb : b < w.heap.size) (hb' : b' < w.heap.size)
    (hc : ∀ i, i < n → w.cell? ⟨b, off + i * 2, none⟩ = some (.string (M i))) (hl : ∀ i, i < n → w.cell? ⟨b, off + i * 2 + 1, none⟩ = some (.int .i64 (L i)))
    (hc' : ∀ i, i < n → w.cell? ⟨b', off' + i * 2, none⟩ = some (.string (M i))) (hl' : ∀ i, i < n → w.cell? ⟨b', off' + i * 2 + 1, none⟩ = some (.int .i64 (L i))) :
    Calls Tryz.prog 72 #[.slice (some ⟨b, off, none⟩) n cap, .slice (some ⟨b', off', none⟩) n cap'] w fun e w' => e = .returned (.bool true) ∧ Below w.heap.size w w' := by
  unfold maxLen at hn
  go_enter Tryz.func72, Tryz.ntmps72
  go_wp2
  go_loopw [5] (fun i wr => ∃ k : Nat, k ≤ n ∧ i = .int .i64 k ∧ Below w.heap.size w wr) (fun i _ => n - (intOf i).toNat)
  case atStart => exact ⟨0, Nat.zero_le _, rfl, Below.refl _ _⟩
  case round =>
    obtain ⟨k, hk, rfl, hbel⟩ := hrel
    by_cases hlt : k < n
    · have hck : wr.cell? ⟨b, off + k * 2, none⟩ = some (.string (M k)) := (hbel.cell (by exact hb)).trans (hc k hlt)
      have hlk : wr.cell? ⟨b, off + k * 2 + 1, none⟩ = some (.int .i64 (L k)) := (hbel.cell (by exact hb)).trans (hl k hlt)
      have hck' : wr.cell? ⟨b', off' + k * 2, none⟩ = some (.string (M k)) := (hbel.cell (by exact hb')).trans (hc' k hlt)
      have hlk' : wr.cell? ⟨b', off' + k * 2 + 1, none⟩ = some (.int .i64 (L k)) := (hbel.cell (by exact hb')).trans (hl' k hlt)
      go_wp2_with fail
      go_region_with (go_at_call 89; refine (eqG1_any _ _ _).mono ?_; rintro e w1 ⟨rfl, hb1⟩)
      all_goals
        go_wp2
        go_roundw
        case rel => exact ⟨k + 1, by omega, by go_num, Below.trans (by first | exact hbel | exact hbel.drew | exact hbel.drew.drew) (hb1.mono (by exact hbel.size))⟩
        case measure => simp [intOf]; omega
    · go_wp2
      go_ret
      exact ⟨rfl, hbel⟩

theorem eqG_sl {a a' : Option Addr} {n cap cap' : Nat} {M : Nat → ByteArray} {L : Nat → Int} (w : World) (h : SlG w a n cap M L) (h' : SlG w a' n cap' M L) :
    Calls Tryz.prog 72 #[.slice a n cap, .slice a' n cap'] w fun e w' => e = .returned (.bool true) ∧ Below w.heap.size w w' := by
  rcases h.cells with rfl | ⟨b, off, rfl, hb, hc, hl⟩
  · refine (eqG_zero a a' cap cap' w).mono ?_
    rintro e w' ⟨rfl, rfl⟩
    exact ⟨rfl, Below.refl _ _⟩
  · rcases h'.cells with rfl | ⟨b', off', rfl, hb', hc', hl'⟩
    · refine (eqG_zero _ a' cap cap' w).mono ?_
      rintro e w' ⟨rfl, rfl⟩
      exact ⟨rfl, Below.refl _ _⟩
    · exact eqG_any b off cap b' off' cap' n M L w (Nat.le_trans h.le h.max) hb hb' hc hl hc' hl'
end Go.Proofs.YtfjfhnjoghlbfaaGreat
/-
  Slices whose blocks lie outside of what is marked.
-/
namespace Go.Proofs.YtfjfhnjoghlbfaaGreat
open Go.RowKit

/-- the slice's block is below base. -/
def LowS (a : Option Addr) (n base : Nat) : Prop := n = 0 ∨ ∃ b off, a = some ⟨b, off, none⟩ ∧ b < base
/-- the slice's block is not one of lo .. hi. -/
def FarS (a : Option Addr) (n lo hi : Nat) : Prop := n = 0 ∨ ∃ b off, a = some ⟨b, off, none⟩ ∧ (b < lo ∨ hi ≤ b)
theorem LowS.far {a : Option Addr} {n base lo hi : Nat} (h : LowS a n base) (hb : base ≤ lo) : FarS a n lo hi :=
  h.imp id fun ⟨b, off, e, hlt⟩ => ⟨b, off, e, Or.inl (by omega)⟩
theorem Wr0.far {w : World} {a : Option Addr} {n base lo hi : Nat} (h : Wr0 w base a n) (hb : hi ≤ base) : FarS a n lo hi :=
  h.imp id fun ⟨b, off, e, hlt, _⟩ => ⟨b, off, e, Or.inr (by omega)⟩
theorem Wr0.mkd {w w' : World} {a : Option Addr} {n base lo hi : Nat} (h : Wr0 w base a n) (hm : Mkd lo hi w w') : Wr0 w' base a n :=
  h.imp id fun ⟨b, off, e, h1, h3, hc⟩ => ⟨b, off, e, h1, Nat.lt_of_lt_of_le h3 hm.size, fun i hi => ⟨hm.there _ h3 (hc i hi).1, (hm.frz _ h3).trans (hc i hi).2⟩⟩
end Go.Proofs.YtfjfhnjoghlbfaaGreat
