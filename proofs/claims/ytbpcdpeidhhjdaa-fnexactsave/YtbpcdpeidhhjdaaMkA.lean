import Derived.Test.YtbpcdpeidhhjdaaBase
import Derived.OwnWalk
import Derived.Test.YtbpcdpeidhhjdaaProg
import Derived.Laws.BytesArg
import Derived.Lib.ItoaLen
import Derived.Deep.DeepFit
/-
  Worlds in which marks have been written.
-/
namespace Go.Proofs.Ytbpcdpeidhhjdaa
open Go.RowKit

/-- from w to w' no block outside of lo .. hi has turned. -/
structure Mkd (lo hi : Nat) (w w' : World) : Prop where
  os : w'.os = w.os
  tape : w'.tape = w.tape
  output : w'.output = w.output
  size : w.heap.size ≤ w'.heap.size
  block : ∀ k, k < w.heap.size → (k < lo ∨ hi ≤ k) → w'.heap[k]? = w.heap[k]?
  frz : ∀ a, a.block < w.heap.size → w'.frozen? a = w.frozen? a
  there : ∀ a, a.block < w.heap.size → (∃ v, w.cell? a = some v) → ∃ v, w'.cell? a = some v
theorem Mkd.refl (lo hi : Nat) (w : World) : Mkd lo hi w w := ⟨rfl, rfl, rfl, Nat.le_refl _, fun _ _ _ => rfl, fun _ _ => rfl, fun _ _ h => h⟩
theorem Mkd.trans {lo hi : Nat} {w w1 w2 : World} (h : Mkd lo hi w w1) (h' : Mkd lo hi w1 w2) : Mkd lo hi w w2 :=
  ⟨h'.os.trans h.os, h'.tape.trans h.tape, h'.output.trans h.output, Nat.le_trans h.size h'.size, fun k hk ho => (h'.block k (Nat.lt_of_lt_of_le hk h.size) ho).trans (h.block k hk ho),
    fun a ha => (h'.frz a (Nat.lt_of_lt_of_le ha h.size)).trans (h.frz a ha), fun a ha hv => h'.there a (Nat.lt_of_lt_of_le ha h.size) (h.there a ha hv)⟩
theorem Mkd.below {lo hi : Nat} {w w' : World} (h : Mkd lo hi w w') (hl : lo ≤ w.heap.size) : Below lo w w' :=
  ⟨h.os, h.tape, h.output, h.size, fun k hk => h.block k (Nat.lt_of_lt_of_le hk hl) (Or.inl hk)⟩
theorem Mkd.set {lo hi : Nat} {w w1 : World} (h : Mkd lo hi w w1) {b j : Nat} {x : Value} (hl : lo ≤ b) (hh : b < hi) (hv : ∃ v, w1.cell? ⟨b, j, none⟩ = some v) : Mkd lo hi w (w1.setCell ⟨b, j, none⟩ x) := by
  refine ⟨by rw [← h.os]; rfl, by rw [← h.tape]; rfl, by rw [← h.output]; rfl, by simpa [World.setCell] using h.size, fun k hk ho => ?_, fun a ha => by rw [World.frozen?_setCell]; exact h.frz a ha, fun a ha hva => ?_⟩
  · rw [← h.block k hk ho]
    exact Below.heap_setCell _ _ _ _ (by show k ≠ b; omega)
  · by_cases e : a = ⟨b, j, none⟩
    · subst e; exact ⟨x, set_same hv⟩
    · rw [World.cell?_setCell_other _ _ _ _ (fun e' => e e'.symm)]; exact h.there a ha hva

/-- n cells at a, in a block from lo to hi, may be written. -/
def Wr (w : World) (lo hi : Nat) (a : Option Addr) (n : Nat) : Prop :=
  n = 0 ∨ ∃ b off, a = some ⟨b, off, none⟩ ∧ lo ≤ b ∧ b < hi ∧ b < w.heap.size ∧ ∀ i, i < n → (∃ v, w.cell? ⟨b, off + i, none⟩ = some v) ∧ w.frozen? ⟨b, off + i, none⟩ = false
theorem Wr.mkd {w w' : World} {lo hi lo' hi' : Nat} {a : Option Addr} {n : Nat} (h : Wr w lo hi a n) (hm : Mkd lo' hi' w w') : Wr w' lo hi a n :=
  h.imp id fun ⟨b, off, e, h1, h2, h3, hc⟩ => ⟨b, off, e, h1, h2, Nat.lt_of_lt_of_le h3 hm.size, fun i hi => ⟨hm.there _ h3 (hc i hi).1, (hm.frz _ h3).trans (hc i hi).2⟩⟩
theorem Wr.below {w w' : World} {lo hi : Nat} {a : Option Addr} {n : Nat} (h : Wr w lo hi a n) (hb : Below w.heap.size w w') : Wr w' lo hi a n :=
  h.imp id fun ⟨b, off, e, h1, h2, h3, hc⟩ => ⟨b, off, e, h1, h2, Nat.lt_of_lt_of_le h3 hb.size, fun i hi => ⟨(hc i hi).1.imp fun _ hv => (hb.cell (by exact h3)).trans hv, (hb.frozen (by exact h3)).trans (hc i hi).2⟩⟩
theorem Wr.wide {w : World} {lo hi lo' hi' : Nat} {a : Option Addr} {n : Nat} (h : Wr w lo hi a n) (h1 : lo' ≤ lo) (h2 : hi ≤ hi') : Wr w lo' hi' a n :=
  h.imp id fun ⟨b, off, e, q1, q2, q3, hc⟩ => ⟨b, off, e, by omega, by omega, q3, hc⟩

theorem Mkd.wide {lo hi lo' hi' : Nat} {w w' : World} (h : Mkd lo hi w w') (h1 : lo' ≤ lo) (h2 : hi ≤ hi') : Mkd lo' hi' w w' :=
  ⟨h.os, h.tape, h.output, h.size, fun k hk ho => h.block k hk (by omega), h.frz, h.there⟩
theorem Mkd.alloc {lo hi : Nat} {w w1 : World} (h : Mkd lo hi w w1) (o : Obj) : Mkd lo hi w (w1.alloc o) :=
  have hb : Below w1.heap.size w1 (w1.alloc o) := (Below.refl _ _).alloc (Nat.le_refl _) _
  ⟨h.os, h.tape, h.output, Nat.le_trans h.size hb.size, fun k hk ho => (hb.block k (Nat.lt_of_lt_of_le hk h.size)).trans (h.block k hk ho),
    fun a ha => (hb.frozen (Nat.lt_of_lt_of_le ha h.size)).trans (h.frz a ha), fun a ha hv => (h.there a ha hv).imp fun _ hv' => (hb.cell (Nat.lt_of_lt_of_le ha h.size)).trans hv'⟩

theorem Mkd.blw {lo hi : Nat} {w w1 w2 : World} (h : Mkd lo hi w w1) (hb : Below w1.heap.size w1 w2) : Mkd lo hi w w2 :=
  ⟨hb.os.trans h.os, hb.tape.trans h.tape, hb.output.trans h.output, Nat.le_trans h.size hb.size, fun k hk ho => (hb.block k (Nat.lt_of_lt_of_le hk h.size)).trans (h.block k hk ho),
    fun a ha => (hb.frozen (Nat.lt_of_lt_of_le ha h.size)).trans (h.frz a ha), fun a ha hv => (h.there a ha hv).imp fun _ hv' => (hb.cell (Nat.lt_of_lt_of_le ha h.size)).trans hv'⟩
theorem Mkd.cell {lo hi : Nat} {w w' : World} (h : Mkd lo hi w w') {b o : Nat} (hb : b < w.heap.size) (ho : b < lo ∨ hi ≤ b) : w'.cell? ⟨b, o, none⟩ = w.cell? ⟨b, o, none⟩ := World.cell?_of_block (a := ⟨b, o, none⟩) (h.block b hb ho)
/-- n cells at a, in a block from lo on, may be written. -/
def Wr0 (w : World) (lo : Nat) (a : Option Addr) (n : Nat) : Prop :=
  n = 0 ∨ ∃ b off, a = some ⟨b, off, none⟩ ∧ lo ≤ b ∧ b < w.heap.size ∧ ∀ i, i < n → (∃ v, w.cell? ⟨b, off + i, none⟩ = some v) ∧ w.frozen? ⟨b, off + i, none⟩ = false
theorem Wr0.low {w : World} {lo lo' n : Nat} {a : Option Addr} (h : Wr0 w lo a n) (hl : lo' ≤ lo) : Wr0 w lo' a n :=
  h.imp id fun ⟨b, off, e, q1, q3, hc⟩ => ⟨b, off, e, by omega, q3, hc⟩
theorem Wr0.below {w w' : World} {lo n : Nat} {a : Option Addr} (h : Wr0 w lo a n) (hb : Below w.heap.size w w') : Wr0 w' lo a n :=
  h.imp id fun ⟨b, off, e, h1, h3, hc⟩ => ⟨b, off, e, h1, Nat.lt_of_lt_of_le h3 hb.size, fun i hi => ⟨(hc i hi).1.imp fun _ hv => (hb.cell (by exact h3)).trans hv, (hb.frozen (by exact h3)).trans (hc i hi).2⟩⟩
theorem Wr0.set {w : World} {lo n C j : Nat} {a : Option Addr} (h : Wr0 w lo a n) (x : Value) : Wr0 (w.setCell ⟨C, j, none⟩ x) lo a n :=
  h.imp id fun ⟨b, off, e, h1, h3, hc⟩ => ⟨b, off, e, h1, by simpa [World.setCell] using h3, fun i hi => ⟨by
    by_cases e2 : (⟨b, off + i, none⟩ : Addr) = ⟨C, j, none⟩
    · rw [e2]; exact ⟨x, set_same (by rw [← e2]; exact (hc i hi).1)⟩
    · rw [World.cell?_setCell_other _ _ _ _ (fun e' => e2 e'.symm)]; exact (hc i hi).1, by rw [World.frozen?_setCell]; exact (hc i hi).2⟩⟩
theorem Wr0.wr {w : World} {lo n : Nat} {a : Option Addr} (h : Wr0 w lo a n) : Wr w lo w.heap.size a n :=
  h.imp id fun ⟨b, off, e, h1, h3, hc⟩ => ⟨b, off, e, h1, h3, h3, hc⟩
end Go.Proofs.Ytbpcdpeidhhjdaa
namespace Go.Proofs.Ytbpcdpeidhhjdaa
open Go.RowKit

theorem strOfNums_one (n : Nat) : strOfNums [(n : Int)] = ⟨#[UInt8.ofNat n]⟩ := by
  simp [strOfNums]

theorem conv_one (W : World) (B n : Nat) (hc : W.cell? ⟨B, 0, none⟩ = some (.int .u8 (n : Int))) :
    (convert 90 9 (.slice (some ⟨B, 0, none⟩) 1 1)).run Try.prog W = .ok (.string ⟨#[UInt8.ofNat n]⟩) W := by
  rw [run_convert_bytes_arg W 90 5 Try.underlying90 Try.underlying5 B 0 1 1 [(n : Int)] rfl (fun i hi => by
    have : i = 0 := by omega
    subst this; exact hc) 9 Try.underlying9, strOfNums_one n]

end Go.Proofs.Ytbpcdpeidhhjdaa
/-
  The marks that the laws write into an answer: markText, markStringS, heldStringS.
-/
namespace Go.Proofs.Ytbpcdpeidhhjdaa
open Go.RowKit

/-- the mark of a number. -/
def mkT (k : Nat) : ByteArray := ⟨(109 :: Lib.decDigits k).toArray⟩
theorem mkT_size {k : Nat} (h : k ≤ 1000000000000) : (mkT k).size ≤ 41 := by
  show (109 :: Lib.decDigits k).toArray.size ≤ 41
  rw [List.size_toArray, List.length_cons, Lib.decDigits_length]
  have := Lib.nDigits_le20 k (by omega)
  omega
theorem mkT_zero : mkT 0 = ⟨#[109, 48]⟩ := by
  unfold mkT; rw [Lib.decDigits_one (by decide)]; rfl

/-- the digits that are still to come, and those that are there. -/
def DecAt (k0 k : Nat) (X : ByteArray) : Prop := (k = 0 ∧ X.data.toList = Lib.decDigits k0) ∨ (0 < k ∧ Lib.decDigits k ++ X.data.toList = Lib.decDigits k0)
theorem decAt_step {k0 k : Nat} {X : ByteArray} (hk : 0 < k) (h : DecAt k0 k X) : DecAt k0 (k / 10) (⟨#[UInt8.ofNat (48 + k % 10)]⟩ ++ X) := by
  rcases h with ⟨h0, _⟩ | ⟨_, h⟩
  · omega
  · have hd : (⟨#[UInt8.ofNat (48 + k % 10)]⟩ ++ X : ByteArray).data.toList = UInt8.ofNat (48 + k % 10) :: X.data.toList := by simp [ByteArray.data_append]
    by_cases h10 : k < 10
    · left
      refine ⟨by omega, ?_⟩
      rw [hd, ← h, Lib.decDigits_one h10, show k % 10 = k by omega]; rfl
    · right
      refine ⟨by omega, ?_⟩
      rw [hd, ← h, Lib.decDigits.eq_1 k, dif_neg h10, List.append_assoc]; rfl
theorem decAt_len {k0 k : Nat} {X : ByteArray} (h : DecAt k0 k X) (hk : k0 ≤ 1000000000000) : X.size ≤ 20 := by
  have hl : (Lib.decDigits k0).length ≤ 20 := by rw [Lib.decDigits_length]; exact Lib.nDigits_le20 k0 (by omega)
  have hx : X.size = X.data.toList.length := rfl
  rcases h with ⟨_, h⟩ | ⟨_, h⟩
  · rw [hx, h]; exact hl
  · have := congrArg List.length h
    rw [List.length_append] at this
    omega

set_option maxRecDepth 100000 in
set_option maxHeartbeats 800000 in
theorem mkT_any (k0 : Nat) (w : World) (h1 : k0 ≤ 1000000000000) :
    Calls Try.prog 36 #[.int .i64 (k0 : Int)] w fun e w' => e = .returned (.string (mkT k0)) ∧ Below w.heap.size w w' := by
  by_cases h0 : k0 = 0
  · subst h0
    have hz := mkT_zero
    go_enter Try.func36, Try.ntmps36
    go_wp2
    go_ret
    exact ⟨ret_str hz.symm, Below.refl _ _⟩
  · have hpos : ¬ ((k0 : Int) ≤ 0) := by omega
    go_enter Try.func36, Try.ntmps36
    go_wp2_with fail
    go_loopw [0, 3] (fun kv ov wr => ∃ (k : Nat) (X : ByteArray), kv = .int .i64 k ∧ ov = .string X ∧ k ≤ k0 ∧ Hid (DecAt k0 k X) ∧ Below w.heap.size w wr) (fun kv _ _ => (intOf kv).toNat)
    case atStart => exact ⟨k0, ByteArray.empty, rfl, rfl, Nat.le_refl _, Or.inr ⟨by omega, by simp⟩, Below.refl _ _⟩
    case round =>
      obtain ⟨k, X, rfl, rfl, hk, hat, hbel⟩ := hrel
      have hX := decAt_len hat.out h1
      by_cases hz : 0 < k
      · obtain ⟨m, hm⟩ : ∃ m : Nat, (k : Int) / 10 = m := ⟨k / 10, by omega⟩
        obtain ⟨d, hd⟩ : ∃ d : Nat, (k : Int) % 10 = d := ⟨k % 10, by omega⟩
        have Hnew : Hid (DecAt k0 m (⟨#[UInt8.ofNat (48 + d)]⟩ ++ X)) := by
          have := decAt_step hz hat.out
          rw [show k / 10 = m by omega, show k % 10 = d by omega] at this
          exact this
        have hd9 : d ≤ 9 := by omega
        have hmk : m < k := by omega
        have ew1 : IntKind.i64.wrap ((k : Int) / 10) = m := by rw [IntKind.wrap_i64]; omega
        have ew2 : (k : Int).tmod 10 = d := by rw [Int.tmod_eq_emod_of_nonneg (by omega), hd]
        have ew3 : IntKind.i64.wrap (48 + (d : Int)) = 48 + d := by rw [IntKind.wrap_i64]; omega
        have ew4 : IntKind.u8.wrap (48 + (d : Int)) = 48 + d := by rw [IntKind.wrap_u8]; omega
        have hcv : (convert 90 9 (.slice (some ⟨wr.heap.size, 0, none⟩) 1 1)).run Try.prog (wr.alloc (.cells #[.int .u8 (48 + (d : Int))] 5)) = .ok (.string ⟨#[UInt8.ofNat (48 + d)]⟩) (wr.alloc (.cells #[.int .u8 (48 + (d : Int))] 5)) :=
          conv_one _ _ (48 + d) (by rw [World.cell?_alloc_at _ _ _ _ rfl]; simp)
        have hY1 : (⟨#[UInt8.ofNat (48 + d)]⟩ : ByteArray).size = 1 := rfl
        generalize (⟨#[UInt8.ofNat (48 + d)]⟩ : ByteArray) = Y at hcv Hnew hY1
        have hx : ¬ 9223372036854775807 < Y.size + X.size := by omega
        clear hm hd hat hX hY1
        go_wp2
        go_roundw
        case rel => exact ⟨m, _, by go_num, rfl, by omega, Hnew.out, hbel.alloc hbel.size _⟩
        case measure => simp [intOf]; omega
      · have hk0 : k = 0 := by omega
        subst hk0
        have hx2 : X.data.toList = Lib.decDigits k0 := by
          rcases hat.out with ⟨_, h⟩ | ⟨h, _⟩
          · exact h
          · omega
        have hx : ¬ 9223372036854775807 < 1 + X.size := by omega
        have Hx : Hid ((⟨#[109]⟩ : ByteArray) ++ X = mkT k0) := by
          apply ByteArray.ext
          apply Array.toList_inj.1
          simp [ByteArray.data_append, mkT, hx2]
        clear hx2
        go_wp2
        go_ret
        exact ⟨ret_str Hx.out, hbel⟩
end Go.Proofs.Ytbpcdpeidhhjdaa
/-
  Slices whose blocks lie outside of what is marked.
-/
namespace Go.Proofs.Ytbpcdpeidhhjdaa
open Go.RowKit

/-- the slice's block is below base. -/
def LowS (a : Option Addr) (n base : Nat) : Prop := n = 0 ∨ ∃ b off, a = some ⟨b, off, none⟩ ∧ b < base
/-- the slice's block is not one of lo .. hi. -/
def FarS (a : Option Addr) (n lo hi : Nat) : Prop := n = 0 ∨ ∃ b off, a = some ⟨b, off, none⟩ ∧ (b < lo ∨ hi ≤ b)
theorem LowS.far {a : Option Addr} {n base lo hi : Nat} (h : LowS a n base) (hb : base ≤ lo) : FarS a n lo hi :=
  h.imp id fun ⟨b, off, e, hlt⟩ => ⟨b, off, e, Or.inl (by omega)⟩
theorem Wr0.far {w : World} {a : Option Addr} {n base lo hi : Nat} (h : Wr0 w base a n) (hb : hi ≤ base) : FarS a n lo hi :=
  h.imp id fun ⟨b, off, e, hlt, _⟩ => ⟨b, off, e, Or.inr (by omega)⟩
theorem Wr0.mkd {w w' : World} {a : Option Addr} {n base lo hi : Nat} (h : Wr0 w base a n) (hm : Mkd lo hi w w') : Wr0 w' base a n :=
  h.imp id fun ⟨b, off, e, h1, h3, hc⟩ => ⟨b, off, e, h1, Nat.lt_of_lt_of_le h3 hm.size, fun i hi => ⟨hm.there _ h3 (hc i hi).1, (hm.frz _ h3).trans (hc i hi).2⟩⟩
end Go.Proofs.Ytbpcdpeidhhjdaa
