/-
  slices.Repeat of one number; rows of numbers that may be written.
-/
import Derived.Test.YtdapefcnmhbgkaaGreatShelfM
import Derived.Test.YtdapefcnmhbgkaaGreatBase
import Derived.Test.YtdapefcnmhbgkaaGreatCovA
import Derived.Test.YtdapefcnmhbgkaaGreatProg
import Derived.OwnWalk
import Derived.Laws.CopyOwn
import Derived.Deep.RegionLaw
namespace Go.Proofs.YtdapefcnmhbgkaaGreat
open Go.RowKit

theorem Tryz.sizeIntR : (Tryz.prog.info? 3).map (·.size) = some 1 := by kernel_rfl

/-- block b has the n marks M, and they may be written. -/
def InAt (w : World) (b n : Nat) (M : Nat → Int) : Prop := b < w.heap.size ∧ ∀ i, i < n → w.cell? ⟨b, i, none⟩ = some (.int .i64 (M i)) ∧ w.frozen? ⟨b, i, none⟩ = false
theorem InAt.below {w w' : World} {b n : Nat} {M : Nat → Int} (h : InAt w b n M) (hb : Below w.heap.size w w') : InAt w' b n M :=
  ⟨Nat.lt_of_lt_of_le h.1 hb.size, fun i hi => ⟨(hb.cell (by exact h.1)).trans (h.2 i hi).1, (hb.frozen (by exact h.1)).trans (h.2 i hi).2⟩⟩
theorem InAt.set {w : World} {b n j : Nat} {M : Nat → Int} (h : InAt w b n M) (hj : j < n) (x : Int) : InAt (w.setCell ⟨b, j, none⟩ (.int .i64 x)) b n (fun i => if i = j then x else M i) := by
  refine ⟨by simpa [World.setCell] using h.1, fun i hi => ⟨?_, by rw [World.frozen?_setCell]; exact (h.2 i hi).2⟩⟩
  by_cases e : i = j
  · subst e; rw [set_same ⟨_, (h.2 i hi).1⟩]; simp
  · rw [set_far e, (h.2 i hi).1]; simp [e]
theorem InAt.congr {w : World} {b n : Nat} {M M' : Nat → Int} (h : InAt w b n M) (he : ∀ i, i < n → M i = M' i) : InAt w b n M' := ⟨h.1, fun i hi => by rw [← he i hi]; exact h.2 i hi⟩

theorem make_intR (n : Nat) (h : n ≤ 1000000) (W : World) :
    (Instr.makeSlice 51 (.int .i64 (n : Int)) (.int .i64 (n : Int))).run Tryz.prog W = .ok (.slice (some ⟨W.heap.size, 0, none⟩) n n) (W.alloc (.cells (madeCells #[.int .i64 0] n) 3)) := by
  obtain ⟨i0, hi, hz0, hz1, hz2⟩ := info_parts Tryz.infoIntO
  have := run_make (P := Tryz.prog) W 51 3 i0 (.int .i64 0) Tryz.underlying51 hi hz0 .i64 .i64 (n : Int) (n : Int) (by omega) (by omega) (by rw [hz2]; omega) (by omega)
  rw [this, hz1]
  simp [Value.cells]

/-- a row of k marks set and the others not. -/
def nums (x : Int) (n k : Nat) : List Value := List.replicate k (.int .i64 x) ++ List.replicate (n - k) (.int .i64 0)
theorem nums_len {x : Int} {n k : Nat} (h : k ≤ n) : (nums x n k).length = n := by simp [nums]; omega
theorem nums_splice {x : Int} {n k m : Nat} (h : k + m ≤ n) : splice (nums x n k) k (List.replicate m (.int .i64 x)) = nums x n (k + m) := by
  unfold splice nums
  rw [List.take_append_of_le_length (by simp), List.take_of_length_le (by simp), List.length_replicate, List.drop_append, List.length_replicate, List.drop_of_length_le (by simp), List.drop_replicate, List.nil_append, ← List.append_assoc, List.replicate_append_replicate]
  congr 2
  omega
theorem nums_cell {x : Int} {w : World} {b n k : Nat} {t : TypeId} (h : w.heap[b]? = some (.cells (nums x n k).toArray t (0, 0))) (i : Nat) (hi : i < k) : w.cell? ⟨b, i, none⟩ = some (.int .i64 x) := by
  simp [World.cell?, h, nums, List.getElem?_append, hi]
theorem nums_zero (x : Int) (n : Nat) : madeCells #[.int .i64 0] n = (nums x n 0).toArray := by
  apply Array.toList_inj.1
  rw [toList_madeCells_one]
  simp [nums]

theorem addr_addI (b i : Nat) : (⟨b, 0, none⟩ : Addr).add i = ⟨b, i, none⟩ := by
  unfold Addr.add
  by_cases h : i = 0 <;> simp [h]
theorem rep_srcI {x : Int} {w : World} {b m : Nat} {cs : List Value} (hc : cs = List.replicate m (.int .i64 x)) (h : ∀ i, i < m → w.cell? ((⟨b, 0, none⟩ : Addr).add i) = some (.int .i64 x)) {j : Nat} {v : Value} (hv : cs[j]? = some v) : w.cell? ((⟨b, 0, none⟩ : Addr).add j) = some v := by
  subst hc
  have hj : j < m := by
    rcases Nat.lt_or_ge j m with h' | h'
    · exact h'
    · rw [List.getElem?_eq_none (by simpa using h')] at hv; cases hv
  rw [h j hj]
  simpa [hj] using hv
theorem rep_oneI {x : Int} {m : Nat} (v : Value) (h : v ∈ List.replicate m (Value.int .i64 x)) : v.oneCell' = true := by
  rw [(List.mem_replicate.1 h).2]; rfl

set_option maxRecDepth 100000 in
set_option maxHeartbeats 4000000 in
theorem repI_any (x : Int) (n B : Nat) (w : World) (hn : n ≤ 300) (hB : B < w.heap.size) (hc : w.cell? ⟨B, 0, none⟩ = some (.int .i64 x)) :
    Calls Tryz.prog 60 #[.slice (some ⟨B, 0, none⟩) 1 1, .int .i64 n] w fun e w' => ∃ b, e = .returned (.slice (some ⟨b, 0, none⟩) n n) ∧ w.heap.size ≤ b ∧ InAt w' b n (fun _ => x) ∧ Below w.heap.size w w' := by
  have hmk := make_intR n (by omega) w
  rw [nums_zero x] at hmk
  have hg0 : (w.alloc (.cells (nums x n 0).toArray 3)).heap[w.heap.size]? = some (.cells (nums x n 0).toArray 3 (0, 0)) := by show (w.heap.push _)[w.heap.size]? = _; simp
  have hb0 : Below w.heap.size w (w.alloc (.cells (nums x n 0).toArray 3)) := (Below.refl _ _).alloc (Nat.le_refl _) _
  have hcB : (w.alloc (.cells (nums x n 0).toArray 3)).cell? ⟨B, 0, none⟩ = some (.int .i64 x) := (hb0.cell (by exact hB)).trans hc
  go_enter Tryz.func60, Tryz.ntmps60
  go_wp2_with fail
  refine (Tryz.bits_Mul 1 n (by decide) (by omega) w).mono ?_
  rintro e w1 ⟨rfl, hw1⟩
  subst hw1
  rw [show 1 * n / 18446744073709551616 = 0 by omega, show 1 * n % 18446744073709551616 = n by omega]
  obtain ⟨c1, hc1⟩ : ∃ c1 : List Value, c1 = List.replicate (min 1 n) (.int .i64 x) := ⟨_, rfl⟩
  have Hc1 : Hid (c1 = List.replicate (min 1 n) (.int .i64 x)) := hc1
  have hl1 : c1.length = min 1 n := by rw [hc1]; simp
  clear hc1
  have hp1 : ∀ j v, c1[j]? = some v → (w1.alloc (.cells (nums x n 0).toArray 3)).cell? ((⟨B, 0, none⟩ : Addr).add j) = some v := fun j v hv => rep_srcI Hc1.out (fun i hi => by
    have : i = 0 := by omega
    subst this; exact hcB) hv
  have hf1 : 0 + c1.length ≤ (nums x n 0).length := by rw [nums_len (Nat.zero_le _)]; omega
  have ho1 : ∀ v ∈ c1, v.oneCell' = true := by rw [Hc1.out]; exact rep_oneI
  have hs1 : Hid (∀ w' : World, w'.heap[w1.heap.size]? = some (.cells (splice (nums x n 0) 0 c1).toArray 3 (0, 0)) → w'.heap[w1.heap.size]? = some (.cells (nums x n (min 1 n)).toArray 3 (0, 0))) := fun w' h => by
    rw [Hc1.out, nums_splice (by omega), Nat.zero_add] at h; exact h
  have Hp1 : Hid (_) := hp1
  have Hf1 : Hid (_) := hf1
  have Ho1 : Hid (_) := ho1
  clear hp1 hf1 ho1
  go_wp2_with (refine wpList_copy_splice rfl _ _ 51 51 rfl 3 Tryz.underlying51 Tryz.sizeIntR _ _ _ _ _ _ rfl rfl w1.heap.size 0 (nums x n 0) 3 hg0 c1 hl1 (fun _ => ⟨rfl, _, rfl, Hp1.out⟩) Hf1.out Ho1.out w1.heap.size w1 hb0 (Nat.le_refl _) ?_; intro w2 hg2 hb2)
  clear Hp1 Hf1 Ho1 hcB hg0 hmk hb0 hc
  have hg2' : Hid (w2.heap[w1.heap.size]? = some (.cells (nums x n (min 1 n)).toArray 3 (0, 0))) := hs1.out w2 hg2.out
  clear hg2 hs1
  go_loopw [8] (fun kv wr => ∃ k : Nat, kv = .int .i64 k ∧ min 1 n ≤ k ∧ k ≤ n ∧ Hid (wr.heap[w1.heap.size]? = some (.cells (nums x n k).toArray 3 (0, 0))) ∧ Below w1.heap.size w1 wr) (fun kv _ => n - (intOf kv).toNat)
  case atStart => exact ⟨min 1 n, rfl, Nat.le_refl _, by omega, hg2'.out, hb2⟩
  case round =>
    obtain ⟨k, rfl, hk1, hk, hgk, hbel⟩ := hrel
    by_cases hlt : k < n
    · obtain ⟨c2, hc2⟩ : ∃ c2 : List Value, c2 = List.replicate (min k (n - k)) (.int .i64 x) := ⟨_, rfl⟩
      have Hc2 : Hid (c2 = List.replicate (min k (n - k)) (.int .i64 x)) := hc2
      have hl2 : c2.length = Nat.min k (n - k) := by rw [hc2]; simp [Nat.min_def]
      clear hc2
      have hp2 : ∀ j v, c2[j]? = some v → wr.cell? ((⟨w1.heap.size, 0, none⟩ : Addr).add j) = some v := fun j v hv => rep_srcI Hc2.out (fun i hi => by have := nums_cell hgk.out i (by omega); rw [addr_addI]; exact this) hv
      have hm : Nat.min k (n - k) = min k (n - k) := rfl
      have hf2 : k + c2.length ≤ (nums x n k).length := by rw [nums_len hk]; omega
      have ho2 : ∀ v ∈ c2, v.oneCell' = true := by rw [Hc2.out]; exact rep_oneI
      have hs2 : Hid (∀ w' : World, w'.heap[w1.heap.size]? = some (.cells (splice (nums x n k) k c2).toArray 3 (0, 0)) → w'.heap[w1.heap.size]? = some (.cells (nums x n (k + c2.length)).toArray 3 (0, 0))) := fun w' h => by
        rw [hl2, hm]; rw [Hc2.out, nums_splice (by omega)] at h; exact h
      have hc0 : 0 < c2.length := by omega
      have hne : ¬ n = k := by omega
      have Hw : Hid (IntKind.i64.wrap ((k : Int) + ((Nat.min k (n - k) : Nat) : Int)) = ((k + c2.length : Nat) : Int)) := by
        unfold Hid; rw [← hl2, IntKind.wrap_i64]; omega
      have hc3 : k + c2.length ≤ n := by omega
      have Hp2 : Hid (_) := hp2
      have Hf2 : Hid (_) := hf2
      have Ho2 : Hid (_) := ho2
      clear hp2 hf2 ho2 hm
      go_wp2_with fail
      go_region_law (refine step_copy_splice rfl (.tmp 41) (.tmp 44) 51 51 rfl 3 Tryz.underlying51 Tryz.sizeIntR (some ⟨w1.heap.size, k, none⟩) (some ⟨w1.heap.size, 0, none⟩) (n - k) (n - k) k n (by simp [Act.eval, Act.put]) (by simp [Act.eval, Act.put]) w1.heap.size k (nums x n k) 3 hgk.out c2 hl2 (fun _ => ⟨rfl, _, rfl, Hp2.out⟩) Hf2.out Ho2.out w1.heap.size w1 (by first | exact hbel | exact hbel.drew | exact hbel.drew.drew | exact hbel.drew.drew.drew) (Nat.le_refl _) ?_; intro w4 hg4 hb4)
      all_goals
        simp [Act.put]
        go_wp2
        go_roundw
        case rel =>
          exact ⟨k + c2.length, congrArg _ Hw.out, by omega, hc3, hs2.out _ hg4.out, (by first | exact hb4 | exact hb4.drew | exact hb4.drew.drew)⟩
        case measure =>
          simp only [intOf, Hw.out]; omega
    · have hkn : k = n := by omega
      subst hkn
      go_wp2
      go_ret
      refine ⟨_, rfl, Nat.le_refl _, ⟨?_, fun i hi => ⟨nums_cell hgk.out i hi, ?_⟩⟩, hbel⟩
      · rcases Nat.lt_or_ge w1.heap.size wr.heap.size with h' | h'
        · exact h'
        · have := hgk.out; rw [Array.getElem?_eq_none h'] at this; cases this
      · simp [World.frozen?, hgk.out]
end Go.Proofs.YtdapefcnmhbgkaaGreat
