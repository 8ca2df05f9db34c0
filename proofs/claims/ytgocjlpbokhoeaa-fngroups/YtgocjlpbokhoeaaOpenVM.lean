import Derived.Test.YtgocjlpbokhoeaaAnEM
import Derived.Test.YtgocjlpbokhoeaaStS
import Derived.Maps.RangeWalk
import Derived.Deep.AppendLies
import Derived.Lib.BufferWrite
import Derived.Test.YtgocjlpbokhoeaaProg
import Derived.ProofKit
import Derived.SizedLaws
import Derived.Deep.Strs
import Derived.Test.YtgocjlpbokhoeaaDgR
namespace Go.Proofs.Ytgocjlpbokhoeaa
open Go.RowKit
def BytesIn (w : World) (a : Option Addr) (n : Nat) : Prop :=
  n = 0 ∨ ∃ b off, a = some ⟨b, off, none⟩ ∧ b < w.heap.size ∧ ∀ i, i < n → ∃ x : Nat, x < 256 ∧ w.cell? ⟨b, off + i, none⟩ = some (.int .u8 (x : Int))
end Go.Proofs.Ytgocjlpbokhoeaa
namespace Go.Proofs.Ytgocjlpbokhoeaa
open Go.ChangeShapes Go.WideShapes Go.ChangeAt Go.RowKit Go.Deep
theorem Try.cellsU8 : Try.prog.cellsOf 5 = 1 := by kernel_rfl
theorem in_bytes {H : Type} {enc : TypeId × Value → H} {W : World} {fuel : Nat} {cs : List Value} {x : DataW H × List MemPlace} (h : DataW.trod enc Try.prog W 0 (fun _ => true) true fuel 22 cs = some x)
    (hlt : ∀ q ∈ x.2, q.block < W.heap.size) : ∃ a n cap, cs = [.slice a n cap] ∧ n ≤ cap ∧ cap ≤ maxLen ∧ BytesIn W a n := by
  rcases open_slice1 Try.underlying22 Try.cellsU8 h with ⟨rfl, rfl⟩ | ⟨a, len, cap, m, n, V, D, Pl, rfl, _, hl, hm, hmm, rfl, hx⟩
  · exact ⟨none, 0, 0, rfl, Nat.le_refl _, by decide, Or.inl rfl⟩
  · simp only [if_true] at hmm
    subst hmm
    refine ⟨some a, len, m, rfl, hl, hm, ?_⟩
    by_cases h0 : len = 0
    · exact Or.inl h0
    · right
      obtain ⟨b, off, spot⟩ := a
      have hspot : spot = none := by simpa [Addr.add] using World.cell?_spot (hx 0 (by omega)).1
      subst hspot
      refine ⟨b, off, rfl, hlt (.cell b off) (List.mem_append_left _ (MemPlace.mem_row.2 ⟨0, by omega, by simp⟩)), fun i hi => ?_⟩
      obtain ⟨q1, q2⟩ := hx i (by omega)
      obtain ⟨z, e1, _, hwf⟩ := DataW.trod_int Try.underlying5 q2
      simp only [List.cons.injEq, and_true] at e1
      rw [e1] at q1
      simp only [Lit.wf, Bool.and_eq_true, decide_eq_true_eq] at hwf
      have hz0 : (0 : Int) ≤ z := hwf.1
      have hz1 : z ≤ 255 := hwf.2
      refine ⟨z.toNat, by omega, ?_⟩
      rw [Int.toNat_of_nonneg hz0, ← add_plain]
      exact q1
end Go.Proofs.Ytgocjlpbokhoeaa
namespace Go.Proofs.Ytgocjlpbokhoeaa
open Go.RowKit
theorem bytes_choose {W : World} {a : Option Addr} {n : Nat} (h : BytesIn W a n) : ∃ bs : Nat → Nat, BytesV W a n bs ∧ ∀ i, i < n → bs i < 256 := by
  rcases h with h0 | ⟨b, off, e, hb, hx⟩
  · exact ⟨fun _ => 0, Or.inl h0, fun _ _ => by show (0 : Nat) < 256; decide⟩
  · refine ⟨fun i => if hi : i < n then Classical.choose (hx i hi) else 0, Or.inr ⟨b, off, e, hb, fun i hi => ?_⟩, fun i hi => ?_⟩
    · dsimp only
      rw [dif_pos hi]
      exact (Classical.choose_spec (hx i hi)).2
    · dsimp only
      rw [dif_pos hi]
      exact (Classical.choose_spec (hx i hi)).1
end Go.Proofs.Ytgocjlpbokhoeaa
