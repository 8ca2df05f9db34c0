/-
  spec.l4Patch.
-/
import Derived.Test.YtbenfmcnmiedpabSetL
import Derived.Test.YtbenfmcnmiedpabCopyS
namespace Go.Proofs.Ytbenfmcnmiedpab
open Go.RowKit

/-! ### Patch -/

/-- a state behind the first k changes. -/
def patL (l ch : List Ent) : Nat → List Ent
  | 0 => l
  | k + 1 => setL (patL l ch k) (eAt ch k) false
theorem patL_len (l ch : List Ent) : ∀ k, (patL l ch k).length ≤ l.length + k
  | 0 => Nat.le_refl _
  | k + 1 => by have := patL_len l ch k; have := setL_len (patL l ch k) (eAt ch k) false; unfold patL; omega
theorem patL_ok {l ch : List Ent} (h : AllOk l) (hc : AllOk ch) : ∀ k, k ≤ ch.length → AllOk (patL l ch k)
  | 0, _ => h
  | k + 1, hk => (patL_ok h hc k (by omega)).set (hc.at k (by omega))

set_option maxRecDepth 100000 in
set_option maxHeartbeats 1000000 in
theorem l4Patch_sl {a : Option Addr} {cap : Nat} {l : List Ent} {ca : Option Addr} {cc : Nat} {ch : List Ent} (w : World) (hl : l.length ≤ 100000) (hcl : ch.length ≤ 100000) (h : SlE w a cap l) (hc : SlE w ca cc ch) :
    Calls Try.prog 56 #[.slice a l.length cap, .slice ca ch.length cc] w fun e w' => ∃ v, e = .returned v ∧ OwnE w' w.heap.size v (patL l ch ch.length) ∧ Below w.heap.size w w' := by
  have hok := h.ok
  have hcok := hc.ok
  go_enter Try.func56, Try.ntmps56
  go_wp2_with fail
  refine (copy_sl _ (by omega) h).mono ?_
  rintro e w1 ⟨v1, rfl, ho1, hb1⟩
  have Hok : Hid (_) := hok
  have Hcok : Hid (_) := hcok
  clear hok hcok
  go_wp2_with fail
  go_loopw [5, 6] (fun v i wr => ∃ k : Nat, k ≤ ch.length ∧ i = .int .i64 k ∧ OwnE wr w.heap.size v (patL l ch k) ∧ Below w.heap.size w wr) (fun _ i _ => ch.length - (intOf i).toNat)
  case atStart => exact ⟨0, Nat.zero_le _, rfl, ho1, hb1⟩
  case round =>
    clear ho1 hb1
    obtain ⟨k, hk, rfl, ho, hbel⟩ := hrel
    by_cases hlt : k < ch.length
    · obtain ⟨ga, gc, e1, hsl⟩ := ho.sl (patL_ok Hok.out Hcok.out k hk).at
      subst e1
      rcases hc.cells with rfl | ⟨b, off, rfl, hb, c1, c2, c3⟩
      · exact absurd hlt (Nat.not_lt_zero _)
      have a1 : wr.cell? ⟨b, off + k * 3, none⟩ = some (.string (eAt ch k).ty) := (hbel.cell (by exact hb)).trans (c1 k hlt)
      have a2 : wr.cell? ⟨b, off + k * 3 + 1, none⟩ = some (.string (eAt ch k).key) := (hbel.cell (by exact hb)).trans (c2 k hlt)
      have a3 : wr.cell? ⟨b, off + k * 3 + 2, none⟩ = some (.string (eAt ch k).id) := (hbel.cell (by exact hb)).trans (c3 k hlt)
      have hpl := patL_len l ch k
      have hst : Hid (setL (patL l ch k) (eAt ch k) false = patL l ch (k + 1)) := rfl
      clear c1 c2 c3
      go_wp2_with fail
      refine (set_sl (eAt ch k) false _ (by omega) hsl).mono ?_
      rintro e w2 ⟨v2, rfl, ho2, hb2⟩
      rw [hst.out] at ho2
      obtain ⟨ga2, gc2, e2, _⟩ := ho2.sl (patL_ok Hok.out Hcok.out (k + 1) hlt).at
      subst e2
      go_wp2
      go_roundw
      case rel => exact ⟨k + 1, by omega, by go_num, ho2.base_le hbel.size, hbel.trans (hb2.mono hbel.size)⟩
      case measure => simp [intOf]; omega
    · have hkn : ch.length = k := by omega
      subst hkn
      go_wp2
      go_ret
      exact ⟨_, rfl, ho, hbel⟩
end Go.Proofs.Ytbenfmcnmiedpab
