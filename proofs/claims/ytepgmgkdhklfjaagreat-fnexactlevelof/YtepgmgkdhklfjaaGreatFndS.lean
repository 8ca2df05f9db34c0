/-
  spec.l4Find.
-/
import Derived.Test.YtepgmgkdhklfjaaGreatStS
namespace Go.Proofs.YtepgmgkdhklfjaaGreat
open Go.RowKit

/-- the Id at a slot, empty where there is none. -/
def findB (l : List Ent) (kind key : ByteArray) : ByteArray := if 0 ≤ posI l ⟨kind, key, ⟨#[]⟩⟩ then (eAt l (posI l ⟨kind, key, ⟨#[]⟩⟩).toNat).id else ⟨#[]⟩
theorem posI_bd (l : List Ent) (e : Ent) : -1 ≤ posI l e ∧ posI l e < l.length := by
  unfold posI
  split <;> omega

set_option maxHeartbeats 1000000 in
theorem l4Find_sl {a : Option Addr} {cap : Nat} {l : List Ent} (kind key : ByteArray) (w : World) (h : SlE w a cap l) :
    Calls Tryz.prog 50 #[.slice a l.length cap, .string kind, .string key] w fun e w' => e = .returned (.string (findB l kind key)) ∧ Below w.heap.size w w' := by
  have hbd := posI_bd l ⟨kind, key, ⟨#[]⟩⟩
  by_cases hp : 0 ≤ posI l ⟨kind, key, ⟨#[]⟩⟩
  · obtain ⟨p, hpn⟩ : ∃ p : Nat, posI l ⟨kind, key, ⟨#[]⟩⟩ = (p : Int) := ⟨(posI l ⟨kind, key, ⟨#[]⟩⟩).toNat, by omega⟩
    have hv : Hid (findB l kind key = (eAt l p).id) := by unfold Hid findB; rw [if_pos hp, hpn]; rfl
    have hat : Hid (∀ W, SlE W a cap l → Calls Tryz.prog 73 #[.slice a l.length cap, entV ⟨kind, key, ⟨#[]⟩⟩] W fun e w' => e = .returned (.int .i64 (p : Int)) ∧ Below W.heap.size W w') := fun W hW => by
      have := at_sl ⟨kind, key, ⟨#[]⟩⟩ W hW
      rw [hpn] at this
      exact this
    have hlt : p < l.length := by omega
    clear hp hpn hbd
    have hs := h
    rcases h.cells with rfl | ⟨b, off, rfl, hb, h1, h2, h3⟩
    · exact absurd hlt (Nat.not_lt_zero _)
    have hle := Nat.le_trans h.le h.max
    unfold maxLen at hle
    have c3 := h3 p hlt
    clear h1 h2 h3
    go_enter Tryz.func50, Tryz.ntmps50
    go_wp2_with fail
    refine (hat.out _ hs).mono ?_
    rintro e w1 ⟨rfl, hb1⟩
    have c31 := (hb1.cell (by exact hb)).trans c3
    go_wp2
    go_ret
    exact ⟨by rw [hv.out]; rfl, hb1⟩
  · have hv : Hid (findB l kind key = ⟨#[]⟩) := by unfold Hid findB; rw [if_neg hp]
    have hpn : posI l ⟨kind, key, ⟨#[]⟩⟩ = -1 := by omega
    have hat : Hid (∀ W, SlE W a cap l → Calls Tryz.prog 73 #[.slice a l.length cap, entV ⟨kind, key, ⟨#[]⟩⟩] W fun e w' => e = .returned (.int .i64 (-1)) ∧ Below W.heap.size W w') := fun W hW => by
      have := at_sl ⟨kind, key, ⟨#[]⟩⟩ W hW
      rw [hpn] at this
      exact this
    clear hp hpn hbd
    go_enter Tryz.func50, Tryz.ntmps50
    go_wp2_with fail
    refine (hat.out _ h).mono ?_
    rintro e w1 ⟨rfl, hb1⟩
    go_wp2
    go_ret
    exact ⟨by rw [hv.out]; rfl, hb1⟩
end Go.Proofs.YtepgmgkdhklfjaaGreat
