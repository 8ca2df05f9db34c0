/-
  Covers of rooms: what an event rests on, and the greatest Seq.
-/
import Derived.Test.YtlopjfhdhkonbaaMcP
import Derived.Test.YtlopjfhdhkonbaaTpA
namespace Go.Proofs.Ytlopjfhdhkonbaa
open Go.RowKit

def naE (E : Nat → Ev) (k : Nat) : Nat := (E k).na
def rsE (E : Nat → Ev) (n k j : Nat) : Nat := (posV E n ((E k).Av j)).toNat
theorem rsE_at {E : Nat → Ev} {n k j : Nat} (h : roomTo E n = true) (hk : k < n) (hj : j < naE E k) : posV E n ((E k).Av j) = (rsE E n k j : Int) ∧ rsE E n k j < k ∧ (E (rsE E n k j)).id = (E k).Av j := by
  obtain ⟨p, hp, e1, e2⟩ := auth_there h hk hj
  have : rsE E n k j = p := by unfold rsE; rw [e1]; rfl
  rw [this]
  exact ⟨e1, hp, e2⟩
theorem rsE_lt {E : Nat → Ev} {n : Nat} (h : roomTo E n = true) : ∀ k, k < n → ∀ j, j < naE E k → rsE E n k j < k := fun _ hk _ hj => (rsE_at h hk hj).2.1
theorem id_inj {E : Nat → Ev} {n i j : Nat} (h : roomTo E n = true) (hi : i < n) (hj : j < n) (e : (E i).id = (E j).id) : i = j := by
  have h1 := posV_here h hi
  have h2 := posV_here h hj
  rw [e, h2] at h1
  omega
theorem rr_chn {E : Nat → Ev} {n k i : Nat} (h : roomTo E n = true) (hk : k < n) (hr : RR (naE E) (rsE E n) k i) : i = k ∨ Chn E n (fun _ => (E k).id) 1 (E i).id := by
  induction hr with
  | refl => exact Or.inl rfl
  | @ext i j hr hj ih =>
    have hi := RR.le (rsE_lt h) hk hr
    have hp := rsE_at h (by omega) hj
    refine Or.inr ?_
    rw [hp.2.2]
    rcases ih with e | hc
    · subst e; exact Chn.base (Nat.lt_succ_self 0) hk rfl hj
    · exact Chn.step hc (by omega) rfl hj
theorem chn_rr {E : Nat → Ev} {n k : Nat} (h : roomTo E n = true) (hk : k < n) {s : ByteArray} (hc : Chn E n (fun _ => (E k).id) 1 s) : ∀ i, i < n → (E i).id = s → RR (naE E) (rsE E n) k i := by
  induction hc with
  | @base i0 j p _ hp e hj =>
    intro i hi e2
    have := id_inj h hp hk e
    subst this
    have hq := rsE_at h hp hj
    have : i = rsE E n p j := id_inj h hi (by omega) (e2.trans hq.2.2.symm)
    rw [this]
    exact RR.ext RR.refl hj
  | @step s j p _ hp e hj ih =>
    intro i hi e2
    have hq := rsE_at h hp hj
    have : i = rsE E n p j := id_inj h hi (by omega) (e2.trans hq.2.2.symm)
    rw [this]
    exact RR.ext (ih p hp e) hj

/-- the greatest Seq on chain c among the first so many. -/
def gstTo (u : Nat → Sp) (c : Nat) : Nat → Nat
  | 0 => 0
  | i + 1 => if (u i).c = c ∧ gstTo u c i < (u i).q then (u i).q else gstTo u c i
theorem gstTo_up (u : Nat → Sp) (c : Nat) : ∀ m i, i < m → (u i).c = c → (u i).q ≤ gstTo u c m
  | 0, _, h, _ => absurd h (Nat.not_lt_zero _)
  | m + 1, i, h, e => by
    unfold gstTo
    by_cases eim : i = m
    · subst eim
      split
      · exact Nat.le_refl _
      · rename_i hn
        have : ¬ gstTo u c i < (u i).q := fun q => hn ⟨e, q⟩
        omega
    · have := gstTo_up u c m i (by omega) e
      split
      · omega
      · exact this
theorem gstTo_hit (u : Nat → Sp) (c : Nat) : ∀ m, gstTo u c m = 0 ∨ ∃ i, i < m ∧ (u i).c = c ∧ (u i).q = gstTo u c m
  | 0 => Or.inl rfl
  | m + 1 => by
    unfold gstTo
    split
    · rename_i h
      exact Or.inr ⟨m, Nat.lt_succ_self _, h.1, rfl⟩
    · exact (gstTo_hit u c m).imp id fun ⟨i, hi, q⟩ => ⟨i, by omega, q⟩
theorem gst_rc {na : Nat → Nat} {rs : Nat → Nat → Nat} {n k m c : Nat} {u : Nat → Sp} (H : ∀ k, k < n → ∀ j, j < na k → rs k j < k) (hk : k < n) (h1 : ∀ i, i < m → ∃ p, RR na rs k p ∧ u i = sp na rs p) (h2 : ∀ p, RR na rs k p → ∃ i, i < m ∧ u i = sp na rs p) : gstTo u c m = rc na rs k c := by
  refine Nat.le_antisymm ?_ ?_
  · rcases gstTo_hit u c m with h0 | ⟨i, hi, e, q⟩
    · omega
    · obtain ⟨p, hp, hu⟩ := h1 i hi
      have := rc_up H k hk p hp
      rw [hu] at e q
      rw [e] at this
      omega
  · rcases rc_hit H k hk c with h0 | ⟨p, hp, e, q⟩
    · omega
    · obtain ⟨i, hi, hu⟩ := h2 p hp
      have := gstTo_up u c m i hi (by rw [hu]; exact e)
      rw [hu] at this
      omega
end Go.Proofs.Ytlopjfhdhkonbaa
