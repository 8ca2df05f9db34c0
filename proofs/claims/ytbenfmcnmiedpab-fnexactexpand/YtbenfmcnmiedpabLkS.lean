/-
  spec.Expand, spec.Lookup.
-/
import Derived.Test.YtbenfmcnmiedpabStoS
import Derived.Test.YtbenfmcnmiedpabAnE
import Derived.Test.YtbenfmcnmiedpabChgS
namespace Go.Proofs.Ytbenfmcnmiedpab
open Go.RowKit

theorem stoB_parts {G : Nat → Grp} {n : Nat} (h : stoB G n = true) : n ≤ 1000 ∧ stoTo G n = true := by
  unfold stoB at h
  rw [Bool.and_eq_true] at h
  exact ⟨of_decide_eq_true h.1, h.2⟩
theorem SlT.oks {w : World} {a : Option Addr} {n cap : Nat} {G : Nat → Grp} (h : SlT w a n cap G) : ∀ j, j < n → AllOk (G j).sets := fun j hj => by
  rcases h.cells with h0 | ⟨_, _, _, _, hc⟩
  · omega
  · obtain ⟨_, _, _, _, hs⟩ := hc j hj
    exact hs.ok

/-- Expand's answers. -/
def exOk (G : Nat → Grp) (n : Nat) (g : Int) : Bool := stoB G n && (decide (0 ≤ g) && decide (g < n))
def exV (G : Nat → Grp) (n : Nat) (g : Int) : List Ent := if exOk G n g then expF G (g.toNat + 1) g.toNat else []
theorem exV_len (G : Nat → Grp) (n : Nat) (g : Int) : (exV G n g).length ≤ 300 := by
  unfold exV
  split
  · rename_i h
    unfold exOk at h
    rw [Bool.and_eq_true, Bool.and_eq_true] at h
    have h1 := of_decide_eq_true h.2.1
    have h2 := of_decide_eq_true h.2.2
    exact (grpOk_parts (stoTo_at (stoB_parts h.1).2 g.toNat (by omega))).2.2.2.2
  · exact Nat.zero_le _
theorem exV_ok {G : Nat → Grp} {n : Nat} (hk : ∀ j, j < n → AllOk (G j).sets) (g : Int) : AllOk (exV G n g) := by
  unfold exV
  split
  · rename_i h
    unfold exOk at h
    rw [Bool.and_eq_true, Bool.and_eq_true] at h
    have h1 := of_decide_eq_true h.2.1
    have h2 := of_decide_eq_true h.2.2
    exact expF_ok (stoTo_front (stoB_parts h.1).2) hk _ _ (by omega)
  · exact fun x hx => by cases hx

set_option maxRecDepth 100000 in
set_option maxHeartbeats 2000000 in
theorem expS_sl {a : Option Addr} {n cap : Nat} {G : Nat → Grp} (g : Int) (w : World) (h : SlT w a n cap G) :
    Calls Try.prog 11 #[.agg #[.slice a n cap], .int .i64 g] w (AnsE (exV G n g) (exOk G n g) w) := by
  have hb0 : ∀ o, Below w.heap.size w (w.alloc o) := fun o => (Below.refl _ _).alloc (Nat.le_refl _) _
  have hnm := Nat.le_trans h.le h.max
  unfold maxLen at hnm
  have Hok : Hid (AllOk (exV G n g)) := exV_ok h.oks g
  have hnew : ∀ W : World, w.heap.size ≤ W.heap.size → OwnE (W.alloc (.cells #[] 53)) w.heap.size (.slice (some ⟨W.heap.size, 0, none⟩) 0 0) [] := newE w
  go_enter Try.func11, Try.ntmps11
  go_wp2_with fail
  refine (storeS_sl _ (h.below (hb0 _))).mono ?_
  rintro e w1 ⟨rfl, hb1⟩
  have hB1 := hb1.mono (B' := w.heap.size + 1) (by simp)
  have hw1 := (hb0 _).trans (hb1.mono (by simp))
  have hcx := box_cells hB1
  clear hb1
  have hno : Hid (exOk G n g = false → AnsE (exV G n g) (exOk G n g) w (.returned (.tuple #[.slice (some ⟨w1.heap.size, 0, none⟩) 0 0, .bool false])) (w1.alloc (.cells #[] 53))) := fun hf => by
    rw [hf, show exV G n g = [] by unfold exV; rw [hf]; rfl]
    exact ansE_of false (hw1.alloc hw1.size _) (hnew _ hw1.size) (fun x hx => by cases hx)
  cases hst : stoB G n
  case false =>
    have hf : Hid (exOk G n g = false) := by unfold Hid exOk; rw [hst]; rfl
    go_wp2
    exact bodyPost_ret (v := .tuple #[.slice (some ⟨w1.heap.size, 0, none⟩) 0 0, .bool false]) (by simp [results, Try.results11, go_sem]) rfl (hno.out hf.out)
  case true =>
    by_cases hg0 : g < 0
    · have hf : Hid (exOk G n g = false) := by unfold Hid exOk; rw [decide_eq_false (p := 0 ≤ g) (by omega), Bool.false_and, Bool.and_false]
      go_wp2
      exact bodyPost_ret (v := .tuple #[.slice (some ⟨w1.heap.size, 0, none⟩) 0 0, .bool false]) (by simp [results, Try.results11, go_sem]) rfl (hno.out hf.out)
    by_cases hgn : (n : Int) ≤ g
    · have hf : Hid (exOk G n g = false) := by unfold Hid exOk; rw [decide_eq_false (p := g < n) (by omega), Bool.and_false, Bool.and_false]
      go_wp2
      exact bodyPost_ret (v := .tuple #[.slice (some ⟨w1.heap.size, 0, none⟩) 0 0, .bool false]) (by simp [results, Try.results11, go_sem]) rfl (hno.out hf.out)
    obtain ⟨q, rfl⟩ : ∃ q : Nat, g = (q : Int) := ⟨g.toNat, by omega⟩
    obtain ⟨h1000, hto⟩ := stoB_parts hst
    have ht : exOk G n (q : Int) = true := by unfold exOk; rw [hst, decide_eq_true (p := (0 : Int) ≤ q) (by omega), decide_eq_true (p := (q : Int) < n) (by omega)]; rfl
    have hv : Hid (exOk G n (q : Int) = true ∧ exV G n (q : Int) = expF G (q + 1) q) := ⟨ht, by unfold exV; rw [ht]; rfl⟩
    have Hto : Hid (stoTo G n = true) := hto
    clear ht hto
    go_wp2_with fail
    refine (expand_any (N := n) (by omega) (Nat.le_refl _) (stoTo_front Hto.out) (fun j hj => (grpOk_parts (stoTo_at Hto.out j hj)).2.2.1) (fun j hj => (grpOk_parts (stoTo_at Hto.out j (by omega))).2.2.2.2) q (by omega) _ (h.below hw1)).mono ?_
    rintro e w2 ⟨v, rfl, ho, hb2⟩
    rw [← hv.out.2] at ho
    obtain ⟨ga, gc, rfl, _⟩ := ho.sl Hok.out.at
    have hw2 := hw1.trans (hb2.mono hw1.size)
    go_wp2
    refine bodyPost_ret (v := .tuple #[.slice ga (exV G n (q : Int)).length gc, .bool true]) (by simp [results, Try.results11, go_sem]) rfl ?_
    rw [hv.out.1]
    exact ansE_of true hw2 (ho.base_le hw1.size) Hok.out

/-! ### Lookup -/

/-- Lookup's walk: the Id, and how many groups were visited. -/
def lkF (G : Nat → Grp) (kind key : ByteArray) : Nat → Nat → ByteArray × Nat
  | 0, _ => (⟨#[]⟩, 0)
  | f + 1, i =>
    if 0 ≤ posI (G i).sets ⟨kind, key, ⟨#[]⟩⟩ then ((eAt (G i).sets (posI (G i).sets ⟨kind, key, ⟨#[]⟩⟩).toNat).id, 1)
    else if (G i).par < 0 then (⟨#[]⟩, 1)
    else ((lkF G kind key f (G i).par.toNat).1, (lkF G kind key f (G i).par.toNat).2 + 1)
end Go.Proofs.Ytbenfmcnmiedpab
