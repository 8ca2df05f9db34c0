import Derived.Test.YtgocjlpbokhoeaaStoS
import Derived.Test.YtgocjlpbokhoeaaAnEM
import Derived.Test.YtgocjlpbokhoeaaDlLM
import Derived.Test.YtgocjlpbokhoeaaProg
import Derived.Test.YtgocjlpbokhoeaaEntM
import Derived.Below
import Derived.Lib.Join
import Derived.Lib.ItoaNum
import Derived.Lib.ItoaLen
import Derived.OwnWalk
import Derived.Deep.AppendLies
namespace Go.Proofs.Ytgocjlpbokhoeaa
open Go.RowKit
theorem stoB_parts {G : Nat → Grp} {n : Nat} (h : stoB G n = true) : n ≤ 1000 ∧ stoTo G n = true := by
  unfold stoB at h
  rw [Bool.and_eq_true] at h
  exact ⟨of_decide_eq_true h.1, h.2⟩
theorem SlT.oks {w : World} {a : Option Addr} {n cap : Nat} {G : Nat → Grp} (h : SlT w a n cap G) : ∀ j, j < n → AllOk (G j).sets := fun j hj => by
  rcases h.cells with h0 | ⟨_, _, _, _, hc⟩
  · omega
  · obtain ⟨_, _, _, _, hs⟩ := hc j hj
    exact hs.ok
def exOk (G : Nat → Grp) (n : Nat) (g : Int) : Bool := stoB G n && (decide (0 ≤ g) && decide (g < n))
def exV (G : Nat → Grp) (n : Nat) (g : Int) : List Ent := if exOk G n g then expF G (g.toNat + 1) g.toNat else []
theorem exV_len (G : Nat → Grp) (n : Nat) (g : Int) : (exV G n g).length ≤ 300 := by
  unfold exV
  split
  · rename_i h
    unfold exOk at h
    rw [Bool.and_eq_true, Bool.and_eq_true] at h
    have h1 := of_decide_eq_true h.2.1
    have h2 := of_decide_eq_true h.2.2
    exact (grpOk_parts (stoTo_at (stoB_parts h.1).2 g.toNat (by omega))).2.2.2.2
  · exact Nat.zero_le _
theorem exV_ok {G : Nat → Grp} {n : Nat} (hk : ∀ j, j < n → AllOk (G j).sets) (g : Int) : AllOk (exV G n g) := by
  unfold exV
  split
  · rename_i h
    unfold exOk at h
    rw [Bool.and_eq_true, Bool.and_eq_true] at h
    have h1 := of_decide_eq_true h.2.1
    have h2 := of_decide_eq_true h.2.2
    exact expF_ok (stoTo_front (stoB_parts h.1).2) hk _ _ (by omega)
  · exact fun x hx => by cases hx
set_option maxRecDepth 100000 in
set_option maxHeartbeats 2000000 in
theorem expS_sl {a : Option Addr} {n cap : Nat} {G : Nat → Grp} (g : Int) (w : World) (h : SlT w a n cap G) :
    Calls Try.prog 10 #[.agg #[.slice a n cap], .int .i64 g] w (AnsE (exV G n g) (exOk G n g) w) := by
  have hb0 : ∀ o, Below w.heap.size w (w.alloc o) := fun o => (Below.refl _ _).alloc (Nat.le_refl _) _
  have hnm := Nat.le_trans h.le h.max
  unfold maxLen at hnm
  have Hok : Hid (AllOk (exV G n g)) := exV_ok h.oks g
  have hnew : ∀ W : World, w.heap.size ≤ W.heap.size → OwnE (W.alloc (.cells #[] 38)) w.heap.size (.slice (some ⟨W.heap.size, 0, none⟩) 0 0) [] := newE w
  go_enter Try.func10, Try.ntmps10
  go_wp2_with fail
  refine (storeS_sl _ (h.below (hb0 _))).mono ?_
  rintro e w1 ⟨rfl, hb1⟩
  have hB1 := hb1.mono (B' := w.heap.size + 1) (by simp)
  have hw1 := (hb0 _).trans (hb1.mono (by simp))
  have hcx := box_cells hB1
  clear hb1
  have hno : Hid (exOk G n g = false → AnsE (exV G n g) (exOk G n g) w (.returned (.tuple #[.slice (some ⟨w1.heap.size, 0, none⟩) 0 0, .bool false])) (w1.alloc (.cells #[] 38))) := fun hf => by
    rw [hf, show exV G n g = [] by unfold exV; rw [hf]; rfl]
    exact ansE_of false (hw1.alloc hw1.size _) (hnew _ hw1.size) (fun x hx => by cases hx)
  cases hst : stoB G n
  case false =>
    have hf : Hid (exOk G n g = false) := by unfold Hid exOk; rw [hst]; rfl
    go_wp2
    exact bodyPost_ret (v := .tuple #[.slice (some ⟨w1.heap.size, 0, none⟩) 0 0, .bool false]) (by simp [results, Try.results10, go_sem]) rfl (hno.out hf.out)
  case true =>
    by_cases hg0 : g < 0
    · have hf : Hid (exOk G n g = false) := by unfold Hid exOk; rw [decide_eq_false (p := 0 ≤ g) (by omega), Bool.false_and, Bool.and_false]
      go_wp2
      exact bodyPost_ret (v := .tuple #[.slice (some ⟨w1.heap.size, 0, none⟩) 0 0, .bool false]) (by simp [results, Try.results10, go_sem]) rfl (hno.out hf.out)
    by_cases hgn : (n : Int) ≤ g
    · have hf : Hid (exOk G n g = false) := by unfold Hid exOk; rw [decide_eq_false (p := g < n) (by omega), Bool.and_false, Bool.and_false]
      go_wp2
      exact bodyPost_ret (v := .tuple #[.slice (some ⟨w1.heap.size, 0, none⟩) 0 0, .bool false]) (by simp [results, Try.results10, go_sem]) rfl (hno.out hf.out)
    obtain ⟨q, rfl⟩ : ∃ q : Nat, g = (q : Int) := ⟨g.toNat, by omega⟩
    obtain ⟨h1000, hto⟩ := stoB_parts hst
    have ht : exOk G n (q : Int) = true := by unfold exOk; rw [hst, decide_eq_true (p := (0 : Int) ≤ q) (by omega), decide_eq_true (p := (q : Int) < n) (by omega)]; rfl
    have hv : Hid (exOk G n (q : Int) = true ∧ exV G n (q : Int) = expF G (q + 1) q) := ⟨ht, by unfold exV; rw [ht]; rfl⟩
    have Hto : Hid (stoTo G n = true) := hto
    clear ht hto
    go_wp2_with fail
    refine (expand_any (N := n) (by omega) (Nat.le_refl _) (stoTo_front Hto.out) (fun j hj => (grpOk_parts (stoTo_at Hto.out j hj)).2.2.1) (fun j hj => (grpOk_parts (stoTo_at Hto.out j (by omega))).2.2.2.2) q (by omega) _ (h.below hw1)).mono ?_
    rintro e w2 ⟨v, rfl, ho, hb2⟩
    rw [← hv.out.2] at ho
    obtain ⟨ga, gc, rfl, _⟩ := ho.sl Hok.out.at
    have hw2 := hw1.trans (hb2.mono hw1.size)
    go_wp2
    refine bodyPost_ret (v := .tuple #[.slice ga (exV G n (q : Int)).length gc, .bool true]) (by simp [results, Try.results10, go_sem]) rfl ?_
    rw [hv.out.1]
    exact ansE_of true hw2 (ho.base_le hw1.size) Hok.out
def lkF (G : Nat → Grp) (kind key : ByteArray) : Nat → Nat → ByteArray × Nat
  | 0, _ => (⟨#[]⟩, 0)
  | f + 1, i =>
    if 0 ≤ posI (G i).sets ⟨kind, key, ⟨#[]⟩⟩ then ((eAt (G i).sets (posI (G i).sets ⟨kind, key, ⟨#[]⟩⟩).toNat).id, 1)
    else if (G i).par < 0 then (⟨#[]⟩, 1)
    else ((lkF G kind key f (G i).par.toNat).1, (lkF G kind key f (G i).par.toNat).2 + 1)
end Go.Proofs.Ytgocjlpbokhoeaa
namespace Go.Proofs.Ytgocjlpbokhoeaa
open Go.RowKit
theorem lkF_fuel {G : Nat → Grp} {n : Nat} {kind key : ByteArray} (h : Front G n) : ∀ f i, i < n → i < f → lkF G kind key f i = lkF G kind key (i + 1) i
  | 0, _, _, h' => absurd h' (Nat.not_lt_zero _)
  | f + 1, i, hi, hf => by
    unfold lkF
    by_cases hz : 0 ≤ posI (G i).sets ⟨kind, key, ⟨#[]⟩⟩
    · rw [if_pos hz, if_pos hz]
    · rw [if_neg hz, if_neg hz]
      by_cases hp : (G i).par < 0
      · rw [if_pos hp, if_pos hp]
      · rw [if_neg hp, if_neg hp]
        have := h i hi
        have hlt : (G i).par.toNat < i := by omega
        rw [lkF_fuel h f _ (by omega) (by omega)]
        by_cases e : i = 0
        · omega
        · rw [lkF_fuel h i _ (by omega) hlt]
def LkPost (w : World) (G : Nat → Grp) (n : Nat) (g : Int) (kind key : ByteArray) (e : Ending) (w' : World) : Prop := Below w.heap.size w w' ∧
  ((exOk G n g = true ∧ ∃ q : Nat, g = (q : Int) ∧ e = .returned (.tuple #[.string (lkF G kind key (q + 1) q).1, .int .i64 ((lkF G kind key (q + 1) q).2 : Nat), .bool (!((lkF G kind key (q + 1) q).1.toList == []))])) ∨
   (exOk G n g = false ∧ e = .returned (.tuple #[.string ⟨#[]⟩, .int .i64 0, .bool false])))
end Go.Proofs.Ytgocjlpbokhoeaa
namespace Go.Proofs.Ytgocjlpbokhoeaa
open Go.RowKit
theorem row_cells {w : World} {base e size n : Nat} {v : Value} {xs : List Value} (h : w.ownsRow base e size v n xs) :
    (v = .slice none 0 0 ∧ n = 0) ∨ ∃ g cap, v = .slice (some ⟨g, 0, none⟩) n cap ∧ base ≤ g ∧ g < w.heap.size ∧ n ≤ cap ∧ cap ≤ maxLen ∧ (∀ j, j < n * size → w.cell? ⟨g, 0 + j, none⟩ = xs[j]?) ∧ ∀ j, w.frozen? ⟨g, j, none⟩ = false := by
  obtain ⟨h1, h2⟩ := h
  rcases h2 with ⟨rfl, h0⟩ | ⟨g, cap, cur, rfl, hg, hh, hn, hc, hcs, hx⟩
  · exact Or.inl ⟨rfl, h0⟩
  · have hlt : g < w.heap.size := by
      rcases Nat.lt_or_ge g w.heap.size with h' | h'
      · exact h'
      · rw [Array.getElem?_eq_none h'] at hh; cases hh
    refine Or.inr ⟨g, cap, rfl, hg, hlt, hn, hc, fun j hj => ?_, fun j => ?_⟩
    · rw [← hx, List.getElem?_take, if_pos hj, Nat.zero_add]
      simp [World.cell?, hh]
    · simp [World.frozen?, hh]
end Go.Proofs.Ytgocjlpbokhoeaa
