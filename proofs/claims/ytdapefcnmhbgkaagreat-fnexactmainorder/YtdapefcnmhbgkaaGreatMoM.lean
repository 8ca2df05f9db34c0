/-
  spec.MainOrder.
-/
import Derived.Test.YtdapefcnmhbgkaaGreatMoS
namespace Go.Proofs.YtdapefcnmhbgkaaGreat
open Go.RowKit

/-- MainOrder says true. -/
def moOk (E : Nat → Ev) (n : Nat) (S : Nat → ByteArray) (m : Nat) (s : ByteArray) : Bool := mlOk E n s && thereB E n S m
/-- what MainOrder answers. -/
def MoPost (w : World) (E : Nat → Ev) (n : Nat) (S : Nat → ByteArray) (m : Nat) (s : ByteArray) (e : Ending) (w' : World) : Prop := Below w.heap.size w w' ∧
  ∃ v L, e = .returned (.tuple #[v, .bool (moOk E n S m s)]) ∧ OwnL w' w.heap.size v L ∧
    ((moOk E n S m s = true ∧ OrdL E n (fun p : Nat => dp E n (ln E n (posV E n s)) (p : Int)) L ∧ ∀ t, t ∈ L ↔ ∃ i, i < m ∧ S i = t) ∨ (moOk E n S m s = false ∧ L = []))
theorem ml_id {E : Nat → Ev} {n : Nat} {s : ByteArray} (h : mlOk E n s = true) : roomTo E n = true ∧ idQ E (posV E n s) = s := by
  unfold mlOk at h
  rw [Bool.and_eq_true, Bool.or_eq_true] at h
  refine ⟨h.1, ?_⟩
  rcases h.2 with h2 | h2
  · rw [posV_empty h.1 h2]
    have h0 : s.toList = [] := by simpa using h2
    exact (ba_of_toList (by rw [h0, ByteArray.toList_eq]; rfl) : (⟨#[]⟩ : ByteArray) = s)
  · rw [Bool.and_eq_true, decide_eq_true_eq] at h2
    obtain ⟨i, hi, e, hb⟩ := posV_found E s n h2.1
    unfold idQ
    rw [if_pos h2.1, e, Int.toNat_natCast]
    exact ba_of_toList hb

theorem there_allM {E : Nat → Ev} {n : Nat} {S : Nat → ByteArray} {m : Nat} (h : thereB E n S m = true) : m ≤ 300 ∧ ∀ i, i < m → 0 ≤ posV E n (S i) := by
  unfold thereB at h
  rw [Bool.and_eq_true] at h
  refine ⟨of_decide_eq_true h.1, fun i hi => ?_⟩
  by_cases hc : 0 ≤ posV E n (S i)
  · exact hc
  · have := thereTo_le E n S m i hi (by rw [thereTo, decide_eq_false hc, Bool.and_false])
    rw [this] at h
    cases h.2

set_option maxRecDepth 100000 in
set_option maxHeartbeats 1000000 in
theorem moS_sl {a : Option Addr} {n cap : Nat} {E : Nat → Ev} {ia : Option Addr} {m icap : Nat} {S : Nat → ByteArray} (s : ByteArray) (w : World) (h : SlV w a n cap E) (hids : SlS w ia m icap S) :
    Calls Tryz.prog 6 #[.agg #[.slice a n cap], .slice ia m icap, .string s] w (MoPost w E n S m s) := by
  have hb0 : ∀ o, Below w.heap.size w (w.alloc o) := fun o => (Below.refl _ _).alloc (Nat.le_refl _) _
  go_enter Tryz.func6, Tryz.ntmps6
  go_wp2_with fail
  refine (mlS_sl s _ (h.below (hb0 _))).mono ?_
  rintro e w1 ⟨hb1, v1, rfl, -⟩
  have hB1 := hb1.mono (B' := w.heap.size + 1) (by simp)
  have hw1 := (hb0 _).trans (hb1.mono (by simp))
  have hcl := box_cells hB1 0
  have hs1 : w.heap.size + 1 ≤ w1.heap.size := by simpa using hB1.size
  clear hb1
  cases hml : mlOk E n s
  case false =>
    have Hq : Hid (moOk E n S m s = false) := by unfold Hid moOk; rw [hml]; rfl
    clear hml
    go_wp2
    refine bodyPost_ret (v := .tuple #[.slice (some ⟨w1.heap.size, 0, none⟩) 0 0, .bool false]) (by simp [results, Tryz.results6, go_sem]) rfl ⟨hw1.alloc hw1.size _, _, [], by rw [Hq.out], OwnL.new w1 _ hw1.size, Or.inr ⟨Hq.out, rfl⟩⟩
  case true =>
    obtain ⟨hr, hid⟩ := ml_id hml
    have Hr : Hid (_) := hr
    have Hid2 : Hid (idQ E (posV E n s) = s) := hid
    have Hml : Hid (mlOk E n s = true) := hml
    clear hml hr hid
    go_wp2_with fail
    refine (there_sl _ (h.below hw1) (hids.below hw1)).mono ?_
    rintro e w2 ⟨rfl, hb2⟩
    have hB2 := hB1.trans (hb2.mono hs1)
    have hw2 := hw1.trans (hb2.mono hw1.size)
    have hcl2 := box_cells hB2 0
    clear hcl
    cases hth : thereB E n S m
    case false =>
      have Hq : Hid (moOk E n S m s = false) := by unfold Hid moOk; rw [hth, Bool.and_false]
      clear hth
      go_wp2
      refine bodyPost_ret (v := .tuple #[.slice (some ⟨w2.heap.size, 0, none⟩) 0 0, .bool false]) (by simp [results, Tryz.results6, go_sem]) rfl ⟨hw2.alloc hw2.size _, _, [], by rw [Hq.out], OwnL.new w2 _ hw2.size, Or.inr ⟨Hq.out, rfl⟩⟩
    case true =>
      have Hq : Hid (moOk E n S m s = true) := by unfold Hid moOk; rw [Hml.out, hth]; rfl
      have HO : Hid (∀ W, Below w.heap.size w W → Calls Tryz.prog 18 #[.agg #[.slice a n cap], .slice ia m icap, .string s] W (MrPost W E n (fun p : Nat => dp E n (ln E n (posV E n s)) (p : Int)) S m)) := fun W hW => by
        have hb := posV_bd E s n
        obtain ⟨t1, t2⟩ := there_allM hth
        have := l6Ord_sl (posV E n s) W Hr.out hb.1 hb.2 t1 t2 (h.below hW) (hids.below hW)
        rw [Hid2.out] at this
        exact this
      clear hth
      go_wp2_with fail
      refine (HO.out _ hw2).mono ?_
      rintro e w3 ⟨v3, L3, rfl, ho3, hord3, hmem3, hb3⟩
      have HM : Hid (MoPost w E n S m s (.returned (.tuple #[v3, .bool true])) w3) := ⟨hw2.trans (hb3.mono hw2.size), v3, L3, by rw [Hq.out], ho3.mono hw2.size, Or.inl ⟨Hq.out, hord3, hmem3⟩⟩
      clear hord3 hmem3
      go_wp2
      refine bodyPost_ret (v := .tuple #[v3, .bool true]) (by simp [results, Tryz.results6, go_sem]) rfl HM.out
end Go.Proofs.YtdapefcnmhbgkaaGreat
