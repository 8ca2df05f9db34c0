/-
  spec.AuthChain.
-/
import Derived.Test.YtghbednpeboicaaChS
import Derived.Test.YtghbednpeboicaaAcI
namespace Go.Proofs.Ytghbednpeboicaa
open Go.RowKit

set_option maxRecDepth 100000 in
set_option maxHeartbeats 1000000 in
theorem acS_sl {a : Option Addr} {n cap : Nat} {E : Nat → Ev} {ia : Option Addr} {m icap : Nat} {S : Nat → ByteArray} (w : World) (h : SlV w a n cap E) (hids : SlS w ia m icap S) :
    Calls Try.prog 16 #[.agg #[.slice a n cap], .slice ia m icap] w (AcPost w E n S m) := by
  have hb0 : ∀ o, Below w.heap.size w (w.alloc o) := fun o => (Below.refl _ _).alloc (Nat.le_refl _) _
  go_enter Try.func16, Try.ntmps16
  go_wp2_with fail
  refine (roomS_sl _ (h.below (hb0 _))).mono ?_
  rintro e w1 ⟨rfl, hb1⟩
  have hB1 := hb1.mono (B' := w.heap.size + 1) (by simp)
  have hw1 := (hb0 _).trans (hb1.mono (by simp))
  have hcx := box_cells hB1
  clear hb1
  cases hroom : roomTo E n
  case false =>
    have Hq : Hid (roomTo E n = false) := hroom
    clear hroom
    go_wp2
    refine bodyPost_ret (v := .tuple #[.slice (some ⟨w1.heap.size, 0, none⟩) 0 0, .int .i64 1]) (by simp [results, Try.results16, go_sem]) rfl ⟨hw1.alloc hw1.size _, Or.inr (Or.inl ⟨Hq.out, _, rfl, OwnL.new w1 _ hw1.size⟩)⟩
  case true =>
    have Hq : Hid (roomTo E n = true) := hroom
    clear hroom
    go_wp2_with fail
    refine (there_sl _ (h.below hw1) (hids.below hw1)).mono ?_
    rintro e w2 ⟨rfl, hb2⟩
    have hw2 := hw1.trans (hb2.mono hw1.size)
    have hB2 := hB1.trans (hb2.mono (by have := hB1.size; simpa using this))
    clear hcx
    have hcx := box_cells hB2
    cases ht : thereB E n S m
    case false =>
      have Ht : Hid (thereB E n S m = false) := ht
      clear ht
      go_wp2
      refine bodyPost_ret (v := .tuple #[.slice (some ⟨w2.heap.size, 0, none⟩) 0 0, .int .i64 2]) (by simp [results, Try.results16, go_sem]) rfl ⟨hw2.alloc hw2.size _, Or.inr (Or.inr ⟨Hq.out, Ht.out, _, rfl, OwnL.new w2 _ hw2.size⟩)⟩
    case true =>
      have Ht : Hid (thereB E n S m = true) := ht
      clear ht
      go_wp2_with fail
      refine (l2Chain_sl _ Hq.out (h.below hw2) (hids.below hw2) (there_all Ht.out).1 (there_all Ht.out).2).mono ?_
      rintro e w3 ⟨v, l, rfl, hown, hsrt, hmem, hb3⟩
      have Hs : Hid (_) := hsrt
      have Hm : Hid (_) := hmem
      clear hsrt hmem
      have hw3 := hw2.trans (hb3.mono hw2.size)
      go_wp2
      refine bodyPost_ret (v := .tuple #[v, .int .i64 0]) (by simp [results, Try.results16, go_sem]) rfl ⟨hw3, Or.inl ⟨Hq.out, Ht.out, v, l, rfl, hown.mono hw2.size, Hs.out, Hm.out⟩⟩
end Go.Proofs.Ytghbednpeboicaa
