/-
  impl.Find.
-/
import Derived.Test.YtfobcmememaejaaEaJ
import Derived.Test.YtfobcmememaejaaFdS
namespace Go.Proofs.Ytfobcmememaejaa
open Go.RowKit

theorem findB_look (l : List Ent) (kind key : ByteArray) : findB l kind key = (eaV l ⟨kind, key, ⟨#[]⟩⟩).id := by
  unfold findB eaV
  rcases posI_look l ⟨kind, key, ⟨#[]⟩⟩ with ⟨h1, h2⟩ | ⟨e, h1, h2, h3⟩
  · rw [h1, h2, if_neg (by decide)]; rfl
  · rw [h1, if_pos h2, h3]; rfl
theorem fdOk_look {l : List Ent} (h : stB l = true) (kind key : ByteArray) : fdOk l kind key = eaT l ⟨kind, key, ⟨#[]⟩⟩ := by
  unfold fdOk
  rw [h, findB_look]
  unfold eaV eaT
  cases hl : lookE l ⟨kind, key, ⟨#[]⟩⟩ with
  | none => show (true && !((⟨#[]⟩ : ByteArray).toList == [])) = false; rw [ByteArray.toList_eq]; rfl
  | some e =>
    have := (st_parts h).2.2 e (lookE_some hl).1
    show (true && !(e.id.toList == [])) = true
    cases he : e.id.toList with
    | nil => rw [he] at this; simp at this
    | cons a b => rfl

set_option maxRecDepth 100000 in
set_option maxHeartbeats 1000000 in
theorem findI_sl {a : Option Addr} {cap : Nat} {l : List Ent} (kind key : ByteArray) (w : World) (h : SlE w a cap l) :
    Calls Try.prog 12 #[.slice a l.length cap, .string kind, .string key] w fun e w' => e = .returned (.tuple #[.string (fdV l kind key), .bool (fdOk l kind key)]) ∧ Below w.heap.size w w' := by
  go_enter Try.func12, Try.ntmps12
  go_wp2_with fail
  refine (stateI_sl _ h).mono ?_
  rintro e w1 ⟨rfl, hb1⟩
  cases hst : stB l
  case false =>
    have hv : Hid (fdV l kind key = ⟨#[]⟩ ∧ fdOk l kind key = false) := ⟨by simp [fdV, hst], by simp [fdOk, hst]⟩
    go_wp2
    refine bodyPost_ret (v := .tuple #[.string ⟨#[]⟩, .bool false]) (by simp [results, Try.results12, go_sem]) rfl ⟨by rw [hv.out.1, hv.out.2], hb1⟩
  case true =>
    obtain ⟨h300, hS, _⟩ := st_parts hst
    have hv : Hid (fdV l kind key = (eaV l ⟨kind, key, ⟨#[]⟩⟩).id ∧ fdOk l kind key = eaT l ⟨kind, key, ⟨#[]⟩⟩) := ⟨by rw [fdV, hst, if_pos rfl, findB_look], fdOk_look hst kind key⟩
    go_wp2_with fail
    refine (entryAt_sl ⟨kind, key, ⟨#[]⟩⟩ _ hS (by omega) (h.below hb1)).mono ?_
    rintro e w2 ⟨rfl, hg2⟩
    generalize eaV l ⟨kind, key, ⟨#[]⟩⟩ = ev at *
    generalize eaT l ⟨kind, key, ⟨#[]⟩⟩ = et at *
    have hbw := hb1.trans (hg2.below.mono hb1.size)
    go_wp2
    refine bodyPost_ret (v := .tuple #[.string ev.id, .bool et]) (by simp [results, Try.results12, go_sem]) rfl ⟨by rw [hv.out.1, hv.out.2], ?_⟩
    repeat' (first | exact hbw | (refine Below.setCell ?_ (by have := hbw.size; simp; omega) _) | (refine Below.alloc ?_ (by have := hbw.size; simp; omega) _))
end Go.Proofs.Ytfobcmememaejaa
