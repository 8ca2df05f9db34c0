/-
  impl.Lookup.
-/
import Derived.Test.YtbenfmcnmiedpabLaI
import Derived.Test.YtbenfmcnmiedpabLkT
namespace Go.Proofs.Ytbenfmcnmiedpab
open Go.RowKit

theorem lkL_lkF {G : Nat → Grp} {n : Nat} {kind key : ByteArray} (h : Front G n) : ∀ i, i < n → lkL (csF G i) ⟨kind, key, ⟨#[]⟩⟩ = lkF G kind key (i + 1) i := by
  intro i
  induction i using Nat.strongRecOn with
  | _ i ih =>
    intro hi
    unfold lkF
    rcases posI_look (G i).sets ⟨kind, key, ⟨#[]⟩⟩ with ⟨h1, h2⟩ | ⟨e, h1, h2, h3⟩
    · rw [if_neg (by omega)]
      by_cases hp : (G i).par < 0
      · rw [if_pos hp, (cs_root hp).1]
        unfold lkL
        rw [h1]
        rfl
      · obtain ⟨hlt, e1, _, _⟩ := cs_node h hi hp
        rw [if_neg hp, e1]
        unfold lkL
        rw [h1]
        simp only []
        rw [ih _ hlt (by omega), lkF_fuel h i _ (by omega) hlt]
    · rw [if_pos h2, h3]
      have : ∃ R, csF G i = (G i).sets :: R := by
        by_cases hp : (G i).par < 0
        · exact ⟨[], (cs_root hp).1⟩
        · exact ⟨_, (cs_node h hi hp).2.1⟩
      obtain ⟨R, hR⟩ := this
      rw [hR]
      unfold lkL
      rw [h1]

set_option maxRecDepth 100000 in
set_option maxHeartbeats 1000000 in
theorem lookI_sl {a : Option Addr} {n cap : Nat} {G : Nat → Grp} (g : Int) (kind key : ByteArray) (w : World) (h : SlT w a n cap G) :
    Calls Try.prog 9 #[.agg #[.slice a n cap], .int .i64 g, .string kind, .string key] w (LkPost w G n g kind key) := by
  have hb0 : ∀ o, Below w.heap.size w (w.alloc o) := fun o => (Below.refl _ _).alloc (Nat.le_refl _) _
  have Hok : Hid (∀ i, i < n → AllOk (G i).sets) := h.oksets
  go_enter Try.func9, Try.ntmps9
  go_wp2_with fail
  refine (layerAt_sl g _ (h.below (hb0 _))).mono ?_
  rintro e w1 ⟨hb1, hp⟩
  have hw1 := (hb0 (.cells #[.slice a n cap] 30)).trans (hb1.mono (by simp))
  clear hb1
  rcases hp with ⟨ht, q, p, rfl, hqn, hto, rfl, hL⟩ | ⟨hf, rfl⟩
  · have hok := cs_ok hto Hok.out q hqn
    have hbd := cs_bd hto q hqn
    have hv := lkL_lkF (kind := kind) (key := key) (stoTo_front hto) q hqn
    have Hend : Hid (∀ W' b, b = (!((lkF G kind key (q + 1) q).1.toList == [])) → Below w.heap.size w W' → LkPost w G n (q : Int) kind key (.returned (.tuple #[.string (lkF G kind key (q + 1) q).1, .int .i64 ((lkF G kind key (q + 1) q).2 : Nat), .bool b])) W') := fun W' b hbb hbw => ⟨hbw, Or.inl ⟨ht, q, rfl, by rw [hbb]⟩⟩
    have Hf : Hid (Calls Try.prog 27 #[.pointer p, slotV ⟨kind, key, ⟨#[]⟩⟩] w1 fun e w' => e = .returned (.tuple #[.string (lkF G kind key (q + 1) q).1, .int .i64 ((lkF G kind key (q + 1) q).2 : Nat)]) ∧ Grw w1 w') := by
      have := findL_any (csF G q) (.pointer p) ⟨kind, key, ⟨#[]⟩⟩ w1 hL hok.alls (by omega)
      rw [hv] at this
      exact this
    clear hok hbd hv hL hto ht
    generalize (lkF G kind key (q + 1) q).1 = id at *
    generalize (lkF G kind key (q + 1) q).2 = vn at *
    go_wp2_with fail
    refine (Hf.out).mono ?_
    rintro e w2 ⟨rfl, hg2⟩
    have hw2 := hw1.trans (hg2.below.mono hw1.size)
    cases he : (id.toList == [])
    · have hfin : Hid (_) := Hend.out w2 true (by rw [he]; rfl) hw2
      clear Hend
      go_wp2
      exact bodyPost_ret (v := .tuple #[.string id, .int .i64 (vn : Int), .bool true]) (by simp [results, Try.results9, go_sem]) rfl hfin.out
    · have hfin : Hid (_) := Hend.out w2 false (by rw [he]; rfl) hw2
      clear Hend
      go_wp2
      exact bodyPost_ret (v := .tuple #[.string id, .int .i64 (vn : Int), .bool false]) (by simp [results, Try.results9, go_sem]) rfl hfin.out
  · have Hf : Hid (exOk G n g = false) := hf
    clear hf
    go_wp2
    exact bodyPost_ret (v := .tuple #[.string ⟨#[]⟩, .int .i64 0, .bool false]) (by simp [results, Try.results9, go_sem]) rfl ⟨hw1, Or.inr ⟨Hf.out, rfl⟩⟩
end Go.Proofs.Ytbenfmcnmiedpab
