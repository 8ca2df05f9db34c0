/-
  impl.Patch, impl.Put.
-/
import Derived.Test.YtfobcmememaejaaStaI
import Derived.Test.YtfobcmememaejaaPaS
namespace Go.Proofs.Ytfobcmememaejaa
open Go.RowKit

theorem slE_apN {w : World} {a : Option Addr} {cap : Nat} {l : List Ent} (h : SlE w a cap l) : ApS none a l := by
  rcases h.cells with h0 | ⟨b', off, rfl, _⟩
  · exact Or.inl h0
  · exact Or.inr ⟨b', off, rfl, by simp⟩

set_option maxRecDepth 100000 in
set_option maxHeartbeats 1000000 in
theorem patchI_sl {a : Option Addr} {cap : Nat} {l : List Ent} {ca : Option Addr} {cc : Nat} {ch : List Ent} (w : World) (h : SlE w a cap l) (hc : SlE w ca cc ch) :
    Calls Try.prog 8 #[.slice a l.length cap, .slice ca ch.length cc] w fun e w' => ∃ v, e = .returned (.tuple #[v, .bool (paOk l ch)]) ∧ OwnE w' w.heap.size v (paV l ch) ∧ Below w.heap.size w w' := by
  have hnil : ∀ W : World, OwnE W w.heap.size (.slice none 0 0) [] := fun W => ⟨rfl, Or.inl ⟨rfl, rfl⟩⟩
  go_enter Try.func8, Try.ntmps8
  go_wp2_with fail
  refine (stateI_sl _ h).mono ?_
  rintro e w1 ⟨rfl, hb1⟩
  cases hst : stB l
  case false =>
    have hv : Hid (paOk l ch = false ∧ paV l ch = []) := by
      have : paOk l ch = false := by simp [paOk, hst]
      exact ⟨this, by simp [paV, this]⟩
    go_wp2
    refine bodyPost_ret (v := .tuple #[.slice none 0 0, .bool false]) (by simp [results, Try.results8, go_sem]) rfl ⟨_, by rw [hv.out.1], by rw [hv.out.2]; exact hnil _, hb1⟩
  case true =>
    go_wp2_with fail
    refine (changesI_sl _ (hc.below hb1)).mono ?_
    rintro e w2 ⟨rfl, hb2⟩
    have hw2 := hb1.trans (hb2.mono hb1.size)
    cases hch : chB ch
    case false =>
      have hv : Hid (paOk l ch = false ∧ paV l ch = []) := by
        have : paOk l ch = false := by simp [paOk, hch]
        exact ⟨this, by simp [paV, this]⟩
      go_wp2
      refine bodyPost_ret (v := .tuple #[.slice none 0 0, .bool false]) (by simp [results, Try.results8, go_sem]) rfl ⟨_, by rw [hv.out.1], by rw [hv.out.2]; exact hnil _, hw2⟩
    case true =>
      obtain ⟨h300, hSl, hIds⟩ := st_parts hst
      have hc6 : ch.length ≤ 600 := ch_len hch
      have hSc : Srt ch := srt_of (by unfold chB at hch; rw [Bool.and_eq_true] at hch; exact hch.2)
      have hok1 : ChOk [l] := ⟨hSl, by omega, h.ok, hIds⟩
      have Hok2 : Hid (ChOk [ch, l]) := (⟨hSc, hc6, hc.ok, hok1⟩ : ChOk [ch, l])
      have Hst : Hid (stOf [ch, l] = patL l ch ch.length) := rfl
      have hv0 : Hid (paOk l ch = decide ((patL l ch ch.length).length ≤ 300)) := by unfold Hid paOk; rw [hst, hch]; rfl
      have hPV : Hid (paV l ch = if paOk l ch then patL l ch ch.length else []) := rfl
      have Hover : Hid (∀ W q, Below w.heap.size w W → LayAt W none (.pointer q) [l] → Calls Try.prog 22 #[.pointer q, .slice ca ch.length cc] W fun e w' => ∃ b, e = .returned (.pointer (some ⟨b, 0, none⟩)) ∧ LayAt w' none (.pointer (some ⟨b, 0, none⟩)) [ch, l] ∧ Grw W w') := fun W q hW hL =>
        layOver_any W (fun q hq => by cases hq) (slE_apN (hc.below hW)) hL hok1 (by simp) hSc hc6 (by show l.length ≤ _; omega) (hc.below hW)
      clear hSl hIds hSc hok1
      go_wp2_with fail
      refine (firstL_any (x := none) _ (fun q hq => by cases hq) (slE_apN (h.below hw2)) (h.below hw2)).mono ?_
      rintro e w3 ⟨b3, rfl, hL3, hg3⟩
      have hw3 := hw2.trans (hg3.below.mono hw2.size)
      have HL3 : Hid (LayAt w3 none (.pointer (some ⟨b3, 0, none⟩)) [l]) := hL3
      clear hL3
      go_wp2_with fail
      refine (Hover.out _ _ hw3 HL3.out).mono ?_
      rintro e w4 ⟨b4, rfl, hL4, hg4⟩
      have hw4 := hw3.trans (hg4.below.mono hw3.size)
      have HL4 : Hid (LayAt w4 none (.pointer (some ⟨b4, 0, none⟩)) [ch, l]) := hL4
      obtain ⟨b', pp, ta, tc, e0, hlt4, c0, c1, c2, c3, _⟩ := hL4
      injection e0 with e0; injection e0 with e0; injection e0 with e0 _ _
      subst e0
      rw [Hst.out] at c3
      have hpl := patL_len l ch ch.length
      by_cases hl : (patL l ch ch.length).length ≤ 300
      · have hv : Hid (paOk l ch = true ∧ paV l ch = patL l ch ch.length) := by
          have : paOk l ch = true := by rw [hv0.out]; exact decide_eq_true hl
          exact ⟨this, by rw [hPV.out, this]; rfl⟩
        have Hstate : Hid (Calls Try.prog 24 #[.pointer (some ⟨b4, 0, none⟩)] w4 fun e w' => ∃ v, e = .returned v ∧ OwnE w' w4.heap.size v (patL l ch ch.length) ∧ Below w4.heap.size w4 w') := state_any (L := [ch, l]) w4 HL4.out Hok2.out (by simp)
        have Hokp : Hid (AllOk (patL l ch ch.length)) := (stOf_ok Hok2.out).2.2
        clear c0 c1 c2
        generalize patL l ch ch.length = sl at *
        have hg : ¬ (300 < sl.length) := by omega
        go_wp2_with fail
        refine (Hstate.out).mono ?_
        rintro e w5 ⟨v, rfl, ho, hb5⟩
        obtain ⟨ga, gc, rfl, _⟩ := ho.sl Hokp.out.at
        have hw5 := hw4.trans (hb5.mono hw4.size)
        have ho2 := ho.base_le hw4.size
        clear c3
        go_wp2
        refine bodyPost_ret (v := .tuple #[.slice ga sl.length gc, .bool true]) (by simp [results, Try.results8, go_sem]) rfl ⟨_, by rw [hv.out.1], by rw [hv.out.2]; exact ho2, hw5⟩
      · have hv : Hid (paOk l ch = false ∧ paV l ch = []) := by
          have : paOk l ch = false := by rw [hv0.out]; exact decide_eq_false hl
          exact ⟨this, by rw [hPV.out, this]; rfl⟩
        clear c0 c1 c2
        generalize patL l ch ch.length = sl at *
        have hg : 300 < sl.length := by omega
        go_wp2
        refine bodyPost_ret (v := .tuple #[.slice none 0 0, .bool false]) (by simp [results, Try.results8, go_sem]) rfl ⟨_, by rw [hv.out.1], by rw [hv.out.2]; exact hnil _, hw4⟩
theorem paV_okI {l ch : List Ent} (h : AllOk l) (hc : AllOk ch) : AllOk (paV l ch) := by
  unfold paV
  split
  · exact patL_ok h hc _ (Nat.le_refl _)
  · exact fun x hx => by cases hx
end Go.Proofs.Ytfobcmememaejaa
