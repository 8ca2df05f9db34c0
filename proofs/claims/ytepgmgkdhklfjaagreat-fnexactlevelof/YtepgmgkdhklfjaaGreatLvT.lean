/-
  spec's l5Event, l5Level, LevelOf.
-/
import Derived.Test.YtepgmgkdhklfjaaGreatLvS
import Derived.Test.YtepgmgkdhklfjaaGreatL6e
import Derived.Test.YtepgmgkdhklfjaaGreatRmC
namespace Go.Proofs.YtepgmgkdhklfjaaGreat
open Go.RowKit

/-- no event. -/
abbrev evNil : Value := .agg #[.string ⟨#[]⟩, .string ⟨#[]⟩, .string ⟨#[]⟩, .bool false, .string ⟨#[]⟩, .int .i64 0, .slice none 0 0, .slice none 0 0, .string ⟨#[]⟩, .slice none 0 0]
/-- what l5Event answers. -/
def E5Post (w : World) (E : Nat → Ev) (p : Int) (x : Ending) (w' : World) : Prop := Below w.heap.size w w' ∧
  ((p < 0 ∧ x = .returned (.tuple #[evNil, .bool false])) ∨ ∃ q : Nat, p = (q : Int) ∧ ∃ pa cp aa ca ga cg, x = .returned (.tuple #[(E q).val' pa cp aa ca ga cg, .bool true]) ∧ EvOk w' (E q) pa cp aa ca ga cg)

set_option maxRecDepth 100000 in
set_option maxHeartbeats 4000000 in
theorem l5E_sl {a : Option Addr} {n cap : Nat} {E : Nat → Ev} {sa : Option Addr} {sc : Nat} {l : List Ent} (kind key : ByteArray) (w : World) (h : SlV w a n cap E) (hs : SlE w sa sc l) :
    Calls Tryz.prog 31 #[.agg #[.slice a n cap], .slice sa l.length sc, .string kind, .string key] w (E5Post w E (atV E n l kind key)) := by
  have hnn := Nat.le_trans h.le h.max
  unfold maxLen at hnn
  have HF : Hid (∀ W, EZ w (.slice a n cap) W → Calls Tryz.prog 50 #[.slice sa l.length sc, .string kind, .string key] W fun e w' => e = .returned (.string (findB l kind key)) ∧ EZ w (.slice a n cap) w') := fun W hW => (l4Find_sl kind key W (hs.below hW.bl)).mono fun e w' ⟨h1, h2⟩ => ⟨h1, hW.call h2⟩
  have HA : Hid (∀ W, EZ w (.slice a n cap) W → Calls Tryz.prog 29 #[.agg #[.slice a n cap], .string (findB l kind key)] W fun e w' => e = .returned (.int .i64 (atV E n l kind key)) ∧ EZ w (.slice a n cap) w') := fun W hW => by
    refine (l2At_sl (findB l kind key) W (h.below hW.bl)).mono ?_
    rintro e w' ⟨rfl, rfl⟩
    exact ⟨rfl, hW.call ((Below.refl _ _).alloc (Nat.le_refl _) _)⟩
  have hbd := posV_bd E (findB l kind key) n
  have hbd' : -1 ≤ atV E n l kind key ∧ atV E n l kind key < n := hbd
  clear hbd
  generalize atV E n l kind key = p at *
  generalize findB l kind key = f at *
  go_enter Tryz.func31, Tryz.ntmps31
  go_wp2_with fail
  obtain ⟨W0, hW0⟩ : ∃ W0, W0 = (w.alloc (.cells #[.slice a n cap] 31)).alloc (.cells #[.string ⟨#[]⟩, .string ⟨#[]⟩, .string ⟨#[]⟩, .bool false, .string ⟨#[]⟩, .int .i64 0, .slice none 0 0, .slice none 0 0, .string ⟨#[]⟩, .slice none 0 0] 78) := ⟨_, rfl⟩
  rw [← hW0]
  have hZ : EZ w (.slice a n cap) W0 := by
    subst hW0
    refine ⟨by simp, ((Below.refl _ _).alloc (Nat.le_refl _) _).alloc (by simp) _, by simp, fun o ho => ?_, fun o => World.frozen?_alloc_at _ _ _ _ (by simp)⟩
    rw [World.cell?_alloc_at _ _ _ _ (by simp)]
    match o, ho with
    | 0, _ => exact ⟨_, rfl⟩
    | 1, _ => exact ⟨_, rfl⟩
    | 2, _ => exact ⟨_, rfl⟩
    | 3, _ => exact ⟨_, rfl⟩
    | 4, _ => exact ⟨_, rfl⟩
    | 5, _ => exact ⟨_, rfl⟩
    | 6, _ => exact ⟨_, rfl⟩
    | 7, _ => exact ⟨_, rfl⟩
    | 8, _ => exact ⟨_, rfl⟩
    | 9, _ => exact ⟨_, rfl⟩
  clear hW0
  have rb0 := hZ.rb
  go_cut [10] (fun v wx => v = .int .i64 p ∧ EZ w (.slice a n cap) wx)
  case first =>
    go_region_with (first
      | (go_at_call 50; refine (HF.out _ (by first | exact hZ | exact hZ.drew | exact hZ.drew.drew | exact hZ.drew.drew.drew)).mono ?_; rintro e w2 ⟨rfl, hZ2⟩; have rb2 := hZ2.rb)
      | (go_at_call 29; refine (HA.out _ (by first | exact hZ2 | exact hZ2.drew | exact hZ2.drew.drew | exact hZ2.drew.drew.drew)).mono ?_; rintro e w3 ⟨rfl, hZ3⟩))
    all_goals (try go_wp2_with fail)
    all_goals go_meet
    all_goals exact ⟨rfl, by first | exact hZ3 | exact hZ3.drew | exact hZ3.drew.drew⟩
  case rest =>
    obtain ⟨rfl, hZ2⟩ := hcut
    obtain ⟨w2, hw2⟩ : ∃ w2 : World, w2 = wc := ⟨_, rfl⟩
    subst hw2
    clear hZ rb0 HF HA
    have rb2 := hZ2.rb
    have ff := hZ2.rf
    have hbl := hZ2.bl
    obtain ⟨x0, y0⟩ := hZ2.rs 0 (by decide)
    obtain ⟨x1, y1⟩ := hZ2.rs 1 (by decide)
    obtain ⟨x2, y2⟩ := hZ2.rs 2 (by decide)
    obtain ⟨x3, y3⟩ := hZ2.rs 3 (by decide)
    obtain ⟨x4, y4⟩ := hZ2.rs 4 (by decide)
    obtain ⟨x5, y5⟩ := hZ2.rs 5 (by decide)
    obtain ⟨x6, y6⟩ := hZ2.rs 6 (by decide)
    obtain ⟨x7, y7⟩ := hZ2.rs 7 (by decide)
    obtain ⟨x8, y8⟩ := hZ2.rs 8 (by decide)
    obtain ⟨x9, y9⟩ := hZ2.rs 9 (by decide)
    by_cases hneg : p < 0
    · have Hok : Hid (∀ w', Below w.heap.size w w' → E5Post w E p (.returned (.tuple #[evNil, .bool false])) w') := fun w' hb' => ⟨hb', Or.inl ⟨hneg, rfl⟩⟩
      clear hZ2
      go_wp2
      refine bodyPost_ret (v := .tuple #[evNil, .bool false]) (by simp [results, Tryz.results31, go_sem, y0, y1, y2, y3, y4, y5, y6, y7, y8, y9]) rfl (Hok.out _ ?_)
      iterate 10 (refine Below.setCell ?_ (Nat.le_add_right _ 1) _)
      first | exact hbl | exact hbl.drew
    · obtain ⟨q, rfl⟩ : ∃ q : Nat, p = (q : Int) := ⟨p.toNat, by omega⟩
      have hqn : q < n := by omega
      have hq0 : (0 : Int) ≤ (q : Int) := by omega
      have hq1 : (q : Int) < (n : Int) := by omega
      rcases h.cells with h0 | ⟨b, off, rfl, hb, hc⟩
      · omega
      obtain ⟨pa, cp, aa, ca, ga, cg, hec, hok⟩ := hc q hqn
      have Hok : Hid (∀ w', Below w.heap.size w w' → E5Post w E (q : Int) (.returned (.tuple #[(E q).val' pa cp aa ca ga cg, .bool true])) w') := fun w' hb' => ⟨hb', Or.inr ⟨q, rfl, pa, cp, aa, ca, ga, cg, rfl, hok.below hb'⟩⟩
      obtain ⟨c0, c1, c2, c3, c4, c5, c6, c7, c8, c9⟩ := hec.below hbl hb
      clear hc hok h hZ2 hec
      generalize E q = ev at *
      go_wp2
      refine bodyPost_ret (v := .tuple #[ev.val' pa cp aa ca ga cg, .bool true]) (by simp [results, Tryz.results31, go_sem, y0, y1, y2, y3, y4, y5, y6, y7, y8, y9]) rfl (Hok.out _ ?_)
      iterate 10 (refine Below.setCell ?_ (Nat.le_add_right _ 1) _)
      first | exact hbl | exact hbl.drew
end Go.Proofs.YtepgmgkdhklfjaaGreat
