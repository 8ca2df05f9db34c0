/-
  spec's l6Event, l6FromAuth, l6Power.
-/
import Derived.Test.YtdapefcnmhbgkaaGreatMlA
import Derived.Test.YtdapefcnmhbgkaaGreatRmS
namespace Go.Proofs.YtdapefcnmhbgkaaGreat
open Go.RowKit

/-- the answer is the event e. -/
def EePost (w : World) (e : Ev) (x : Ending) (w' : World) : Prop := Below w.heap.size w w' ∧
  ∃ pa cp aa ca ga cg, x = .returned (e.val' pa cp aa ca ga cg) ∧ EvOk w' e pa cp aa ca ga cg

/-- in l6Event: the room's box, the result's ten cells. -/
structure EZ (w : World) (x : Value) (W : World) : Prop where
  sz : w.heap.size + 1 + 1 ≤ W.heap.size
  bl : Below w.heap.size w W
  rb : W.cell? ⟨w.heap.size, 0, none⟩ = some x
  rs : ∀ o, o < 10 → ∃ v, W.cell? ⟨w.heap.size + 1, o, none⟩ = some v
  rf : ∀ o, W.frozen? ⟨w.heap.size + 1, o, none⟩ = false
theorem EZ.drew {w W : World} {x : Value} (h : EZ w x W) : EZ w x W.drew := ⟨h.sz, h.bl.drew, h.rb, h.rs, h.rf⟩
theorem EZ.call {w W W' : World} {x : Value} (h : EZ w x W) (hb : Below W.heap.size W W') : EZ w x W' :=
  ⟨Nat.le_trans h.sz hb.size, h.bl.trans (hb.mono h.bl.size), (hb.cell (by have := h.sz; show w.heap.size < _; omega)).trans h.rb, fun o ho => by
    obtain ⟨v, hv⟩ := h.rs o ho
    exact ⟨v, (hb.cell (by have := h.sz; show w.heap.size + 1 < _; omega)).trans hv⟩, fun o => (hb.frozen (by have := h.sz; show w.heap.size + 1 < _; omega)).trans (h.rf o)⟩

set_option maxRecDepth 100000 in
set_option maxHeartbeats 2000000 in
theorem l6Event_sl {a : Option Addr} {n cap p : Nat} {E : Nat → Ev} (s : ByteArray) (w : World) (h : SlV w a n cap E) (hp : p < n) (hs : posV E n s = (p : Int)) :
    Calls Tryz.prog 32 #[.agg #[.slice a n cap], .string s] w (EePost w (E p)) := by
  rcases h.cells with h0 | ⟨b, off, rfl, hb, hc⟩
  · omega
  obtain ⟨pa, cp, aa, ca, ga, cg, hec, hok⟩ := hc p hp
  have hat : Hid (∀ W, EZ w (.slice (some ⟨b, off, none⟩) n cap) W → Calls Tryz.prog 31 #[.agg #[.slice (some ⟨b, off, none⟩) n cap], .string s] W fun e w' => e = .returned (.int .i64 (p : Int)) ∧ EZ w (.slice (some ⟨b, off, none⟩) n cap) w') := fun W hW => by
    refine (l2At_sl s W (h.below hW.bl)).mono ?_
    rintro e w' ⟨rfl, rfl⟩
    exact ⟨by rw [hs], hW.call ((Below.refl _ _).alloc (Nat.le_refl _) _)⟩
  have Hok : Hid (∀ w', Below w.heap.size w w' → EePost w (E p) (.returned ((E p).val' pa cp aa ca ga cg)) w') := fun w' hb' => ⟨hb', pa, cp, aa, ca, ga, cg, rfl, hok.below hb'⟩
  have hn := Nat.le_trans h.le h.max
  unfold maxLen at hn
  clear hc hok h hs
  generalize E p = ev at *
  go_enter Tryz.func32, Tryz.ntmps32
  go_wp2_with fail
  obtain ⟨W0, hW0⟩ : ∃ W0, W0 = (w.alloc (.cells #[.slice (some ⟨b, off, none⟩) n cap] 32)).alloc (.cells #[.string ⟨#[]⟩, .string ⟨#[]⟩, .string ⟨#[]⟩, .bool false, .string ⟨#[]⟩, .int .i64 0, .slice none 0 0, .slice none 0 0, .string ⟨#[]⟩, .slice none 0 0] 70) := ⟨_, rfl⟩
  rw [← hW0]
  have hZ : EZ w (.slice (some ⟨b, off, none⟩) n cap) W0 := by
    subst hW0
    refine ⟨by simp, ((Below.refl _ _).alloc (Nat.le_refl _) _).alloc (by simp) _, by simp, fun o ho => ?_, fun o => World.frozen?_alloc_at _ _ _ _ (by simp)⟩
    rw [World.cell?_alloc_at _ _ _ _ (by simp)]
    match o, ho with
    | 0, _ => exact ⟨_, rfl⟩
    | 1, _ => exact ⟨_, rfl⟩
    | 2, _ => exact ⟨_, rfl⟩
    | 3, _ => exact ⟨_, rfl⟩
    | 4, _ => exact ⟨_, rfl⟩
    | 5, _ => exact ⟨_, rfl⟩
    | 6, _ => exact ⟨_, rfl⟩
    | 7, _ => exact ⟨_, rfl⟩
    | 8, _ => exact ⟨_, rfl⟩
    | 9, _ => exact ⟨_, rfl⟩
  clear hW0
  have rb0 := hZ.rb
  go_region_with (go_at_call 31; refine (hat.out _ (by first | exact hZ | exact hZ.drew | exact hZ.drew.drew | exact hZ.drew.drew.drew)).mono ?_; rintro e w2 ⟨rfl, hZ2⟩; have rb2 := hZ2.rb; obtain ⟨c0, c1, c2, c3, c4, c5, c6, c7, c8, c9⟩ := hec.below hZ2.bl hb; have ff := hZ2.rf; obtain ⟨x0, y0⟩ := hZ2.rs 0 (by decide); obtain ⟨x1, y1⟩ := hZ2.rs 1 (by decide); obtain ⟨x2, y2⟩ := hZ2.rs 2 (by decide); obtain ⟨x3, y3⟩ := hZ2.rs 3 (by decide); obtain ⟨x4, y4⟩ := hZ2.rs 4 (by decide); obtain ⟨x5, y5⟩ := hZ2.rs 5 (by decide); obtain ⟨x6, y6⟩ := hZ2.rs 6 (by decide); obtain ⟨x7, y7⟩ := hZ2.rs 7 (by decide); obtain ⟨x8, y8⟩ := hZ2.rs 8 (by decide); obtain ⟨x9, y9⟩ := hZ2.rs 9 (by decide))
  all_goals
    have hbl := hZ2.bl
    clear hZ2 hZ hat
    go_wp2
    refine bodyPost_ret (v := ev.val' pa cp aa ca ga cg) (by simp [results, Tryz.results32, go_sem, y0, y1, y2, y3, y4, y5, y6, y7, y8, y9]) rfl (Hok.out _ ?_)
    iterate 10 (refine Below.setCell ?_ (Nat.le_add_right _ 1) _)
    first | exact hbl | exact hbl.drew

/-- an event with IsState, this type and this key. -/
def evP (kind key : ByteArray) (e : Ev) : Bool := e.st && e.ty.toList == kind.toList && e.key.toList == key.toList
/-- the Id of the first such event that e rests on. -/
def frV (E : Nat → Ev) (n : Nat) (P : Ev → Bool) (e : Ev) : ByteArray := if 0 ≤ scTo E n P e e.na then (E (scTo E n P e e.na).toNat).id else ⟨#[]⟩
theorem frV_hit {E : Nat → Ev} {n : Nat} {P : Ev → Bool} {e : Ev} {k y : Nat} (hk : k < e.na) (h0 : ∀ i, i < k → P (E (posV E n (e.Av i)).toNat) = false) (hy : posV E n (e.Av k) = (y : Int)) (h1 : P (E y) = true) : (E y).id = frV E n P e := by
  unfold frV
  rw [scTo_hit hk h0 hy h1, if_pos (by omega), Int.toNat_natCast]
theorem frV_miss {E : Nat → Ev} {n : Nat} {P : Ev → Bool} {e : Ev} (h0 : ∀ i, i < e.na → P (E (posV E n (e.Av i)).toNat) = false) : (⟨#[]⟩ : ByteArray) = frV E n P e := by
  unfold frV
  rw [scTo_miss _ h0, if_neg (by omega)]
end Go.Proofs.YtdapefcnmhbgkaaGreat
