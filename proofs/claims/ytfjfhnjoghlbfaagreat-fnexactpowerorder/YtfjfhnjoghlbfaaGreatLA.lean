import Derived.Test.YtfjfhnjoghlbfaaGreatTpA
import Derived.Test.YtfjfhnjoghlbfaaGreatRmB
import Derived.Deep.CutRange
/-
  spec's l6Event, l6FromAuth, l6Power.
-/
namespace Go.Proofs.YtfjfhnjoghlbfaaGreat
open Go.RowKit

/-- the answer is the event e. -/
def EePost (w : World) (e : Ev) (x : Ending) (w' : World) : Prop := Below w.heap.size w w' ∧
  ∃ pa cp aa ca ga cg, x = .returned (e.val' pa cp aa ca ga cg) ∧ EvOk w' e pa cp aa ca ga cg

/-- in l6Event: the room's box, the result's ten cells. -/
structure EZ (w : World) (x : Value) (W : World) : Prop where
  sz : w.heap.size + 1 + 1 ≤ W.heap.size
  bl : Below w.heap.size w W
  rb : W.cell? ⟨w.heap.size, 0, none⟩ = some x
  rs : ∀ o, o < 10 → ∃ v, W.cell? ⟨w.heap.size + 1, o, none⟩ = some v
  rf : ∀ o, W.frozen? ⟨w.heap.size + 1, o, none⟩ = false
theorem EZ.drew {w W : World} {x : Value} (h : EZ w x W) : EZ w x W.drew := ⟨h.sz, h.bl.drew, h.rb, h.rs, h.rf⟩
theorem EZ.call {w W W' : World} {x : Value} (h : EZ w x W) (hb : Below W.heap.size W W') : EZ w x W' :=
  ⟨Nat.le_trans h.sz hb.size, h.bl.trans (hb.mono h.bl.size), (hb.cell (by have := h.sz; show w.heap.size < _; omega)).trans h.rb, fun o ho => by
    obtain ⟨v, hv⟩ := h.rs o ho
    exact ⟨v, (hb.cell (by have := h.sz; show w.heap.size + 1 < _; omega)).trans hv⟩, fun o => (hb.frozen (by have := h.sz; show w.heap.size + 1 < _; omega)).trans (h.rf o)⟩

set_option maxRecDepth 100000 in
set_option maxHeartbeats 2000000 in
theorem l6Event_sl {a : Option Addr} {n cap p : Nat} {E : Nat → Ev} (s : ByteArray) (w : World) (h : SlV w a n cap E) (hp : p < n) (hs : posV E n s = (p : Int)) :
    Calls Tryz.prog 32 #[.agg #[.slice a n cap], .string s] w (EePost w (E p)) := by
  rcases h.cells with h0 | ⟨b, off, rfl, hb, hc⟩
  · omega
  obtain ⟨pa, cp, aa, ca, ga, cg, hec, hok⟩ := hc p hp
  have hat : Hid (∀ W, EZ w (.slice (some ⟨b, off, none⟩) n cap) W → Calls Tryz.prog 30 #[.agg #[.slice (some ⟨b, off, none⟩) n cap], .string s] W fun e w' => e = .returned (.int .i64 (p : Int)) ∧ EZ w (.slice (some ⟨b, off, none⟩) n cap) w') := fun W hW => by
    refine (l2At_sl s W (h.below hW.bl)).mono ?_
    rintro e w' ⟨rfl, rfl⟩
    exact ⟨by rw [hs], hW.call ((Below.refl _ _).alloc (Nat.le_refl _) _)⟩
  have Hok : Hid (∀ w', Below w.heap.size w w' → EePost w (E p) (.returned ((E p).val' pa cp aa ca ga cg)) w') := fun w' hb' => ⟨hb', pa, cp, aa, ca, ga, cg, rfl, hok.below hb'⟩
  have hn := Nat.le_trans h.le h.max
  unfold maxLen at hn
  clear hc hok h hs
  generalize E p = ev at *
  go_enter Tryz.func32, Tryz.ntmps32
  go_wp2_with fail
  obtain ⟨W0, hW0⟩ : ∃ W0, W0 = (w.alloc (.cells #[.slice (some ⟨b, off, none⟩) n cap] 32)).alloc (.cells #[.string ⟨#[]⟩, .string ⟨#[]⟩, .string ⟨#[]⟩, .bool false, .string ⟨#[]⟩, .int .i64 0, .slice none 0 0, .slice none 0 0, .string ⟨#[]⟩, .slice none 0 0] 68) := ⟨_, rfl⟩
  rw [← hW0]
  have hZ : EZ w (.slice (some ⟨b, off, none⟩) n cap) W0 := by
    subst hW0
    refine ⟨by simp, ((Below.refl _ _).alloc (Nat.le_refl _) _).alloc (by simp) _, by simp, fun o ho => ?_, fun o => World.frozen?_alloc_at _ _ _ _ (by simp)⟩
    rw [World.cell?_alloc_at _ _ _ _ (by simp)]
    match o, ho with
    | 0, _ => exact ⟨_, rfl⟩
    | 1, _ => exact ⟨_, rfl⟩
    | 2, _ => exact ⟨_, rfl⟩
    | 3, _ => exact ⟨_, rfl⟩
    | 4, _ => exact ⟨_, rfl⟩
    | 5, _ => exact ⟨_, rfl⟩
    | 6, _ => exact ⟨_, rfl⟩
    | 7, _ => exact ⟨_, rfl⟩
    | 8, _ => exact ⟨_, rfl⟩
    | 9, _ => exact ⟨_, rfl⟩
  clear hW0
  have rb0 := hZ.rb
  go_region_with (go_at_call 30; refine (hat.out _ (by first | exact hZ | exact hZ.drew | exact hZ.drew.drew | exact hZ.drew.drew.drew)).mono ?_; rintro e w2 ⟨rfl, hZ2⟩; have rb2 := hZ2.rb; obtain ⟨c0, c1, c2, c3, c4, c5, c6, c7, c8, c9⟩ := hec.below hZ2.bl hb; have ff := hZ2.rf; obtain ⟨x0, y0⟩ := hZ2.rs 0 (by decide); obtain ⟨x1, y1⟩ := hZ2.rs 1 (by decide); obtain ⟨x2, y2⟩ := hZ2.rs 2 (by decide); obtain ⟨x3, y3⟩ := hZ2.rs 3 (by decide); obtain ⟨x4, y4⟩ := hZ2.rs 4 (by decide); obtain ⟨x5, y5⟩ := hZ2.rs 5 (by decide); obtain ⟨x6, y6⟩ := hZ2.rs 6 (by decide); obtain ⟨x7, y7⟩ := hZ2.rs 7 (by decide); obtain ⟨x8, y8⟩ := hZ2.rs 8 (by decide); obtain ⟨x9, y9⟩ := hZ2.rs 9 (by decide))
  all_goals
    have hbl := hZ2.bl
    clear hZ2 hZ hat
    go_wp2
    refine bodyPost_ret (v := ev.val' pa cp aa ca ga cg) (by simp [results, Tryz.results32, go_sem, y0, y1, y2, y3, y4, y5, y6, y7, y8, y9]) rfl (Hok.out _ ?_)
    iterate 10 (refine Below.setCell ?_ (Nat.le_add_right _ 1) _)
    first | exact hbl | exact hbl.drew

/-- an event with IsState, this type and this key. -/
def evP (kind key : ByteArray) (e : Ev) : Bool := e.st && e.ty.toList == kind.toList && e.key.toList == key.toList
/-- the Id of the first such event that e rests on. -/
def frV (E : Nat → Ev) (n : Nat) (P : Ev → Bool) (e : Ev) : ByteArray := if 0 ≤ scTo E n P e e.na then (E (scTo E n P e e.na).toNat).id else ⟨#[]⟩
theorem frV_hit {E : Nat → Ev} {n : Nat} {P : Ev → Bool} {e : Ev} {k y : Nat} (hk : k < e.na) (h0 : ∀ i, i < k → P (E (posV E n (e.Av i)).toNat) = false) (hy : posV E n (e.Av k) = (y : Int)) (h1 : P (E y) = true) : (E y).id = frV E n P e := by
  unfold frV
  rw [scTo_hit hk h0 hy h1, if_pos (by omega), Int.toNat_natCast]
theorem frV_miss {E : Nat → Ev} {n : Nat} {P : Ev → Bool} {e : Ev} (h0 : ∀ i, i < e.na → P (E (posV E n (e.Av i)).toNat) = false) : (⟨#[]⟩ : ByteArray) = frV E n P e := by
  unfold frV
  rw [scTo_miss _ h0, if_neg (by omega)]
end Go.Proofs.YtfjfhnjoghlbfaaGreat
/-
  spec's l6FromAuth.
-/
namespace Go.Proofs.YtfjfhnjoghlbfaaGreat
open Go.RowKit

/-- the id, type, mark and key of event e lie in block B. -/
def EvF (w : World) (B : Nat) (e : Ev) : Prop := w.cell? ⟨B, 0, none⟩ = some (.string e.id) ∧ w.cell? ⟨B, 2, none⟩ = some (.string e.ty) ∧ w.cell? ⟨B, 3, none⟩ = some (.bool e.st) ∧ w.cell? ⟨B, 4, none⟩ = some (.string e.key)

/-- behind the region: the event's pointer. -/
def CutF (wr : World) (ev : Ev) (pv : Value) (wx : World) : Prop := ∃ B, pv = .pointer (some ⟨B, 0, none⟩) ∧ EvF wx B ev ∧ Below wr.heap.size wr wx
theorem cutF_a {wr w2 : World} {ev : Ev} {pa aa ga : Option Addr} {cp ca cg : Nat} (hb2 : Below wr.heap.size wr w2) : CutF wr ev (.pointer (some ⟨w2.heap.size, 0, none⟩)) (w2.alloc (.cells #[.string ev.id, .string ev.sd, .string ev.ty, .bool ev.st, .string ev.key, .int .i64 ev.tm, .slice pa ev.np cp, .slice aa ev.na ca, .string ev.val, .slice ga ev.ng cg] 68)) := by
  refine ⟨_, rfl, ⟨?_, ?_, ?_, ?_⟩, hb2.alloc hb2.size _⟩
  all_goals
    rw [World.cell?_alloc_at _ _ _ _ rfl]
    rfl
theorem cutF_b {wr w2 : World} {ev : Ev} {pa aa ga : Option Addr} {cp ca cg : Nat} {z0 z2 z3 z4 : Value} (hb2 : Below wr.heap.size wr w2) (y0 : w2.cell? ⟨wr.heap.size, 0, none⟩ = some z0) (y2 : w2.cell? ⟨wr.heap.size, 2, none⟩ = some z2) (y3 : w2.cell? ⟨wr.heap.size, 3, none⟩ = some z3) (y4 : w2.cell? ⟨wr.heap.size, 4, none⟩ = some z4) :
    CutF wr ev (.pointer (some ⟨wr.heap.size, 0, none⟩)) ((((((((((w2.setCell ⟨wr.heap.size, 0, none⟩ (.string ev.id)).setCell ⟨wr.heap.size, 1, none⟩ (.string ev.sd)).setCell ⟨wr.heap.size, 2, none⟩ (.string ev.ty)).setCell ⟨wr.heap.size, 3, none⟩ (.bool ev.st)).setCell ⟨wr.heap.size, 4, none⟩ (.string ev.key)).setCell ⟨wr.heap.size, 5, none⟩ (.int .i64 ev.tm)).setCell ⟨wr.heap.size, 6, none⟩ (.slice pa ev.np cp)).setCell ⟨wr.heap.size, 7, none⟩ (.slice aa ev.na ca)).setCell ⟨wr.heap.size, 8, none⟩ (.string ev.val)).setCell ⟨wr.heap.size, 9, none⟩ (.slice ga ev.ng cg)) := by
  refine ⟨_, rfl, ⟨by rw [set_far (by decide), set_far (by decide), set_far (by decide), set_far (by decide), set_far (by decide), set_far (by decide), set_far (by decide), set_far (by decide), set_far (by decide), set_same ⟨_, y0⟩], by rw [set_far (by decide), set_far (by decide), set_far (by decide), set_far (by decide), set_far (by decide), set_far (by decide), set_far (by decide), set_same ⟨_, by rw [set_far (by decide), set_far (by decide)]; exact y2⟩], by rw [set_far (by decide), set_far (by decide), set_far (by decide), set_far (by decide), set_far (by decide), set_far (by decide), set_same ⟨_, by rw [set_far (by decide), set_far (by decide), set_far (by decide)]; exact y3⟩], by rw [set_far (by decide), set_far (by decide), set_far (by decide), set_far (by decide), set_far (by decide), set_same ⟨_, by rw [set_far (by decide), set_far (by decide), set_far (by decide), set_far (by decide)]; exact y4⟩]⟩, ?_⟩
  iterate 10 (refine Below.setCell ?_ (by show wr.heap.size ≤ wr.heap.size; exact Nat.le_refl _) _)
  exact hb2
theorem zero_ev (W : World) (o : Nat) (ho : o < 10) : ∃ v, (W.alloc (.cells #[.string ⟨#[]⟩, .string ⟨#[]⟩, .string ⟨#[]⟩, .bool false, .string ⟨#[]⟩, .int .i64 0, .slice none 0 0, .slice none 0 0, .string ⟨#[]⟩, .slice none 0 0] 68)).cell? ⟨W.heap.size, o, none⟩ = some v := by
  rw [World.cell?_alloc_at _ _ _ _ rfl]
  match o, ho with
  | 0, _ => exact ⟨_, rfl⟩
  | 1, _ => exact ⟨_, rfl⟩
  | 2, _ => exact ⟨_, rfl⟩
  | 3, _ => exact ⟨_, rfl⟩
  | 4, _ => exact ⟨_, rfl⟩
  | 5, _ => exact ⟨_, rfl⟩
  | 6, _ => exact ⟨_, rfl⟩
  | 7, _ => exact ⟨_, rfl⟩
  | 8, _ => exact ⟨_, rfl⟩
  | 9, _ => exact ⟨_, rfl⟩

set_option maxRecDepth 100000 in
set_option maxHeartbeats 4000000 in
theorem l6From_sl {a : Option Addr} {n cap q : Nat} {E : Nat → Ev} {pa aa ga : Option Addr} {cp ca cg : Nat} (kind key : ByteArray) (w : World) (hroom : roomTo E n = true) (hq : q < n) (h : SlV w a n cap E) (he : EvOk w (E q) pa cp aa ca ga cg) :
    Calls Tryz.prog 99 #[.agg #[.slice a n cap], (E q).val' pa cp aa ca ga cg, .string kind, .string key] w fun x w' => x = .returned (.string (frV E n (evP kind key) (E q))) ∧ Below w.heap.size w w' := by
  have hna : (E q).na ≤ maxLen := Nat.le_trans he.ha.le he.ha.max
  unfold maxLen at hna
  obtain ⟨wb, hwb⟩ : ∃ wb, wb = boxes w a n cap (E q) pa cp aa ca ga cg := ⟨_, rfl⟩
  have hb0 : Below w.heap.size w wb := by rw [hwb]; exact ((Below.refl _ _).alloc (Nat.le_refl _) _).alloc (by simp) _
  have hs0 : wb.heap.size = w.heap.size + 2 := by rw [hwb]; simp
  have hbx : Hid (∀ wx, Below (w.heap.size + 2) wb wx → wx.cell? ⟨w.heap.size, 0, none⟩ = some (.slice a n cap) ∧ wx.cell? ⟨w.heap.size + 1, 7, none⟩ = some (.slice aa (E q).na ca)) := fun wx hx => by
    subst hwb
    have := boxes_cells (E q) w hx
    exact ⟨this.1, this.2 7⟩
  have Hroom : Hid (_) := hroom
  have HE : Hid (SlV w a n cap E) := h
  have Ha : Hid (SlS w aa (E q).na ca (E q).Av) := he.ha
  clear he h hroom
  go_enter Tryz.func99, Tryz.ntmps99
  go_wp2_with fail
  have hwb' : (w.alloc (.cells #[.slice a n cap] 32)).alloc (.cells #[.string (E q).id, .string (E q).sd, .string (E q).ty, .bool (E q).st, .string (E q).key, .int .i64 (E q).tm, .slice pa (E q).np cp, .slice aa (E q).na ca, .string (E q).val, .slice ga (E q).ng cg] 68) = wb := hwb.symm
  rw [hwb']
  clear hwb' hwb
  go_loopw [9] (fun i wr => ∃ k : Nat, k ≤ (E q).na ∧ i = .int .i64 k ∧ Hid (∀ i, i < k → evP kind key (E (posV E n ((E q).Av i)).toNat) = false) ∧ Below (w.heap.size + 2) wb wr) (fun i _ => (E q).na - (intOf i).toNat)
  case atStart => exact ⟨0, Nat.zero_le _, rfl, fun i hi => absurd hi (Nat.not_lt_zero _), Below.refl _ _⟩
  case round =>
    obtain ⟨k, hk, rfl, hto, hB⟩ := hrel
    have hbw := hb0.trans (hB.mono (by omega))
    have hso : w.heap.size + 2 ≤ wr.heap.size := by have := hB.size; omega
    obtain ⟨x0, x7⟩ := hbx.out _ hB
    by_cases hlt : k < (E q).na
    · rcases Ha.out.cells with h0 | ⟨ba, oa, rfl, hba, hca⟩
      · omega
      obtain ⟨y, hy, ey, -⟩ := auth_there Hroom.out hq hlt
      have hck : wr.cell? ⟨ba, oa + k, none⟩ = some (.string ((E q).Av k)) := (hbw.cell (by exact hba)).trans (hca k hlt)
      have hev : Hid (∀ W, Below wr.heap.size wr W → Calls Tryz.prog 32 #[.agg #[.slice a n cap], .string ((E q).Av k)] W (EePost W (E y))) := fun W hW => l6Event_sl _ W (HE.out.below (hbw.trans (hW.mono hbw.size))) (by omega) ey
      have Hno : Hid (evP kind key (E y) = false → ∀ i, i < k + 1 → evP kind key (E (posV E n ((E q).Av i)).toNat) = false) := fun hf i hi => by
        by_cases e : i = k
        · subst e; rw [ey, Int.toNat_natCast]; exact hf
        · exact hto.out i (by omega)
      have Hyes : Hid (evP kind key (E y) = true → (E y).id = frV E n (evP kind key) (E q)) := fun ht => frV_hit hlt hto.out ey ht
      have hk64 : (k : Int) < 9223372036854775807 := by omega
      have hrf : Below wr.heap.size wr wr := Below.refl _ _
      have hal : Below wr.heap.size wr (wr.alloc (.cells #[.string ⟨#[]⟩, .string ⟨#[]⟩, .string ⟨#[]⟩, .bool false, .string ⟨#[]⟩, .int .i64 0, .slice none 0 0, .slice none 0 0, .string ⟨#[]⟩, .slice none 0 0] 68)) := (Below.refl _ _).alloc (Nat.le_refl _) _
      have hck1 : (wr.alloc (.cells #[.string ⟨#[]⟩, .string ⟨#[]⟩, .string ⟨#[]⟩, .bool false, .string ⟨#[]⟩, .int .i64 0, .slice none 0 0, .slice none 0 0, .string ⟨#[]⟩, .slice none 0 0] 68)).drew.cell? ⟨ba, oa + k, none⟩ = some (.string ((E q).Av k)) := (hal.drew.cell (by show ba < wr.heap.size; omega)).trans hck
      have x01 : (wr.alloc (.cells #[.string ⟨#[]⟩, .string ⟨#[]⟩, .string ⟨#[]⟩, .bool false, .string ⟨#[]⟩, .int .i64 0, .slice none 0 0, .slice none 0 0, .string ⟨#[]⟩, .slice none 0 0] 68)).drew.cell? ⟨w.heap.size, 0, none⟩ = some (.slice a n cap) := (hal.drew.cell (by show w.heap.size < wr.heap.size; omega)).trans x0
      have x71 : (wr.alloc (.cells #[.string ⟨#[]⟩, .string ⟨#[]⟩, .string ⟨#[]⟩, .bool false, .string ⟨#[]⟩, .int .i64 0, .slice none 0 0, .slice none 0 0, .string ⟨#[]⟩, .slice none 0 0] 68)).drew.cell? ⟨w.heap.size + 1, 7, none⟩ = some (.slice (some ⟨ba, oa, none⟩) (E q).na ca) := (hal.drew.cell (by show w.heap.size + 1 < wr.heap.size; omega)).trans x7
      have hlt1 : ba < wr.heap.size := by omega
      clear hca ey hto
      generalize E y = ev at *
      go_wp2_with fail
      go_cut [10] from 11 to 40 (fun pv wx => CutF wr ev pv wx)
      case first =>
        go_region_with (first
          | (go_at_call 32; refine (hev.out _ (by first | with_reducible exact hrf | with_reducible exact hrf.drew | with_reducible exact hrf.drew.drew | with_reducible exact hrf.drew.drew.drew)).mono ?_; rintro e w2 ⟨hb2', pa2, cp2, aa2, ca2, ga2, cg2, hee, -⟩; have hef : e = .returned (.agg #[.string ev.id, .string ev.sd, .string ev.ty, .bool ev.st, .string ev.key, .int .i64 ev.tm, .slice pa2 ev.np cp2, .slice aa2 ev.na ca2, .string ev.val, .slice ga2 ev.ng cg2]) := hee; clear hee; subst hef; have hb2 : Below wr.heap.size wr w2 := Below.trans (by first | with_reducible exact hrf | with_reducible exact hrf.drew | with_reducible exact hrf.drew.drew | with_reducible exact hrf.drew.drew.drew) hb2')
          | (go_at_call 32; (refine (hev.out _ (by first | with_reducible exact hal | with_reducible exact hal.drew | with_reducible exact hal.drew.drew | with_reducible exact hal.drew.drew.drew)).mono ?_; rintro e w2 ⟨hb2', pa2, cp2, aa2, ca2, ga2, cg2, hee, -⟩; have hef : e = .returned (.agg #[.string ev.id, .string ev.sd, .string ev.ty, .bool ev.st, .string ev.key, .int .i64 ev.tm, .slice pa2 ev.np cp2, .slice aa2 ev.na ca2, .string ev.val, .slice ga2 ev.ng cg2]) := hee; clear hee; subst hef; have hs2 : wr.heap.size < w2.heap.size := Nat.lt_of_lt_of_le (by simp) hb2'.size; have hb2 : Below wr.heap.size wr w2 := Below.trans (by first | with_reducible exact hal | with_reducible exact hal.drew | with_reducible exact hal.drew.drew | with_reducible exact hal.drew.drew.drew) (hb2'.mono (by simp)); have hz : ∀ o, o < 10 → ∃ v, w2.cell? ⟨wr.heap.size, o, none⟩ = some v := fun o ho => (zero_ev wr o ho).imp fun v hv => (hb2'.cell (p := ⟨wr.heap.size, o, none⟩) (by simp)).trans hv; obtain ⟨z0, y0⟩ := hz 0 (by decide); obtain ⟨z1, y1⟩ := hz 1 (by decide); obtain ⟨z2, y2⟩ := hz 2 (by decide); obtain ⟨z3, y3⟩ := hz 3 (by decide); obtain ⟨z4, y4⟩ := hz 4 (by decide); obtain ⟨z5, y5⟩ := hz 5 (by decide); obtain ⟨z6, y6⟩ := hz 6 (by decide); obtain ⟨z7, y7⟩ := hz 7 (by decide); obtain ⟨z8, y8⟩ := hz 8 (by decide); obtain ⟨z9, y9⟩ := hz 9 (by decide); clear hz; have hf : ∀ o, w2.frozen? ⟨wr.heap.size, o, none⟩ = false := fun o => (hb2'.frozen (p := ⟨wr.heap.size, o, none⟩) (by simp)).trans (World.frozen?_alloc_at _ _ _ _ rfl))))
        all_goals (try go_wp2_with fail)
        all_goals go_meet
        all_goals first
          | with_reducible exact cutF_a hb2
          | with_reducible exact cutF_b hb2 y0 y2 y3 y4
      case rest =>
        obtain ⟨B, rfl, ⟨f0, f2, f3, f4⟩, hbc⟩ := hcut
        have hBc := hB.trans (hbc.mono hso)
        have hbwc := hb0.trans (hBc.mono (by omega))
        clear x0 x7 hck hev
        cases hP : evP kind key ev
        case true =>
          have hP' := hP
          unfold evP at hP'
          simp only [Bool.and_eq_true] at hP'
          obtain ⟨⟨p1, p2⟩, p3⟩ := hP'
          have Hy : Hid (_ = _) := Hyes.out hP
          rw [p1] at f3
          clear hP Hyes Hno
          go_wp2
          go_ret
          exact ⟨ret_str Hy.out, hbwc⟩
        case false =>
          have Hn : Hid (_) := Hno.out hP
          have H3 : ev.st = false ∨ (ev.st = true ∧ (ev.ty.toList == kind.toList) = false) ∨ (ev.st = true ∧ (ev.ty.toList == kind.toList) = true ∧ (ev.key.toList == key.toList) = false) := by
            unfold evP at hP
            cases h1 : ev.st
            · exact Or.inl rfl
            · cases h2 : (ev.ty.toList == kind.toList)
              · exact Or.inr (Or.inl ⟨rfl, rfl⟩)
              · rw [h1, h2] at hP
                exact Or.inr (Or.inr ⟨rfl, rfl, by simpa using hP⟩)
          clear hP Hyes Hno
          rcases H3 with p1 | ⟨p1, p2⟩ | ⟨p1, p2, p3⟩
          all_goals
            rw [p1] at f3
            go_wp2
            go_roundw
            case rel => exact ⟨k + 1, by omega, by go_num, Hn, hBc⟩
            case measure => simp [intOf]; omega
    · have Hm : Hid ((⟨#[]⟩ : ByteArray) = frV E n (evP kind key) (E q)) := frV_miss (fun i hi => hto.out i (by omega))
      go_wp2
      go_ret
      exact ⟨ret_str Hm.out, hbw⟩
end Go.Proofs.YtfjfhnjoghlbfaaGreat
/-
  spec's l6Power, l6Mainline, Mainline.
-/
namespace Go.Proofs.YtfjfhnjoghlbfaaGreat
open Go.RowKit

theorem evP_pow {E : Nat → Ev} {n : Nat} (h : roomTo E n = true) : ∀ i, i < n → evP ⟨#[112, 111, 119, 101, 114]⟩ ⟨#[]⟩ (E i) = isPow (E i) := fun i hi => by
  have e1 : (⟨#[112, 111, 119, 101, 114]⟩ : ByteArray).toList = [112, 111, 119, 101, 114] := by rw [ByteArray.toList_eq]
  have e2 : (⟨#[]⟩ : ByteArray).toList = [] := by rw [ByteArray.toList_eq]
  unfold evP
  rw [e1, e2]
  cases hp : isPow (E i)
  · unfold isPow at hp
    rw [hp]
    simp
  · obtain ⟨h1, h2⟩ := ev_pow (room_code h hi) hp
    unfold isPow at hp
    rw [hp, h1]
    have : (E i).key.toList = [] := by simpa using h2
    rw [this]
    rfl
/-- the Id of an event's power. -/
def pwS (E : Nat → Ev) (n p : Nat) : ByteArray := if 0 ≤ pwV E n p then (E (pwV E n p).toNat).id else ⟨#[]⟩
theorem frV_pw {E : Nat → Ev} {n p : Nat} (h : roomTo E n = true) (hp : p < n) : frV E n (evP ⟨#[112, 111, 119, 101, 114]⟩ ⟨#[]⟩) (E p) = pwS E n p := by
  unfold frV pwS pwV
  rw [scTo_congr h hp (evP_pow h) _ (Nat.le_refl _)]

set_option maxRecDepth 100000 in
set_option maxHeartbeats 1000000 in
theorem l6Pow_sl {a : Option Addr} {n cap q : Nat} {E : Nat → Ev} {pa aa ga : Option Addr} {cp ca cg : Nat} (w : World) (hroom : roomTo E n = true) (hq : q < n) (h : SlV w a n cap E) (he : EvOk w (E q) pa cp aa ca ga cg) :
    Calls Tryz.prog 92 #[.agg #[.slice a n cap], (E q).val' pa cp aa ca ga cg] w fun x w' => x = .returned (.string (pwS E n q)) ∧ Below w.heap.size w w' := by
  have hC : Hid (∀ W, Below w.heap.size w W → Calls Tryz.prog 99 #[.agg #[.slice a n cap], (E q).val' pa cp aa ca ga cg, .string ⟨#[112, 111, 119, 101, 114]⟩, .string ⟨#[]⟩] W fun x w' => x = .returned (.string (pwS E n q)) ∧ Below W.heap.size W w') := fun W hW => by
    have := l6From_sl ⟨#[112, 111, 119, 101, 114]⟩ ⟨#[]⟩ W hroom hq (h.below hW) (he.below hW)
    rw [frV_pw hroom hq] at this
    exact this
  have hb0 : Below w.heap.size w (boxes w a n cap (E q) pa cp aa ca ga cg) := ((Below.refl _ _).alloc (Nat.le_refl _) _).alloc (by simp) _
  clear hroom hq h he
  generalize pwS E n q = z at *
  generalize E q = ev at *
  go_enter Tryz.func92, Tryz.ntmps92
  go_wp2_with fail
  refine (hC.out _ hb0).mono ?_
  rintro e w1 ⟨rfl, hb1⟩
  go_wp2
  go_ret
  exact ⟨rfl, hb0.trans (hb1.mono hb0.size)⟩

/-- the Id at a place, nothing for none. -/
def idQ (E : Nat → Ev) (q : Int) : ByteArray := if 0 ≤ q then (E q.toNat).id else ⟨#[]⟩
theorem pwS_idQ (E : Nat → Ev) (n p : Nat) : pwS E n p = idQ E (pwV E n p) := rfl
/-- the place of a text's event. -/
def strPos (E : Nat → Ev) (n : Nat) : Value → Int
  | .string t => posV E n t
  | _ => -1
theorem strPos_idQ {E : Nat → Ev} {n : Nat} (h : roomTo E n = true) {q : Int} (h1 : -1 ≤ q) (h2 : q < n) : strPos E n (.string (idQ E q)) = q := by
  show posV E n (idQ E q) = q
  unfold idQ
  by_cases h0 : 0 ≤ q
  · rw [if_pos h0, posV_here h (show q.toNat < n by omega)]
    omega
  · rw [if_neg h0, posV_empty h (by rw [ByteArray.toList_eq]; rfl)]
    omega
/-- what l6Mainline answers. -/
def LmPost (w : World) (E : Nat → Ev) (l : List Nat) (e : Ending) (w' : World) : Prop :=
  ∃ v, e = .returned v ∧ OwnT w' w.heap.size v l.length (fun k => (E (lX l k).toNat).id) ∧ Below w.heap.size w w'

/-- in l6Mainline's loop. -/
def LmRel (w wb : World) (E : Nat → Ev) (n : Nat) (l : List Nat) (s v : Value) (wr : World) : Prop :=
  ∃ (q : Int) (k : Nat), s = .string (idQ E q) ∧ -1 ≤ q ∧ q < n ∧ k ≤ l.length ∧ Hid (l.drop k = ln E n q) ∧ OwnT wr (w.heap.size + 1) v k (fun k => (E (lX l k).toNat).id) ∧ Below (w.heap.size + 1) wb wr

end Go.Proofs.YtfjfhnjoghlbfaaGreat
