/-
  Drawn states.
-/
import Derived.Test.YtfobcmememaejaaDrR
import Derived.Test.YtfobcmememaejaaIsI
import Derived.Test.YtfobcmememaejaaSetZ
import Derived.Test.YtfobcmememaejaaSetL
import Derived.Test.YtfobcmememaejaaAnE
import Derived.Test.YtfobcmememaejaaChgS
import Derived.Test.YtfobcmememaejaaCopyS
namespace Go.Proofs.Ytfobcmememaejaa
open Go.RowKit

theorem OwnE.drw {p base : Nat} {w w' : World} {v : Value} {l : List Ent} (h : OwnE w base v l) (hd : Drw p w w') (hp : p < base) : OwnE w' base v l :=
  ownE_grown h hd.2 (fun q hq e => by injection e with e; have := h.row q hq; omega)
/-- a list is drawn, in a row of the call's own. -/
def LstPost (p N : Nat) (w : World) (e : Ending) (w' : World) : Prop := ∃ a cap l, e = .returned (.slice a (List.length l) cap) ∧ OwnE w' w.heap.size (.slice a (List.length l) cap) l ∧ AllOk l ∧ List.length l ≤ N ∧ Drw p w w'

set_option maxRecDepth 100000 in
set_option maxHeartbeats 1000000 in
theorem draw_any (hslot : SlotC) (p : Nat) (w : World) (h : Rdr w p) : Calls Try.prog 31 #[.pointer (some ⟨p, 0, none⟩)] w (LstPost p 7 w) := by
  have hp := h.lt
  have hn0 := newE w w (Nat.le_refl _)
  have hb0 : ∀ o, Below w.heap.size w (w.alloc o) := fun o => (Below.refl _ _).alloc (Nat.le_refl _) _
  have HS : Hid SlotC := hslot
  clear hslot
  go_enter Try.func31, Try.ntmps31
  go_wp2_with fail
  refine (next_any p _ (h.below (hb0 _))).mono ?_
  rintro e w1 ⟨x, hx, rfl, hd1⟩
  have hdw : Drw p w w1 := ⟨hd1.1, ((blw_grown (hb0 _)).but (some p)).andThen hd1.2 (fun j hj => Or.inr hj)⟩
  have ho1 := hn0.drw hd1 hp
  have hm : (x : Int) % 7 = ((x % 7 : Nat) : Int) := by omega
  have hq7 : x % 7 < 7 := Nat.mod_lt _ (by decide)
  clear hd1 hn0
  generalize x % 7 = n at *
  go_wp2_with fail
  simp only [hm]
  clear hm
  go_loopw [3, 5] (fun v i wr => ∃ (k : Nat) (l : List Ent), k ≤ n ∧ i = .int .i64 (k : Int) ∧ OwnE wr w.heap.size v l ∧ Hid (AllOk l) ∧ l.length ≤ k ∧ Drw p w wr) (fun _ i _ => n - (intOf i).toNat)
  case atStart => exact ⟨0, [], Nat.zero_le _, rfl, ho1, (fun x hx => by cases hx), Nat.le_refl _, hdw⟩
  case round =>
    clear ho1 hdw
    obtain ⟨k, l, hk, rfl, ho, Hok, hl, hd⟩ := hrel
    obtain ⟨ga, gc, e1, hsl⟩ := ho.sl Hok.out.at
    subst e1
    by_cases hlt : k < n
    · go_wp2_with fail
      refine (HS.out p _ hd.1).mono ?_
      rintro e w2 ⟨en, hen, rfl, hd2⟩
      have ho2 := ho.drw hd2 hp
      obtain ⟨ga', gc', e2, hsl2⟩ := ho2.sl Hok.out.at
      injection e2 with e3 _ e4
      subst e3 e4
      have hdd := hd.trans hd2
      clear ho hsl hd hd2
      go_wp2_with fail
      refine (set_sl en false _ (by omega) hsl2).mono ?_
      rintro e w3 ⟨v3, rfl, ho3, hb3⟩
      have Hok3 : Hid (AllOk (setL l en false)) := Hok.out.set hen
      have hl3 := setL_len l en false
      obtain ⟨g3, c3, e3, _⟩ := ho3.sl Hok3.out.at
      subst e3
      have hd3 := hdd.below hb3
      have ho4 := ho3.base_le hdd.size
      clear hsl2 ho2 ho3
      generalize setL l en false = l3 at *
      go_wp2
      exact ⟨⟨k + 1, l3, by omega, by go_num, ho4, Hok3, by omega, hd3⟩, by simp [intOf]; omega⟩
    · go_wp2
      go_ret
      exact ⟨ga, gc, l, rfl, ho, Hok.out, by omega, hd⟩
end Go.Proofs.Ytfobcmememaejaa
