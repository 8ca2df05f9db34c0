/-
  Two drawn states.
-/
import Derived.Test.YtfobcmememaejaaDrX
import Derived.Test.YtfobcmememaejaaDeI
namespace Go.Proofs.Ytfobcmememaejaa
open Go.RowKit

theorem SlE.drw {p : Nat} {w w' : World} {a : Option Addr} {cap : Nat} {l : List Ent} (h : SlE w a cap l) (hd : Drw p w w') (hx : ApS (some p) a l) : SlE w' a cap l := h.grownA hd.2 hx
theorem OwnE.ltB {w : World} {base : Nat} {v : Value} {l : List Ent} (h : OwnE w base v l) (q : Nat) (hq : v.ownBlock = some q) : q < w.heap.size := by
  obtain ⟨_, h2⟩ := h
  rcases h2 with ⟨e, _⟩ | ⟨g, cap', cur, e, _, hh, _⟩
  · rw [e] at hq; cases hq
  · rw [e] at hq
    injection hq with hq
    subst hq
    exact (Array.getElem?_eq_some_iff.1 hh).1
/-- a slot is set. -/
def SetPost (k : Nat) (W : World) (e : Ending) (w' : World) : Prop := ∃ g' c' l', e = .returned (.slice g' (List.length l') c') ∧ OwnE w' W.heap.size (.slice g' (List.length l') c') l' ∧ AllOk l' ∧ List.length l' ≤ 8 + (k + 1) ∧ Below W.heap.size W w'
/-- two lists are drawn. -/
def PairPost (p : Nat) (w : World) (e : Ending) (w' : World) : Prop := ∃ xa xc la ya yc lb, e = .returned (.tuple #[.slice xa (List.length la) xc, .slice ya (List.length lb) yc]) ∧ SlE w' xa xc la ∧ SlE w' ya yc lb ∧ List.length la ≤ 8 ∧ List.length lb ≤ 20 ∧ Drw p w w'

set_option maxRecDepth 100000 in
set_option maxHeartbeats 2000000 in
theorem pair_any (hslot : SlotC) (p : Nat) (w : World) (h : Rdr w p) : Calls Try.prog 13 #[.pointer (some ⟨p, 0, none⟩)] w (PairPost p w) := by
  have hp := h.lt
  have HS : Hid SlotC := hslot
  clear hslot
  go_enter Try.func13, Try.ntmps13
  go_wp2_with fail
  refine (next_any p _ h).mono ?_
  rintro e w1 ⟨x, hx, rfl, hd1⟩
  go_wp2_with fail
  refine (drawAny_any HS.out p _ hd1.1).mono ?_
  rintro e w2 ⟨xa, xc, la, rfl, hsa, hap, hla, hd2⟩
  have hdw2 := hd1.trans hd2
  clear hd1 hd2
  go_wp2_with fail
  refine (copy_sl _ (by omega) hsa).mono ?_
  rintro e w3 ⟨v3, rfl, ho3, hb3⟩
  have hsa3 := hsa.below hb3
  have hdw3 := hdw2.below hb3
  have ho3' := ho3.base_le hdw2.size
  have Hok3 : Hid (AllOk la) := hsa.ok
  obtain ⟨ga, gc, e1, _⟩ := ho3'.sl Hok3.out.at
  subst e1
  clear hsa ho3 hb3 hdw2
  have hm : (x : Int) / 4 % 4 = ((x / 4 % 4 : Nat) : Int) := by omega
  have hn4 : x / 4 % 4 < 4 := Nat.mod_lt _ (by decide)
  by_cases h3 : (x : Int) % 4 = 3
  · go_wp2_with fail
    refine (draw_any HS.out p _ hdw3.1).mono ?_
    rintro e w4 ⟨gb, gbc, lb, rfl, ho4, hok4, hlb, hd4⟩
    have HOKB : Hid (AllOk lb) := hok4
    have hoB := ho4.base_le hdw3.size
    have hsaB := hsa3.drw hd4 hap
    have hdB := hdw3.trans hd4
    clear ho4 hok4 hd4 hsa3 ho3' hdw3 Hok3
    go_wp2_with fail
    go_loopw [6, 7] (fun v i wr => ∃ (k : Nat) (l : List Ent), k ≤ x / 4 % 4 ∧ i = .int .i64 (k : Int) ∧ OwnE wr w.heap.size v l ∧ Hid (AllOk l) ∧ l.length ≤ 8 + k ∧ SlE wr xa xc la ∧ Drw p w wr) (fun _ i _ => x / 4 % 4 - (intOf i).toNat)
    case atStart => exact ⟨0, lb, Nat.zero_le _, rfl, hoB, HOKB, by omega, hsaB, hdB⟩
    case round =>
      clear hoB HOKB hsaB hdB
      obtain ⟨k, l, hk, rfl, ho, Hok, hl, hsaR, hd⟩ := hrel
      obtain ⟨g5, c5, e1, _⟩ := ho.sl Hok.out.at
      subst e1
      by_cases hlt : k < x / 4 % 4
      · have hltz : (k : Int) < (x : Int) / 4 % 4 := by omega
        clear hm
        go_wp2_with fail
        refine (HS.out p _ hd.1).mono ?_
        rintro e w5 ⟨en, hen, rfl, hd5⟩
        have ho5 := ho.drw hd5 hp
        have hs5 := hsaR.drw hd5 hap
        have hdd5 := hd.trans hd5
        have Hen : Hid (en.ty.size ≤ maxLen ∧ en.key.size ≤ maxLen ∧ en.id.size ≤ maxLen) := hen
        clear ho hsaR hd hd5 hen
        go_wp2_with fail
        obtain ⟨W5, hW5⟩ : ∃ W5, W5 = w5.alloc (.cells #[.string en.ty, .string en.key, .string en.id] 32) := ⟨_, rfl⟩
        rw [← hW5]
        have hbW : Below w5.heap.size w5 W5 := by rw [hW5]; exact (Below.refl _ _).alloc (Nat.le_refl _) _
        have hdW := hdd5.below hbW
        have hBp : p < w5.heap.size := Nat.lt_of_lt_of_le hp hdd5.size
        have hBl : w5.heap.size < W5.heap.size := by rw [hW5]; simp
        have y0 : ∀ o, W5.cell? ⟨w5.heap.size, o, none⟩ = (#[.string en.ty, .string en.key, .string en.id] : Array Value)[o]? := fun o => by rw [hW5]; exact World.cell?_alloc_at _ _ _ _ rfl
        have yf : ∀ o, W5.frozen? ⟨w5.heap.size, o, none⟩ = false := fun o => by rw [hW5]; exact World.frozen?_alloc_at _ _ _ _ rfl
        have ho6 := ho5.below hbW
        have hs6 := hs5.below hbW
        have hBw : w.heap.size ≤ w5.heap.size := hdd5.size
        have hlt5 := ho5.ltB
        have hap5 := hs5.apM
        clear hW5 ho5 hs5 hdd5
        refine (next_any p _ hdW.1).mono ?_
        rintro e w6 ⟨z, hz, rfl, hd6⟩
        have y1 : ∀ o, w6.cell? ⟨w5.heap.size, o, none⟩ = (#[.string en.ty, .string en.key, .string en.id] : Array Value)[o]? := fun o => (hd6.2.cell_far ⟨w5.heap.size, o, none⟩ hBl (fun e => absurd (Option.some.inj e) (by show w5.heap.size ≠ p; omega))).trans (y0 o)
        have d0 : w6.cell? ⟨w5.heap.size, 0, none⟩ = some (.string en.ty) := y1 0
        have d1 : w6.cell? ⟨w5.heap.size, 1, none⟩ = some (.string en.key) := y1 1
        have d2 : w6.cell? ⟨w5.heap.size, 2, none⟩ = some (.string en.id) := y1 2
        have df : w6.frozen? ⟨w5.heap.size, 2, none⟩ = false := (hd6.2.frozen_far ⟨w5.heap.size, 2, none⟩ hBl (fun e => absurd (Option.some.inj e) (by show w5.heap.size ≠ p; omega))).trans (yf 2)
        have ho7 := ho6.drw hd6 hp
        have hs7 := hs6.drw hd6 hap
        have hdd6 := hdW.trans hd6
        have Hset : Hid (∀ (W : World) (x0 : Ent), (x0.ty.size ≤ maxLen ∧ x0.key.size ≤ maxLen ∧ x0.id.size ≤ maxLen) → OwnE W w.heap.size (.slice g5 l.length c5) l → Calls Try.prog 26 #[.slice g5 l.length c5, entV x0, .bool false] W (SetPost k W)) := fun W x0 hx0 hoW => by
          obtain ⟨g', c', e1, hslW⟩ := hoW.sl Hok.out.at
          injection e1 with e2 _ e3
          subst e2 e3
          refine (set_sl x0 false W (by omega) hslW).mono ?_
          rintro e w' ⟨v, rfl, hov, hbv⟩
          have hok' := Hok.out.set (keep := false) hx0
          have hll := setL_len l x0 false
          obtain ⟨g', c', rfl, _⟩ := hov.sl hok'.at
          exact ⟨g', c', _, rfl, hov, hok', by omega, hbv⟩
        clear y0 y1 yf ho6 hs6 hdW hbW hd6
        by_cases hz3 : (z : Int) % 3 = 2
        · have ho8 : OwnE (w6.setCell ⟨w5.heap.size, 2, none⟩ (.string ⟨#[]⟩)) w.heap.size (.slice g5 l.length c5) l := ownE_grown ho7 (Lib.grownBy_setCell w6 w5.heap.size 2 _) (fun q hq e => by injection e with e; have := hlt5 q hq; omega)
          have hs8 : SlE (w6.setCell ⟨w5.heap.size, 2, none⟩ (.string ⟨#[]⟩)) xa xc la := hs7.grownA (Lib.grownBy_setCell w6 w5.heap.size 2 _) hap5
          have hd8 : Drw p w (w6.setCell ⟨w5.heap.size, 2, none⟩ (.string ⟨#[]⟩)) := hdd6.own hBw hp 2 _
          have HC : Hid (Calls Try.prog 26 #[.slice g5 l.length c5, entV ⟨en.ty, en.key, ⟨#[]⟩⟩, .bool false] (w6.setCell ⟨w5.heap.size, 2, none⟩ (.string ⟨#[]⟩)) (SetPost k (w6.setCell ⟨w5.heap.size, 2, none⟩ (.string ⟨#[]⟩)))) := Hset.out (w6.setCell ⟨w5.heap.size, 2, none⟩ (.string ⟨#[]⟩)) ⟨en.ty, en.key, ⟨#[]⟩⟩ ⟨Hen.out.1, Hen.out.2.1, Nat.zero_le _⟩ ho8
          clear Hset ho7 hs7 hdd6 ho8
          go_wp2_with fail
          refine (HC.out).mono ?_
          rintro e w9 ⟨g9, c9, l9, rfl, ho9, hok9, hl9, hb9⟩
          have hoX := ho9.base_le hd8.size
          have hsX := hs8.below hb9
          have hdX := hd8.below hb9
          have HokX : Hid (AllOk l9) := hok9
          clear HC ho9 hs8 hd8 hb9 hok9 d0 d1 d2 df
          go_wp2
          exact ⟨⟨k + 1, l9, by omega, by go_num, hoX, HokX, hl9, hsX, hdX⟩, by simp [intOf]; omega⟩
        · have HC : Hid (Calls Try.prog 26 #[.slice g5 l.length c5, entV en, .bool false] w6 (SetPost k w6)) := Hset.out w6 en Hen.out ho7
          clear Hset
          go_wp2_with fail
          refine (HC.out).mono ?_
          rintro e w9 ⟨g9, c9, l9, rfl, ho9, hok9, hl9, hb9⟩
          have hoX := ho9.base_le hdd6.size
          have hsX := hs7.below hb9
          have hdX := hdd6.below hb9
          have HokX : Hid (AllOk l9) := hok9
          clear HC ho9 hs7 hdd6 ho7 hb9 hok9 d0 d1 d2 df
          go_wp2
          exact ⟨⟨k + 1, l9, by omega, by go_num, hoX, HokX, hl9, hsX, hdX⟩, by simp [intOf]; omega⟩
      · have hltz : ¬ (k : Int) < (x : Int) / 4 % 4 := by omega
        obtain ⟨gz, cz, e1, hslz⟩ := ho.sl Hok.out.at
        injection e1 with e2 _ e3
        subst e2 e3
        clear hm
        go_wp2
        refine bodyPost_ret (v := .tuple #[.slice xa la.length xc, .slice g5 l.length c5]) (by simp [results, Try.results13, go_sem]) rfl ⟨xa, xc, la, g5, c5, l, rfl, hsaR, hslz, hla, by omega, hd⟩
  · have h3b : ((x : Int) % 4 == 3) = false := by simp [h3]
    go_wp2_with fail

    clear h3 h3b
    go_loopw [6, 7] (fun v i wr => ∃ (k : Nat) (l : List Ent), k ≤ x / 4 % 4 ∧ i = .int .i64 (k : Int) ∧ OwnE wr w.heap.size v l ∧ Hid (AllOk l) ∧ l.length ≤ 8 + k ∧ SlE wr xa xc la ∧ Drw p w wr) (fun _ i _ => x / 4 % 4 - (intOf i).toNat)
    case atStart => exact ⟨0, la, Nat.zero_le _, rfl, ho3', Hok3, by omega, hsa3, hdw3⟩
    case round =>
      clear ho3' Hok3 hsa3 hdw3
      obtain ⟨k, l, hk, rfl, ho, Hok, hl, hsaR, hd⟩ := hrel
      obtain ⟨g5, c5, e1, _⟩ := ho.sl Hok.out.at
      subst e1
      by_cases hlt : k < x / 4 % 4
      · have hltz : (k : Int) < (x : Int) / 4 % 4 := by omega
        clear hm
        go_wp2_with fail
        refine (HS.out p _ hd.1).mono ?_
        rintro e w5 ⟨en, hen, rfl, hd5⟩
        have ho5 := ho.drw hd5 hp
        have hs5 := hsaR.drw hd5 hap
        have hdd5 := hd.trans hd5
        have Hen : Hid (en.ty.size ≤ maxLen ∧ en.key.size ≤ maxLen ∧ en.id.size ≤ maxLen) := hen
        clear ho hsaR hd hd5 hen
        go_wp2_with fail
        obtain ⟨W5, hW5⟩ : ∃ W5, W5 = w5.alloc (.cells #[.string en.ty, .string en.key, .string en.id] 32) := ⟨_, rfl⟩
        rw [← hW5]
        have hbW : Below w5.heap.size w5 W5 := by rw [hW5]; exact (Below.refl _ _).alloc (Nat.le_refl _) _
        have hdW := hdd5.below hbW
        have hBp : p < w5.heap.size := Nat.lt_of_lt_of_le hp hdd5.size
        have hBl : w5.heap.size < W5.heap.size := by rw [hW5]; simp
        have y0 : ∀ o, W5.cell? ⟨w5.heap.size, o, none⟩ = (#[.string en.ty, .string en.key, .string en.id] : Array Value)[o]? := fun o => by rw [hW5]; exact World.cell?_alloc_at _ _ _ _ rfl
        have yf : ∀ o, W5.frozen? ⟨w5.heap.size, o, none⟩ = false := fun o => by rw [hW5]; exact World.frozen?_alloc_at _ _ _ _ rfl
        have ho6 := ho5.below hbW
        have hs6 := hs5.below hbW
        have hBw : w.heap.size ≤ w5.heap.size := hdd5.size
        have hlt5 := ho5.ltB
        have hap5 := hs5.apM
        clear hW5 ho5 hs5 hdd5
        refine (next_any p _ hdW.1).mono ?_
        rintro e w6 ⟨z, hz, rfl, hd6⟩
        have y1 : ∀ o, w6.cell? ⟨w5.heap.size, o, none⟩ = (#[.string en.ty, .string en.key, .string en.id] : Array Value)[o]? := fun o => (hd6.2.cell_far ⟨w5.heap.size, o, none⟩ hBl (fun e => absurd (Option.some.inj e) (by show w5.heap.size ≠ p; omega))).trans (y0 o)
        have d0 : w6.cell? ⟨w5.heap.size, 0, none⟩ = some (.string en.ty) := y1 0
        have d1 : w6.cell? ⟨w5.heap.size, 1, none⟩ = some (.string en.key) := y1 1
        have d2 : w6.cell? ⟨w5.heap.size, 2, none⟩ = some (.string en.id) := y1 2
        have df : w6.frozen? ⟨w5.heap.size, 2, none⟩ = false := (hd6.2.frozen_far ⟨w5.heap.size, 2, none⟩ hBl (fun e => absurd (Option.some.inj e) (by show w5.heap.size ≠ p; omega))).trans (yf 2)
        have ho7 := ho6.drw hd6 hp
        have hs7 := hs6.drw hd6 hap
        have hdd6 := hdW.trans hd6
        have Hset : Hid (∀ (W : World) (x0 : Ent), (x0.ty.size ≤ maxLen ∧ x0.key.size ≤ maxLen ∧ x0.id.size ≤ maxLen) → OwnE W w.heap.size (.slice g5 l.length c5) l → Calls Try.prog 26 #[.slice g5 l.length c5, entV x0, .bool false] W (SetPost k W)) := fun W x0 hx0 hoW => by
          obtain ⟨g', c', e1, hslW⟩ := hoW.sl Hok.out.at
          injection e1 with e2 _ e3
          subst e2 e3
          refine (set_sl x0 false W (by omega) hslW).mono ?_
          rintro e w' ⟨v, rfl, hov, hbv⟩
          have hok' := Hok.out.set (keep := false) hx0
          have hll := setL_len l x0 false
          obtain ⟨g', c', rfl, _⟩ := hov.sl hok'.at
          exact ⟨g', c', _, rfl, hov, hok', by omega, hbv⟩
        clear y0 y1 yf ho6 hs6 hdW hbW hd6
        by_cases hz3 : (z : Int) % 3 = 2
        · have ho8 : OwnE (w6.setCell ⟨w5.heap.size, 2, none⟩ (.string ⟨#[]⟩)) w.heap.size (.slice g5 l.length c5) l := ownE_grown ho7 (Lib.grownBy_setCell w6 w5.heap.size 2 _) (fun q hq e => by injection e with e; have := hlt5 q hq; omega)
          have hs8 : SlE (w6.setCell ⟨w5.heap.size, 2, none⟩ (.string ⟨#[]⟩)) xa xc la := hs7.grownA (Lib.grownBy_setCell w6 w5.heap.size 2 _) hap5
          have hd8 : Drw p w (w6.setCell ⟨w5.heap.size, 2, none⟩ (.string ⟨#[]⟩)) := hdd6.own hBw hp 2 _
          have HC : Hid (Calls Try.prog 26 #[.slice g5 l.length c5, entV ⟨en.ty, en.key, ⟨#[]⟩⟩, .bool false] (w6.setCell ⟨w5.heap.size, 2, none⟩ (.string ⟨#[]⟩)) (SetPost k (w6.setCell ⟨w5.heap.size, 2, none⟩ (.string ⟨#[]⟩)))) := Hset.out (w6.setCell ⟨w5.heap.size, 2, none⟩ (.string ⟨#[]⟩)) ⟨en.ty, en.key, ⟨#[]⟩⟩ ⟨Hen.out.1, Hen.out.2.1, Nat.zero_le _⟩ ho8
          clear Hset ho7 hs7 hdd6 ho8
          go_wp2_with fail
          refine (HC.out).mono ?_
          rintro e w9 ⟨g9, c9, l9, rfl, ho9, hok9, hl9, hb9⟩
          have hoX := ho9.base_le hd8.size
          have hsX := hs8.below hb9
          have hdX := hd8.below hb9
          have HokX : Hid (AllOk l9) := hok9
          clear HC ho9 hs8 hd8 hb9 hok9 d0 d1 d2 df
          go_wp2
          exact ⟨⟨k + 1, l9, by omega, by go_num, hoX, HokX, hl9, hsX, hdX⟩, by simp [intOf]; omega⟩
        · have HC : Hid (Calls Try.prog 26 #[.slice g5 l.length c5, entV en, .bool false] w6 (SetPost k w6)) := Hset.out w6 en Hen.out ho7
          clear Hset
          go_wp2_with fail
          refine (HC.out).mono ?_
          rintro e w9 ⟨g9, c9, l9, rfl, ho9, hok9, hl9, hb9⟩
          have hoX := ho9.base_le hdd6.size
          have hsX := hs7.below hb9
          have hdX := hdd6.below hb9
          have HokX : Hid (AllOk l9) := hok9
          clear HC ho9 hs7 hdd6 ho7 hb9 hok9 d0 d1 d2 df
          go_wp2
          exact ⟨⟨k + 1, l9, by omega, by go_num, hoX, HokX, hl9, hsX, hdX⟩, by simp [intOf]; omega⟩
      · have hltz : ¬ (k : Int) < (x : Int) / 4 % 4 := by omega
        obtain ⟨gz, cz, e1, hslz⟩ := ho.sl Hok.out.at
        injection e1 with e2 _ e3
        subst e2 e3
        clear hm
        go_wp2
        refine bodyPost_ret (v := .tuple #[.slice xa la.length xc, .slice g5 l.length c5]) (by simp [results, Try.results13, go_sem]) rfl ⟨xa, xc, la, g5, c5, l, rfl, hsaR, hslz, hla, by omega, hd⟩
end Go.Proofs.Ytfobcmememaejaa
