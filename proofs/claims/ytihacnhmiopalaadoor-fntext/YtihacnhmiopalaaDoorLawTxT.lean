import Derived.Test.YtihacnhmiopalaaDoorDtST
import Derived.Test.YtihacnhmiopalaaDoorRtPT
import Derived.Test.YtihacnhmiopalaaDoorSmET
import Derived.Test.YtihacnhmiopalaaDoorTxtIT
import Derived.Test.YtihacnhmiopalaaDoorPeIT
namespace Go.Proofs.YtihacnhmiopalaaDoor
open Go.RowKit
abbrev Ev.text (e : Ev) : ByteArray := evText e.id e.sd e.ty e.key e.val e.st e.tm e.np e.na e.ng e.Pv e.Av e.M e.L
theorem SlS.congT {w : World} {a : Option Addr} {n cap : Nat} {S T : Nat -> ByteArray} (h : SlS w a n cap S) (e : ∀ i, i < n -> S i = T i) : SlS w a n cap T :=
 ⟨h.le, h.max, fun i hi => by rw [<- e i hi]; exact h.size i hi, h.cells.imp id fun ⟨b, off, q, hlt, hc⟩ => ⟨b, off, q, hlt, fun i hi => by rw [<- e i hi]; exact hc i hi⟩⟩
theorem SlG.congT {w : World} {a : Option Addr} {n cap : Nat} {M M' : Nat -> ByteArray} {L L' : Nat -> Int} (h : SlG w a n cap M L) (e : ∀ i, i < n -> M i = M' i ∧ L i = L' i) : SlG w a n cap M' L' :=
 ⟨h.le, h.max, fun i hi => by rw [<- (e i hi).1]; exact h.size i hi, h.cells.imp id fun ⟨b, off, q, hlt, hc, hl⟩ => ⟨b, off, q, hlt, fun i hi => by rw [<- (e i hi).1]; exact hc i hi, fun i hi => by rw [<- (e i hi).2]; exact hl i hi⟩⟩
theorem parse_back (e : Ev) (hc : e.code = 0) {pa aa ga : Option Addr} {cp ca cg : Nat} {w0 : World} (hok : EvOk w0 e pa cp aa ca ga cg) (w : World) (hm : MaxL w) :
  Calls Tryd.prog 8 #[.string e.text] w fun x w' => ∃ pa cp aa ca ga cg, x = .returned (.tuple #[e.val' pa cp aa ca ga cg, .int .i64 0]) ∧ EvOk w' e pa cp aa ca ga cg ∧ Below w.heap.size w w' := by
 have hB := text_back hc
 have hsz : e.text.size <= 1048576 := by
  have hb := evCode_bds hc
  have := joinB_bound (eight e.id e.sd e.ty (keyT e.st e.key) (itoaB e.tm) (refsT e.Pv e.np) (refsT e.Av e.na) (valT e.val e.M e.L e.ng)) ⟨#[32]⟩ 3200 (by decide) 8 (fun i _ => hb.eight i)
  show (evText _ _ _ _ _ _ _ _ _ _ _ _ _ _).size <= _
  unfold evText
  omega
 refine (peI_any e.text w hsz hm).mono ?_
 rintro x w' ⟨hb, ⟨h1, _⟩ | ⟨_, pa', cp', aa', ca', ga', cg', k1, k2, rfl, hin⟩⟩
 ·exact absurd hB.code h1
 ·have hp := hin.hp
  have ha := hin.ha
  have hg := hin.hg
  rw [hB.bnp] at hp
  rw [hB.bna] at ha
  rw [hB.bng] at hg
  refine ⟨pa', cp', aa', ca', ga', cg', ?_, ⟨hok.hid, hok.hsd, hok.hty, hok.hkey, hok.hval, hp.congT hB.p, ha.congT hB.a, hg.congT hB.g⟩, hb⟩
  show Ending.returned (.tuple #[evV _ _ _ _ _ _ _ _ _ _ _ _ _ _ _ _, _]) = _
  rw [hB.i, hB.s, hB.t, hB.k, hB.v, hB.bst, hB.btm, hB.bnp, hB.bna, hB.bng]
set_option maxRecDepth 100000 in
set_option maxHeartbeats 4000000 in
theorem lawText {a : Option Addr} {n cap : Nat} {bs : Nat -> Nat} (w : World) (hle : n <= cap) (hmax : cap <= maxLen) (h : BytesV w a n bs) (hb1 : ∀ i, i < n -> bs i < 256) (ht : Tab w) (hm : MaxL w) :
  Calls Tryd.prog 3 #[.slice a n cap] w fun e w' => e = .returned (.bool true) ∧ Below w.heap.size w w' := by
 have HS : Hid (∀ W, Below w.heap.size w W -> Calls Tryd.prog 4 #[.slice a n cap] W (DtPost (dtE bs n) W)) := fun W hW => drawText W hle hmax (h.imp id fun ⟨b, off, e, hlt, hx⟩ => ⟨b, off, e, Nat.lt_of_lt_of_le hlt hW.size, fun i hi => (hW.cell (by exact hlt)).trans (hx i hi)⟩) hb1
 have hnm : (n : Int) <= 9223372036854775807 := by unfold maxLen at hmax; omega
 have HT : Hid (∀ W, Below w.heap.size w W -> Tab W) := fun W hW => ht.below hW
 have HL : Hid (∀ W, Below w.heap.size w W -> MaxL W) := fun W hW => hm.below hW
 clear hmax hle h hb1 ht hm
 generalize dtE bs n = e at *
 by_cases hbig : 1048576 < n
 ·go_enter Tryd.func3, Tryd.ntmps3
  go_wp2
  go_ret
  exact ⟨rfl, Below.refl _ _⟩
 go_enter Tryd.func3, Tryd.ntmps3
 go_wp2_with fail
 refine (HS.out w (Below.refl _ _)).mono ?_
 rintro x w1 ⟨pa, cp, aa, ca, ga, cg, rfl, hok1, hw1⟩
 obtain ⟨wa, hwa⟩ : ∃ wa, wa = w1.alloc (.cells #[.string e.id, .string e.sd, .string e.ty, .bool e.st, .string e.key, .int .i64 e.tm, .slice pa e.np cp, .slice aa e.na ca, .string e.val, .slice ga e.ng cg] 26) := ⟨_, rfl⟩
 have hba : Below w1.heap.size w1 wa := by rw [hwa]; exact (Below.refl _ _).alloc (Nat.le_refl _) _
 have hsa : w1.heap.size < wa.heap.size := by rw [hwa]; simp
 have HC : Hid (∀ W, Below wa.heap.size wa W -> ∀ o, o < 10 -> W.cell? ⟨w1.heap.size, o, none⟩ = some ((#[.string e.id, .string e.sd, .string e.ty, .bool e.st, .string e.key, .int .i64 e.tm, .slice pa e.np cp, .slice aa e.na ca, .string e.val, .slice ga e.ng cg] : Array Value)[o]?.getD undef)) := fun W hW o ho => by
  refine (hW.cell (by exact hsa)).trans ?_
  rw [hwa, World.cell?_alloc_at _ _ _ _ rfl]
  match o, ho with
  | 0, _ => rfl
  | 1, _ => rfl
  | 2, _ => rfl
  | 3, _ => rfl
  | 4, _ => rfl
  | 5, _ => rfl
  | 6, _ => rfl
  | 7, _ => rfl
  | 8, _ => rfl
  | 9, _ => rfl
 have hoka := hok1.below hba
 have hwwa := hw1.trans (hba.mono hw1.size)
 obtain ⟨B, hB⟩ : ∃ B, B = w1.heap.size := ⟨_, rfl⟩
 rw [<- hB] at hsa HC
 have hrf : Below wa.heap.size wa wa := Below.refl _ _
 have c0 : wa.cell? ⟨B, 0, none⟩ = some (.string e.id) := HC.out wa hrf 0 (by decide)
 have c1 : wa.cell? ⟨B, 1, none⟩ = some (.string e.sd) := HC.out wa hrf 1 (by decide)
 have c2 : wa.cell? ⟨B, 2, none⟩ = some (.string e.ty) := HC.out wa hrf 2 (by decide)
 have c3 : wa.cell? ⟨B, 3, none⟩ = some (.bool e.st) := HC.out wa hrf 3 (by decide)
 have c4 : wa.cell? ⟨B, 4, none⟩ = some (.string e.key) := HC.out wa hrf 4 (by decide)
 have c5 : wa.cell? ⟨B, 5, none⟩ = some (.int .i64 e.tm) := HC.out wa hrf 5 (by decide)
 have c6 : wa.cell? ⟨B, 6, none⟩ = some (.slice pa e.np cp) := HC.out wa hrf 6 (by decide)
 have c7 : wa.cell? ⟨B, 7, none⟩ = some (.slice aa e.na ca) := HC.out wa hrf 7 (by decide)
 have c8 : wa.cell? ⟨B, 8, none⟩ = some (.string e.val) := HC.out wa hrf 8 (by decide)
 have c9 : wa.cell? ⟨B, 9, none⟩ = some (.slice ga e.ng cg) := HC.out wa hrf 9 (by decide)
 go_upto_region 4 with fail
 rw [<- hwa, <- hB]
 clear hwa hba hB hw1 hok1 hrf
 go_wp2_with fail
 refine (evS_any _ _ _ _ _ _ _ _ _ _ _ _ _ _ _ _ _ _ _ _ wa hoka.hid hoka.hsd hoka.hty hoka.hkey hoka.hval hoka.hp hoka.ha hoka.hg).mono ?_
 rintro x w2 ⟨rfl, hb2⟩
 have hww2 := hwwa.trans (hb2.mono hwwa.size)
 have hok2 := hoka.below hb2
 obtain ⟨c, hc⟩ : ∃ c, c = e.code := ⟨_, rfl⟩
 have Hc : Hid (c = e.code) := hc
 rw [show evCode e.id e.sd e.ty e.key e.val e.st e.tm e.np e.na e.ng e.Pv e.Av e.M e.L = c from hc.symm]
 clear hc hoka c0 c1 c2 c3 c4 c5 c6 c7 c8 c9
 have HTx : Hid (∀ W pa cp aa ca ga cg, Below w.heap.size w W -> EvOk W e pa cp aa ca ga cg -> Calls Tryd.prog 6 #[e.val' pa cp aa ca ga cg] W fun x w' => x = .returned (.tuple #[.string (if c = 0 then e.text else ByteArray.empty), .bool (if c = 0 then true else false)]) ∧ Below W.heap.size W w') := fun W pa cp aa ca ga cg hW hk => by
  rw [Hc.out]
  exact txtI_any _ _ _ _ _ _ _ _ _ _ _ _ _ _ _ _ _ _ _ _ W hk.hid hk.hsd hk.hty hk.hkey hk.hval hk.hp hk.ha hk.hg (HT.out W hW)
 have HEk : Hid (∀ W, EvOk W e pa cp aa ca ga cg -> Calls Tryd.prog 7 #[e.val' pa cp aa ca ga cg] W fun x w' => x = .returned (.int .i64 c) ∧ Below W.heap.size W w') := fun W hk => by
  rw [Hc.out]
  exact evI_any _ _ _ _ _ _ _ _ _ _ _ _ _ _ _ _ _ _ _ _ W hk.hid hk.hsd hk.hty hk.hkey hk.hval hk.hp hk.ha hk.hg
 clear HT
 by_cases h0 : c = 0
 ·have HPb : Hid (∀ W, Below w.heap.size w W -> Calls Tryd.prog 8 #[.string e.text] W fun x w' => ∃ pa cp aa ca ga cg, x = .returned (.tuple #[e.val' pa cp aa ca ga cg, .int .i64 0]) ∧ EvOk w' e pa cp aa ca ga cg ∧ Below W.heap.size W w') := fun W hW => parse_back e (Hc.out.symm.trans h0) hok2 W (HL.out W hW)
  subst h0
  clear Hc HL
  rw [if_pos rfl, if_pos rfl] at HTx
  generalize e.text = tx at *
  go_wp2_with fail
  refine (HS.out w2 hww2).mono ?_
  rintro x w3 ⟨pa', cp', aa', ca', ga', cg', rfl, hok3, hb3⟩
  have hww3 := hww2.trans (hb3.mono hww2.size)
  go_wp2_with fail
  refine (HTx.out w3 _ _ _ _ _ _ hww3 hok3).mono ?_
  rintro x w4 ⟨rfl, hb4⟩
  have hb24 := hb3.trans (hb4.mono hb3.size)
  have hok4 := hok2.below hb24
  have hba4 := hb2.trans (hb24.mono hb2.size)
  have hww4 := hww3.trans (hb4.mono hww3.size)
  have c0 : w4.cell? ⟨B, 0, none⟩ = some (.string e.id) := HC.out w4 hba4 0 (by decide)
  have c1 : w4.cell? ⟨B, 1, none⟩ = some (.string e.sd) := HC.out w4 hba4 1 (by decide)
  have c2 : w4.cell? ⟨B, 2, none⟩ = some (.string e.ty) := HC.out w4 hba4 2 (by decide)
  have c3 : w4.cell? ⟨B, 3, none⟩ = some (.bool e.st) := HC.out w4 hba4 3 (by decide)
  have c4 : w4.cell? ⟨B, 4, none⟩ = some (.string e.key) := HC.out w4 hba4 4 (by decide)
  have c5 : w4.cell? ⟨B, 5, none⟩ = some (.int .i64 e.tm) := HC.out w4 hba4 5 (by decide)
  have c6 : w4.cell? ⟨B, 6, none⟩ = some (.slice pa e.np cp) := HC.out w4 hba4 6 (by decide)
  have c7 : w4.cell? ⟨B, 7, none⟩ = some (.slice aa e.na ca) := HC.out w4 hba4 7 (by decide)
  have c8 : w4.cell? ⟨B, 8, none⟩ = some (.string e.val) := HC.out w4 hba4 8 (by decide)
  have c9 : w4.cell? ⟨B, 9, none⟩ = some (.slice ga e.ng cg) := HC.out w4 hba4 9 (by decide)
  clear hok3 hb3 hb4 hb24 HTx HS hww3 hww2 hok2 hb2
  go_wp2_with fail
  refine (HEk.out w4 hok4).mono ?_
  rintro x w5 ⟨rfl, hb5⟩
  have hww5 := hww4.trans (hb5.mono hww4.size)
  have hba5 := hba4.trans (hb5.mono hba4.size)
  have hok5 := hok4.below hb5
  clear c0 c1 c2 c3 c4 c5 c6 c7 c8 c9 hok4 hb5 HEk hba4 hww4
  go_wp2_with fail
  refine (HPb.out w5 hww5).mono ?_
  rintro x w6 ⟨pb, kb, ab, lb, gb, mb, rfl, hok6, hb6⟩
  obtain ⟨w7, hw7⟩ : ∃ w7, w7 = w6.alloc (.cells #[.string e.id, .string e.sd, .string e.ty, .bool e.st, .string e.key, .int .i64 e.tm, .slice pb e.np kb, .slice ab e.na lb, .string e.val, .slice gb e.ng mb] 26) := ⟨_, rfl⟩
  have hb7 : Below w6.heap.size w6 w7 := by rw [hw7]; exact (Below.refl _ _).alloc (Nat.le_refl _) _
  have hb57 := hb6.trans (hb7.mono hb6.size)
  have hba7 := hba5.trans (hb57.mono hba5.size)
  have hww7 := hww5.trans (hb57.mono hww5.size)
  have HSm : Hid (∀ W, Below w7.heap.size w7 W -> Calls Tryd.prog 9 #[e.val' pb kb ab lb gb mb, e.val' pa cp aa ca ga cg] W fun x w' => x = .returned (.bool true) ∧ Below W.heap.size W w') := fun W hW => sameEv e W ((hok6.below hb7).below hW) (((hok5.below hb6).below hb7).below hW)
  have c0 : w7.cell? ⟨B, 0, none⟩ = some (.string e.id) := HC.out w7 hba7 0 (by decide)
  have c1 : w7.cell? ⟨B, 1, none⟩ = some (.string e.sd) := HC.out w7 hba7 1 (by decide)
  have c2 : w7.cell? ⟨B, 2, none⟩ = some (.string e.ty) := HC.out w7 hba7 2 (by decide)
  have c3 : w7.cell? ⟨B, 3, none⟩ = some (.bool e.st) := HC.out w7 hba7 3 (by decide)
  have c4 : w7.cell? ⟨B, 4, none⟩ = some (.string e.key) := HC.out w7 hba7 4 (by decide)
  have c5 : w7.cell? ⟨B, 5, none⟩ = some (.int .i64 e.tm) := HC.out w7 hba7 5 (by decide)
  have c6 : w7.cell? ⟨B, 6, none⟩ = some (.slice pa e.np cp) := HC.out w7 hba7 6 (by decide)
  have c7 : w7.cell? ⟨B, 7, none⟩ = some (.slice aa e.na ca) := HC.out w7 hba7 7 (by decide)
  have c8 : w7.cell? ⟨B, 8, none⟩ = some (.string e.val) := HC.out w7 hba7 8 (by decide)
  have c9 : w7.cell? ⟨B, 9, none⟩ = some (.slice ga e.ng cg) := HC.out w7 hba7 9 (by decide)
  have d0 : w7.cell? ⟨w6.heap.size, 0, none⟩ = some (.string e.id) := by rw [hw7]; exact World.cell?_alloc_at _ _ _ _ rfl
  have d1 : w7.cell? ⟨w6.heap.size, 1, none⟩ = some (.string e.sd) := by rw [hw7]; exact World.cell?_alloc_at _ _ _ _ rfl
  have d2 : w7.cell? ⟨w6.heap.size, 2, none⟩ = some (.string e.ty) := by rw [hw7]; exact World.cell?_alloc_at _ _ _ _ rfl
  have d3 : w7.cell? ⟨w6.heap.size, 3, none⟩ = some (.bool e.st) := by rw [hw7]; exact World.cell?_alloc_at _ _ _ _ rfl
  have d4 : w7.cell? ⟨w6.heap.size, 4, none⟩ = some (.string e.key) := by rw [hw7]; exact World.cell?_alloc_at _ _ _ _ rfl
  have d5 : w7.cell? ⟨w6.heap.size, 5, none⟩ = some (.int .i64 e.tm) := by rw [hw7]; exact World.cell?_alloc_at _ _ _ _ rfl
  have d6 : w7.cell? ⟨w6.heap.size, 6, none⟩ = some (.slice pb e.np kb) := by rw [hw7]; exact World.cell?_alloc_at _ _ _ _ rfl
  have d7 : w7.cell? ⟨w6.heap.size, 7, none⟩ = some (.slice ab e.na lb) := by rw [hw7]; exact World.cell?_alloc_at _ _ _ _ rfl
  have d8 : w7.cell? ⟨w6.heap.size, 8, none⟩ = some (.string e.val) := by rw [hw7]; exact World.cell?_alloc_at _ _ _ _ rfl
  have d9 : w7.cell? ⟨w6.heap.size, 9, none⟩ = some (.slice gb e.ng mb) := by rw [hw7]; exact World.cell?_alloc_at _ _ _ _ rfl
  obtain ⟨D, hD⟩ : ∃ D, D = w6.heap.size := ⟨_, rfl⟩
  rw [<- hD] at d0 d1 d2 d3 d4 d5 d6 d7 d8 d9
  go_upto_region 11 with fail
  rw [<- hw7, <- hD]
  clear hw7 hD hok6 hok5 hb6 hb7 hb57 HPb hba5 hww5
  go_wp2_with fail
  refine (HSm.out _ (Below.refl _ _)).mono ?_
  rintro x w8 ⟨rfl, hb8⟩
  go_wp2_with fail
  go_ret
  exact ⟨rfl, hww7.trans (hb8.mono hww7.size)⟩
 ·clear Hc HL
  rw [if_neg h0, if_neg h0] at HTx
  go_wp2_with fail
  refine (HS.out w2 hww2).mono ?_
  rintro x w3 ⟨pa', cp', aa', ca', ga', cg', rfl, hok3, hb3⟩
  have hww3 := hww2.trans (hb3.mono hww2.size)
  go_wp2_with fail
  refine (HTx.out w3 _ _ _ _ _ _ hww3 hok3).mono ?_
  rintro x w4 ⟨rfl, hb4⟩
  have hb24 := hb3.trans (hb4.mono hb3.size)
  have hok4 := hok2.below hb24
  have hba4 := hb2.trans (hb24.mono hb2.size)
  have hww4 := hww3.trans (hb4.mono hww3.size)
  have c0 : w4.cell? ⟨B, 0, none⟩ = some (.string e.id) := HC.out w4 hba4 0 (by decide)
  have c1 : w4.cell? ⟨B, 1, none⟩ = some (.string e.sd) := HC.out w4 hba4 1 (by decide)
  have c2 : w4.cell? ⟨B, 2, none⟩ = some (.string e.ty) := HC.out w4 hba4 2 (by decide)
  have c3 : w4.cell? ⟨B, 3, none⟩ = some (.bool e.st) := HC.out w4 hba4 3 (by decide)
  have c4 : w4.cell? ⟨B, 4, none⟩ = some (.string e.key) := HC.out w4 hba4 4 (by decide)
  have c5 : w4.cell? ⟨B, 5, none⟩ = some (.int .i64 e.tm) := HC.out w4 hba4 5 (by decide)
  have c6 : w4.cell? ⟨B, 6, none⟩ = some (.slice pa e.np cp) := HC.out w4 hba4 6 (by decide)
  have c7 : w4.cell? ⟨B, 7, none⟩ = some (.slice aa e.na ca) := HC.out w4 hba4 7 (by decide)
  have c8 : w4.cell? ⟨B, 8, none⟩ = some (.string e.val) := HC.out w4 hba4 8 (by decide)
  have c9 : w4.cell? ⟨B, 9, none⟩ = some (.slice ga e.ng cg) := HC.out w4 hba4 9 (by decide)
  clear hok3 hb3 hb4 hb24 HTx HS hww3 hww2 hok2 hb2
  go_wp2_with fail
  refine (HEk.out w4 hok4).mono ?_
  rintro x w5 ⟨rfl, hb5⟩
  have hww5 := hww4.trans (hb5.mono hww4.size)
  go_wp2_with fail
  go_ret
  exact ⟨rfl, hww5⟩
end Go.Proofs.YtihacnhmiopalaaDoor
