import Derived.Test.YtihacnhmiopalaaDoorRows
import Derived.Test.YtihacnhmiopalaaDoorTie
import Derived.Test.YtihacnhmiopalaaDoorCards
import Derived.Test.YtihacnhmiopalaaDoorDrRZT
import Derived.Lib.LaidIn
import Derived.Lib.LaidU8T
import Derived.LaidMore
import Derived.Stop.LaidErr
import Derived.Deep.DeepHandedRow
import Derived.Deep.DeepWitnessRowRef
import Derived.SevenTiedAt
import Derived.Test.YtihacnhmiopalaaDoorDtST
import Derived.Test.YtihacnhmiopalaaDoorRtPT
import Derived.Test.YtihacnhmiopalaaDoorSmET
import Derived.Test.YtihacnhmiopalaaDoorTxtIT
import Derived.Test.YtihacnhmiopalaaDoorPeIT
namespace Go.Proofs.YtihacnhmiopalaaDoor
open Go.RowKit
abbrev Ev.text (e : Ev) : ByteArray := evText e.id e.sd e.ty e.key e.val e.st e.tm e.np e.na e.ng e.Pv e.Av e.M e.L
theorem SlS.congT {w : World} {a : Option Addr} {n cap : Nat} {S T : Nat -> ByteArray} (h : SlS w a n cap S) (e : ∀ i, i < n -> S i = T i) : SlS w a n cap T :=
 ⟨h.le, h.max, fun i hi => by rw [<- e i hi]; exact h.size i hi, h.cells.imp id fun ⟨b, off, q, hlt, hc⟩ => ⟨b, off, q, hlt, fun i hi => by rw [<- e i hi]; exact hc i hi⟩⟩
theorem SlG.congT {w : World} {a : Option Addr} {n cap : Nat} {M M' : Nat -> ByteArray} {L L' : Nat -> Int} (h : SlG w a n cap M L) (e : ∀ i, i < n -> M i = M' i ∧ L i = L' i) : SlG w a n cap M' L' :=
 ⟨h.le, h.max, fun i hi => by rw [<- (e i hi).1]; exact h.size i hi, h.cells.imp id fun ⟨b, off, q, hlt, hc, hl⟩ => ⟨b, off, q, hlt, fun i hi => by rw [<- (e i hi).1]; exact hc i hi, fun i hi => by rw [<- (e i hi).2]; exact hl i hi⟩⟩
theorem parse_back (e : Ev) (hc : e.code = 0) {pa aa ga : Option Addr} {cp ca cg : Nat} {w0 : World} (hok : EvOk w0 e pa cp aa ca ga cg) (w : World) (hm : MaxL w) :
  Calls Tryd.prog 8 #[.string e.text] w fun x w' => ∃ pa cp aa ca ga cg, x = .returned (.tuple #[e.val' pa cp aa ca ga cg, .int .i64 0]) ∧ EvOk w' e pa cp aa ca ga cg ∧ Below w.heap.size w w' := by
 have hB := text_back hc
 have hsz : e.text.size <= 1048576 := by
  have hb := evCode_bds hc
  have := joinB_bound (eight e.id e.sd e.ty (keyT e.st e.key) (itoaB e.tm) (refsT e.Pv e.np) (refsT e.Av e.na) (valT e.val e.M e.L e.ng)) ⟨#[32]⟩ 3200 (by decide) 8 (fun i _ => hb.eight i)
  show (evText _ _ _ _ _ _ _ _ _ _ _ _ _ _).size <= _
  unfold evText
  omega
 refine (peI_any e.text w hsz hm).mono ?_
 rintro x w' ⟨hb, ⟨h1, _⟩ | ⟨_, pa', cp', aa', ca', ga', cg', k1, k2, rfl, hin⟩⟩
 ·exact absurd hB.code h1
 ·have hp := hin.hp
  have ha := hin.ha
  have hg := hin.hg
  rw [hB.bnp] at hp
  rw [hB.bna] at ha
  rw [hB.bng] at hg
  refine ⟨pa', cp', aa', ca', ga', cg', ?_, ⟨hok.hid, hok.hsd, hok.hty, hok.hkey, hok.hval, hp.congT hB.p, ha.congT hB.a, hg.congT hB.g⟩, hb⟩
  show Ending.returned (.tuple #[evV _ _ _ _ _ _ _ _ _ _ _ _ _ _ _ _, _]) = _
  rw [hB.i, hB.s, hB.t, hB.k, hB.v, hB.bst, hB.btm, hB.bnp, hB.bna, hB.bng]
set_option maxRecDepth 100000 in
set_option maxHeartbeats 4000000 in
theorem lawText {a : Option Addr} {n cap : Nat} {bs : Nat -> Nat} (w : World) (hle : n <= cap) (hmax : cap <= maxLen) (h : BytesV w a n bs) (hb1 : ∀ i, i < n -> bs i < 256) (ht : Tab w) (hm : MaxL w) :
  Calls Tryd.prog 3 #[.slice a n cap] w fun e w' => e = .returned (.bool true) ∧ Below w.heap.size w w' := by
 have HS : Hid (∀ W, Below w.heap.size w W -> Calls Tryd.prog 4 #[.slice a n cap] W (DtPost (dtE bs n) W)) := fun W hW => drawText W hle hmax (h.imp id fun ⟨b, off, e, hlt, hx⟩ => ⟨b, off, e, Nat.lt_of_lt_of_le hlt hW.size, fun i hi => (hW.cell (by exact hlt)).trans (hx i hi)⟩) hb1
 have hnm : (n : Int) <= 9223372036854775807 := by unfold maxLen at hmax; omega
 have HT : Hid (∀ W, Below w.heap.size w W -> Tab W) := fun W hW => ht.below hW
 have HL : Hid (∀ W, Below w.heap.size w W -> MaxL W) := fun W hW => hm.below hW
 clear hmax hle h hb1 ht hm
 generalize dtE bs n = e at *
 by_cases hbig : 1048576 < n
 ·go_enter Tryd.func3, Tryd.ntmps3
  go_wp2
  go_ret
  exact ⟨rfl, Below.refl _ _⟩
 go_enter Tryd.func3, Tryd.ntmps3
 go_wp2_with fail
 refine (HS.out w (Below.refl _ _)).mono ?_
 rintro x w1 ⟨pa, cp, aa, ca, ga, cg, rfl, hok1, hw1⟩
 obtain ⟨wa, hwa⟩ : ∃ wa, wa = w1.alloc (.cells #[.string e.id, .string e.sd, .string e.ty, .bool e.st, .string e.key, .int .i64 e.tm, .slice pa e.np cp, .slice aa e.na ca, .string e.val, .slice ga e.ng cg] 26) := ⟨_, rfl⟩
 have hba : Below w1.heap.size w1 wa := by rw [hwa]; exact (Below.refl _ _).alloc (Nat.le_refl _) _
 have hsa : w1.heap.size < wa.heap.size := by rw [hwa]; simp
 have HC : Hid (∀ W, Below wa.heap.size wa W -> ∀ o, o < 10 -> W.cell? ⟨w1.heap.size, o, none⟩ = some ((#[.string e.id, .string e.sd, .string e.ty, .bool e.st, .string e.key, .int .i64 e.tm, .slice pa e.np cp, .slice aa e.na ca, .string e.val, .slice ga e.ng cg] : Array Value)[o]?.getD undef)) := fun W hW o ho => by
  refine (hW.cell (by exact hsa)).trans ?_
  rw [hwa, World.cell?_alloc_at _ _ _ _ rfl]
  match o, ho with
  | 0, _ => rfl
  | 1, _ => rfl
  | 2, _ => rfl
  | 3, _ => rfl
  | 4, _ => rfl
  | 5, _ => rfl
  | 6, _ => rfl
  | 7, _ => rfl
  | 8, _ => rfl
  | 9, _ => rfl
 have hoka := hok1.below hba
 have hwwa := hw1.trans (hba.mono hw1.size)
 obtain ⟨B, hB⟩ : ∃ B, B = w1.heap.size := ⟨_, rfl⟩
 rw [<- hB] at hsa HC
 have hrf : Below wa.heap.size wa wa := Below.refl _ _
 have c0 : wa.cell? ⟨B, 0, none⟩ = some (.string e.id) := HC.out wa hrf 0 (by decide)
 have c1 : wa.cell? ⟨B, 1, none⟩ = some (.string e.sd) := HC.out wa hrf 1 (by decide)
 have c2 : wa.cell? ⟨B, 2, none⟩ = some (.string e.ty) := HC.out wa hrf 2 (by decide)
 have c3 : wa.cell? ⟨B, 3, none⟩ = some (.bool e.st) := HC.out wa hrf 3 (by decide)
 have c4 : wa.cell? ⟨B, 4, none⟩ = some (.string e.key) := HC.out wa hrf 4 (by decide)
 have c5 : wa.cell? ⟨B, 5, none⟩ = some (.int .i64 e.tm) := HC.out wa hrf 5 (by decide)
 have c6 : wa.cell? ⟨B, 6, none⟩ = some (.slice pa e.np cp) := HC.out wa hrf 6 (by decide)
 have c7 : wa.cell? ⟨B, 7, none⟩ = some (.slice aa e.na ca) := HC.out wa hrf 7 (by decide)
 have c8 : wa.cell? ⟨B, 8, none⟩ = some (.string e.val) := HC.out wa hrf 8 (by decide)
 have c9 : wa.cell? ⟨B, 9, none⟩ = some (.slice ga e.ng cg) := HC.out wa hrf 9 (by decide)
 go_upto_region 4 with fail
 rw [<- hwa, <- hB]
 clear hwa hba hB hw1 hok1 hrf
 go_wp2_with fail
 refine (evS_any _ _ _ _ _ _ _ _ _ _ _ _ _ _ _ _ _ _ _ _ wa hoka.hid hoka.hsd hoka.hty hoka.hkey hoka.hval hoka.hp hoka.ha hoka.hg).mono ?_
 rintro x w2 ⟨rfl, hb2⟩
 have hww2 := hwwa.trans (hb2.mono hwwa.size)
 have hok2 := hoka.below hb2
 obtain ⟨c, hc⟩ : ∃ c, c = e.code := ⟨_, rfl⟩
 have Hc : Hid (c = e.code) := hc
 rw [show evCode e.id e.sd e.ty e.key e.val e.st e.tm e.np e.na e.ng e.Pv e.Av e.M e.L = c from hc.symm]
 clear hc hoka c0 c1 c2 c3 c4 c5 c6 c7 c8 c9
 have HTx : Hid (∀ W pa cp aa ca ga cg, Below w.heap.size w W -> EvOk W e pa cp aa ca ga cg -> Calls Tryd.prog 6 #[e.val' pa cp aa ca ga cg] W fun x w' => x = .returned (.tuple #[.string (if c = 0 then e.text else ByteArray.empty), .bool (if c = 0 then true else false)]) ∧ Below W.heap.size W w') := fun W pa cp aa ca ga cg hW hk => by
  rw [Hc.out]
  exact txtI_any _ _ _ _ _ _ _ _ _ _ _ _ _ _ _ _ _ _ _ _ W hk.hid hk.hsd hk.hty hk.hkey hk.hval hk.hp hk.ha hk.hg (HT.out W hW)
 have HEk : Hid (∀ W, EvOk W e pa cp aa ca ga cg -> Calls Tryd.prog 7 #[e.val' pa cp aa ca ga cg] W fun x w' => x = .returned (.int .i64 c) ∧ Below W.heap.size W w') := fun W hk => by
  rw [Hc.out]
  exact evI_any _ _ _ _ _ _ _ _ _ _ _ _ _ _ _ _ _ _ _ _ W hk.hid hk.hsd hk.hty hk.hkey hk.hval hk.hp hk.ha hk.hg
 clear HT
 by_cases h0 : c = 0
 ·have HPb : Hid (∀ W, Below w.heap.size w W -> Calls Tryd.prog 8 #[.string e.text] W fun x w' => ∃ pa cp aa ca ga cg, x = .returned (.tuple #[e.val' pa cp aa ca ga cg, .int .i64 0]) ∧ EvOk w' e pa cp aa ca ga cg ∧ Below W.heap.size W w') := fun W hW => parse_back e (Hc.out.symm.trans h0) hok2 W (HL.out W hW)
  subst h0
  clear Hc HL
  rw [if_pos rfl, if_pos rfl] at HTx
  generalize e.text = tx at *
  go_wp2_with fail
  refine (HS.out w2 hww2).mono ?_
  rintro x w3 ⟨pa', cp', aa', ca', ga', cg', rfl, hok3, hb3⟩
  have hww3 := hww2.trans (hb3.mono hww2.size)
  go_wp2_with fail
  refine (HTx.out w3 _ _ _ _ _ _ hww3 hok3).mono ?_
  rintro x w4 ⟨rfl, hb4⟩
  have hb24 := hb3.trans (hb4.mono hb3.size)
  have hok4 := hok2.below hb24
  have hba4 := hb2.trans (hb24.mono hb2.size)
  have hww4 := hww3.trans (hb4.mono hww3.size)
  have c0 : w4.cell? ⟨B, 0, none⟩ = some (.string e.id) := HC.out w4 hba4 0 (by decide)
  have c1 : w4.cell? ⟨B, 1, none⟩ = some (.string e.sd) := HC.out w4 hba4 1 (by decide)
  have c2 : w4.cell? ⟨B, 2, none⟩ = some (.string e.ty) := HC.out w4 hba4 2 (by decide)
  have c3 : w4.cell? ⟨B, 3, none⟩ = some (.bool e.st) := HC.out w4 hba4 3 (by decide)
  have c4 : w4.cell? ⟨B, 4, none⟩ = some (.string e.key) := HC.out w4 hba4 4 (by decide)
  have c5 : w4.cell? ⟨B, 5, none⟩ = some (.int .i64 e.tm) := HC.out w4 hba4 5 (by decide)
  have c6 : w4.cell? ⟨B, 6, none⟩ = some (.slice pa e.np cp) := HC.out w4 hba4 6 (by decide)
  have c7 : w4.cell? ⟨B, 7, none⟩ = some (.slice aa e.na ca) := HC.out w4 hba4 7 (by decide)
  have c8 : w4.cell? ⟨B, 8, none⟩ = some (.string e.val) := HC.out w4 hba4 8 (by decide)
  have c9 : w4.cell? ⟨B, 9, none⟩ = some (.slice ga e.ng cg) := HC.out w4 hba4 9 (by decide)
  clear hok3 hb3 hb4 hb24 HTx HS hww3 hww2 hok2 hb2
  go_wp2_with fail
  refine (HEk.out w4 hok4).mono ?_
  rintro x w5 ⟨rfl, hb5⟩
  have hww5 := hww4.trans (hb5.mono hww4.size)
  have hba5 := hba4.trans (hb5.mono hba4.size)
  have hok5 := hok4.below hb5
  clear c0 c1 c2 c3 c4 c5 c6 c7 c8 c9 hok4 hb5 HEk hba4 hww4
  go_wp2_with fail
  refine (HPb.out w5 hww5).mono ?_
  rintro x w6 ⟨pb, kb, ab, lb, gb, mb, rfl, hok6, hb6⟩
  obtain ⟨w7, hw7⟩ : ∃ w7, w7 = w6.alloc (.cells #[.string e.id, .string e.sd, .string e.ty, .bool e.st, .string e.key, .int .i64 e.tm, .slice pb e.np kb, .slice ab e.na lb, .string e.val, .slice gb e.ng mb] 26) := ⟨_, rfl⟩
  have hb7 : Below w6.heap.size w6 w7 := by rw [hw7]; exact (Below.refl _ _).alloc (Nat.le_refl _) _
  have hb57 := hb6.trans (hb7.mono hb6.size)
  have hba7 := hba5.trans (hb57.mono hba5.size)
  have hww7 := hww5.trans (hb57.mono hww5.size)
  have HSm : Hid (∀ W, Below w7.heap.size w7 W -> Calls Tryd.prog 9 #[e.val' pb kb ab lb gb mb, e.val' pa cp aa ca ga cg] W fun x w' => x = .returned (.bool true) ∧ Below W.heap.size W w') := fun W hW => sameEv e W ((hok6.below hb7).below hW) (((hok5.below hb6).below hb7).below hW)
  have c0 : w7.cell? ⟨B, 0, none⟩ = some (.string e.id) := HC.out w7 hba7 0 (by decide)
  have c1 : w7.cell? ⟨B, 1, none⟩ = some (.string e.sd) := HC.out w7 hba7 1 (by decide)
  have c2 : w7.cell? ⟨B, 2, none⟩ = some (.string e.ty) := HC.out w7 hba7 2 (by decide)
  have c3 : w7.cell? ⟨B, 3, none⟩ = some (.bool e.st) := HC.out w7 hba7 3 (by decide)
  have c4 : w7.cell? ⟨B, 4, none⟩ = some (.string e.key) := HC.out w7 hba7 4 (by decide)
  have c5 : w7.cell? ⟨B, 5, none⟩ = some (.int .i64 e.tm) := HC.out w7 hba7 5 (by decide)
  have c6 : w7.cell? ⟨B, 6, none⟩ = some (.slice pa e.np cp) := HC.out w7 hba7 6 (by decide)
  have c7 : w7.cell? ⟨B, 7, none⟩ = some (.slice aa e.na ca) := HC.out w7 hba7 7 (by decide)
  have c8 : w7.cell? ⟨B, 8, none⟩ = some (.string e.val) := HC.out w7 hba7 8 (by decide)
  have c9 : w7.cell? ⟨B, 9, none⟩ = some (.slice ga e.ng cg) := HC.out w7 hba7 9 (by decide)
  have d0 : w7.cell? ⟨w6.heap.size, 0, none⟩ = some (.string e.id) := by rw [hw7]; exact World.cell?_alloc_at _ _ _ _ rfl
  have d1 : w7.cell? ⟨w6.heap.size, 1, none⟩ = some (.string e.sd) := by rw [hw7]; exact World.cell?_alloc_at _ _ _ _ rfl
  have d2 : w7.cell? ⟨w6.heap.size, 2, none⟩ = some (.string e.ty) := by rw [hw7]; exact World.cell?_alloc_at _ _ _ _ rfl
  have d3 : w7.cell? ⟨w6.heap.size, 3, none⟩ = some (.bool e.st) := by rw [hw7]; exact World.cell?_alloc_at _ _ _ _ rfl
  have d4 : w7.cell? ⟨w6.heap.size, 4, none⟩ = some (.string e.key) := by rw [hw7]; exact World.cell?_alloc_at _ _ _ _ rfl
  have d5 : w7.cell? ⟨w6.heap.size, 5, none⟩ = some (.int .i64 e.tm) := by rw [hw7]; exact World.cell?_alloc_at _ _ _ _ rfl
  have d6 : w7.cell? ⟨w6.heap.size, 6, none⟩ = some (.slice pb e.np kb) := by rw [hw7]; exact World.cell?_alloc_at _ _ _ _ rfl
  have d7 : w7.cell? ⟨w6.heap.size, 7, none⟩ = some (.slice ab e.na lb) := by rw [hw7]; exact World.cell?_alloc_at _ _ _ _ rfl
  have d8 : w7.cell? ⟨w6.heap.size, 8, none⟩ = some (.string e.val) := by rw [hw7]; exact World.cell?_alloc_at _ _ _ _ rfl
  have d9 : w7.cell? ⟨w6.heap.size, 9, none⟩ = some (.slice gb e.ng mb) := by rw [hw7]; exact World.cell?_alloc_at _ _ _ _ rfl
  obtain ⟨D, hD⟩ : ∃ D, D = w6.heap.size := ⟨_, rfl⟩
  rw [<- hD] at d0 d1 d2 d3 d4 d5 d6 d7 d8 d9
  go_upto_region 11 with fail
  rw [<- hw7, <- hD]
  clear hw7 hD hok6 hok5 hb6 hb7 hb57 HPb hba5 hww5
  go_wp2_with fail
  refine (HSm.out _ (Below.refl _ _)).mono ?_
  rintro x w8 ⟨rfl, hb8⟩
  go_wp2_with fail
  go_ret
  exact ⟨rfl, hww7.trans (hb8.mono hww7.size)⟩
 ·clear Hc HL
  rw [if_neg h0, if_neg h0] at HTx
  go_wp2_with fail
  refine (HS.out w2 hww2).mono ?_
  rintro x w3 ⟨pa', cp', aa', ca', ga', cg', rfl, hok3, hb3⟩
  have hww3 := hww2.trans (hb3.mono hww2.size)
  go_wp2_with fail
  refine (HTx.out w3 _ _ _ _ _ _ hww3 hok3).mono ?_
  rintro x w4 ⟨rfl, hb4⟩
  have hb24 := hb3.trans (hb4.mono hb3.size)
  have hok4 := hok2.below hb24
  have hba4 := hb2.trans (hb24.mono hb2.size)
  have hww4 := hww3.trans (hb4.mono hww3.size)
  have c0 : w4.cell? ⟨B, 0, none⟩ = some (.string e.id) := HC.out w4 hba4 0 (by decide)
  have c1 : w4.cell? ⟨B, 1, none⟩ = some (.string e.sd) := HC.out w4 hba4 1 (by decide)
  have c2 : w4.cell? ⟨B, 2, none⟩ = some (.string e.ty) := HC.out w4 hba4 2 (by decide)
  have c3 : w4.cell? ⟨B, 3, none⟩ = some (.bool e.st) := HC.out w4 hba4 3 (by decide)
  have c4 : w4.cell? ⟨B, 4, none⟩ = some (.string e.key) := HC.out w4 hba4 4 (by decide)
  have c5 : w4.cell? ⟨B, 5, none⟩ = some (.int .i64 e.tm) := HC.out w4 hba4 5 (by decide)
  have c6 : w4.cell? ⟨B, 6, none⟩ = some (.slice pa e.np cp) := HC.out w4 hba4 6 (by decide)
  have c7 : w4.cell? ⟨B, 7, none⟩ = some (.slice aa e.na ca) := HC.out w4 hba4 7 (by decide)
  have c8 : w4.cell? ⟨B, 8, none⟩ = some (.string e.val) := HC.out w4 hba4 8 (by decide)
  have c9 : w4.cell? ⟨B, 9, none⟩ = some (.slice ga e.ng cg) := HC.out w4 hba4 9 (by decide)
  clear hok3 hb3 hb4 hb24 HTx HS hww3 hww2 hok2 hb2
  go_wp2_with fail
  refine (HEk.out w4 hok4).mono ?_
  rintro x w5 ⟨rfl, hb5⟩
  have hww5 := hww4.trans (hb5.mono hww4.size)
  go_wp2_with fail
  go_ret
  exact ⟨rfl, hww5⟩
end Go.Proofs.YtihacnhmiopalaaDoor
namespace Go.Proofs.YtihacnhmiopalaaDoor
open Go.ChangeShapes Go.WideShapes Go.ChangeAt Go.RowKit Go.Lib
theorem Tryd.own : ownKnob Tryd.prog.godebug = none := by kernel_rfl
theorem Tryd.laidOut : laidOutB Tryd.prog = true := by kernel_rfl
def tabCells : DataW Unit -> Array Value
 | .agg ds => (ds.map fun d => match d with | .lit (.int k z) => Value.int k z | _ => undef).toArray
 | _ => #[]
noncomputable def laidWorld (os : Os) : World :=
 let w0 := World.holding Tryd.prog os ⟨#[], #[], []⟩
 let put (h : Array Obj) (g : Nat) (cs : Array Value) : Array Obj := h.modify g fun
  | .cells _ t frozen => .cells cs t frozen
  | o => o
 let h1 := put w0.heap 4 (Lib.firstTab.map fun z => Value.int .u8 z).toArray
 let h2 := put h1 5 ((List.range 16).flatMap fun i => [Value.int .u8 (Lib.accLo i), Value.int .u8 (Lib.accHi i)]).toArray
 let h3 := put h2 2 (tabCells Rows.laid_math_bits_deBruijn32tab)
 let h4 := put h3 3 (tabCells Rows.laid_math_bits_deBruijn64tab)
 let h5 := put h4 0 (tabCells Rows.laid_internal_strconv_uint64pow10)
 { w0 with heap := h5 }
abbrev laid5 : List (String × DataW Unit) := [("math/bits.deBruijn32tab", Rows.laid_math_bits_deBruijn32tab), ("math/bits.deBruijn64tab", Rows.laid_math_bits_deBruijn64tab), ("internal/strconv.uint64pow10", Rows.laid_internal_strconv_uint64pow10), ("unicode/utf8.acceptRanges", Rows.laid_unicode_utf8_acceptRanges), ("unicode/utf8.first", Rows.laid_unicode_utf8_first)]
theorem laid_met (os : Os) (args : Array Value) : laidMet Tryd.prog Rows.fnTextRow.laid ((laidWorld os).forCall (fun _ _ => 0) ⟨#[], args, []⟩).memory :=
 (LaidIn.of_run (l := laid5) [2, 3, 0, 5, 4] 8 (by kernel_rfl) (by kernel_rfl) (by kernel_rfl) (by kernel_rfl)).met
theorem tab_of_laid {W : World} (h : laidMet Tryd.prog laid5 W) : Tab W :=
 Lib.tabIs_of_head (g := 0) (t := 111) (e := 99) (n := 20) (by kernel_rfl) (by kernel_rfl) Tryd.underlying111 Tryd.underlying99 (by kernel_rfl) (by kernel_rfl) h.tail.tail
theorem witness_tx (os : Os) {H : Type} (enc : TypeId × Value -> H) :
  (OpenSpec.ofChange Rows.fnTextSpec).preRow enc Tryd.prog Tryd.f3 Rows.fnTextRow.domain false Rows.fnTextRow.laid ((laidWorld os).forCall (fun _ _ => 0) ⟨#[], #[.slice none 0 0], []⟩).memory #[.slice none 0 0] := by
 have hw : (DataW.whole enc Tryd.prog ((laidWorld os).forCall (fun _ _ => 0) ⟨#[], #[.slice none 0 0], []⟩).memory Tryd.f3.params.toList (OpenSpec.ofChange Rows.fnTextSpec).vars false #[Value.slice none 0 0].toList 8).map (fun x => (x.1, x.2.1)) =
   some ([.nil], []) := by kernel_rfl
 obtain ⟨⟨x1, x2, x3⟩, hx, hx1⟩ := Option.map_eq_some_iff.1 hw
 simp only [Prod.mk.injEq] at hx1
 obtain ⟨rfl, rfl⟩ := hx1
 exact OpenSpec.preRow_of_cond 8 hx (by kernel_rfl) (fun k hk => by cases hk) (by kernel_rfl) (laid_met os _)
set_option maxRecDepth 100000 in
theorem fnText_lifted (os : Os) (started : os.Started) (H : Type) (enc : TypeId × Value -> H) (F : Stop.Interp) :
  ReturnsInHanded {} Tryd.checked os 3 .any ((OpenSpec.ofChange Rows.fnTextSpec).preRow enc Tryd.prog Tryd.f3 Rows.fnTextRow.domain false Rows.fnTextRow.laid)
   (((OpenSpec.ofChange Rows.fnTextSpec).at F).post enc Tryd.prog Tryd.f3 false true false false) := by
 refine returnsInHanded_of_row (C := Tryd.checked) (s := OpenSpec.ofChange Rows.fnTextSpec) Tryd.own started (by kernel_rfl) Tryd.func3
  (witness_row_atRef (enc := enc) (C := Tryd.checked) false (laidWorld os) #[.slice none 0 0] rfl (by kernel_rfl) (by kernel_rfl) (by kernel_rfl) (witness_tx os enc)) ?_
 intro W base args ds gs before hval0 hW _ _ _ hL hsh _
 have hval : ∀ (j : Nat) t v, Tryd.f3.params[j]? = some t -> args[j]? = some v -> Value.okWide Tryd.prog W .any base t v := hval0
 have hW' := hW
 obtain ⟨p, q, hA0, hV0, rfl, _, _⟩ := hW
 have hA : DataW.TrodAll enc Tryd.prog W 0 (fun _ => true) true Tryd.f3.params.toList args.toList ds p := hA0
 rw [Tryd.params3] at hA hval
 obtain ⟨v0, d0, rfl, rfl, h0⟩ := trodAll_one hA
 obtain ⟨rfl, rfl⟩ := trodVars_none hV0
 obtain ⟨ya0, yn0, yc0, rfl⟩ := okWide_slice Tryd.underlying22 (hval 0 22 v0 rfl rfl)
 have h0k := h0
 obtain ⟨fuel0, hf0⟩ := h0
 clear hA0 hV0 hval0
 simp only [List.append_nil] at hW'
 have hlt0 : ∀ x ∈ p, x.block < W.heap.size := fun x hx => by simpa using hW'.lt x hx
 obtain ⟨a0, n0, c0, heq0, hle0, hm0, s0⟩ := in_bytes hf0 hlt0
 simp only [Value.cells, List.cons.injEq, and_true] at heq0
 injection heq0 with e1 e2 e3
 subst e1 e2 e3
 have hm : MaxL W := Tryd.laysM146.s1_3 W hsh
 obtain ⟨bs, s1, s2⟩ := bytes_choose s0
 refine (lawText W hle0 hm0 s1 s2 (tab_of_laid hL) hm).mono fun e W' ⟨he, hnx⟩ => ?_
 subst he
 have e1 : ((OpenSpec.ofChange Rows.fnTextSpec).at F).fn H ([d0] ++ []) = { results := [.lit (.bool true)], args := [d0] } := rfl
 refine ⟨_, rfl, _, _, _, [], p, [], hW', ?_, ?_, ?_, hnx.frame _, fun h => by cases h⟩
 ·rw [e1]; exact trodAll_mk1 (shut_bool Tryd.underlying4 true)
 ·rw [e1]
  have := trodAll_mk1 (Below.trod Tryd.laidOut (by kernel_rfl) (of_decide_eq_true (by kernel_rfl)) h0k hnx hlt0)
  try simp only [List.append_nil] at this
  exact this
 ·rw [e1]; rfl
theorem fnText_holds : Rows.FnTextSaid :=
 OpenClaim.holds_of_cond 3 Tryd.f3 rfl rfl rfl rfl rfl rfl rfl ⟨rfl, rfl, rfl, rfl, rfl⟩ rfl rfl rfl rfl rfl (by kernel_rfl) Tryd.func3 (by kernel_rfl)
  (of_decide_eq_true (by kernel_rfl)) (by unfold Func.isWrapper; rw [if_neg (of_decide_eq_false (by kernel_rfl))]; exact ⟨rfl, rfl⟩)
  (fun os started H enc _ F0 => by rw [OpenClaim.pre_eq_preRow]; exact fnText_lifted os started H enc F0)
theorem fnText_card_holds : Rows.FnTextCardSaid :=
 Claim7.holds_tied_plain_at .later [] [.data, .data, .data, .data, .pinned] true (true, "7825980c62b1a07c233528e5537f8de5a30e7ddb00da3bfa15e5c9e2c67cdff9") false
  fnText_holds (fun _ h => by cases h) (by kernel_rfl) (fun _ h => by cases h) fnText_row_tie rfl ⟨rfl, rfl⟩ (by kernel_rfl) rfl
  (fun f fn hf hfn => by
   obtain rfl : f = 3 := Option.some.inj ((show Tryd.prog.funcNamed "loop.example/s01366/laws.FnText" = some 3 by kernel_rfl).symm.trans hf) |>.symm
   obtain rfl : fn = Tryd.f3 := (Option.some.inj (Tryd.func3.symm.trans hfn)).symm
   exact ⟨by kernel_rfl, fun j t ht => by
    rw [Tryd.params3] at ht
    have hm : t ∈ [22] := by simpa using Array.mem_of_getElem? ht
    have hall : ([22].all fun u => !Tryd.prog.wantsStandIn u) = true := by kernel_rfl
    exact (show Tryd.prog.wantsStandIn t = false by simpa using List.all_eq_true.1 hall t hm)⟩)
  (by kernel_rfl)
#print axioms fnText_card_holds
end Go.Proofs.YtihacnhmiopalaaDoor
