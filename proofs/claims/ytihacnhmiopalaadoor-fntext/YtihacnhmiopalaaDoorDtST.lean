import Derived.Test.YtihacnhmiopalaaDoorDeST
import Derived.Test.YtihacnhmiopalaaDoorXeTT
namespace Go.Proofs.YtihacnhmiopalaaDoor
open Go.RowKit
def dtE (bs : Nat -> Nat) (n : Nat) : Ev := if nxB bs (rdN n) 0 % 4 = 3 then spE (nxB bs (rdN n) (drEq bs (rdN n) (nxQ (rdN n) 0))) (nxB bs (rdN n) (nxQ (rdN n) (drEq bs (rdN n) (nxQ (rdN n) 0)))) (drEv bs (rdN n) (nxQ (rdN n) 0)) else drEv bs (rdN n) (nxQ (rdN n) 0)
def DtPost (e : Ev) (w : World) (x : Ending) (w' : World) : Prop := ∃ pa cp aa ca ga cg, x = .returned (e.val' pa cp aa ca ga cg) ∧ EvOk w' e pa cp aa ca ga cg ∧ Below w.heap.size w w'
theorem blw_dw {w w1 w2 : World} {p : Nat} (hb : Below w.heap.size w w1) (hg : w1.grownBy w2 (some p)) (hp : w.heap.size <= p) : Below w.heap.size w w2 :=
 ⟨hg.os.trans hb.os, hg.tape.trans hb.tape, hg.output.trans hb.output, Nat.le_trans hb.size hg.size, fun i hi => (hg.block i (Nat.lt_of_lt_of_le hi hb.size) (fun e => by injection e with e; omega)).trans (hb.block i hi)⟩
theorem SlS.kc {w w' : World} {a : Option Addr} {n cap lo hi nw c : Nat} {S : Nat -> ByteArray} (h : SlS w a n cap S) (hv : XeS a n lo hi nw) (hk : Kb c w w') (h1 : c < lo) (h2 : c < nw) : SlS w' a n cap S := by
 rcases hv with h0 | ⟨b, off, rfl, h3⟩
 ·exact ⟨h.le, h.max, h.size, Or.inl h0⟩
 ·refine ⟨h.le, h.max, h.size, h.cells.imp id fun ⟨b', off', e, hlt, hc⟩ => ⟨b', off', e, Nat.lt_of_lt_of_le hlt hk.1, fun i hi => ?_⟩⟩
  have e2 : b = b' := by injection e with e; injection e
  exact (hk.cell hlt (by omega)).trans (hc i hi)
theorem SlG.kc {w w' : World} {a : Option Addr} {n cap lo hi nw c : Nat} {M : Nat -> ByteArray} {L : Nat -> Int} (h : SlG w a n cap M L) (hv : XeS a n lo hi nw) (hk : Kb c w w') (h1 : c < lo) (h2 : c < nw) : SlG w' a n cap M L := by
 rcases hv with h0 | ⟨b, off, rfl, h3⟩
 ·exact ⟨h.le, h.max, h.size, Or.inl h0⟩
 ·refine ⟨h.le, h.max, h.size, h.cells.imp id fun ⟨b', off', e, hlt, hc, hl⟩ => ⟨b', off', e, Nat.lt_of_lt_of_le hlt hk.1, fun i hi => ?_, fun i hi => ?_⟩⟩
  ·have e2 : b = b' := by injection e with e; injection e
   exact (hk.cell hlt (by omega)).trans (hc i hi)
  ·have e2 : b = b' := by injection e with e; injection e
   exact (hk.cell hlt (by omega)).trans (hl i hi)
theorem gTo_le11 (bs : Nat -> Nat) (m k bits q : Nat) : ∀ i, (gTo bs m k bits q i).2.length <= i
 | 0 => Nat.le_refl _
 | i + 1 => by
  have := gTo_le11 bs m k bits q i
  unfold gTo
  split
  ·simp only [List.length_append, List.length_singleton]; omega
  ·omega
theorem drEv_bd (bs : Nat -> Nat) (m q : Nat) : (drEv bs m q).np <= 1000 ∧ (drEv bs m q).na <= 1000 ∧ (drEv bs m q).ng <= 1000 := by
 unfold drEv
 split
 ·exact ⟨by decide, by decide, by decide⟩
 ·have h := cDr_keep bs m (nxQ m q) (drE0 (nxB bs m q))
  refine ⟨by rw [h.2.2.2.1]; show 1 <= 1000; decide, by rw [h.2.2.2.2.2.1]; show nxB bs m q % 3 <= 1000; omega, ?_⟩
  unfold cDr cnE
  repeat' split
  all_goals first
   | (show (0 : Nat) <= 1000; decide)
   | exact Nat.le_trans (gTo_le11 _ _ _ _ _ _) (by decide)
set_option maxRecDepth 100000 in
set_option maxHeartbeats 4000000 in
theorem drawText {a : Option Addr} {n cap : Nat} {bs : Nat -> Nat} (w : World) (hle : n <= cap) (hmax : cap <= maxLen) (h : BytesV w a n bs) (hb1 : ∀ i, i < n -> bs i < 256) :
  Calls Tryd.prog 4 #[.slice a n cap] w (DtPost (dtE bs n) w) := by
 obtain ⟨wa, hwa⟩ : ∃ wa, wa = w.alloc (.cells #[.string ⟨#[]⟩, .string ⟨#[]⟩, .string ⟨#[]⟩, .bool false, .string ⟨#[]⟩, .int .i64 0, .slice none 0 0, .slice none 0 0, .string ⟨#[]⟩, .slice none 0 0] 26) := ⟨_, rfl⟩
 have hba : Below w.heap.size w wa := by rw [hwa]; exact (Below.refl _ _).alloc (Nat.le_refl _) _
 have hsa : w.heap.size < wa.heap.size := by rw [hwa]; simp
 have hza : Hid (∀ o, o < 10 -> ∃ v, wa.cell? ⟨w.heap.size, o, none⟩ = some v) := fun o ho => by
  rw [hwa, World.cell?_alloc_at _ _ _ _ rfl]
  match o, ho with
  | 0, _ => exact ⟨_, rfl⟩
  | 1, _ => exact ⟨_, rfl⟩
  | 2, _ => exact ⟨_, rfl⟩
  | 3, _ => exact ⟨_, rfl⟩
  | 4, _ => exact ⟨_, rfl⟩
  | 5, _ => exact ⟨_, rfl⟩
  | 6, _ => exact ⟨_, rfl⟩
  | 7, _ => exact ⟨_, rfl⟩
  | 8, _ => exact ⟨_, rfl⟩
  | 9, _ => exact ⟨_, rfl⟩
 have hfa : Hid (∀ o, wa.frozen? ⟨w.heap.size, o, none⟩ = false) := fun o => by rw [hwa]; exact World.frozen?_alloc_at _ _ _ _ rfl
 have hva : BytesV wa a n bs := h.imp id fun ⟨b, off, e, hlt, hx⟩ => ⟨b, off, e, by omega, fun i hi => (hba.cell (by exact hlt)).trans (hx i hi)⟩
 have HO : Hid (Calls Tryd.prog 10 #[.slice a n cap] wa (OpF wa bs n)) := openF wa hle hmax hva hb1
 clear hmax hle h hb1 hva
 go_enter Tryd.func4, Tryd.ntmps4
 go_wp2_with fail
 rw [<- hwa]
 clear hwa
 refine (HO.out).mono ?_
 rintro x w1 ⟨p, rfl, hrd, hp, hb1⟩
 clear HO
 obtain ⟨M, hM⟩ : ∃ M, M = rdN n := ⟨_, rfl⟩
 rw [<- hM] at hrd
 have HM : Hid (M = rdN n) := hM
 clear hM
 have hk := hrd.nx
 have hw1 : Below w.heap.size w w1 := hba.trans (hb1.mono hba.size)
 obtain ⟨k, hk0⟩ : ∃ k, k = nxB bs M 0 := ⟨_, rfl⟩
 have Hk : Hid (k = nxB bs M 0) := hk0
 rw [<- hk0] at hk
 go_wp2_with fail
 refine (nextF p w1 hrd).mono ?_
 rintro x w2 ⟨rfl, hd2⟩
 rw [<- hk0]
 clear hk0
 have hw2 : Below w.heap.size w w2 := blw_dw hw1 hd2.2 (by omega)
 have hp2 := hd2.1.lt
 have hb12 : ∀ b, b < wa.heap.size -> w2.heap[b]? = wa.heap[b]? := fun b hb => (hd2.2.block b (Nat.lt_of_lt_of_le hb hb1.size) (fun e => by injection e with e; omega)).trans (hb1.block b hb)
 go_wp2_with fail
 refine (drawEvent p w2 hd2.1).mono ?_
 rintro x w3 ⟨t, rfl, hQ, hlo, hd3⟩
 have hbd := drEv_bd bs M (nxQ M 0)
 obtain ⟨e, he⟩ : ∃ e, e = drEv bs M (nxQ M 0) := ⟨_, rfl⟩
 have He : Hid (e = drEv bs M (nxQ M 0)) := he
 rw [<- he] at hQ hbd ⊢
 clear he
 have hs2 := hd2.size
 have hs1 := hb1.size
 have hk3 : ∀ b, b < wa.heap.size -> w3.heap[b]? = wa.heap[b]? := fun b hb => (hd3.2.block b (by omega) (fun e => by injection e with e; omega)).trans (hb12 b hb)
 obtain ⟨w4, hw4⟩ : ∃ w4, w4 = w3.alloc (.cells #[.string e.id, .string e.sd, .string e.ty, .bool e.st, .string e.key, .int .i64 e.tm, .slice t.pa e.np t.cp, .slice t.aa e.na t.ca, .string e.val, .slice t.ga e.ng t.cg] 26) := ⟨_, rfl⟩
 have hb4 : Below w3.heap.size w3 w4 := by rw [hw4]; exact (Below.refl _ _).alloc (Nat.le_refl _) _
 have hs4 : w3.heap.size < w4.heap.size := by rw [hw4]; simp
 have hc4 : ∀ o, o < 10 -> w4.cell? ⟨w3.heap.size, o, none⟩ = some ((#[.string e.id, .string e.sd, .string e.ty, .bool e.st, .string e.key, .int .i64 e.tm, .slice t.pa e.np t.cp, .slice t.aa e.na t.ca, .string e.val, .slice t.ga e.ng t.cg] : Array Value)[o]?.getD undef) := fun o ho => by
  rw [hw4, World.cell?_alloc_at _ _ _ _ rfl]
  match o, ho with
  | 0, _ => rfl
  | 1, _ => rfl
  | 2, _ => rfl
  | 3, _ => rfl
  | 4, _ => rfl
  | 5, _ => rfl
  | 6, _ => rfl
  | 7, _ => rfl
  | 8, _ => rfl
  | 9, _ => rfl
 have c0 : w4.cell? ⟨w3.heap.size, 0, none⟩ = some (.string e.id) := hc4 0 (by decide)
 have c1 : w4.cell? ⟨w3.heap.size, 1, none⟩ = some (.string e.sd) := hc4 1 (by decide)
 have c2 : w4.cell? ⟨w3.heap.size, 2, none⟩ = some (.string e.ty) := hc4 2 (by decide)
 have c3 : w4.cell? ⟨w3.heap.size, 3, none⟩ = some (.bool e.st) := hc4 3 (by decide)
 have c4 : w4.cell? ⟨w3.heap.size, 4, none⟩ = some (.string e.key) := hc4 4 (by decide)
 have c5 : w4.cell? ⟨w3.heap.size, 5, none⟩ = some (.int .i64 e.tm) := hc4 5 (by decide)
 have c6 : w4.cell? ⟨w3.heap.size, 6, none⟩ = some (.slice t.pa e.np t.cp) := hc4 6 (by decide)
 have c7 : w4.cell? ⟨w3.heap.size, 7, none⟩ = some (.slice t.aa e.na t.ca) := hc4 7 (by decide)
 have c8 : w4.cell? ⟨w3.heap.size, 8, none⟩ = some (.string e.val) := hc4 8 (by decide)
 have c9 : w4.cell? ⟨w3.heap.size, 9, none⟩ = some (.slice t.ga e.ng t.cg) := hc4 9 (by decide)
 have hs3 := hd3.size
 have hk4 : ∀ b, b < wa.heap.size -> w4.heap[b]? = wa.heap[b]? := fun b hb => (hb4.block b (by omega)).trans (hk3 b hb)
 have HQ4 : Hid (QO w4 e t) := qcO.below hQ hb4
 have HD4 : Hid (DwF p w2 w4 bs M (drEq bs M (nxQ M 0))) := hd3.below hb4
 obtain ⟨V, hV⟩ : ∃ V, V = w3.heap.size := ⟨_, rfl⟩
 rw [<- hV] at c0 c1 c2 c3 c4 c5 c6 c7 c8 c9
 go_upto_region 4 with fail
 rw [<- hw4, <- hV]
 clear hw4 hV hc4 hk3 hb12 hQ hd2 hrd
 have hz4 : Hid (∀ o, o < 10 -> ∃ v, w4.cell? ⟨w.heap.size, o, none⟩ = some v) := fun o ho => (hza.out o ho).imp fun v hv => (World.cell?_of_block (a := ⟨w.heap.size, o, none⟩) (hk4 w.heap.size hsa)).trans hv
 have hf4 : Hid (∀ o, w4.frozen? ⟨w.heap.size, o, none⟩ = false) := fun o => (World.frozen?_of_block (a := ⟨w.heap.size, o, none⟩) (hk4 w.heap.size hsa)).trans (hfa.out o)
 clear hza hfa
 have hwlt : w.heap.size < w4.heap.size := by omega
 have hwne : w.heap.size ≠ p := by omega
 have hwlo : w.heap.size < t.lo := by omega
 by_cases h3 : k % 4 = 3
 ·have h3i : (k : Int) % 4 = 3 := by omega
  go_wp2_with fail
  refine (spoilEvent p e t w2 w4 hp2 hlo HD4.out HQ4.out hbd.1 hbd.2.1 hbd.2.2).mono ?_
  rintro x w5 ⟨pa, cp, aa, ca, ga, cg, rfl, hok, x1, x2, x3, hs5, hk5, hd5⟩
  have hev : spE (nxB bs M (drEq bs M (nxQ M 0))) (nxB bs M (nxQ M (drEq bs M (nxQ M 0)))) e = dtE bs n := by unfold dtE; rw [<- HM.out, <- Hk.out, if_pos h3, <- He.out]
  obtain ⟨s, hs⟩ : ∃ s, s = spE (nxB bs M (drEq bs M (nxQ M 0))) (nxB bs M (nxQ M (drEq bs M (nxQ M 0)))) e := ⟨_, rfl⟩
  rw [<- hs] at hok x1 x2 x3 hev ⊢
  have hkw : w5.heap[w.heap.size]? = w4.heap[w.heap.size]? := hk5 w.heap.size hwlt hwne (Or.inl hwlo)
  have HP : Hid (DtPost (dtE bs n) w (.returned (.agg #[.string s.id, .string s.sd, .string s.ty, .bool s.st, .string s.key, .int .i64 s.tm, .slice pa s.np cp, .slice aa s.na ca, .string s.val, .slice ga s.ng cg])) (fil10 w5 w.heap.size (.string s.id) (.string s.sd) (.string s.ty) (.bool s.st) (.string s.key) (.int .i64 s.tm) (.slice pa s.np cp) (.slice aa s.na ca) (.string s.val) (.slice ga s.ng cg))) := by
   have hK := fil10_kb w5 w.heap.size (.string s.id) (.string s.sd) (.string s.ty) (.bool s.st) (.string s.key) (.int .i64 s.tm) (.slice pa s.np cp) (.slice aa s.na ca) (.string s.val) (.slice ga s.ng cg)
   rw [<- hev]
   refine ⟨pa, cp, aa, ca, ga, cg, rfl, ⟨hok.hid, hok.hsd, hok.hty, hok.hkey, hok.hval, hok.hp.kc x1 hK hwlo hwlt, hok.ha.kc x2 hK hwlo hwlt, hok.hg.kc x3 hK hwlo hwlt⟩, ?_⟩
   have hb5 : Below w.heap.size w w5 := blw_dw hw2 hd5.2 (by omega)
   unfold fil10
   iterate 10 (refine Below.setCell ?_ (show _ <= w.heap.size from Nat.le_refl _) _)
   exact hb5
  have hz5 : ∀ o, o < 10 -> ∃ v, w5.cell? ⟨w.heap.size, o, none⟩ = some v := fun o ho => (hz4.out o ho).imp fun v hv => (World.cell?_of_block (a := ⟨w.heap.size, o, none⟩) hkw).trans hv
  have hf5 : ∀ o, w5.frozen? ⟨w.heap.size, o, none⟩ = false := fun o => (World.frozen?_of_block (a := ⟨w.heap.size, o, none⟩) hkw).trans (hf4.out o)
  obtain ⟨v0, y0⟩ := hz5 0 (by decide)
  obtain ⟨v1, y1⟩ := hz5 1 (by decide)
  obtain ⟨v2, y2⟩ := hz5 2 (by decide)
  obtain ⟨v3, y3⟩ := hz5 3 (by decide)
  obtain ⟨v4, y4⟩ := hz5 4 (by decide)
  obtain ⟨v5, y5⟩ := hz5 5 (by decide)
  obtain ⟨v6, y6⟩ := hz5 6 (by decide)
  obtain ⟨v7, y7⟩ := hz5 7 (by decide)
  obtain ⟨v8, y8⟩ := hz5 8 (by decide)
  obtain ⟨v9, y9⟩ := hz5 9 (by decide)
  clear hs hev hok x1 x2 x3 hk5 hd5 hkw hz5 hz4 hf4 HQ4 HD4 c0 c1 c2 c3 c4 c5 c6 c7 c8 c9
  unfold fil10 at HP
  go_wp2_with fail
  refine bodyPost_ret (v := .agg #[.string s.id, .string s.sd, .string s.ty, .bool s.st, .string s.key, .int .i64 s.tm, .slice pa s.np cp, .slice aa s.na ca, .string s.val, .slice ga s.ng cg]) (by simp [results, Tryd.results4, go_sem, y0, y1, y2, y3, y4, y5, y6, y7, y8, y9]) rfl ?_
  exact HP.out
 ·have h3i : ¬ (k : Int) % 4 = 3 := by omega
  have hev : e = dtE bs n := by unfold dtE; rw [<- HM.out, <- Hk.out, if_neg h3, <- He.out]
  have HP : Hid (DtPost (dtE bs n) w (.returned (.agg #[.string e.id, .string e.sd, .string e.ty, .bool e.st, .string e.key, .int .i64 e.tm, .slice t.pa e.np t.cp, .slice t.aa e.na t.ca, .string e.val, .slice t.ga e.ng t.cg])) (fil10 w4 w.heap.size (.string e.id) (.string e.sd) (.string e.ty) (.bool e.st) (.string e.key) (.int .i64 e.tm) (.slice t.pa e.np t.cp) (.slice t.aa e.na t.ca) (.string e.val) (.slice t.ga e.ng t.cg))) := by
   have hK := fil10_kb w4 w.heap.size (.string e.id) (.string e.sd) (.string e.ty) (.bool e.st) (.string e.key) (.int .i64 e.tm) (.slice t.pa e.np t.cp) (.slice t.aa e.na t.ca) (.string e.val) (.slice t.ga e.ng t.cg)
   rw [<- hev]
   have hok := HQ4.out.j.ok
   have hx := HQ4.out.xe w4.heap.size
   refine ⟨t.pa, t.cp, t.aa, t.ca, t.ga, t.cg, rfl, ⟨hok.hid, hok.hsd, hok.hty, hok.hkey, hok.hval, hok.hp.kc hx.1 hK hwlo hwlt, hok.ha.kc hx.2.1 hK hwlo hwlt, hok.hg.kc hx.2.2 hK hwlo hwlt⟩, ?_⟩
   have hb5 : Below w.heap.size w w4 := blw_dw hw2 HD4.out.2 (by omega)
   unfold fil10
   iterate 10 (refine Below.setCell ?_ (show _ <= w.heap.size from Nat.le_refl _) _)
   exact hb5
  have hf5 := hf4.out
  obtain ⟨v0, y0⟩ := hz4.out 0 (by decide)
  obtain ⟨v1, y1⟩ := hz4.out 1 (by decide)
  obtain ⟨v2, y2⟩ := hz4.out 2 (by decide)
  obtain ⟨v3, y3⟩ := hz4.out 3 (by decide)
  obtain ⟨v4, y4⟩ := hz4.out 4 (by decide)
  obtain ⟨v5, y5⟩ := hz4.out 5 (by decide)
  obtain ⟨v6, y6⟩ := hz4.out 6 (by decide)
  obtain ⟨v7, y7⟩ := hz4.out 7 (by decide)
  obtain ⟨v8, y8⟩ := hz4.out 8 (by decide)
  obtain ⟨v9, y9⟩ := hz4.out 9 (by decide)
  clear hev hz4 hf4 HQ4 HD4
  unfold fil10 at HP
  go_wp2_with fail
  refine bodyPost_ret (v := .agg #[.string e.id, .string e.sd, .string e.ty, .bool e.st, .string e.key, .int .i64 e.tm, .slice t.pa e.np t.cp, .slice t.aa e.na t.ca, .string e.val, .slice t.ga e.ng t.cg]) (by simp [results, Tryd.results4, go_sem, y0, y1, y2, y3, y4, y5, y6, y7, y8, y9]) rfl ?_
  exact HP.out
end Go.Proofs.YtihacnhmiopalaaDoor
