/-
  FnExactInsert.
-/
import Derived.Test.YtpdnocfefmobjaaInI
import Derived.Test.YtpdnocfefmobjaaRwM
import Derived.Test.YtpdnocfefmobjaaSz2
import Derived.Test.YtpdnocfefmobjaaToW
import Derived.Test.YtpdnocfefmobjaaEqEv
namespace Go.Proofs.Ytpdnocfefmobjaa
open Go.RowKit

theorem ksum_esum (E : Nat → Ev) : ∀ n, ksum E n = esum E n
  | 0 => rfl
  | n + 1 => by unfold ksum esum Ev.num; rw [ksum_esum E n]
theorem ksum_ext (E : Nat → Ev) (e : Ev) (m : Nat) : ∀ n, n ≤ m → ksum (extE E m e) n = ksum E n
  | 0, _ => rfl
  | n + 1, h => by
    unfold ksum
    rw [ksum_ext E e m n (by omega)]
    have : extE E m e n = E n := if_neg (by omega)
    rw [this]
/-- a copy of the room, at block b. -/
def RmC (w : World) (lo b n : Nat) (E : Nat → Ev) : Prop := (∀ i, i < n → EvNewW w b (i * 10) (E i)) ∧ Free w b (n * 10) ∧ lo ≤ b ∧ b < w.heap.size
/-- a copy of the event. -/
def EvC (w : World) (lo bp ba bg : Nat) (e : Ev) : Prop := EvOk w e (some ⟨bp, 0, none⟩) e.np (some ⟨ba, 0, none⟩) e.na (some ⟨bg, 0, none⟩) e.ng ∧ Wr0 w lo (some ⟨bp, 0, none⟩) e.np ∧ Wr0 w lo (some ⟨ba, 0, none⟩) e.na ∧ Wr0 w lo (some ⟨bg, 0, none⟩) (e.ng * 2)
theorem RmC.slv {w : World} {lo b n : Nat} {E : Nat → Ev} (h : RmC w lo b n E) (hn : n ≤ maxLen) : SlV w (some ⟨b, 0, none⟩) n n E :=
  ⟨Nat.le_refl _, hn, Or.inr ⟨b, 0, rfl, h.2.2.2, fun i hi => by rw [Nat.zero_add]; exact (h.1 i hi).plain.at⟩⟩
/-- a row, and the world in which its making began. -/
def RwP (Q : World → Ev → Ls → Prop) (w5 : World) (K : Nat) (w7 : World) (va : Option Addr) (vc N : Nat) (X : Nat → Ev) (T : Nat → Ls) : Prop := ∃ W : World, Below w5.heap.size w5 W ∧ W.heap.size = K ∧ RowV Q w7 W.heap.size (.slice va N vc) N X T ∧ Below W.heap.size W w7
theorem rwA {Q : World → Ev → Ls → Prop} (c : QC Q) (t : TypeId) {w2 w5 w7 : World} {K vc N : Nat} {va : Option Addr} {X : Nat → Ev} {T : Nat → Ls} (h0 : Below w2.heap.size w2 w5) (hp : Hid (RwP Q w5 K w7 va vc N X T)) : ∃ O va' vc', (Value.pointer (some ⟨w7.heap.size, 0, none⟩) : Value) = .pointer (some ⟨O, 0, none⟩) ∧ Hid (SlV (w7.alloc (.cells #[.slice va N vc] t)) va' N vc' X) ∧ (w7.alloc (.cells #[.slice va N vc] t)).cell? ⟨O, 0, none⟩ = some (.slice va' N vc') ∧ O < (w7.alloc (.cells #[.slice va N vc] t)).heap.size ∧ Below w2.heap.size w2 (w7.alloc (.cells #[.slice va N vc] t)) := by
  obtain ⟨W, h1', _, hV, h2⟩ := hp
  have h1 := h0.trans (h1'.mono h0.size)
  obtain ⟨va', vc', q, hsl⟩ := hV.slv c
  injection q with q1 q2 q3
  subst q1 q3
  have h7 := h1.trans (h2.mono h1.size)
  exact ⟨_, va, vc, rfl, hsl.below ((Below.refl _ _).alloc (Nat.le_refl _) _), World.cell?_alloc_at _ _ _ _ rfl, by simp, h7.alloc h7.size _⟩
theorem rwB {Q : World → Ev → Ls → Prop} (c : QC Q) (qs : ∀ {w : World} {e : Ev} {t : Ls} {C j : Nat} {x : Value}, Q w e t → (C < t.lo ∨ t.hi ≤ C) → Q (w.setCell ⟨C, j, none⟩ x) e t) {w2 w5 w7 : World} {K O1 vc N : Nat} {va : Option Addr} {X : Nat → Ev} {T : Nat → Ls} {u : Value} (h0 : Below w2.heap.size w2 w5) (hp : Hid (RwP Q w5 K w7 va vc N X T)) (hO1 : w2.heap.size ≤ O1) (hO2 : O1 < K) (hu : w7.cell? ⟨O1, 0, none⟩ = some u) : ∃ O va' vc', (Value.pointer (some ⟨O1, 0, none⟩) : Value) = .pointer (some ⟨O, 0, none⟩) ∧ Hid (SlV (w7.setCell ⟨O1, 0, none⟩ (.slice va N vc)) va' N vc' X) ∧ (w7.setCell ⟨O1, 0, none⟩ (.slice va N vc)).cell? ⟨O, 0, none⟩ = some (.slice va' N vc') ∧ O < (w7.setCell ⟨O1, 0, none⟩ (.slice va N vc)).heap.size ∧ Below w2.heap.size w2 (w7.setCell ⟨O1, 0, none⟩ (.slice va N vc)) := by
  obtain ⟨W, h1', hK, hV, h2⟩ := hp
  have h1 := h0.trans (h1'.mono h0.size)
  rw [← hK] at hO2
  have hV2 := hV.setB (C := O1) (j := 0) (x := .slice va N vc) qs (fun g hg => by have := hV.gt g hg; omega) (fun i hi => Or.inl (by have := hV.low i hi; omega))
  obtain ⟨va', vc', q, hsl⟩ := hV2.slv c
  injection q with q1 q2 q3
  subst q1 q3
  have h7 := h1.trans (h2.mono h1.size)
  have hs7 := h2.size
  exact ⟨O1, va, vc, rfl, hsl, set_same ⟨_, hu⟩, by simp [World.setCell]; omega, h7.setCell (by exact hO1) _⟩

set_option maxRecDepth 100000 in
set_option maxHeartbeats 1000000 in
theorem markEvK (e : Ev) (k0 lo hi : Nat) {pa aa ga : Option Addr} {cp ca cg : Nat} (w : World) (hh : hi ≤ w.heap.size) (hp : Wr w lo hi pa e.np) (ha : Wr w lo hi aa e.na) (hg : Wr w lo hi ga (e.ng * 2)) (hk : k0 + (e.np + e.na + e.ng * 2) ≤ 100000000) :
    Calls Try.prog 13 #[e.val' pa cp aa ca ga cg, .int .i64 (k0 : Int)] w fun x w' => x = .returned (.int .i64 ((k0 + e.np + e.na + e.ng * 2 : Nat) : Int)) ∧ Mkd lo hi w w' := by
  obtain ⟨W0, hW0⟩ : ∃ W0, W0 = w.alloc (.cells #[.string e.id, .string e.sd, .string e.ty, .bool e.st, .string e.key, .int .i64 e.tm, .slice pa e.np cp, .slice aa e.na ca, .string e.val, .slice ga e.ng cg] 39) := ⟨_, rfl⟩
  have hm0 : Mkd lo hi w W0 := by rw [hW0]; exact (Mkd.refl lo hi w).alloc _
  have HB : Hid (∀ W, Mkd lo hi W0 W → ∀ o, W.cell? ⟨w.heap.size, o, none⟩ = (#[.string e.id, .string e.sd, .string e.ty, .bool e.st, .string e.key, .int .i64 e.tm, .slice pa e.np cp, .slice aa e.na ca, .string e.val, .slice ga e.ng cg] : Array Value)[o]?) := fun W hW o => by
    rw [hW.cell (by rw [hW0]; simp) (Or.inr hh), hW0]
    exact World.cell?_alloc_at _ _ _ _ rfl
  have H1 : Hid (∀ W, Mkd lo hi W0 W → Calls Try.prog 30 #[.slice pa e.np cp, .int .i64 (k0 : Int)] W fun x w' => x = .returned (.int .i64 ((k0 + e.np : Nat) : Int)) ∧ Mkd lo hi W0 w') := fun W hW => by
    refine (markSw_sl (k0 := k0) W (by omega) (by omega) (hp.mkd (hm0.trans hW))).mono ?_
    rintro x w' ⟨rfl, hm⟩
    exact ⟨rfl, hW.trans hm⟩
  have H2 : Hid (∀ W, Mkd lo hi W0 W → Calls Try.prog 30 #[.slice aa e.na ca, .int .i64 ((k0 + e.np : Nat) : Int)] W fun x w' => x = .returned (.int .i64 ((k0 + e.np + e.na : Nat) : Int)) ∧ Mkd lo hi W0 w') := fun W hW => by
    refine (markSw_sl (k0 := k0 + e.np) W (by omega) (by omega) (ha.mkd (hm0.trans hW))).mono ?_
    rintro x w' ⟨rfl, hm⟩
    exact ⟨rfl, hW.trans hm⟩
  have H3 : Hid (∀ W, Mkd lo hi W0 W → Calls Try.prog 31 #[.slice ga e.ng cg, .int .i64 ((k0 + e.np + e.na : Nat) : Int)] W fun x w' => x = .returned (.int .i64 ((k0 + e.np + e.na + e.ng * 2 : Nat) : Int)) ∧ Mkd lo hi W0 w') := fun W hW => by
    refine (markGw_sl (k0 := k0 + e.np + e.na) W (by omega) (by omega) (hg.mkd (hm0.trans hW))).mono ?_
    rintro x w' ⟨rfl, hm⟩
    exact ⟨rfl, hW.trans hm⟩
  generalize (k0 + e.np : Nat) = k1 at *
  generalize (k1 + e.na : Nat) = k2 at *
  generalize (k2 + e.ng * 2 : Nat) = k3 at *
  go_enter Try.func13, Try.ntmps13
  go_wp2_with fail
  have hW0' : w.alloc (.cells #[.string e.id, .string e.sd, .string e.ty, .bool e.st, .string e.key, .int .i64 e.tm, .slice pa e.np cp, .slice aa e.na ca, .string e.val, .slice ga e.ng cg] 39) = W0 := hW0.symm
  rw [hW0']
  clear hW0' hW0
  refine (H1.out _ (Mkd.refl _ _ _)).mono ?_
  rintro x w1 ⟨rfl, hm1⟩
  have hc1 := HB.out _ hm1
  go_wp2_with fail
  refine (H2.out _ hm1).mono ?_
  rintro x w2 ⟨rfl, hm2⟩
  clear hc1
  have hc2 := HB.out _ hm2
  go_wp2_with fail
  refine (H3.out _ hm2).mono ?_
  rintro x w3 ⟨rfl, hm3⟩
  go_wp2
  go_ret
  exact ⟨rfl, hm0.trans hm3⟩

theorem Wr0.wrM {w : World} {lo hi n : Nat} {a : Option Addr} (h : Wr0 w lo a n) (hh : w.heap.size ≤ hi) : Wr w lo hi a n :=
  h.imp id fun ⟨b, off, e, q1, q3, hc⟩ => ⟨b, off, e, q1, by omega, q3, hc⟩

set_option maxRecDepth 100000 in
set_option maxHeartbeats 8000000 in
theorem lawIn_any {a : Option Addr} {n cap : Nat} {E : Nat → Ev} (e : Ev) {pa aa ga : Option Addr} {cp ca cg : Nat} (w : World) (hr : n * 168 ≤ 140737488351232) (hR : ∀ i, i < n → EvReach (E i)) (hRe : EvReach e) (h : SlV w a n cap E) (he : EvOk w e pa cp aa ca ga cg) :
    Calls Try.prog 3 #[.agg #[.slice a n cap], .agg #[.string e.id, .string e.sd, .string e.ty, .bool e.st, .string e.key, .int .i64 e.tm, .slice pa e.np cp, .slice aa e.na ca, .string e.val, .slice ga e.ng cg]] w fun x w' => x = .returned (.bool true) ∧ Below w.heap.size w w' := by
  have hnm : n ≤ maxLen := Nat.le_trans h.le h.max
  obtain ⟨wa, hwa⟩ : ∃ wa, wa = (w.alloc (.cells #[.slice a n cap] 24)).alloc (.cells #[.string e.id, .string e.sd, .string e.ty, .bool e.st, .string e.key, .int .i64 e.tm, .slice pa e.np cp, .slice aa e.na ca, .string e.val, .slice ga e.ng cg] 28) := ⟨_, rfl⟩
  have hba : Below w.heap.size w wa := by rw [hwa]; exact ((Below.refl _ _).alloc (Nat.le_refl _) _).alloc (by simp) _
  have hsa : wa.heap.size = w.heap.size + 2 := by rw [hwa]; simp
  have hrf : Below wa.heap.size wa wa := Below.refl _ _
  have hz0 : w.heap.size < wa.heap.size := by omega
  have hz1 : w.heap.size + 1 < wa.heap.size := by omega
  have hca : Hid (∀ W, Below wa.heap.size wa W → ∀ i, W.cell? ⟨w.heap.size + 1, i, none⟩ = (#[.string e.id, .string e.sd, .string e.ty, .bool e.st, .string e.key, .int .i64 e.tm, .slice pa e.np cp, .slice aa e.na ca, .string e.val, .slice ga e.ng cg] : Array Value)[i]?) := fun W hW i => (hW.cell (by exact hz1)).trans (by rw [hwa]; exact World.cell?_alloc_at _ _ _ _ (by simp))
  have hcr : Hid (∀ W, Below wa.heap.size wa W → W.cell? ⟨w.heap.size, 0, none⟩ = some (.slice a n cap)) := fun W hW => (hW.cell (by exact hz0)).trans (by rw [hwa, World.cell?_alloc_past _ _ _ (by simp)]; exact World.cell?_alloc_at _ _ _ _ rfl)
  have r0 : ((w.alloc (.cells #[.slice a n cap] 24)).alloc (.cells #[.string e.id, .string e.sd, .string e.ty, .bool e.st, .string e.key, .int .i64 e.tm, .slice pa e.np cp, .slice aa e.na ca, .string e.val, .slice ga e.ng cg] 28)).cell? ⟨w.heap.size, 0, none⟩ = some (.slice a n cap) := by rw [← hwa]; exact hcr.out _ hrf
  have ha : SlV wa a n cap E := h.below hba
  have heA := he.below hba
  have HTo : Hid (∀ V W, Below wa.heap.size wa V → Below V.heap.size V W → Calls Try.prog 7 #[.agg #[.slice a n cap]] W fun x w' => ∃ b, x = .returned (.agg #[.slice (some ⟨b, 0, none⟩) n n]) ∧ Hid (RmC w' V.heap.size b n E) ∧ Below V.heap.size V w' ∧ Below W.heap.size W w') := fun V W hV hW => (toRw_sl W hr hR (ha.below (hV.trans (hW.mono hV.size)))).mono fun _ _ ⟨b, h1, h2, h3, h4, h5, h6⟩ => ⟨b, h1, ⟨h2, h3, Nat.le_trans hW.size h5, h6⟩, hW.trans (h4.mono hW.size), h4⟩
  have HTv : Hid (∀ V W, Below wa.heap.size wa V → Below V.heap.size V W → Calls Try.prog 8 #[.agg #[.string e.id, .string e.sd, .string e.ty, .bool e.st, .string e.key, .int .i64 e.tm, .slice pa e.np cp, .slice aa e.na ca, .string e.val, .slice ga e.ng cg]] W fun x w' => ∃ bp ba bg : Nat, x = .returned (.agg #[.string e.id, .string e.sd, .string e.ty, .bool e.st, .string e.key, .int .i64 e.tm, .slice (some ⟨bp, 0, none⟩) e.np e.np, .slice (some ⟨ba, 0, none⟩) e.na e.na, .string e.val, .slice (some ⟨bg, 0, none⟩) e.ng e.ng]) ∧ Hid (EvC w' V.heap.size bp ba bg e) ∧ Below V.heap.size V w' ∧ Below W.heap.size W w') := fun V W hV hW => by
    have heW := heA.below (hV.trans (hW.mono hV.size))
    refine (toEvw_fresh e.id e.sd e.ty e.key e.val e.st e.tm pa e.np cp aa e.na ca ga e.ng cg e.Pv e.Av e.M e.L W hRe.1 hRe.2.1 hRe.2.2 heW.hp heW.ha heW.hg).mono ?_
    rintro x w' ⟨bp, ba, bg, rfl, h1, h2, h3, hb, _, _, _, q1, q2, q3⟩
    exact ⟨bp, ba, bg, rfl, ⟨⟨he.hid, he.hsd, he.hty, he.hkey, he.hval, h1, h2, h3⟩, q1.low hW.size, q2.low hW.size, q3.low hW.size⟩, hW.trans (hb.mono hW.size), hb⟩
  have HSr : Hid (Calls Try.prog 4 #[.agg #[.slice a n cap], .int .i64 1048576] wa fun x w' => ∃ r : Int, x = .returned (.int .i64 r) ∧ -1 ≤ r ∧ r ≤ 1048576 ∧ Hid (r < 0 ∨ r + n + nsum E n ≤ 1048576) ∧ Below wa.heap.size wa w') := szRq_sl _ _ (by decide) (by decide) ha
  have HSv : Hid (∀ W (r : Int), Below wa.heap.size wa W → 0 ≤ r → r ≤ 1048576 → Calls Try.prog 5 #[.agg #[.string e.id, .string e.sd, .string e.ty, .bool e.st, .string e.key, .int .i64 e.tm, .slice pa e.np cp, .slice aa e.na ca, .string e.val, .slice ga e.ng cg], .int .i64 r] W fun x w' => ∃ r2 : Int, x = .returned (.int .i64 r2) ∧ -1 ≤ r2 ∧ r2 ≤ r ∧ Hid (r2 < 0 ∨ r2 + e.np + e.na + e.ng ≤ r) ∧ Below wa.heap.size wa w') := fun W r hW h1 h2 => by
    have heW := heA.below hW
    exact (szEvq_any e.id e.sd e.ty e.key e.val e.st e.tm pa e.np cp aa e.na ca ga e.ng cg e.Pv e.Av e.M e.L W heW.hid heW.hsd heW.hty heW.hkey heW.hval heW.hp heW.ha heW.hg r h1 h2).mono fun _ _ ⟨r2, q1, q2, q3, q4, q5⟩ => ⟨r2, q1, q2, q3, q4, hW.trans (q5.mono hW.size)⟩
  have hN1 : insN E n e ≤ n + 1 := by unfold insN; split <;> omega
  have HIN : ∀ (W4 W5 W : World) (lo b lo2 bp ba bg : Nat), RmC W4 lo b n E → Below W4.heap.size W4 W5 → EvC W5 lo2 bp ba bg e → Below W5.heap.size W5 W → SlV W (some ⟨b, 0, none⟩) n n E ∧ (0 < n → b < W.heap.size) ∧ (∀ i, i < n → EvAt W b (0 + i * 10) (E i)) ∧ EvOk W e (some ⟨bp, 0, none⟩) e.np (some ⟨ba, 0, none⟩) e.na (some ⟨bg, 0, none⟩) e.ng := fun W4 W5 W lo b lo2 bp ba bg h4 h45 h5 h5W => by
    have h4W := h45.trans (h5W.mono h45.size)
    have hs := (h4.slv hnm).below h4W
    have hbl : b < W.heap.size := Nat.lt_of_lt_of_le h4.2.2.2 h4W.size
    exact ⟨hs, fun _ => hbl, fun i hi => by rw [Nat.zero_add]; exact ((h4.1 i hi).plain.at).below h4W h4.2.2.2, h5.1.below h5W⟩
  have HSp : Hid (∀ (W4 W5 W : World) (lo b lo2 bp ba bg : Nat), Hid (RmC W4 lo b n E) → Below W4.heap.size W4 W5 → Hid (EvC W5 lo2 bp ba bg e) → Below W5.heap.size W5 W → Calls Try.prog 6 #[.agg #[.slice (some ⟨b, 0, none⟩) n n], .agg #[.string e.id, .string e.sd, .string e.ty, .bool e.st, .string e.key, .int .i64 e.tm, .slice (some ⟨bp, 0, none⟩) e.np e.np, .slice (some ⟨ba, 0, none⟩) e.na e.na, .string e.val, .slice (some ⟨bg, 0, none⟩) e.ng e.ng]] W fun x w' => ∃ va vc T, x = .returned (.tuple #[.agg #[.slice va (insN E n e) vc], .int .i64 (insCode E n e)]) ∧ Hid (RwP QJ W5 W.heap.size w' va vc (insN E n e) (extE E n e) T) ∧ Below W5.heap.size W5 w' ∧ Below W.heap.size W w') := fun W4 W5 W lo b lo2 bp ba bg h4 h45 h5 h5W => by
    obtain ⟨q1, q2, q3, q4⟩ := HIN W4 W5 W lo b lo2 bp ba bg h4.out h45 h5.out h5W
    refine (inS_any b 0 n n E e W hr hR hRe q1 q2 q3 q4).mono ?_
    rintro x w' ⟨v, T, rfl, hV, hb⟩
    obtain ⟨va, vc, rfl, -⟩ := hV.out.slv qcJ
    exact ⟨va, vc, T, rfl, ⟨W, h5W, rfl, hV.out, hb⟩, h5W.trans (hb.mono h5W.size), hb⟩
  have HIm : Hid (∀ (W4 W5 W : World) (lo b lo2 bp ba bg : Nat), Hid (RmC W4 lo b n E) → Below W4.heap.size W4 W5 → Hid (EvC W5 lo2 bp ba bg e) → Below W5.heap.size W5 W → Calls Try.prog 9 #[.agg #[.slice (some ⟨b, 0, none⟩) n n], .agg #[.string e.id, .string e.sd, .string e.ty, .bool e.st, .string e.key, .int .i64 e.tm, .slice (some ⟨bp, 0, none⟩) e.np e.np, .slice (some ⟨ba, 0, none⟩) e.na e.na, .string e.val, .slice (some ⟨bg, 0, none⟩) e.ng e.ng]] W fun x w' => ∃ va vc T, x = .returned (.tuple #[.agg #[.slice va (insN E n e) vc], .int .i64 (insCode E n e)]) ∧ Hid (RwP QI W5 W.heap.size w' va vc (insN E n e) (extE E n e) T) ∧ Below W5.heap.size W5 w' ∧ Below W.heap.size W w') := fun W4 W5 W lo b lo2 bp ba bg h4 h45 h5 h5W => by
    obtain ⟨q1, q2, q3, q4⟩ := HIN W4 W5 W lo b lo2 bp ba bg h4.out h45 h5.out h5W
    refine (inI_any b 0 n n E e W hr hR hRe q1 q2 q3 q4).mono ?_
    rintro x w' ⟨v, T, rfl, hV, hb⟩
    obtain ⟨va, vc, rfl, -⟩ := hV.out.slv qcI
    exact ⟨va, vc, T, rfl, ⟨W, h5W, rfl, hV.out, hb⟩, h5W.trans (hb.mono h5W.size), hb⟩
  have HEr : Hid (∀ (V U W : World) (lo b lo2 b2 : Nat), Hid (RmC V lo b n E) → Below V.heap.size V U → Hid (RmC U lo2 b2 n E) → Below U.heap.size U W → Calls Try.prog 10 #[.agg #[.slice (some ⟨b, 0, none⟩) n n], .agg #[.slice (some ⟨b2, 0, none⟩) n n]] W fun x w' => x = .returned (.bool true) ∧ Below U.heap.size U w') := fun V U W lo b lo2 b2 h1 hVU h2 hUW =>
    (eqR_sl W ((h1.out.slv hnm).below (hVU.trans (hUW.mono hVU.size))) ((h2.out.slv hnm).below hUW)).mono fun _ _ ⟨q1, q2⟩ => ⟨q1, hUW.trans (q2.mono hUW.size)⟩
  have HEv : Hid (∀ (V U W : World) (lo bp ba bg lo2 bp2 ba2 bg2 : Nat), Hid (EvC V lo bp ba bg e) → Below V.heap.size V U → Hid (EvC U lo2 bp2 ba2 bg2 e) → Below U.heap.size U W → Calls Try.prog 11 #[.agg #[.string e.id, .string e.sd, .string e.ty, .bool e.st, .string e.key, .int .i64 e.tm, .slice (some ⟨bp, 0, none⟩) e.np e.np, .slice (some ⟨ba, 0, none⟩) e.na e.na, .string e.val, .slice (some ⟨bg, 0, none⟩) e.ng e.ng], .agg #[.string e.id, .string e.sd, .string e.ty, .bool e.st, .string e.key, .int .i64 e.tm, .slice (some ⟨bp2, 0, none⟩) e.np e.np, .slice (some ⟨ba2, 0, none⟩) e.na e.na, .string e.val, .slice (some ⟨bg2, 0, none⟩) e.ng e.ng]] W fun x w' => x = .returned (.bool true) ∧ Below U.heap.size U w') := fun V U W lo bp ba bg lo2 bp2 ba2 bg2 h1 hVU h2 hUW => by
    have k1 := h1.out.1.below (hVU.trans (hUW.mono hVU.size))
    have k2 := h2.out.1.below hUW
    exact (eqEv_any e.id e.sd e.ty e.key e.val e.st e.tm _ e.np _ _ e.na _ _ e.ng _ _ _ _ _ _ _ e.Pv e.Av e.M e.L W k1.hp k1.ha k1.hg k2.hp k2.ha k2.hg).mono fun _ _ ⟨q1, q2⟩ => ⟨q1, hUW.trans (q2.mono hUW.size)⟩
  have HKs : Hid (ksum (extE E n e) (insN E n e) ≤ ksum E n + (7 + e.np + e.na + e.ng * 2)) := by
    unfold Hid insN
    split
    · rw [ksum, ksum_ext E e n n (Nat.le_refl _)]
      have : extE E n e n = e := if_pos rfl
      rw [this]
      unfold Ev.num
      omega
    · rw [ksum_ext E e n n (Nat.le_refl _)]; omega
  have HEn : Hid (ksum E n = esum E n ∧ esum E n ≤ 7 * n + 2 * nsum E n) := ⟨ksum_esum E n, esum_le E n⟩
  have hNm : Hid (insN E n e ≤ n + 1) := hN1
  clear h he ha heA HIN hN1
  generalize hNN : insN E n e = N at *
  generalize insCode E n e = cd at *
  generalize extE E n e = X at *
  clear hNN
  go_enter Try.func3, Try.ntmps3
  go_wp2_with fail
  rw [← hwa]
  clear hwa r0
  refine HSr.out.mono ?_
  rintro x w1 ⟨r, rfl, hr0, hr1, hq1, hb1⟩
  by_cases hneg : r < 0
  · go_wp2
    go_ret
    exact ⟨rfl, hba.trans (hb1.mono hba.size)⟩
  have hc1 := hca.out _ hb1
  go_wp2_with fail
  refine (HSv.out _ _ hb1 (by omega) hr1).mono ?_
  rintro x w2 ⟨r2, rfl, hr2, hr3, hq2, hb2⟩
  clear hc1
  by_cases hneg2 : r2 < 0
  · go_wp2
    go_ret
    exact ⟨rfl, hba.trans (hb2.mono hba.size)⟩
  have Hbd : Hid (1 + ksum X N ≤ 100000000 ∧ 1 + esum E n + (e.np + e.na + e.ng * 2) ≤ 100000000 ∧ n ≤ 1048576) := by
    have q1 := hq1.out
    have q2 := hq2.out
    have q3 := HKs.out
    have q4 := HEn.out
    exact ⟨by omega, by omega, by omega⟩
  clear HSr HSv hr0 hr1 hr2 hr3 hb1 hq1 hq2 HKs HEn
  have y0 := hcr.out _ hb2
  have z0 : w2.cell? ⟨w.heap.size + 1, 0, none⟩ = some (.string e.id) := hca.out _ hb2 0
  have z1 : w2.cell? ⟨w.heap.size + 1, 1, none⟩ = some (.string e.sd) := hca.out _ hb2 1
  have z2 : w2.cell? ⟨w.heap.size + 1, 2, none⟩ = some (.string e.ty) := hca.out _ hb2 2
  have z3 : w2.cell? ⟨w.heap.size + 1, 3, none⟩ = some (.bool e.st) := hca.out _ hb2 3
  have z4 : w2.cell? ⟨w.heap.size + 1, 4, none⟩ = some (.string e.key) := hca.out _ hb2 4
  have z5 : w2.cell? ⟨w.heap.size + 1, 5, none⟩ = some (.int .i64 e.tm) := hca.out _ hb2 5
  have z6 : w2.cell? ⟨w.heap.size + 1, 6, none⟩ = some (.slice pa e.np cp) := hca.out _ hb2 6
  have z7 : w2.cell? ⟨w.heap.size + 1, 7, none⟩ = some (.slice aa e.na ca) := hca.out _ hb2 7
  have z8 : w2.cell? ⟨w.heap.size + 1, 8, none⟩ = some (.string e.val) := hca.out _ hb2 8
  have z9 : w2.cell? ⟨w.heap.size + 1, 9, none⟩ = some (.slice ga e.ng cg) := hca.out _ hb2 9
  have hl2 : w.heap.size < w2.heap.size := Nat.lt_of_lt_of_le hz0 hb2.size
  have hf2 : Below w2.heap.size w2 w2 := Below.refl _ _
  go_wp2_with fail
  go_cut [6, 7] (fun u v wx => ∃ O va vc, u = .pointer (some ⟨O, 0, none⟩) ∧ v = .int .i64 cd ∧ Hid (SlV wx va N vc X) ∧ wx.cell? ⟨O, 0, none⟩ = some (.slice va N vc) ∧ O < wx.heap.size ∧ Below w2.heap.size w2 wx)
  case first =>
    go_region_held3 (fun W => W.cell? ⟨w.heap.size, 0, none⟩ = some (.slice a n cap) ∧ W.cell? ⟨w.heap.size + 1, 0, none⟩ = some (.string e.id) ∧ W.cell? ⟨w.heap.size + 1, 1, none⟩ = some (.string e.sd) ∧ W.cell? ⟨w.heap.size + 1, 2, none⟩ = some (.string e.ty) ∧ W.cell? ⟨w.heap.size + 1, 3, none⟩ = some (.bool e.st) ∧ W.cell? ⟨w.heap.size + 1, 4, none⟩ = some (.string e.key) ∧ W.cell? ⟨w.heap.size + 1, 5, none⟩ = some (.int .i64 e.tm) ∧ W.cell? ⟨w.heap.size + 1, 6, none⟩ = some (.slice pa e.np cp) ∧ W.cell? ⟨w.heap.size + 1, 7, none⟩ = some (.slice aa e.na ca) ∧ W.cell? ⟨w.heap.size + 1, 8, none⟩ = some (.string e.val) ∧ W.cell? ⟨w.heap.size + 1, 9, none⟩ = some (.slice ga e.ng cg)) (first | (with_reducible exact ⟨y0, z0, z1, z2, z3, z4, z5, z6, z7, z8, z9⟩) | (with_reducible exact ⟨(far_block (Ne.symm n4a)).trans q7y, (far_block (Ne.symm n4b)).trans q7z0, (far_block (Ne.symm n4b)).trans q7z1, (far_block (Ne.symm n4b)).trans q7z2, (far_block (Ne.symm n4b)).trans q7z3, (far_block (Ne.symm n4b)).trans q7z4, (far_block (Ne.symm n4b)).trans q7z5, (far_block (Ne.symm n4b)).trans q7z6, (far_block (Ne.symm n4b)).trans q7z7, (far_block (Ne.symm n4b)).trans q7z8, (far_block (Ne.symm n4b)).trans q7z9⟩) | (with_reducible exact ⟨(far_block (Ne.symm n5a)).trans q7y, (far_block (Ne.symm n5b)).trans q7z0, (far_block (Ne.symm n5b)).trans q7z1, (far_block (Ne.symm n5b)).trans q7z2, (far_block (Ne.symm n5b)).trans q7z3, (far_block (Ne.symm n5b)).trans q7z4, (far_block (Ne.symm n5b)).trans q7z5, (far_block (Ne.symm n5b)).trans q7z6, (far_block (Ne.symm n5b)).trans q7z7, (far_block (Ne.symm n5b)).trans q7z8, (far_block (Ne.symm n5b)).trans q7z9⟩) | (with_reducible exact ⟨(far_block (Ne.symm n7a)).trans q7y, (far_block (Ne.symm n7b)).trans q7z0, (far_block (Ne.symm n7b)).trans q7z1, (far_block (Ne.symm n7b)).trans q7z2, (far_block (Ne.symm n7b)).trans q7z3, (far_block (Ne.symm n7b)).trans q7z4, (far_block (Ne.symm n7b)).trans q7z5, (far_block (Ne.symm n7b)).trans q7z6, (far_block (Ne.symm n7b)).trans q7z7, (far_block (Ne.symm n7b)).trans q7z8, (far_block (Ne.symm n7b)).trans q7z9⟩) | go_keep)
      (first
        | (go_at_call 7; refine (HTo.out w2 _ hb2 (by repeat first | with_reducible exact Below.refl _ _ | with_reducible refine Below.drew ?_ | with_reducible refine Below.alloc ?_ (by simp) _)).mono ?_; rintro x w4 ⟨b4, rfl, hv4, hb24, hW4⟩; have hb4 := hb2.trans (hb24.mono hb2.size); have q4y := hcr.out _ hb4; have q4z0 : w4.cell? ⟨w.heap.size + 1, 0, none⟩ = some (.string e.id) := hca.out _ hb4 0; have q4z1 : w4.cell? ⟨w.heap.size + 1, 1, none⟩ = some (.string e.sd) := hca.out _ hb4 1; have q4z2 : w4.cell? ⟨w.heap.size + 1, 2, none⟩ = some (.string e.ty) := hca.out _ hb4 2; have q4z3 : w4.cell? ⟨w.heap.size + 1, 3, none⟩ = some (.bool e.st) := hca.out _ hb4 3; have q4z4 : w4.cell? ⟨w.heap.size + 1, 4, none⟩ = some (.string e.key) := hca.out _ hb4 4; have q4z5 : w4.cell? ⟨w.heap.size + 1, 5, none⟩ = some (.int .i64 e.tm) := hca.out _ hb4 5; have q4z6 : w4.cell? ⟨w.heap.size + 1, 6, none⟩ = some (.slice pa e.np cp) := hca.out _ hb4 6; have q4z7 : w4.cell? ⟨w.heap.size + 1, 7, none⟩ = some (.slice aa e.na ca) := hca.out _ hb4 7; have q4z8 : w4.cell? ⟨w.heap.size + 1, 8, none⟩ = some (.string e.val) := hca.out _ hb4 8; have q4z9 : w4.cell? ⟨w.heap.size + 1, 9, none⟩ = some (.slice ga e.ng cg) := hca.out _ hb4 9; have n4a : w.heap.size ≠ w2.heap.size := (by have := hb2.size; omega); have n4b : w.heap.size + 1 ≠ w2.heap.size := (by have := hb2.size; omega); (first | (have l4 : w2.heap.size < w4.heap.size := (by have := hW4.size; simp at this; omega); have f4 : w4.cell? ⟨w2.heap.size, 0, none⟩ = some (Value.slice none 0 0) := (hW4.cell (by simp)).trans (World.cell?_alloc_at _ _ _ _ rfl); have g4 : w4.frozen? ⟨w2.heap.size, 0, none⟩ = false := (hW4.frozen (by simp)).trans (World.frozen?_alloc_at _ _ _ _ rfl)) | skip); clear hW4)
        | (go_at_call 8; refine (HTv.out w4 _ hb4 (by repeat first | with_reducible exact Below.refl _ _ | with_reducible refine Below.drew ?_ | with_reducible refine Below.alloc ?_ (by simp) _)).mono ?_; rintro x w5 ⟨bp, ba, bg, rfl, hv5, hb45, hW5⟩; have hb5 := hb4.trans (hb45.mono hb4.size); have q5y := hcr.out _ hb5; have q5z0 : w5.cell? ⟨w.heap.size + 1, 0, none⟩ = some (.string e.id) := hca.out _ hb5 0; have q5z1 : w5.cell? ⟨w.heap.size + 1, 1, none⟩ = some (.string e.sd) := hca.out _ hb5 1; have q5z2 : w5.cell? ⟨w.heap.size + 1, 2, none⟩ = some (.string e.ty) := hca.out _ hb5 2; have q5z3 : w5.cell? ⟨w.heap.size + 1, 3, none⟩ = some (.bool e.st) := hca.out _ hb5 3; have q5z4 : w5.cell? ⟨w.heap.size + 1, 4, none⟩ = some (.string e.key) := hca.out _ hb5 4; have q5z5 : w5.cell? ⟨w.heap.size + 1, 5, none⟩ = some (.int .i64 e.tm) := hca.out _ hb5 5; have q5z6 : w5.cell? ⟨w.heap.size + 1, 6, none⟩ = some (.slice pa e.np cp) := hca.out _ hb5 6; have q5z7 : w5.cell? ⟨w.heap.size + 1, 7, none⟩ = some (.slice aa e.na ca) := hca.out _ hb5 7; have q5z8 : w5.cell? ⟨w.heap.size + 1, 8, none⟩ = some (.string e.val) := hca.out _ hb5 8; have q5z9 : w5.cell? ⟨w.heap.size + 1, 9, none⟩ = some (.slice ga e.ng cg) := hca.out _ hb5 9; have n5a : w.heap.size ≠ w4.heap.size := (by have := hb4.size; omega); have n5b : w.heap.size + 1 ≠ w4.heap.size := (by have := hb4.size; omega); (first | (have l5 : w2.heap.size < w5.heap.size := Nat.lt_of_lt_of_le l4 hb45.size; have f5 : w5.cell? ⟨w2.heap.size, 0, none⟩ = some (Value.slice none 0 0) := (hb45.cell (by exact l4)).trans f4; have g5 : w5.frozen? ⟨w2.heap.size, 0, none⟩ = false := (hb45.frozen (by exact l4)).trans g4; clear f4 g4) | (have l5 : w4.heap.size < w5.heap.size := (by have := hW5.size; simp at this; omega); have f5 : w5.cell? ⟨w4.heap.size, 0, none⟩ = some (Value.slice none 0 0) := (hW5.cell (by simp)).trans (World.cell?_alloc_at _ _ _ _ rfl); have g5 : w5.frozen? ⟨w4.heap.size, 0, none⟩ = false := (hW5.frozen (by simp)).trans (World.frozen?_alloc_at _ _ _ _ rfl)) | skip); clear hW5)
        | (go_at_call 6; refine (HSp.out w4 w5 _ _ b4 _ bp ba bg hv4 hb45 hv5 (by repeat first | with_reducible exact Below.refl _ _ | with_reducible refine Below.drew ?_ | with_reducible refine Below.alloc ?_ (by simp) _)).mono ?_; rintro x w7 ⟨va, vc, T, rfl, hv7, hb57, hW7⟩; have hb7 := hb5.trans (hb57.mono hb5.size); have q7y := hcr.out _ hb7; have q7z0 : w7.cell? ⟨w.heap.size + 1, 0, none⟩ = some (.string e.id) := hca.out _ hb7 0; have q7z1 : w7.cell? ⟨w.heap.size + 1, 1, none⟩ = some (.string e.sd) := hca.out _ hb7 1; have q7z2 : w7.cell? ⟨w.heap.size + 1, 2, none⟩ = some (.string e.ty) := hca.out _ hb7 2; have q7z3 : w7.cell? ⟨w.heap.size + 1, 3, none⟩ = some (.bool e.st) := hca.out _ hb7 3; have q7z4 : w7.cell? ⟨w.heap.size + 1, 4, none⟩ = some (.string e.key) := hca.out _ hb7 4; have q7z5 : w7.cell? ⟨w.heap.size + 1, 5, none⟩ = some (.int .i64 e.tm) := hca.out _ hb7 5; have q7z6 : w7.cell? ⟨w.heap.size + 1, 6, none⟩ = some (.slice pa e.np cp) := hca.out _ hb7 6; have q7z7 : w7.cell? ⟨w.heap.size + 1, 7, none⟩ = some (.slice aa e.na ca) := hca.out _ hb7 7; have q7z8 : w7.cell? ⟨w.heap.size + 1, 8, none⟩ = some (.string e.val) := hca.out _ hb7 8; have q7z9 : w7.cell? ⟨w.heap.size + 1, 9, none⟩ = some (.slice ga e.ng cg) := hca.out _ hb7 9; have n7a : w.heap.size ≠ w5.heap.size := (by have := hb5.size; omega); have n7b : w.heap.size + 1 ≠ w5.heap.size := (by have := hb5.size; omega); (first | (have f7 := (hb57.cell (by exact l5)).trans f5; have g7 := (hb57.frozen (by exact l5)).trans g5; clear f5 g5) | (have f7 : w7.cell? ⟨w5.heap.size, 0, none⟩ = some (Value.slice none 0 0) := (hW7.cell (by simp)).trans (World.cell?_alloc_at _ _ _ _ rfl); have g7 : w7.frozen? ⟨w5.heap.size, 0, none⟩ = false := (hW7.frozen (by simp)).trans (World.frozen?_alloc_at _ _ _ _ rfl)) | skip); clear hW7))
    all_goals (try go_wp2_with fail)
    all_goals go_meet
    all_goals have h24s := hb24.size
    all_goals have h45s := hb45.size
    all_goals have h25 := hb24.trans (hb45.mono hb24.size)
    all_goals first
      | (obtain ⟨O2, va', vc', k1, k2, k3, k4, k5⟩ := rwA (qcJ) 33 h25 hv7; exact ⟨O2, va', vc', k1, rfl, k2, k3, k4, k5⟩)
      | (obtain ⟨O2, va', vc', k1, k2, k3, k4, k5⟩ := rwB (qcJ) (qsJ) h25 hv7 (by omega) (by first | omega | (simp; done) | (simp; omega)) f7; exact ⟨O2, va', vc', k1, rfl, k2, k3, k4, k5⟩)
  case rest =>
    obtain ⟨O, va, vc, rfl, rfl, hs8, hO8, hOl, hb28⟩ := hcut
    obtain ⟨w8, hw8⟩ : ∃ w8 : World, w8 = wc := ⟨_, rfl⟩
    subst hw8
    have hb8 := hb2.trans (hb28.mono hb2.size)
    clear HSp hb28 hb2 hf2 hl2 y0 z0 z1 z2 z3 z4 z5 z6 z7 z8 z9
    have r8 := hcr.out _ hb8
    go_wp2_with fail
    refine (HTo.out w8 _ hb8 (Below.refl _ _)).mono ?_
    rintro x w9 ⟨b9, rfl, hv9, hb89, -⟩
    have hb9 := hb8.trans (hb89.mono hb8.size)
    obtain ⟨wx, hwx⟩ : ∃ wx, wx = w9.alloc (.cells #[.slice (some ⟨b9, 0, none⟩) n n] 33) := ⟨_, rfl⟩
    have h9x : Below w9.heap.size w9 wx := by rw [hwx]; exact (Below.refl _ _).alloc (Nat.le_refl _) _
    have hsx : w9.heap.size < wx.heap.size := by rw [hwx]; simp
    have hcx : wx.cell? ⟨w9.heap.size, 0, none⟩ = some (.slice (some ⟨b9, 0, none⟩) n n) := by rw [hwx]; exact World.cell?_alloc_at _ _ _ _ rfl
    have hbx := hb9.trans (h9x.mono hb9.size)
    have hc9 : ∀ i, (w9.alloc (.cells #[.slice (some ⟨b9, 0, none⟩) n n] 33)).cell? ⟨w.heap.size + 1, i, none⟩ = (#[.string e.id, .string e.sd, .string e.ty, .bool e.st, .string e.key, .int .i64 e.tm, .slice pa e.np cp, .slice aa e.na ca, .string e.val, .slice ga e.ng cg] : Array Value)[i]? := by rw [← hwx]; exact hca.out _ hbx
    clear r8
    go_wp2_with fail
    rw [← hwx]
    clear hwx
    refine (HTv.out wx _ hbx (Below.refl _ _)).mono ?_
    rintro x w10 ⟨bp, ba, bg, rfl, hv10, hbx10, -⟩
    have hb10 := hbx.trans (hbx10.mono hbx.size)
    clear hc9
    obtain ⟨wy, hwy⟩ : ∃ wy, wy = w10.alloc (.cells #[.string e.id, .string e.sd, .string e.ty, .bool e.st, .string e.key, .int .i64 e.tm, .slice (some ⟨bp, 0, none⟩) e.np e.np, .slice (some ⟨ba, 0, none⟩) e.na e.na, .string e.val, .slice (some ⟨bg, 0, none⟩) e.ng e.ng] 39) := ⟨_, rfl⟩
    have h10y : Below w10.heap.size w10 wy := by rw [hwy]; exact (Below.refl _ _).alloc (Nat.le_refl _) _
    have hsy : w10.heap.size < wy.heap.size := by rw [hwy]; simp
    have hcy : Hid (∀ i, wy.cell? ⟨w10.heap.size, i, none⟩ = (#[.string e.id, .string e.sd, .string e.ty, .bool e.st, .string e.key, .int .i64 e.tm, .slice (some ⟨bp, 0, none⟩) e.np e.np, .slice (some ⟨ba, 0, none⟩) e.na e.na, .string e.val, .slice (some ⟨bg, 0, none⟩) e.ng e.ng] : Array Value)[i]?) := fun i => by rw [hwy]; exact World.cell?_alloc_at _ _ _ _ rfl
    have hxy := hbx10.trans (h10y.mono hbx10.size)
    have hby := hb10.trans (h10y.mono hb10.size)
    have x0 : (w10.alloc (.cells #[.string e.id, .string e.sd, .string e.ty, .bool e.st, .string e.key, .int .i64 e.tm, .slice (some ⟨bp, 0, none⟩) e.np e.np, .slice (some ⟨ba, 0, none⟩) e.na e.na, .string e.val, .slice (some ⟨bg, 0, none⟩) e.ng e.ng] 39)).cell? ⟨w9.heap.size, 0, none⟩ = some (.slice (some ⟨b9, 0, none⟩) n n) := by rw [← hwy]; exact (hxy.cell (by exact hsx)).trans hcx
    have hne : w9.heap.size ≠ w10.heap.size := by have := hbx10.size; omega
    go_wp2_with fail
    rw [← hwy]
    clear hwy x0
    refine (HIm.out w9 w10 _ _ b9 _ bp ba bg hv9 (h9x.trans (hbx10.mono h9x.size)) hv10 h10y).mono ?_
    rintro x w11 ⟨ga1, gc1, T, rfl, hv11, -, hby11⟩
    have hb11 := hby.trans (hby11.mono hby.size)
    obtain ⟨wg, hwg⟩ : ∃ wg, wg = w11.alloc (.cells #[.slice ga1 N gc1] 33) := ⟨_, rfl⟩
    have h11g : Below w11.heap.size w11 wg := by rw [hwg]; exact (Below.refl _ _).alloc (Nat.le_refl _) _
    have hsg : w11.heap.size < wg.heap.size := by rw [hwg]; simp
    have hcg : wg.cell? ⟨w11.heap.size, 0, none⟩ = some (.slice ga1 N gc1) := by rw [hwg]; exact World.cell?_alloc_at _ _ _ _ rfl
    have hbg := hb11.trans (h11g.mono hb11.size)
    have h8x := hb89.trans (h9x.mono hb89.size)
    have h8y := h8x.trans (hxy.mono h8x.size)
    have h811 := h8y.trans (hby11.mono h8y.size)
    have h8g := h811.trans (h11g.mono h811.size)
    have hx11 := hxy.trans (hby11.mono hxy.size)
    have hxg := hx11.trans (h11g.mono hx11.size)
    have h9g := h9x.trans (hxg.mono h9x.size)
    have hyg := hby11.trans (h11g.mono hby11.size)
    have h10g := h10y.trans (hyg.mono h10y.size)
    have HcO : Hid (∀ W, Below w8.heap.size w8 W → W.cell? ⟨O, 0, none⟩ = some (.slice va N vc)) := fun W hW => (hW.cell (by exact hOl)).trans hO8
    have HcX : Hid (∀ W, Below wg.heap.size wg W → W.cell? ⟨w9.heap.size, 0, none⟩ = some (.slice (some ⟨b9, 0, none⟩) n n)) := fun W hW => ((hxg.trans (hW.mono hxg.size)).cell (by exact hsx)).trans hcx
    have HcY : Hid (∀ W, Below wg.heap.size wg W → ∀ i, W.cell? ⟨w10.heap.size, i, none⟩ = (#[.string e.id, .string e.sd, .string e.ty, .bool e.st, .string e.key, .int .i64 e.tm, .slice (some ⟨bp, 0, none⟩) e.np e.np, .slice (some ⟨ba, 0, none⟩) e.na e.na, .string e.val, .slice (some ⟨bg, 0, none⟩) e.ng e.ng] : Array Value)[i]?) := fun W hW i => ((hyg.trans (hW.mono hyg.size)).cell (by exact hsy)).trans (hcy.out i)
    have HcG : Hid (∀ W, Below wg.heap.size wg W → W.cell? ⟨w11.heap.size, 0, none⟩ = some (.slice ga1 N gc1)) := fun W hW => (hW.cell (by exact hsg)).trans hcg
    have hRV : Hid (RowV QI wg wy.heap.size (.slice ga1 N gc1) N X T ∧ (∀ i, i < N → (T i).hi ≤ w11.heap.size) ∧ (∀ g, (Value.slice ga1 N gc1).ownBlock = some g → g < w11.heap.size)) := by
      obtain ⟨W, q1, q2, q3, q4⟩ := hv11
      rw [← q2]
      exact ⟨q3.below qcI h11g, fun i hi => (q3.q i hi).hh.2.2.2, fun g hg => (q3.gt g hg).2⟩
    have hSL : ∀ {W : World} {base : Nat}, RowV QI W base (.slice ga1 N gc1) N X T → SlV W ga1 N gc1 X := fun h => by
      obtain ⟨a1, c1, q, hs⟩ := h.slv qcI
      injection q with q1 q2 q3
      rw [q1, q3]
      exact hs
    have hSL' : Hid (∀ (W : World) (base : Nat), RowV QI W base (.slice ga1 N gc1) N X T → SlV W ga1 N gc1 X) := fun _ _ h => hSL h
    clear hSL hv11
    have HEq : Hid (∀ (W : World) (a1 : Option Addr) (c1 : Nat), Below w8.heap.size w8 W → SlV W a1 N c1 X → Calls Try.prog 10 #[.agg #[.slice a1 N c1], .agg #[.slice va N vc]] W fun x w' => x = .returned (.bool true) ∧ Below W.heap.size W w') := fun W a1 c1 hW hs => eqR_sl W hs (hs8.out.below hW)
    have hz9 : w8.heap.size ≤ b9 ∧ b9 < w9.heap.size := ⟨hv9.out.2.2.1, hv9.out.2.2.2⟩
    have hsz : Hid (w9.heap.size < wx.heap.size ∧ wx.heap.size ≤ w10.heap.size ∧ w10.heap.size < wy.heap.size ∧ wy.heap.size ≤ w11.heap.size ∧ w11.heap.size < wg.heap.size) := ⟨hsx, hbx10.size, hsy, hby11.size, hsg⟩
    have cO : (w11.alloc (.cells #[.slice ga1 N gc1] 33)).cell? ⟨O, 0, none⟩ = some (.slice va N vc) := by rw [← hwg]; exact HcO.out _ h8g
    clear hcx hcy hcg hO8 hs8 hsx hsy hsg hOl
    go_wp2_with fail
    rw [← hwg]
    clear hwg cO
    refine (HEq.out wg _ _ h8g (hSL'.out _ _ hRV.out.1)).mono ?_
    rintro x w12 ⟨rfl, hg12⟩
    have hb12 := hbg.trans (hg12.mono hbg.size)
    have h912 := h9g.trans (hg12.mono h9g.size)
    have hlr : w.heap.size < w12.heap.size := Nat.lt_of_lt_of_le hz0 hb12.size
    have hlx : w9.heap.size < w12.heap.size := by have := hsz.out; have := hg12.size; omega
    have y0 := hcr.out _ hb12
    have y1 := HcX.out _ hg12
    go_wp2_with fail
    go_cut [58] (fun v wx => v = .bool false ∧ Below w12.heap.size w12 wx)
    case first =>
      go_region_held3 (fun W => W.cell? ⟨w.heap.size, 0, none⟩ = some (.slice a n cap) ∧ W.cell? ⟨w9.heap.size, 0, none⟩ = some (.slice (some ⟨b9, 0, none⟩) n n)) (first | (with_reducible exact ⟨y0, y1⟩) | go_keep)
        (first
          | (go_at_call 7; refine (HTo.out w12 _ hb12 (by repeat first | with_reducible exact Below.refl _ _ | with_reducible refine Below.drew ?_ | with_reducible refine Below.alloc ?_ (by simp) _)).mono ?_; rintro x w13 ⟨b13, rfl, hv13, hb1213, -⟩; have q0 := (hb1213.cell (by exact hlr)).trans y0; have q1 := (hb1213.cell (by exact hlx)).trans y1)
          | (go_at_call 10; refine (HEr.out w9 w13 _ _ b9 _ b13 hv9 (h912.trans (hb1213.mono h912.size)) hv13 (by repeat first | with_reducible exact Below.refl _ _ | with_reducible refine Below.drew ?_ | with_reducible refine Below.alloc ?_ (by simp) _)).mono ?_; rintro x w14 ⟨rfl, hb1314⟩; have hb1214 := hb1213.trans (hb1314.mono hb1213.size); have q0 := (hb1214.cell (by exact hlr)).trans y0; have q1 := (hb1214.cell (by exact hlx)).trans y1))
      all_goals (try go_wp2_with fail)
      all_goals go_meet
      all_goals exact ⟨rfl, (by first | with_reducible exact hb1214 | with_reducible exact hb1214.drew | with_reducible exact hb1214.drew.drew | with_reducible exact hb1214.drew.drew.drew | with_reducible exact hb1214.drew.drew.drew.drew | with_reducible exact hb1214.drew.drew.drew.drew.drew)⟩
    case rest =>
      obtain ⟨rfl, hb1213⟩ := hcut
      obtain ⟨w13, hw13⟩ : ∃ w13 : World, w13 = wc := ⟨_, rfl⟩
      subst hw13
      have hg13 := hg12.trans (hb1213.mono hg12.size)
      have hb13 := hbg.trans (hg13.mono hbg.size)
      have h1013 := h10g.trans (hg13.mono h10g.size)
      have hlr4 : w.heap.size + 1 < w13.heap.size := Nat.lt_of_lt_of_le hz1 hb13.size
      have hly4 : w10.heap.size < w13.heap.size := by have := hsz.out; have := hg13.size; omega
      clear HEr y0 y1 hlr hlx h912
      have z0 : w13.cell? ⟨w.heap.size + 1, 0, none⟩ = some (.string e.id) := hca.out _ hb13 0
      have z1 : w13.cell? ⟨w.heap.size + 1, 1, none⟩ = some (.string e.sd) := hca.out _ hb13 1
      have z2 : w13.cell? ⟨w.heap.size + 1, 2, none⟩ = some (.string e.ty) := hca.out _ hb13 2
      have z3 : w13.cell? ⟨w.heap.size + 1, 3, none⟩ = some (.bool e.st) := hca.out _ hb13 3
      have z4 : w13.cell? ⟨w.heap.size + 1, 4, none⟩ = some (.string e.key) := hca.out _ hb13 4
      have z5 : w13.cell? ⟨w.heap.size + 1, 5, none⟩ = some (.int .i64 e.tm) := hca.out _ hb13 5
      have z6 : w13.cell? ⟨w.heap.size + 1, 6, none⟩ = some (.slice pa e.np cp) := hca.out _ hb13 6
      have z7 : w13.cell? ⟨w.heap.size + 1, 7, none⟩ = some (.slice aa e.na ca) := hca.out _ hb13 7
      have z8 : w13.cell? ⟨w.heap.size + 1, 8, none⟩ = some (.string e.val) := hca.out _ hb13 8
      have z9 : w13.cell? ⟨w.heap.size + 1, 9, none⟩ = some (.slice ga e.ng cg) := hca.out _ hb13 9
      have x0 : w13.cell? ⟨w10.heap.size, 0, none⟩ = some (.string e.id) := HcY.out _ hg13 0
      have x1 : w13.cell? ⟨w10.heap.size, 1, none⟩ = some (.string e.sd) := HcY.out _ hg13 1
      have x2 : w13.cell? ⟨w10.heap.size, 2, none⟩ = some (.string e.ty) := HcY.out _ hg13 2
      have x3 : w13.cell? ⟨w10.heap.size, 3, none⟩ = some (.bool e.st) := HcY.out _ hg13 3
      have x4 : w13.cell? ⟨w10.heap.size, 4, none⟩ = some (.string e.key) := HcY.out _ hg13 4
      have x5 : w13.cell? ⟨w10.heap.size, 5, none⟩ = some (.int .i64 e.tm) := HcY.out _ hg13 5
      have x6 : w13.cell? ⟨w10.heap.size, 6, none⟩ = some (.slice (some ⟨bp, 0, none⟩) e.np e.np) := HcY.out _ hg13 6
      have x7 : w13.cell? ⟨w10.heap.size, 7, none⟩ = some (.slice (some ⟨ba, 0, none⟩) e.na e.na) := HcY.out _ hg13 7
      have x8 : w13.cell? ⟨w10.heap.size, 8, none⟩ = some (.string e.val) := HcY.out _ hg13 8
      have x9 : w13.cell? ⟨w10.heap.size, 9, none⟩ = some (.slice (some ⟨bg, 0, none⟩) e.ng e.ng) := HcY.out _ hg13 9
      go_wp2_with fail
      go_cut [63] (fun v wx => v = .bool false ∧ Below w13.heap.size w13 wx)
      case first =>
        go_region_held3 (fun W => W.cell? ⟨w.heap.size + 1, 0, none⟩ = some (.string e.id) ∧ W.cell? ⟨w.heap.size + 1, 1, none⟩ = some (.string e.sd) ∧ W.cell? ⟨w.heap.size + 1, 2, none⟩ = some (.string e.ty) ∧ W.cell? ⟨w.heap.size + 1, 3, none⟩ = some (.bool e.st) ∧ W.cell? ⟨w.heap.size + 1, 4, none⟩ = some (.string e.key) ∧ W.cell? ⟨w.heap.size + 1, 5, none⟩ = some (.int .i64 e.tm) ∧ W.cell? ⟨w.heap.size + 1, 6, none⟩ = some (.slice pa e.np cp) ∧ W.cell? ⟨w.heap.size + 1, 7, none⟩ = some (.slice aa e.na ca) ∧ W.cell? ⟨w.heap.size + 1, 8, none⟩ = some (.string e.val) ∧ W.cell? ⟨w.heap.size + 1, 9, none⟩ = some (.slice ga e.ng cg) ∧ W.cell? ⟨w10.heap.size, 0, none⟩ = some (.string e.id) ∧ W.cell? ⟨w10.heap.size, 1, none⟩ = some (.string e.sd) ∧ W.cell? ⟨w10.heap.size, 2, none⟩ = some (.string e.ty) ∧ W.cell? ⟨w10.heap.size, 3, none⟩ = some (.bool e.st) ∧ W.cell? ⟨w10.heap.size, 4, none⟩ = some (.string e.key) ∧ W.cell? ⟨w10.heap.size, 5, none⟩ = some (.int .i64 e.tm) ∧ W.cell? ⟨w10.heap.size, 6, none⟩ = some (.slice (some ⟨bp, 0, none⟩) e.np e.np) ∧ W.cell? ⟨w10.heap.size, 7, none⟩ = some (.slice (some ⟨ba, 0, none⟩) e.na e.na) ∧ W.cell? ⟨w10.heap.size, 8, none⟩ = some (.string e.val) ∧ W.cell? ⟨w10.heap.size, 9, none⟩ = some (.slice (some ⟨bg, 0, none⟩) e.ng e.ng)) (first | (with_reducible exact ⟨z0, z1, z2, z3, z4, z5, z6, z7, z8, z9, x0, x1, x2, x3, x4, x5, x6, x7, x8, x9⟩) | go_keep)
          (first
            | (go_at_call 8; refine (HTv.out w13 _ hb13 (by repeat first | with_reducible exact Below.refl _ _ | with_reducible refine Below.drew ?_ | with_reducible refine Below.alloc ?_ (by simp) _)).mono ?_; rintro x w14 ⟨bp2, ba2, bg2, rfl, hv14, hb1314, -⟩; have q14z0 := (hb1314.cell (by exact hlr4)).trans z0; have q14z1 := (hb1314.cell (by exact hlr4)).trans z1; have q14z2 := (hb1314.cell (by exact hlr4)).trans z2; have q14z3 := (hb1314.cell (by exact hlr4)).trans z3; have q14z4 := (hb1314.cell (by exact hlr4)).trans z4; have q14z5 := (hb1314.cell (by exact hlr4)).trans z5; have q14z6 := (hb1314.cell (by exact hlr4)).trans z6; have q14z7 := (hb1314.cell (by exact hlr4)).trans z7; have q14z8 := (hb1314.cell (by exact hlr4)).trans z8; have q14z9 := (hb1314.cell (by exact hlr4)).trans z9; have q14x0 := (hb1314.cell (by exact hly4)).trans x0; have q14x1 := (hb1314.cell (by exact hly4)).trans x1; have q14x2 := (hb1314.cell (by exact hly4)).trans x2; have q14x3 := (hb1314.cell (by exact hly4)).trans x3; have q14x4 := (hb1314.cell (by exact hly4)).trans x4; have q14x5 := (hb1314.cell (by exact hly4)).trans x5; have q14x6 := (hb1314.cell (by exact hly4)).trans x6; have q14x7 := (hb1314.cell (by exact hly4)).trans x7; have q14x8 := (hb1314.cell (by exact hly4)).trans x8; have q14x9 := (hb1314.cell (by exact hly4)).trans x9)
            | (go_at_call 11; refine (HEv.out w10 w14 _ _ bp ba bg _ bp2 ba2 bg2 hv10 (h1013.trans (hb1314.mono h1013.size)) hv14 (by repeat first | with_reducible exact Below.refl _ _ | with_reducible refine Below.drew ?_ | with_reducible refine Below.alloc ?_ (by simp) _)).mono ?_; rintro x w15 ⟨rfl, hb1415⟩; have hb1315 := hb1314.trans (hb1415.mono hb1314.size); have q15z0 := (hb1315.cell (by exact hlr4)).trans z0; have q15z1 := (hb1315.cell (by exact hlr4)).trans z1; have q15z2 := (hb1315.cell (by exact hlr4)).trans z2; have q15z3 := (hb1315.cell (by exact hlr4)).trans z3; have q15z4 := (hb1315.cell (by exact hlr4)).trans z4; have q15z5 := (hb1315.cell (by exact hlr4)).trans z5; have q15z6 := (hb1315.cell (by exact hlr4)).trans z6; have q15z7 := (hb1315.cell (by exact hlr4)).trans z7; have q15z8 := (hb1315.cell (by exact hlr4)).trans z8; have q15z9 := (hb1315.cell (by exact hlr4)).trans z9; have q15x0 := (hb1315.cell (by exact hly4)).trans x0; have q15x1 := (hb1315.cell (by exact hly4)).trans x1; have q15x2 := (hb1315.cell (by exact hly4)).trans x2; have q15x3 := (hb1315.cell (by exact hly4)).trans x3; have q15x4 := (hb1315.cell (by exact hly4)).trans x4; have q15x5 := (hb1315.cell (by exact hly4)).trans x5; have q15x6 := (hb1315.cell (by exact hly4)).trans x6; have q15x7 := (hb1315.cell (by exact hly4)).trans x7; have q15x8 := (hb1315.cell (by exact hly4)).trans x8; have q15x9 := (hb1315.cell (by exact hly4)).trans x9))
        all_goals (try go_wp2_with fail)
        all_goals go_meet
        all_goals exact ⟨rfl, (by first | with_reducible exact hb1315 | with_reducible exact hb1315.drew | with_reducible exact hb1315.drew.drew | with_reducible exact hb1315.drew.drew.drew | with_reducible exact hb1315.drew.drew.drew.drew | with_reducible exact hb1315.drew.drew.drew.drew.drew)⟩
      case rest =>
        obtain ⟨rfl, hb1314⟩ := hcut
        obtain ⟨w14, hw14⟩ : ∃ w14 : World, w14 = wc := ⟨_, rfl⟩
        subst hw14
        clear HEv z0 z1 z2 z3 z4 z5 z6 z7 z8 z9 x0 x1 x2 x3 x4 x5 x6 x7 x8 x9
        have hg14 := hg13.trans (hb1314.mono hg13.size)
        have hb14 := hbg.trans (hg14.mono hbg.size)
        have h914 := h9g.trans (hg14.mono h9g.size)
        have h1014 := h10g.trans (hg14.mono h10g.size)
        have h814 := h8g.trans (hg14.mono h8g.size)
        have HmR : Hid (Calls Try.prog 12 #[.agg #[.slice (some ⟨b9, 0, none⟩) n n], .int .i64 1] w14 fun e w' => e = .returned (.int .i64 ((1 + esum E n : Nat) : Int)) ∧ Mkd b9 w9.heap.size w14 w') := markR_any (k0 := 1) w14 hnm (by have := Hbd.out; omega) hz9.2 h914 hv9.out.2.1 hv9.out.1
        have HmV : Hid (∀ W, Mkd b9 w9.heap.size w14 W → Calls Try.prog 13 #[.agg #[.string e.id, .string e.sd, .string e.ty, .bool e.st, .string e.key, .int .i64 e.tm, .slice (some ⟨bp, 0, none⟩) e.np e.np, .slice (some ⟨ba, 0, none⟩) e.na e.na, .string e.val, .slice (some ⟨bg, 0, none⟩) e.ng e.ng], .int .i64 ((1 + esum E n : Nat) : Int)] W fun x w' => x = .returned (.int .i64 ((1 + esum E n + e.np + e.na + e.ng * 2 : Nat) : Int)) ∧ Mkd wx.heap.size w10.heap.size W w') := fun W hW =>
          markEvK e (1 + esum E n) wx.heap.size w10.heap.size W (Nat.le_trans h1014.size hW.size) (((hv10.out.2.1.wrM (Nat.le_refl _)).below h1014).mkd hW) (((hv10.out.2.2.1.wrM (Nat.le_refl _)).below h1014).mkd hW) (((hv10.out.2.2.2.wrM (Nat.le_refl _)).below h1014).mkd hW) (by have := Hbd.out; omega)
        have cX := HcX.out _ hg14
        have hK2 : ¬ (((1 + esum E n + e.np + e.na + e.ng * 2 : Nat) : Int) < 0) := by omega
        clear hv9 hv10
        generalize (1 + esum E n + e.np + e.na + e.ng * 2 : Nat) = K2 at *
        go_wp2_with fail
        refine HmR.out.mono ?_
        rintro x w15 ⟨rfl, hm15⟩
        have cY : ∀ i, w15.cell? ⟨w10.heap.size, i, none⟩ = (#[.string e.id, .string e.sd, .string e.ty, .bool e.st, .string e.key, .int .i64 e.tm, .slice (some ⟨bp, 0, none⟩) e.np e.np, .slice (some ⟨ba, 0, none⟩) e.na e.na, .string e.val, .slice (some ⟨bg, 0, none⟩) e.ng e.ng] : Array Value)[i]? := fun i => (hm15.cell (by have := hsz.out; have := hg14.size; omega) (by have := hsz.out; omega)).trans (HcY.out _ hg14 i)
        clear cX HmR
        go_wp2_with fail
        refine (HmV.out _ hm15).mono ?_
        rintro x w16 ⟨rfl, hm16⟩
        have hs14 := hg14.size
        have hs15 := hm15.size
        have hs16 := hm16.size
        have hz8 := h8g.size
        have h815 := h814.trans ((hm15.below (by have := hsz.out; omega)).mono hz9.1)
        have h816 := h815.trans ((hm16.below (by have := hsz.out; omega)).mono (by have := hsz.out; omega))
        have cG : w16.cell? ⟨w11.heap.size, 0, none⟩ = some (.slice ga1 N gc1) := ((hm16.cell (by have := hsz.out; omega) (by have := hsz.out; omega)).trans (hm15.cell (by have := hsz.out; omega) (by have := hsz.out; omega))).trans (HcG.out _ hg14)
        have cO := HcO.out _ h816
        have hR16 : Hid (RowV QI w16 wy.heap.size (.slice ga1 N gc1) N X T) := ((hRV.out.1.below qcI hg14).mkdI hm15 (by have := hsz.out; omega)).mkdI hm16 (by have := hsz.out; omega)
        clear cY HmV
        go_wp2_with fail
        refine (HEq.out w16 _ _ h816 (hSL'.out _ _ hR16.out)).mono ?_
        rintro x w17 ⟨rfl, h1617⟩
        have hs17 := h1617.size
        have h817 := h816.trans (h1617.mono h816.size)
        have cG17 := (h1617.cell (show w11.heap.size < w16.heap.size by have := hsz.out; omega)).trans cG
        have HMr : Hid (Calls Try.prog 12 #[.agg #[.slice ga1 N gc1], .int .i64 1] w17 (MrPost w17 wy.heap.size (.slice ga1 N gc1) N X T)) := mkR_row w17 (hR16.out.below qcI h1617) (by have := hsz.out; omega) Hbd.out.1 (by have := hNm.out; have := Hbd.out; unfold maxLen; omega)
        clear cG cO hK2
        go_wp2_with fail
        refine HMr.out.mono ?_
        rintro x w18 ⟨rfl, ⟨a1, c1, q, hsM'⟩, hb18, hk18⟩
        have hsM : Hid (SlV w18 ga1 N gc1 (fun i => mkE (X i) (1 + ksum X i))) := by
          injection q with q1 q2 q3
          rw [q1, q3]
          exact hsM'
        clear q hsM'
        have h818 := h817.trans (hb18.mono h8y.size)
        have hs18 := hb18.size
        have cG18 : w18.cell? ⟨w11.heap.size, 0, none⟩ = some (.slice ga1 N gc1) := (World.cell?_of_block (a := ⟨w11.heap.size, 0, none⟩) (hk18 w11.heap.size (by have := hsz.out; omega) hRV.out.2.1 (fun e => Nat.lt_irrefl _ (hRV.out.2.2 _ e)))).trans cG17
        have HHd : Hid (∀ W, Below w18.heap.size w18 W → Calls Try.prog 14 #[.agg #[.slice ga1 N gc1], .int .i64 1] W fun e w' => e = .returned (.int .i64 ((1 + ksum X N : Nat) : Int)) ∧ Below W.heap.size W w') := fun W hW => heldR_sl 1 X W Hbd.out.1 (hsM.out.below hW)
        have hKp : ¬ (((1 + ksum X N : Nat) : Int) < 0) := by omega
        clear cG17 HMr hk18 hsM hR16 hRV hSL' hm15 hm16
        generalize (1 + ksum X N : Nat) = KK at *
        go_wp2_with fail
        refine (HHd.out _ (Below.refl _ _)).mono ?_
        rintro x w19 ⟨rfl, h1819⟩
        have h819 := h818.trans (h1819.mono h818.size)
        have hb19 := hb8.trans (h819.mono hb8.size)
        have hl19 : w.heap.size < w19.heap.size := Nat.lt_of_lt_of_le hz0 hb19.size
        have y0 := hcr.out _ hb19
        have z0 : w19.cell? ⟨w.heap.size + 1, 0, none⟩ = some (.string e.id) := hca.out _ hb19 0
        have z1 : w19.cell? ⟨w.heap.size + 1, 1, none⟩ = some (.string e.sd) := hca.out _ hb19 1
        have z2 : w19.cell? ⟨w.heap.size + 1, 2, none⟩ = some (.string e.ty) := hca.out _ hb19 2
        have z3 : w19.cell? ⟨w.heap.size + 1, 3, none⟩ = some (.bool e.st) := hca.out _ hb19 3
        have z4 : w19.cell? ⟨w.heap.size + 1, 4, none⟩ = some (.string e.key) := hca.out _ hb19 4
        have z5 : w19.cell? ⟨w.heap.size + 1, 5, none⟩ = some (.int .i64 e.tm) := hca.out _ hb19 5
        have z6 : w19.cell? ⟨w.heap.size + 1, 6, none⟩ = some (.slice pa e.np cp) := hca.out _ hb19 6
        have z7 : w19.cell? ⟨w.heap.size + 1, 7, none⟩ = some (.slice aa e.na ca) := hca.out _ hb19 7
        have z8 : w19.cell? ⟨w.heap.size + 1, 8, none⟩ = some (.string e.val) := hca.out _ hb19 8
        have z9 : w19.cell? ⟨w.heap.size + 1, 9, none⟩ = some (.slice ga e.ng cg) := hca.out _ hb19 9
        go_wp2_with fail
        go_cut [15, 16] (fun u v wx => ∃ O va vc, u = .pointer (some ⟨O, 0, none⟩) ∧ v = .int .i64 cd ∧ Hid (SlV wx va N vc X) ∧ wx.cell? ⟨O, 0, none⟩ = some (.slice va N vc) ∧ O < wx.heap.size ∧ Below w19.heap.size w19 wx)
        case first =>
          go_region_held3 (fun W => W.cell? ⟨w.heap.size, 0, none⟩ = some (.slice a n cap) ∧ W.cell? ⟨w.heap.size + 1, 0, none⟩ = some (.string e.id) ∧ W.cell? ⟨w.heap.size + 1, 1, none⟩ = some (.string e.sd) ∧ W.cell? ⟨w.heap.size + 1, 2, none⟩ = some (.string e.ty) ∧ W.cell? ⟨w.heap.size + 1, 3, none⟩ = some (.bool e.st) ∧ W.cell? ⟨w.heap.size + 1, 4, none⟩ = some (.string e.key) ∧ W.cell? ⟨w.heap.size + 1, 5, none⟩ = some (.int .i64 e.tm) ∧ W.cell? ⟨w.heap.size + 1, 6, none⟩ = some (.slice pa e.np cp) ∧ W.cell? ⟨w.heap.size + 1, 7, none⟩ = some (.slice aa e.na ca) ∧ W.cell? ⟨w.heap.size + 1, 8, none⟩ = some (.string e.val) ∧ W.cell? ⟨w.heap.size + 1, 9, none⟩ = some (.slice ga e.ng cg)) (first | (with_reducible exact ⟨y0, z0, z1, z2, z3, z4, z5, z6, z7, z8, z9⟩) | (with_reducible exact ⟨(far_block (Ne.symm n4a)).trans q27y, (far_block (Ne.symm n4b)).trans q27z0, (far_block (Ne.symm n4b)).trans q27z1, (far_block (Ne.symm n4b)).trans q27z2, (far_block (Ne.symm n4b)).trans q27z3, (far_block (Ne.symm n4b)).trans q27z4, (far_block (Ne.symm n4b)).trans q27z5, (far_block (Ne.symm n4b)).trans q27z6, (far_block (Ne.symm n4b)).trans q27z7, (far_block (Ne.symm n4b)).trans q27z8, (far_block (Ne.symm n4b)).trans q27z9⟩) | (with_reducible exact ⟨(far_block (Ne.symm n5a)).trans q27y, (far_block (Ne.symm n5b)).trans q27z0, (far_block (Ne.symm n5b)).trans q27z1, (far_block (Ne.symm n5b)).trans q27z2, (far_block (Ne.symm n5b)).trans q27z3, (far_block (Ne.symm n5b)).trans q27z4, (far_block (Ne.symm n5b)).trans q27z5, (far_block (Ne.symm n5b)).trans q27z6, (far_block (Ne.symm n5b)).trans q27z7, (far_block (Ne.symm n5b)).trans q27z8, (far_block (Ne.symm n5b)).trans q27z9⟩) | (with_reducible exact ⟨(far_block (Ne.symm n7a)).trans q27y, (far_block (Ne.symm n7b)).trans q27z0, (far_block (Ne.symm n7b)).trans q27z1, (far_block (Ne.symm n7b)).trans q27z2, (far_block (Ne.symm n7b)).trans q27z3, (far_block (Ne.symm n7b)).trans q27z4, (far_block (Ne.symm n7b)).trans q27z5, (far_block (Ne.symm n7b)).trans q27z6, (far_block (Ne.symm n7b)).trans q27z7, (far_block (Ne.symm n7b)).trans q27z8, (far_block (Ne.symm n7b)).trans q27z9⟩) | go_keep)
            (first
              | (go_at_call 7; refine (HTo.out w19 _ hb19 (by repeat first | with_reducible exact Below.refl _ _ | with_reducible refine Below.drew ?_ | with_reducible refine Below.alloc ?_ (by simp) _)).mono ?_; rintro x w24 ⟨b4, rfl, hv4, hbq4, hW4⟩; have hb24 := hb19.trans (hbq4.mono hb19.size); have q24y := hcr.out _ hb24; have q24z0 : w24.cell? ⟨w.heap.size + 1, 0, none⟩ = some (.string e.id) := hca.out _ hb24 0; have q24z1 : w24.cell? ⟨w.heap.size + 1, 1, none⟩ = some (.string e.sd) := hca.out _ hb24 1; have q24z2 : w24.cell? ⟨w.heap.size + 1, 2, none⟩ = some (.string e.ty) := hca.out _ hb24 2; have q24z3 : w24.cell? ⟨w.heap.size + 1, 3, none⟩ = some (.bool e.st) := hca.out _ hb24 3; have q24z4 : w24.cell? ⟨w.heap.size + 1, 4, none⟩ = some (.string e.key) := hca.out _ hb24 4; have q24z5 : w24.cell? ⟨w.heap.size + 1, 5, none⟩ = some (.int .i64 e.tm) := hca.out _ hb24 5; have q24z6 : w24.cell? ⟨w.heap.size + 1, 6, none⟩ = some (.slice pa e.np cp) := hca.out _ hb24 6; have q24z7 : w24.cell? ⟨w.heap.size + 1, 7, none⟩ = some (.slice aa e.na ca) := hca.out _ hb24 7; have q24z8 : w24.cell? ⟨w.heap.size + 1, 8, none⟩ = some (.string e.val) := hca.out _ hb24 8; have q24z9 : w24.cell? ⟨w.heap.size + 1, 9, none⟩ = some (.slice ga e.ng cg) := hca.out _ hb24 9; have n4a : w.heap.size ≠ w19.heap.size := (by have := hb19.size; omega); have n4b : w.heap.size + 1 ≠ w19.heap.size := (by have := hb19.size; omega); (first | (have l4 : w19.heap.size < w24.heap.size := (by have := hW4.size; simp at this; omega); have f4 : w24.cell? ⟨w19.heap.size, 0, none⟩ = some (Value.slice none 0 0) := (hW4.cell (by simp)).trans (World.cell?_alloc_at _ _ _ _ rfl); have g4 : w24.frozen? ⟨w19.heap.size, 0, none⟩ = false := (hW4.frozen (by simp)).trans (World.frozen?_alloc_at _ _ _ _ rfl)) | skip); clear hW4)
              | (go_at_call 8; refine (HTv.out w24 _ hb24 (by repeat first | with_reducible exact Below.refl _ _ | with_reducible refine Below.drew ?_ | with_reducible refine Below.alloc ?_ (by simp) _)).mono ?_; rintro x w25 ⟨bp3, ba3, bg3, rfl, hv5, hb45, hW5⟩; have hb25 := hb24.trans (hb45.mono hb24.size); have q25y := hcr.out _ hb25; have q25z0 : w25.cell? ⟨w.heap.size + 1, 0, none⟩ = some (.string e.id) := hca.out _ hb25 0; have q25z1 : w25.cell? ⟨w.heap.size + 1, 1, none⟩ = some (.string e.sd) := hca.out _ hb25 1; have q25z2 : w25.cell? ⟨w.heap.size + 1, 2, none⟩ = some (.string e.ty) := hca.out _ hb25 2; have q25z3 : w25.cell? ⟨w.heap.size + 1, 3, none⟩ = some (.bool e.st) := hca.out _ hb25 3; have q25z4 : w25.cell? ⟨w.heap.size + 1, 4, none⟩ = some (.string e.key) := hca.out _ hb25 4; have q25z5 : w25.cell? ⟨w.heap.size + 1, 5, none⟩ = some (.int .i64 e.tm) := hca.out _ hb25 5; have q25z6 : w25.cell? ⟨w.heap.size + 1, 6, none⟩ = some (.slice pa e.np cp) := hca.out _ hb25 6; have q25z7 : w25.cell? ⟨w.heap.size + 1, 7, none⟩ = some (.slice aa e.na ca) := hca.out _ hb25 7; have q25z8 : w25.cell? ⟨w.heap.size + 1, 8, none⟩ = some (.string e.val) := hca.out _ hb25 8; have q25z9 : w25.cell? ⟨w.heap.size + 1, 9, none⟩ = some (.slice ga e.ng cg) := hca.out _ hb25 9; have n5a : w.heap.size ≠ w24.heap.size := (by have := hb24.size; omega); have n5b : w.heap.size + 1 ≠ w24.heap.size := (by have := hb24.size; omega); (first | (have l5 : w19.heap.size < w25.heap.size := Nat.lt_of_lt_of_le l4 hb45.size; have f5 : w25.cell? ⟨w19.heap.size, 0, none⟩ = some (Value.slice none 0 0) := (hb45.cell (by exact l4)).trans f4; have g5 : w25.frozen? ⟨w19.heap.size, 0, none⟩ = false := (hb45.frozen (by exact l4)).trans g4; clear f4 g4) | (have l5 : w24.heap.size < w25.heap.size := (by have := hW5.size; simp at this; omega); have f5 : w25.cell? ⟨w24.heap.size, 0, none⟩ = some (Value.slice none 0 0) := (hW5.cell (by simp)).trans (World.cell?_alloc_at _ _ _ _ rfl); have g5 : w25.frozen? ⟨w24.heap.size, 0, none⟩ = false := (hW5.frozen (by simp)).trans (World.frozen?_alloc_at _ _ _ _ rfl)) | skip); clear hW5)
              | (go_at_call 9; refine (HIm.out w24 w25 _ _ b4 _ bp3 ba3 bg3 hv4 hb45 hv5 (by repeat first | with_reducible exact Below.refl _ _ | with_reducible refine Below.drew ?_ | with_reducible refine Below.alloc ?_ (by simp) _)).mono ?_; rintro x w27 ⟨va3, vc3, T3, rfl, hv7, hb57, hW7⟩; have hb27 := hb25.trans (hb57.mono hb25.size); have q27y := hcr.out _ hb27; have q27z0 : w27.cell? ⟨w.heap.size + 1, 0, none⟩ = some (.string e.id) := hca.out _ hb27 0; have q27z1 : w27.cell? ⟨w.heap.size + 1, 1, none⟩ = some (.string e.sd) := hca.out _ hb27 1; have q27z2 : w27.cell? ⟨w.heap.size + 1, 2, none⟩ = some (.string e.ty) := hca.out _ hb27 2; have q27z3 : w27.cell? ⟨w.heap.size + 1, 3, none⟩ = some (.bool e.st) := hca.out _ hb27 3; have q27z4 : w27.cell? ⟨w.heap.size + 1, 4, none⟩ = some (.string e.key) := hca.out _ hb27 4; have q27z5 : w27.cell? ⟨w.heap.size + 1, 5, none⟩ = some (.int .i64 e.tm) := hca.out _ hb27 5; have q27z6 : w27.cell? ⟨w.heap.size + 1, 6, none⟩ = some (.slice pa e.np cp) := hca.out _ hb27 6; have q27z7 : w27.cell? ⟨w.heap.size + 1, 7, none⟩ = some (.slice aa e.na ca) := hca.out _ hb27 7; have q27z8 : w27.cell? ⟨w.heap.size + 1, 8, none⟩ = some (.string e.val) := hca.out _ hb27 8; have q27z9 : w27.cell? ⟨w.heap.size + 1, 9, none⟩ = some (.slice ga e.ng cg) := hca.out _ hb27 9; have n7a : w.heap.size ≠ w25.heap.size := (by have := hb25.size; omega); have n7b : w.heap.size + 1 ≠ w25.heap.size := (by have := hb25.size; omega); (first | (have f7 := (hb57.cell (by exact l5)).trans f5; have g7 := (hb57.frozen (by exact l5)).trans g5; clear f5 g5) | (have f7 : w27.cell? ⟨w25.heap.size, 0, none⟩ = some (Value.slice none 0 0) := (hW7.cell (by simp)).trans (World.cell?_alloc_at _ _ _ _ rfl); have g7 : w27.frozen? ⟨w25.heap.size, 0, none⟩ = false := (hW7.frozen (by simp)).trans (World.frozen?_alloc_at _ _ _ _ rfl)) | skip); clear hW7))
          all_goals (try go_wp2_with fail)
          all_goals go_meet
          all_goals have hq4s := hbq4.size
          all_goals have h45s := hb45.size
          all_goals have hq5 := hbq4.trans (hb45.mono hbq4.size)
          all_goals first
            | (obtain ⟨O2, va', vc', k1, k2, k3, k4, k5⟩ := rwA (qcI) 33 hq5 hv7; exact ⟨O2, va', vc', k1, rfl, k2, k3, k4, k5⟩)
            | (obtain ⟨O2, va', vc', k1, k2, k3, k4, k5⟩ := rwB (qcI) (qsI) hq5 hv7 (by omega) (by first | omega | (simp; done) | (simp; omega)) f7; exact ⟨O2, va', vc', k1, rfl, k2, k3, k4, k5⟩)
        case rest =>
          obtain ⟨P, pa2, pc2, rfl, rfl, hs30, hP30, hPl, h1930⟩ := hcut
          obtain ⟨w30, hw30⟩ : ∃ w30 : World, w30 = wc := ⟨_, rfl⟩
          subst hw30
          have h830 := h819.trans (h1930.mono h819.size)
          have h1830 := h1819.trans (h1930.mono h1819.size)
          have cO := HcO.out _ h830
          clear HIm HTo HTv y0 z0 z1 z2 z3 z4 z5 z6 z7 z8 z9
          go_wp2_with fail
          refine (HEq.out w30 _ _ h830 hs30.out).mono ?_
          rintro x w31 ⟨rfl, h3031⟩
          have h831 := h830.trans (h3031.mono h830.size)
          have h1831 := h1830.trans (h3031.mono h1830.size)
          have cG31 := (h1831.cell (show w11.heap.size < w18.heap.size by have := hsz.out; omega)).trans cG18
          go_wp2_with fail
          refine (HHd.out _ h1831).mono ?_
          rintro x w32 ⟨rfl, h3132⟩
          have h832 := h831.trans (h3132.mono h831.size)
          go_wp2
          go_ret
          exact ⟨rfl, hba.trans ((hb8.trans (h832.mono hb8.size)).mono hba.size)⟩
end Go.Proofs.Ytpdnocfefmobjaa
