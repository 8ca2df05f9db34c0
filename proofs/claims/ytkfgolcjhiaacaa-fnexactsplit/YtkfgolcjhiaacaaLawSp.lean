/-
  FnExactSplit.
-/
import Derived.Test.YtkfgolcjhiaacaaDiI
import Derived.Test.YtkfgolcjhiaacaaEeS
import Derived.Test.YtkfgolcjhiaacaaAns
import Derived.Test.YtkfgolcjhiaacaaHeldS
import Derived.Deep.DeepCutAuto
namespace Go.Proofs.Ytkfgolcjhiaacaa
open Go.RowKit

/-- two rows in blocks of their own. -/
def Apt (a : Option Addr) (m : Nat) (b : Option Addr) (k : Nat) : Prop := m = 0 ∨ k = 0 ∨ ∃ ba oa bb ob, a = some ⟨ba, oa, none⟩ ∧ b = some ⟨bb, ob, none⟩ ∧ ba ≠ bb
/-- the answer is the entries Le and the texts X 0 .. X (nl-1), in rows of the call's own, and q. -/
def AnsP (Le : List Ent) (nl : Nat) (X : Nat → ByteArray) (q : Bool) (w : World) (e : Ending) (w' : World) : Prop := Below w.heap.size w w' ∧
  ∃ a cap b cp, e = .returned (.tuple #[.slice a Le.length cap, .slice b nl cp, .bool q]) ∧ SlE w' a cap Le ∧ Wr0 w' w.heap.size a (Le.length * 3) ∧ SlS w' b nl cp X ∧ Wr0 w' w.heap.size b nl ∧ Apt a Le.length b nl
theorem ansP_of {w w' : World} {v u : Value} {L : List Ent} {T : List ByteArray} (q : Bool) (hb : Below w.heap.size w w') (ho : OwnE w' w.heap.size v L) (hL : AllOk L) (hu : OwnL w' w.heap.size u T) (hT : ∀ s ∈ T, s.size ≤ maxLen) : AnsP L T.length (getL T) q w (.returned (.tuple #[v, u, .bool q])) w' := by
  have hap := own_apart ho hu
  obtain ⟨a, cap, rfl, h1⟩ := ho.sl hL.at
  obtain ⟨b, cp, rfl, h2, h3⟩ := hu.sl hT
  refine ⟨hb, a, cap, b, cp, rfl, h1, ho.wr0 rfl, h2, h3, ?_⟩
  rcases h1.cells with h0 | ⟨ba, oa, rfl, _⟩
  · exact Or.inl (by rw [h0]; rfl)
  · rcases h2.cells with h0 | ⟨bb, ob, rfl, _⟩
    · exact Or.inr (Or.inl h0)
    · refine Or.inr (Or.inr ⟨ba, oa, bb, ob, rfl, rfl, fun e => hap ba (by simp [Value.ownBlock]) (by subst e; simp [Value.ownBlock])⟩)
theorem SlE.grownX {w w' : World} {a : Option Addr} {cap : Nat} {l : List Ent} {row : Option Nat} (h : SlE w a cap l) (hg : w.grownBy w' row) (hne : l.length = 0 ∨ ∃ b off, a = some ⟨b, off, none⟩ ∧ some b ≠ row) : SlE w' a cap l := by
  refine ⟨h.le, h.max, h.size, ?_⟩
  rcases h.cells with h0 | ⟨b, off, rfl, hlt, c1, c2, c3⟩
  · exact Or.inl h0
  · rcases hne with h0 | ⟨b', off', e, hf⟩
    · exact Or.inl (List.eq_nil_of_length_eq_zero h0)
    · injection e with e; injection e with e1 e2 _
      subst e1 e2
      have hblk : w'.heap[b]? = w.heap[b]? := hg.block b hlt hf
      exact Or.inr ⟨b, off, rfl, Nat.lt_of_lt_of_le hlt hg.size, fun i hi => by rw [World.cell?_of_block (a := ⟨b, off + i * 3, none⟩) hblk]; exact c1 i hi, fun i hi => by rw [World.cell?_of_block (a := ⟨b, off + i * 3 + 1, none⟩) hblk]; exact c2 i hi, fun i hi => by rw [World.cell?_of_block (a := ⟨b, off + i * 3 + 2, none⟩) hblk]; exact c3 i hi⟩
/-- the blocks that marks on the entries may touch, apart from the texts. -/
theorem apt_rng {w : World} {base m k : Nat} {a b : Option Addr} (hw : Wr0 w base a (m * 3)) (hw2 : Wr0 w base b k) (hap : Apt a m b k) (hbs : base ≤ w.heap.size) : ∃ lo hi, Wr w lo hi a (m * 3) ∧ FarS b k lo hi ∧ base ≤ lo ∧ lo ≤ w.heap.size := by
  have triv : m * 3 = 0 → ∃ lo hi, Wr w lo hi a (m * 3) ∧ FarS b k lo hi ∧ base ≤ lo ∧ lo ≤ w.heap.size := fun h0 => by
    refine ⟨base, base, Or.inl h0, ?_, Nat.le_refl _, hbs⟩
    rcases hw2 with h0 | ⟨bb, ob, rfl, q1, _⟩
    · exact Or.inl h0
    · exact Or.inr ⟨bb, ob, rfl, Or.inr q1⟩
  rcases hw with h0 | ⟨ba, oa, rfl, h1, h2, h3⟩
  · exact triv h0
  · rcases hap with h0 | h0 | ⟨ba', oa', bb, ob, e1, rfl, hne⟩
    · exact triv (by omega)
    all_goals refine ⟨ba, ba + 1, Or.inr ⟨ba, oa, rfl, Nat.le_refl _, by omega, h2, h3⟩, ?_, h1, by omega⟩
    · exact Or.inl h0
    · injection e1 with e1; injection e1 with e1 _
      exact Or.inr ⟨bb, ob, rfl, by omega⟩

/-- the spec's answer and the program's are the same. -/
theorem sp_both {a : Option Addr} {n cap : Nat} {L : Nat → List Ent} {w : World} (h : SlEE w a n cap L) : ∃ Le nl X q, Le.length ≤ 300 ∧ nl ≤ 6000 ∧
    (∀ W a' cap', SlEE W a' n cap' L → Calls Try.prog 5 #[.slice a' n cap'] W (AnsP Le nl X q W)) ∧
    (∀ W a' cap', SlEE W a' n cap' L → Calls Try.prog 7 #[.slice a' n cap'] W (AnsP Le nl X q W)) := by
  have hall := h.ok
  have key : ∃ Le nl X q, Le.length ≤ 300 ∧ nl ≤ 6000 ∧ ∀ W e W', SpPost W L n e W' → AnsP Le nl X q W e W' := by
    cases hok : spOk L n
    · refine ⟨[], 0, getL [], false, by decide, by decide, ?_⟩
      rintro W e W' ⟨hb, v, u, Se, So, rfl, ho, hu, ⟨hq, _⟩ | ⟨_, rfl, rfl⟩⟩
      · rw [hok] at hq; cases hq
      · rw [hok]
        exact ansP_of false hb ho (fun x hx => by cases hx) hu (fun x hx => by cases hx)
    · obtain ⟨h20, hto⟩ := spOk_parts hok
      obtain ⟨g1, g2, g3⟩ := agR_in hto
      obtain ⟨c1, c2⟩ := comp_srt (otI L n n)
      have hF : SpFin L n (agR L n) ((Lib.compact (srtS (otI L n n))).map txtS) := ⟨g1, g3, c1, fun t => (c2 t).trans (otI_in L n t n)⟩
      have hol := otI_len n hto
      have hcl : ((Lib.compact (srtS (otI L n n))).map txtS).length ≤ 6000 := by
        have h1 := Lib.compact_length_le (srtS (otI L n n))
        rw [srtS_len] at h1
        rw [List.length_map]
        omega
      have hSe : AllOk (agR L n) := fun x hx => by
        obtain ⟨_, i, hi, hx2⟩ := (g3 x).1 hx
        exact hall i hi x hx2
      have hSo : ∀ s ∈ (Lib.compact (srtS (otI L n n))).map txtS, s.size ≤ maxLen := fun s hs => otI_ok n hall s ((c2 s).1 hs)
      generalize (Lib.compact (srtS (otI L n n))).map txtS = So0 at *
      refine ⟨agR L n, So0.length, getL So0, true, g2, hcl, ?_⟩
      rintro W e W' ⟨hb, v, u, Se, So, rfl, ho, hu, ⟨_, hf⟩ | ⟨hq, _, _⟩⟩
      · obtain ⟨rfl, rfl⟩ := spFin_unique hf hF
        rw [hok]
        exact ansP_of true hb ho hSe hu hSo
      · rw [hok] at hq; cases hq
  obtain ⟨Le, nl, X, q, h1, h2, hk⟩ := key
  exact ⟨Le, nl, X, q, h1, h2, fun W a' cap' h' => (spS_sl W h').mono (hk W), fun W a' cap' h' => (spI_sl W h').mono (hk W)⟩

set_option maxRecDepth 100000 in
set_option maxHeartbeats 4000000 in
theorem lawSp_any {a : Option Addr} {n cap : Nat} {L : Nat → List Ent} (w : World) (hr : n * 24 ≤ 140737488351232) (hR : ∀ i, i < n → (L i).length * 48 ≤ 140737488351232) (h : SlEE w a n cap L) :
    Calls Try.prog 3 #[.slice a n cap] w fun e w' => e = .returned (.bool true) ∧ Below w.heap.size w w' := by
  obtain ⟨Le, nl, X, qq, hLe, hnl, hsp0, him0⟩ := sp_both h
  have hsp : Hid (_) := hsp0
  have him : Hid (_) := him0
  have hnm : n ≤ maxLen := Nat.le_trans h.le h.max
  clear hsp0 him0
  go_enter Try.func3, Try.ntmps3
  go_wp2_with fail
  refine (szEE_sl _ _ (by decide) (by decide) h).mono ?_
  rintro e w1 ⟨r, rfl, hr0, hr0', hq, hw1⟩
  have Hq : Hid (_) := hq
  clear hq
  by_cases hneg : r < 0
  · go_wp2
    go_ret
    exact ⟨rfl, hw1⟩
  have Hsum : Hid (n + usum L n ≤ 1048576) := by have := Hq.out; unfold Hid; omega
  clear Hq
  go_wp2_with fail
  refine (toEE_new _ hr hR (h.below hw1)).mono ?_
  rintro e w2 ⟨rfl, h2, hz2, hb2⟩
  have hs2 := slEE_new hnm hz2 h2
  go_wp2_with fail
  refine (hsp.out _ _ _ hs2).mono ?_
  rintro e w3 ⟨hb3, va, vc, ua, uc, rfl, hv3, _, hu3, _, _⟩
  have hb23 := hb2.trans (hb3.mono hb2.size)
  have hw3 := hw1.trans (hb23.mono hw1.size)
  have hlowE := hv3.low (base := w3.heap.size) (Nat.le_refl _)
  have hlowS := hu3.low (base := w3.heap.size) (Nat.le_refl _)
  clear h2 hs2 hb2 hb3 hb23 hz2
  go_wp2_with fail
  refine (toEE_new _ hr hR (h.below hw3)).mono ?_
  rintro e w4 ⟨rfl, h4, hz4, hb4⟩
  have H4 : Hid (∀ i, i < n → RwNew w4 w3.heap.size i (L i)) := h4
  have hs4 := slEE_new hnm hz4 h4
  have hw4 := hw3.trans (hb4.mono hw3.size)
  have hv4 := hv3.below hb4
  have hu4 := hu3.below hb4
  clear h4 hv3 hu3
  go_wp2_with fail
  refine (him.out _ _ _ hs4).mono ?_
  rintro e w5 ⟨hb5, ga, gc, ha, hc, rfl, hg5, hgw5, ht5, htw5, hap⟩
  have hw5 := hw4.trans (hb5.mono hw4.size)
  have h5 := hs4.below hb5
  have hv5 := hv4.below hb5
  have hu5 := hu4.below hb5
  clear hv4 hu4
  have hB5 := hb5
  have hS5 := hb5.size
  have hS34 : w3.heap.size < w4.heap.size := hz4
  clear hb5 hw4
  go_wp2_with fail
  refine (eqE_sl _ hg5 hv5).mono ?_
  rintro e w6 ⟨rfl, hb6⟩
  have ht6 := ht5.below hb6
  have hu6 := hu5.below hb6
  go_wp2_with fail
  refine (eqS_sl _ ht6 hu6).mono ?_
  rintro e w7 ⟨rfl, hd7⟩
  have h57 := hb6.trans ((hd7.below w6.heap.size).mono hb6.size)
  have hw7 := hw5.trans (h57.mono hw5.size)
  go_wp2_with fail
  refine (toEE_new _ hr hR (h.below hw7)).mono ?_
  rintro e w8 ⟨rfl, h8, hz8, hb8⟩
  have hs8 := slEE_new hnm hz8 h8
  have h58 := h57.trans (hb8.mono h57.size)
  have hw8 := hw5.trans (h58.mono hw5.size)
  clear h8 ht6 hu6
  go_wp2_with fail
  refine (eqEE_sl _ (h5.below h58) hs8).mono ?_
  rintro e w9 ⟨rfl, hb9⟩
  have h59 := h58.trans (hb9.mono h58.size)
  have h49 := hB5.trans (h59.mono hB5.size)
  have hw9 := hw5.trans (h59.mono hw5.size)
  have hg9 := hg5.below h59
  have hgw9 := hgw5.below h59
  have ht9 := ht5.below h59
  have htw9 := htw5.below h59
  have hv9 := hv5.below h59
  have hu9 := hu5.below h59
  have hS9 := h59.size
  have hmX : Hid (Calls Try.prog 11 #[.slice (some ⟨w3.heap.size, 0, none⟩) n n, .int .i64 1] w9 fun e w' => e = .returned (.int .i64 ((1 + usum L n * 3 : Nat) : Int)) ∧ Mkd (w3.heap.size + 1) w4.heap.size w9 w') := markEE_new (k0 := 1) w9 (by have := Hsum.out; omega) (by have := Hsum.out; omega) hz4 h49 H4.out
  have hkk : ¬ (((1 + usum L n * 3 : Nat) : Int) < 0) := by omega
  generalize (1 + usum L n * 3 : Nat) = KK at *
  clear hs8 h5 hg5 hgw5 ht5 htw5 hv5 hu5 h57 h58 hb6 hd7 hb8 hb9 hw7 hw8 hs4
  go_wp2_with fail
  refine (hmX.out).mono ?_
  rintro e w10 ⟨rfl, hm10⟩
  have hg10 := hg9.mkd hm10 (hgw9.farE (by omega))
  have ht10 := ht9.mkd hm10 (htw9.far (by omega))
  have hv10 := hv9.mkd hm10 (hlowE.far (by omega))
  have hu10 := hu9.mkd hm10 (hlowS.far (by omega))
  have hgw10 := hgw9.mkd hm10
  have htw10 := htw9.mkd hm10
  have h910 : Below (w3.heap.size + 1) w9 w10 := hm10.below (by omega)
  have hS3 := hw3.size
  have hw10 := hw9.trans (h910.mono (by omega))
  have hS10 := hm10.size
  clear hmX hg9 ht9 hv9 hu9 hgw9 htw9
  go_wp2_with fail
  refine (eqE_sl _ hg10 hv10).mono ?_
  rintro e w11 ⟨rfl, hb11⟩
  have ht11 := ht10.below hb11
  have hu11 := hu10.below hb11
  go_wp2_with fail
  refine (eqS_sl _ ht11 hu11).mono ?_
  rintro e w12 ⟨rfl, hd12⟩
  have h1012 := hb11.trans ((hd12.below w11.heap.size).mono hb11.size)
  have hw12 := hw10.trans (h1012.mono hw10.size)
  have hg12 := hg10.below h1012
  have ht12 := ht10.below h1012
  have hv12 := hv10.below h1012
  have hu12 := hu10.below h1012
  have hgw12 := hgw10.below h1012
  have htw12 := htw10.below h1012
  have hS12 := h1012.size
  obtain ⟨lo, hi, hWr, hfar, hlo, hlo2⟩ := apt_rng hgw12 htw12 hap (by omega)
  have hmG : Hid (Calls Try.prog 12 #[.slice ga Le.length gc, .int .i64 1] w12 fun e w' => e = .returned (.int .i64 ((1 + Le.length * 3 : Nat) : Int)) ∧ SlE w' ga gc (mkL 1 Le.length) ∧ Mkd lo hi w12 w') := markE_sl (k0 := 1) w12 (by omega) (by decide) hg12.le hg12.max hWr
  have hhG : Hid (∀ W, SlE W ga gc (mkL 1 Le.length) → Calls Try.prog 14 #[.slice ga Le.length gc, .int .i64 1] W fun e w' => e = .returned (.int .i64 ((1 + Le.length * 3 : Nat) : Int)) ∧ Below W.heap.size W w') := fun W hW => heldE_sl (k0 := 1) W (by omega) (by decide) hW
  have hLL1 : ¬ (((1 + Le.length * 3 : Nat) : Int) < 0) := by omega
  have hLL2 : 1 + Le.length * 3 ≤ 1000000 := by omega
  have hml : (mkL 1 Le.length).length = Le.length := mkL_len _ _
  generalize (1 + Le.length * 3 : Nat) = LL at *
  clear hg10 ht10 hv10 hu10 hgw10 htw10 ht11 hu11 hb11 hd12 hWr hg12
  go_wp2_with fail
  refine (hmG.out).mono ?_
  rintro e w13 ⟨rfl, hsm13, hm13⟩
  have ht13 := ht12.mkd hm13 hfar
  have htw13 := htw12.mkd hm13
  have hv13 := hv12.mkd hm13 (hlowE.far (by omega))
  have hu13 := hu12.mkd hm13 (hlowS.far (by omega))
  have h1213 : Below w4.heap.size w12 w13 := (hm13.below (by omega)).mono (by omega)
  have hw13 := hw12.trans (h1213.mono (by omega))
  have hS13 := hm13.size
  have hmS : Hid (Calls Try.prog 13 #[.slice ha nl hc, .int .i64 (LL : Int)] w13 fun e w' => e = .returned (.int .i64 ((LL + nl : Nat) : Int)) ∧ SlS w' ha nl hc (fun i => mkT (LL + i)) ∧ w13.grownBy w' (rowOf ha nl)) := markS_sl (k0 := LL) w13 (by omega) (by omega) ht13 htw13.slw
  have hhS : Hid (∀ W, SlS W ha nl hc (fun i => mkT (LL + i)) → Calls Try.prog 15 #[.slice ha nl hc, .int .i64 (LL : Int)] W fun e w' => e = .returned (.int .i64 ((LL + nl : Nat) : Int)) ∧ Below W.heap.size W w') := fun W hW => heldS_sl (k0 := LL) W (by omega) (by omega) hW
  have hMM : ¬ (((LL + nl : Nat) : Int) < 0) := by omega
  have hrow : Hid (∀ q, rowOf ha nl = some q → w4.heap.size ≤ q) := fun q hq => htw13.row q hq
  have hneq : (mkL 1 Le.length).length = 0 ∨ ∃ b off, ga = some ⟨b, off, none⟩ ∧ some b ≠ rowOf ha nl := by
    rw [hml]
    rcases hap with h0 | h0 | ⟨ba, oa, bb, ob, e1, e2, hne⟩
    · exact Or.inl h0
    · by_cases hz : Le.length = 0
      · exact Or.inl hz
      · rcases hsm13.cells with q0 | ⟨b, off, e, _⟩
        · rw [q0] at hml; exact Or.inl hml.symm
        · exact Or.inr ⟨b, off, e, by subst h0; simp [rowOf]⟩
    · refine Or.inr ⟨ba, oa, e1, fun e => ?_⟩
      subst e2
      unfold rowOf at e
      split at e
      · cases e
      · simp [blk] at e
        exact hne e
  generalize (LL + nl : Nat) = MM at *
  clear hmG ht12 htw12 hv12 hu12 ht13
  go_wp2_with fail
  refine (hmS.out).mono ?_
  rintro e w14 ⟨rfl, hst14, hg14⟩
  have hsm14 := hsm13.grownX hg14 hneq
  have hv14 := hv13.grownX hg14 (hlowE.imp id fun ⟨b, off, e, hlt⟩ => ⟨b, off, e, fun e2 => by have := hrow.out b e2.symm; omega⟩)
  have hu14 := hu13.grownL hg14 (base := w4.heap.size) (fun b hb => hrow.out b hb) (hlowS.imp id fun ⟨b, off, e, hlt⟩ => ⟨b, off, e, by omega⟩)
  have h1314 : Below w4.heap.size w13 w14 := (Below.refl _ _).grown hg14 (by omega) (fun b hb => hrow.out b hb)
  have hw14 := hw13.trans (h1314.mono (by omega))
  have hS14 := h1314.size
  clear hmS hsm13 hv13 hu13 htw13
  go_wp2_with fail
  refine (hhG.out _ hsm14).mono ?_
  rintro e w15 ⟨rfl, hb15⟩
  go_wp2_with fail
  refine (hhS.out _ (hst14.below hb15)).mono ?_
  rintro e w16 ⟨rfl, hb16⟩
  have h1416 := hb15.trans (hb16.mono hb15.size)
  have hw16 := hw14.trans (h1416.mono hw14.size)
  have hsm16 := hsm14.below h1416
  have hst16 := hst14.below h1416
  have hv16 := hv14.below h1416
  have hu16 := hu14.below h1416
  clear hsm14 hst14 hv14 hu14
  go_wp2_with fail
  refine (toEE_new _ hr hR (h.below hw16)).mono ?_
  rintro e w17 ⟨rfl, h17, hz17, hb17⟩
  have hs17 := slEE_new hnm hz17 h17
  go_wp2_with fail
  refine (him.out _ _ _ hs17).mono ?_
  rintro e w18 ⟨hb18, ka, kc, la, lc, rfl, hk18, _, hl18, _, _⟩
  have h1618 := hb17.trans (hb18.mono hb17.size)
  have hw18 := hw16.trans (h1618.mono hw16.size)
  have hv18 := hv16.below h1618
  have hu18 := hu16.below h1618
  have hsm18 := hsm16.below h1618
  have hst18 := hst16.below h1618
  clear h17 hs17 hv16 hu16 hsm16 hst16
  go_wp2_with fail
  refine (eqE_sl _ hk18 hv18).mono ?_
  rintro e w19 ⟨rfl, hb19⟩
  go_wp2_with fail
  refine (eqS_sl _ (hl18.below hb19) (hu18.below hb19)).mono ?_
  rintro e w20 ⟨rfl, hd20⟩
  have h1820 := hb19.trans ((hd20.below w19.heap.size).mono hb19.size)
  have hw20 := hw18.trans (h1820.mono hw18.size)
  go_wp2_with fail
  refine (hhG.out _ (hsm18.below h1820)).mono ?_
  rintro e w21 ⟨rfl, hb21⟩
  have h1821 := h1820.trans (hb21.mono h1820.size)
  have hw21 := hw18.trans (h1821.mono hw18.size)
  go_wp2_with fail
  refine (hhS.out _ (hst18.below h1821)).mono ?_
  rintro e w22 ⟨rfl, hb22⟩
  have hw22 := hw21.trans (hb22.mono hw21.size)
  go_wp2
  go_ret
  exact ⟨rfl, hw22⟩
end Go.Proofs.Ytkfgolcjhiaacaa
