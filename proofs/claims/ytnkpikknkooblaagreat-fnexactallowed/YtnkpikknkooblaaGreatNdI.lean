/-
  impl.Needed.
-/
import Derived.Test.YtnkpikknkooblaaGreatNdA
import Derived.Test.YtnkpikknkooblaaGreatCpA
import Derived.Test.YtnkpikknkooblaaGreatEvA
namespace Go.Proofs.YtnkpikknkooblaaGreat
open Go.RowKit

theorem OwnO.lt {w : World} {base : Nat} {v : Value} {l : List Ent} (h : OwnO w base v l) (q : Nat) (hq : v.ownBlock = some q) : base ≤ q := by
  rcases h.2 with ⟨rfl, _⟩ | ⟨g, cap, cur, rfl, hg, _⟩
  · cases hq
  · have : g = q := by simpa [Value.ownBlock] using hq
    omega
theorem OwnO.snoc {w : World} {base : Nat} {v : Value} {l k : List Ent} (h : w.ownsRow base 121 2 v (l.length + k.length) (encOL l ++ encOL k)) : OwnO w base v (l ++ k) := by
  unfold OwnO
  rw [List.length_append, ← encOL_app]
  exact h
theorem two_cells (W : World) (x y : Ent) (t : TypeId) (j : Nat) (u : Value) (h : (encOL [x, y])[j]? = some u) : (W.alloc (.cells #[.string x.ty, .string x.key, .string y.ty, .string y.key] t)).cell? ((⟨W.heap.size, 0, none⟩ : Addr).add j) = some u := by
  have hj : j < 4 := by
    rcases Nat.lt_or_ge j 4 with h' | h'
    · exact h'
    · rw [List.getElem?_eq_none (by simpa [encOL, encO] using h')] at h; cases h
  match j, hj, h with
  | 0, _, h => rw [show (⟨W.heap.size, 0, none⟩ : Addr).add 0 = ⟨W.heap.size, 0, none⟩ from rfl, World.cell?_alloc_at _ _ _ _ rfl]; exact h
  | 1, _, h => rw [show (⟨W.heap.size, 0, none⟩ : Addr).add 1 = ⟨W.heap.size, 1, none⟩ from rfl, World.cell?_alloc_at _ _ _ _ rfl]; exact h
  | 2, _, h => rw [show (⟨W.heap.size, 0, none⟩ : Addr).add 2 = ⟨W.heap.size, 2, none⟩ from rfl, World.cell?_alloc_at _ _ _ _ rfl]; exact h
  | 3, _, h => rw [show (⟨W.heap.size, 0, none⟩ : Addr).add 3 = ⟨W.heap.size, 3, none⟩ from rfl, World.cell?_alloc_at _ _ _ _ rfl]; exact h
theorem encOL_one (l : List Ent) (u : Value) (h : u ∈ encOL l) : u.oneCell' = true := by
  unfold encOL at h
  rw [List.mem_flatMap] at h
  obtain ⟨x, _, hx⟩ := h
  exact encO_one x u hx

theorem slots_len (e : Ev) : (ndA e).length ≤ 5 := by
  unfold ndA ndX ndY
  split <;> split <;> simp

/-- Compact behind the sort. -/
theorem cpO_nd {w : World} {base : Nat} {v : Value} (e : Ev) (hc : e.code = 0) (hcr : isCr e = false) (h : OwnO w base v (ndS e)) (hbg : base ≤ w.heap.size) :
    Calls Tryz.prog 71 #[v] w (CpPost w base (ndL e)) := by
  have hL : ndL e = slC :: (ndY e ++ (uq e).map slM ++ [slP]) := by unfold ndL; rw [if_pos hc, hcr]; rfl
  have hlen : (ndS e).length ≤ 1000 := by rw [(nd_perm e).length_eq]; have := slots_len e; omega
  have hpos : (ndS e).length ≠ 0 := by simp [ndS]
  obtain ⟨g, n, cap, rfl, hn, hg⟩ : ∃ g n cap, v = .slice (some ⟨g, 0, none⟩) n cap ∧ n = (ndS e).length ∧ base ≤ g := by
    rcases h.2 with ⟨rfl, h0⟩ | ⟨g, cap, cur, rfl, hg, _⟩
    · exact absurd h0 hpos
    · exact ⟨g, _, cap, rfl, rfl, hg⟩
  by_cases hd : isMb e = true ∧ e.sd = e.key
  · have hus : us e = [e.sd, e.sd] := by unfold us; rw [hd.1, if_neg (by decide), if_pos hd.2]
    have huq : uq e = [e.sd] := by unfold uq; rw [if_pos (Or.inr hd.2)]
    have hS : ndS e = slC :: (ndY e ++ [slM e.sd, slM e.sd] ++ [slP]) := by unfold ndS; rw [hus]; rfl
    have hmm : samB (slM e.sd) (slM e.sd) = true := (samB_iff _ _).2 ⟨rfl, rfl⟩
    have hne : ∀ {a b : Ent}, Lt a b → samB b a = false := fun {a b} hab => by
      cases hq : samB b a
      · rfl
      · exact absurd ⟨((samB_iff _ _).1 hq).1.symm, ((samB_iff _ _).1 hq).2.symm⟩ hab.ne
    rw [hL, huq]
    rw [hS] at h hn hlen
    cases hy : (isMb e && isJn e)
    · have hY : ndY e = [] := by unfold ndY; rw [hy]; rfl
      rw [hY] at h hn hlen ⊢
      have hn' : n = 4 := hn
      subst hn'
      exact cpO_dup (k0 := 2) h rfl (by decide) hlen hbg hg (fun i hi => by
        have : i = 0 := by omega
        subst this
        exact hne (slC_lt_M e.sd)) hmm (hne (slM_lt_P e.sd))
    · have hY : ndY e = [slJ] := by unfold ndY; rw [hy]; rfl
      rw [hY] at h hn hlen ⊢
      have hn' : n = 5 := hn
      subst hn'
      exact cpO_dup (k0 := 3) h rfl (by decide) hlen hbg hg (fun i hi => by
        have : i = 0 ∨ i = 1 := by omega
        rcases this with rfl | rfl
        · exact hne slC_lt_J
        · exact hne (slJ_lt_M e.sd)) hmm (hne (slM_lt_P e.sd))
  · have hu : us e = uq e := by
      unfold us uq
      by_cases hm : isMb e = false
      · rw [if_pos hm, if_pos (Or.inl hm)]
      · have hk : ¬ e.sd = e.key := fun hk => hd ⟨by
          cases hq : isMb e
          · exact absurd hq hm
          · rfl, hk⟩
        rw [if_neg hm, if_neg hk, if_neg (show ¬ (isMb e = false ∨ e.sd = e.key) from fun h1 => h1.elim hm hk)]
    have hS : ndS e = slC :: (ndY e ++ (uq e).map slM ++ [slP]) := by unfold ndS; rw [hu]
    rw [hL]
    rw [hS] at h hn hlen
    exact cpO_strict h hn hlen hbg (strict_ne (ndL_strict e))

/-- what Needed answers. -/
def NdPost (w : World) (e : Ev) (x : Ending) (w' : World) : Prop := ∃ v, x = .returned v ∧ OwnO w' w.heap.size v (ndL e) ∧ Below w.heap.size w w'
theorem one_cellsO (W : World) (x : Ent) (t : TypeId) (j : Nat) (u : Value) (h : (encOL [x])[j]? = some u) : (W.alloc (.cells #[.string x.ty, .string x.key] t)).cell? ((⟨W.heap.size, 0, none⟩ : Addr).add j) = some u := encO_cells W x t j u (by simpa [encOL] using h)

set_option maxRecDepth 100000 in
set_option maxHeartbeats 4000000 in
theorem ndI_any (e : Ev) {pa aa ga : Option Addr} {cp ca cg : Nat} (w : World) (he : EvOk w e pa cp aa ca ga cg) :
    Calls Tryz.prog 32 #[e.val' pa cp aa ca ga cg] w (NdPost w e) := by
  obtain ⟨i0, hi, hz0, hz1, hz2⟩ := info_parts Tryz.infoSlot
  have hb0 : ∀ o, Below w.heap.size w (w.alloc o) := fun o => (Below.refl _ _).alloc (Nat.le_refl _) _
  go_enter Tryz.func32, Tryz.ntmps32
  go_wp2_with fail
  refine (evI_any e.id e.sd e.ty e.key e.val e.st e.tm pa e.np cp aa e.na ca ga e.ng cg e.Pv e.Av e.M e.L _ he.hid he.hsd he.hty he.hkey he.hval (he.hp.below (hb0 _)) (he.ha.below (hb0 _)) (he.hg.below (hb0 _))).mono ?_
  rintro x w1 ⟨rfl, hb1⟩
  have hB1 := hb1.mono (B' := w.heap.size + 1) (by simp)
  have hw1 := (hb0 _).trans (hb1.mono (by simp))
  have hcl := box_cells hB1
  have hs1 : w.heap.size + 1 ≤ w1.heap.size := by simpa using hB1.size
  have HB : Hid (∀ W, Below (w.heap.size + 1) w1 W → ∀ o, W.cell? ⟨w.heap.size, o, none⟩ = (#[.string e.id, .string e.sd, .string e.ty, .bool e.st, .string e.key, .int .i64 e.tm, .slice pa e.np cp, .slice aa e.na ca, .string e.val, .slice ga e.ng cg] : Array Value)[o]?) := fun W hW => box_cells (hB1.trans hW)
  clear hb1 hB1
  have hcode : Hid (evCode e.id e.sd e.ty e.key e.val e.st e.tm e.np e.na e.ng e.Pv e.Av e.M e.L = e.code) := rfl
  by_cases hc : e.code = 0
  case neg =>
    have hL : Hid (ndL e = []) := by unfold Hid ndL; rw [if_neg hc]
    have hcb : (evCode e.id e.sd e.ty e.key e.val e.st e.tm e.np e.na e.ng e.Pv e.Av e.M e.L != 0) = true := by rw [hcode.out]; simpa using hc
    clear hcode hc
    go_wp2
    go_ret
    exact ⟨_, rfl, by rw [hL.out]; exact ⟨rfl, Or.inl ⟨rfl, rfl⟩⟩, hw1⟩
  case pos =>
    have hcb : evCode e.id e.sd e.ty e.key e.val e.st e.tm e.np e.na e.ng e.Pv e.Av e.M e.L = 0 := hcode.out.trans hc
    have hal : ∀ o, Below (w.heap.size + 1) w1 (w1.alloc o) := fun o => (Below.refl _ _).alloc hs1 _
    have hclA := HB.out _ (hal (.cells #[.string ⟨#[99, 114, 101, 97, 116, 101]⟩, .string ⟨#[]⟩] 121))
    cases hcr : isCr e
    case true =>
      have hL : Hid (ndL e = [slC]) := by unfold Hid ndL; rw [if_pos hc, hcr]; rfl
      have hcr' : (e.ty.toList == [99, 114, 101, 97, 116, 101]) = true := hcr
      clear hcode hc hcr
      go_wp2
      go_ret
      exact ⟨_, rfl, by rw [hL.out]; exact OwnO.one w1 _ (by omega) slC, hw1.alloc hw1.size _⟩
    case false =>
      have hcr' : (e.ty.toList == [99, 114, 101, 97, 116, 101]) = false := hcr
      have Hc : Hid (e.code = 0) := hc
      have Hcr : Hid (isCr e = false) := hcr
      clear hcode hc hcr
      obtain ⟨W1, hW1⟩ : ∃ W1, W1 = w1.alloc (.cells #[.string slC.ty, .string slC.key] 121) := ⟨_, rfl⟩
      have hown1 : OwnO W1 (w.heap.size + 1) (.slice (some ⟨w1.heap.size, 0, none⟩) 1 1) [slC] := by rw [hW1]; exact OwnO.one w1 _ hs1 slC
      have hbW1 : Below (w.heap.size + 1) w1 W1 := by rw [hW1]; exact hal _
      have hsW1 : w.heap.size + 1 ≤ W1.heap.size := by have := hbW1.size; omega
      have hclW := HB.out _ hbW1
      go_wp2_with fail
      have hW1' : w1.alloc (.cells #[.string ⟨#[99, 114, 101, 97, 116, 101]⟩, .string ⟨#[]⟩] 121) = W1 := hW1.symm
      rw [hW1']
      clear hW1' hW1 hcl hclA
      refine (mbrI_any e.sd _).mono ?_
      rintro x w2 ⟨rfl, hb2⟩
      have hb12 := hbW1.trans (hb2.mono hsW1)
      have hs2 : w.heap.size + 1 ≤ w2.heap.size := by have := hb12.size; omega
      have hown2 := hown1.below hb2
      clear hown1 hbW1 hsW1 hclW hb2
      cases hm : isMb e
      case false =>
        have hm' : (e.ty.toList == [109, 101, 109, 98, 101, 114]) = false := hm
        have HA : Hid (ndA e = [slC, slP, slM e.sd]) := by unfold Hid ndA ndX ndY; rw [hm]; rfl
        have hmj : (isMb e && isJn e) = false := by rw [hm]; rfl
        clear hm
        go_wp2_with (at_builtin; refine wpList_append_own _ rfl _ _ 75 rfl (w.heap.size + 1) 121 i0 (.agg #[.string ByteArray.empty, .string ByteArray.empty]) 2 32 Tryz.underlying75 hi hz0 hz1 hz2 rfl (by decide) _ _ _ rfl (World.ownsRow.alloc hown2 _) ⟨w2.heap.size, 0, none⟩ 2 2 (encOL [slP, slM e.sd]) rfl rfl (two_cells _ _ _ _) (encOL_one _) (by show (3 : Nat) ≤ maxLen; decide) (by show (3 : Nat) * 32 ≤ 140737488355328; decide) (by simp; omega) ?_; intro v3 w3 hown3r hgrw3 _; have hown3 : OwnO w3 (w.heap.size + 1) v3 [slC, slP, slM e.sd] := OwnO.snoc (l := [slC]) (k := [slP, slM e.sd]) hown3r; have hbw3 : Below (w.heap.size + 1) w1 w3 := (hb12.alloc (by omega) _).grown hgrw3 (by simp; omega) (fun q hq => hown2.lt q hq); have hclw3 := HB.out _ hbw3; have hsw3 : w.heap.size + 1 ≤ w3.heap.size := Nat.le_trans hs1 hbw3.size)
        refine (isMI_any e pa cp aa ca ga cg _).mono ?_
        rintro x wm ⟨rfl, hbm⟩
        rw [hmj]
        have hbm1 := hbw3.trans (hbm.mono hsw3)
        have hsm : w.heap.size + 1 ≤ wm.heap.size := Nat.le_trans hs1 hbm1.size
        have hownm := hown3.below hbm
        clear hbm
        go_wp2_with fail
        refine (sortO_own hownm (by show (3 : Nat) ≤ 1000000; decide)).mono ?_
        rintro x ws ⟨rfl, l5, hownS, hperm, hord, hgS⟩
        have hl5 : l5 = ndS e := nd_sorted (by rw [HA.out]; exact hperm) hord
        subst hl5
        have hbs : Below (w.heap.size + 1) w1 ws := hbm1.grown hgS (Nat.le_trans hs1 hbm1.size) (fun q hq => hownm.lt q hq)
        have hss : w.heap.size + 1 ≤ ws.heap.size := Nat.le_trans hs1 hbs.size
        clear hperm hord
        go_wp2_with fail
        refine (cpO_nd e Hc.out Hcr.out hownS hss).mono ?_
        rintro x wz ⟨vz, rfl, hownZ, hbz⟩
        go_wp2
        go_ret
        exact ⟨_, rfl, hownZ.mono (by omega), hw1.trans ((hbs.trans hbz).mono (by omega))⟩
      case true =>
        have hm' : (e.ty.toList == [109, 101, 109, 98, 101, 114]) = true := hm
        cases hj : isJn e
        case false =>
          have HA : Hid (ndA e = [slC, slP, slM e.sd, slM e.key]) := by unfold Hid ndA ndX ndY; rw [hm, hj]; rfl
          have hmj : (isMb e && isJn e) = false := by rw [hm, hj]; rfl
          clear hm hj
          go_wp2_with (at_builtin; refine wpList_append_own _ rfl _ _ 75 rfl (w.heap.size + 1) 121 i0 (.agg #[.string ByteArray.empty, .string ByteArray.empty]) 2 32 Tryz.underlying75 hi hz0 hz1 hz2 rfl (by decide) _ _ _ rfl (World.ownsRow.alloc hown2 _) ⟨w2.heap.size, 0, none⟩ 2 2 (encOL [slP, slM e.sd]) rfl rfl (two_cells _ _ _ _) (encOL_one _) (by show (3 : Nat) ≤ maxLen; decide) (by show (3 : Nat) * 32 ≤ 140737488355328; decide) (by simp; omega) ?_; intro v3 w3 hown3r hgrw3 _; have hown3 : OwnO w3 (w.heap.size + 1) v3 [slC, slP, slM e.sd] := OwnO.snoc (l := [slC]) (k := [slP, slM e.sd]) hown3r; have hbw3 : Below (w.heap.size + 1) w1 w3 := (hb12.alloc (by omega) _).grown hgrw3 (by simp; omega) (fun q hq => hown2.lt q hq); have hclw3 := HB.out _ hbw3; have hsw3 : w.heap.size + 1 ≤ w3.heap.size := Nat.le_trans hs1 hbw3.size)
          refine (mbrI_any e.key _).mono ?_
          rintro x w4 ⟨rfl, hb4⟩
          have hb14 := hbw3.trans (hb4.mono hsw3)
          have hs4 : w.heap.size + 1 ≤ w4.heap.size := Nat.le_trans hs1 hb14.size
          have hown4 := hown3.below hb4
          clear hb4 hclw3
          go_wp2_with (at_builtin; refine wpList_append_own _ rfl _ _ 75 rfl (w.heap.size + 1) 121 i0 (.agg #[.string ByteArray.empty, .string ByteArray.empty]) 2 32 Tryz.underlying75 hi hz0 hz1 hz2 rfl (by decide) _ _ _ rfl (World.ownsRow.alloc hown4 _) ⟨w4.heap.size, 0, none⟩ 1 1 (encOL [slM e.key]) rfl rfl (one_cellsO _ _ _) (encOL_one _) (by show (4 : Nat) ≤ maxLen; decide) (by show (4 : Nat) * 32 ≤ 140737488355328; decide) (by simp; omega) ?_; intro v5 w5 hown5r hgrw5 _; have hown5 : OwnO w5 (w.heap.size + 1) v5 [slC, slP, slM e.sd, slM e.key] := OwnO.snoc (l := [slC, slP, slM e.sd]) (k := [slM e.key]) hown5r; have hbw5 : Below (w.heap.size + 1) w1 w5 := (hb14.alloc (by omega) _).grown hgrw5 (by simp; omega) (fun q hq => hown4.lt q hq); have hclw5 := HB.out _ hbw5; have hsw5 : w.heap.size + 1 ≤ w5.heap.size := Nat.le_trans hs1 hbw5.size)
          refine (isMI_any e pa cp aa ca ga cg _).mono ?_
          rintro x wm ⟨rfl, hbm⟩
          rw [hmj]
          have hbm1 := hbw5.trans (hbm.mono hsw5)
          have hsm : w.heap.size + 1 ≤ wm.heap.size := Nat.le_trans hs1 hbm1.size
          have hownm := hown5.below hbm
          clear hbm
          go_wp2_with fail
          refine (sortO_own hownm (by show (4 : Nat) ≤ 1000000; decide)).mono ?_
          rintro x ws ⟨rfl, l5, hownS, hperm, hord, hgS⟩
          have hl5 : l5 = ndS e := nd_sorted (by rw [HA.out]; exact hperm) hord
          subst hl5
          have hbs : Below (w.heap.size + 1) w1 ws := hbm1.grown hgS (Nat.le_trans hs1 hbm1.size) (fun q hq => hownm.lt q hq)
          have hss : w.heap.size + 1 ≤ ws.heap.size := Nat.le_trans hs1 hbs.size
          clear hperm hord
          go_wp2_with fail
          refine (cpO_nd e Hc.out Hcr.out hownS hss).mono ?_
          rintro x wz ⟨vz, rfl, hownZ, hbz⟩
          go_wp2
          go_ret
          exact ⟨_, rfl, hownZ.mono (by omega), hw1.trans ((hbs.trans hbz).mono (by omega))⟩
        case true =>
          have HA : Hid (ndA e = [slC, slP, slM e.sd, slM e.key, slJ]) := by unfold Hid ndA ndX ndY; rw [hm, hj]; rfl
          have hmj : (isMb e && isJn e) = true := by rw [hm, hj]; rfl
          clear hm hj
          go_wp2_with (at_builtin; refine wpList_append_own _ rfl _ _ 75 rfl (w.heap.size + 1) 121 i0 (.agg #[.string ByteArray.empty, .string ByteArray.empty]) 2 32 Tryz.underlying75 hi hz0 hz1 hz2 rfl (by decide) _ _ _ rfl (World.ownsRow.alloc hown2 _) ⟨w2.heap.size, 0, none⟩ 2 2 (encOL [slP, slM e.sd]) rfl rfl (two_cells _ _ _ _) (encOL_one _) (by show (3 : Nat) ≤ maxLen; decide) (by show (3 : Nat) * 32 ≤ 140737488355328; decide) (by simp; omega) ?_; intro v3 w3 hown3r hgrw3 _; have hown3 : OwnO w3 (w.heap.size + 1) v3 [slC, slP, slM e.sd] := OwnO.snoc (l := [slC]) (k := [slP, slM e.sd]) hown3r; have hbw3 : Below (w.heap.size + 1) w1 w3 := (hb12.alloc (by omega) _).grown hgrw3 (by simp; omega) (fun q hq => hown2.lt q hq); have hclw3 := HB.out _ hbw3; have hsw3 : w.heap.size + 1 ≤ w3.heap.size := Nat.le_trans hs1 hbw3.size)
          refine (mbrI_any e.key _).mono ?_
          rintro x w4 ⟨rfl, hb4⟩
          have hb14 := hbw3.trans (hb4.mono hsw3)
          have hs4 : w.heap.size + 1 ≤ w4.heap.size := Nat.le_trans hs1 hb14.size
          have hown4 := hown3.below hb4
          clear hb4 hclw3
          go_wp2_with (at_builtin; refine wpList_append_own _ rfl _ _ 75 rfl (w.heap.size + 1) 121 i0 (.agg #[.string ByteArray.empty, .string ByteArray.empty]) 2 32 Tryz.underlying75 hi hz0 hz1 hz2 rfl (by decide) _ _ _ rfl (World.ownsRow.alloc hown4 _) ⟨w4.heap.size, 0, none⟩ 1 1 (encOL [slM e.key]) rfl rfl (one_cellsO _ _ _) (encOL_one _) (by show (4 : Nat) ≤ maxLen; decide) (by show (4 : Nat) * 32 ≤ 140737488355328; decide) (by simp; omega) ?_; intro v5 w5 hown5r hgrw5 _; have hown5 : OwnO w5 (w.heap.size + 1) v5 [slC, slP, slM e.sd, slM e.key] := OwnO.snoc (l := [slC, slP, slM e.sd]) (k := [slM e.key]) hown5r; have hbw5 : Below (w.heap.size + 1) w1 w5 := (hb14.alloc (by omega) _).grown hgrw5 (by simp; omega) (fun q hq => hown4.lt q hq); have hclw5 := HB.out _ hbw5; have hsw5 : w.heap.size + 1 ≤ w5.heap.size := Nat.le_trans hs1 hbw5.size)
          refine (isMI_any e pa cp aa ca ga cg _).mono ?_
          rintro x wm ⟨rfl, hbm⟩
          rw [hmj]
          have hbm1 := hbw5.trans (hbm.mono hsw5)
          have hsm : w.heap.size + 1 ≤ wm.heap.size := Nat.le_trans hs1 hbm1.size
          have hownm := hown5.below hbm
          clear hbm
          go_wp2_with (at_builtin; refine wpList_append_own _ rfl _ _ 75 rfl (w.heap.size + 1) 121 i0 (.agg #[.string ByteArray.empty, .string ByteArray.empty]) 2 32 Tryz.underlying75 hi hz0 hz1 hz2 rfl (by decide) _ _ _ rfl (World.ownsRow.alloc hownm _) ⟨wm.heap.size, 0, none⟩ 1 1 (encOL [slJ]) rfl rfl (one_cellsO _ _ _) (encOL_one _) (by show (5 : Nat) ≤ maxLen; decide) (by show (5 : Nat) * 32 ≤ 140737488355328; decide) (by simp; omega) ?_; intro vj wj hownjr hgrwj _; have hownj : OwnO wj (w.heap.size + 1) vj [slC, slP, slM e.sd, slM e.key, slJ] := OwnO.snoc (l := [slC, slP, slM e.sd, slM e.key]) (k := [slJ]) hownjr; have hbwj : Below (w.heap.size + 1) w1 wj := (hbm1.alloc (by omega) _).grown hgrwj (by simp; omega) (fun q hq => hownm.lt q hq); have hclwj := HB.out _ hbwj; have hswj : w.heap.size + 1 ≤ wj.heap.size := Nat.le_trans hs1 hbwj.size)
          refine (sortO_own hownj (by show (5 : Nat) ≤ 1000000; decide)).mono ?_
          rintro x ws ⟨rfl, l5, hownS, hperm, hord, hgS⟩
          have hl5 : l5 = ndS e := nd_sorted (by rw [HA.out]; exact hperm) hord
          subst hl5
          have hbs : Below (w.heap.size + 1) w1 ws := hbwj.grown hgS (Nat.le_trans hs1 hbwj.size) (fun q hq => hownj.lt q hq)
          have hss : w.heap.size + 1 ≤ ws.heap.size := Nat.le_trans hs1 hbs.size
          clear hperm hord
          go_wp2_with fail
          refine (cpO_nd e Hc.out Hcr.out hownS hss).mono ?_
          rintro x wz ⟨vz, rfl, hownZ, hbz⟩
          go_wp2
          go_ret
          exact ⟨_, rfl, hownZ.mono (by omega), hw1.trans ((hbs.trans hbz).mono (by omega))⟩
end Go.Proofs.YtnkpikknkooblaaGreat
