import Derived.Test.YtgocjlpbokhoeaaGqW
import Derived.Test.YtgocjlpbokhoeaaSvI
import Derived.Test.YtgocjlpbokhoeaaSmSM
namespace Go.Proofs.Ytgocjlpbokhoeaa
open Go.RowKit
theorem lk_five {G : Nat → Grp} {n g : Nat} (h : stoTo G n = true) (hg : g < n) (kind key : ByteArray) : 1 ≤ (lkF G kind key (g + 1) g).2 ∧ (lkF G kind key (g + 1) g).2 ≤ 5 := by
  have h1 := lk_st h kind key g hg
  have h2 := (grpOk_parts (stoTo_at h g hg)).2.2.2.1
  omega
theorem lk_found {G : Nat → Grp} {n g : Nat} {s : List Ent} (h : stoTo G n = true) (hg : g < n) (he : expF G (g + 1) g = s) (hs : stB s = true) {x : Ent} (hx : x ∈ s) : (lkF G x.ty x.key (g + 1) g).1 = x.id ∧ (x.id.toList == []) = false := by
  have h1 := (lk_st h x.ty x.key g hg).1
  obtain ⟨_, hS, hI⟩ := st_parts hs
  rw [he, lookE_mem hS (s := ⟨x.ty, x.key, ⟨#[]⟩⟩) hx ⟨rfl, rfl⟩] at h1
  refine ⟨h1, ?_⟩
  have h2 := hI x hx
  cases hq : x.id.toList with
  | nil => rw [hq] at h2; cases h2
  | cons _ _ => rfl
theorem lk_none {G : Nat → Grp} {n g : Nat} {s : List Ent} (h : stoTo G n = true) (hg : g < n) (he : expF G (g + 1) g = s) (ht : Ty6 s) {kind : ByteArray} (hk : 6 < kind.size) (key : ByteArray) : (lkF G kind key (g + 1) g).1 = ⟨#[]⟩ := by
  have h1 := (lk_st h kind key g hg).1
  have h2 : lookE s ⟨kind, key, ⟨#[]⟩⟩ = none := lookE_none.2 fun x hx e => by
    have := ht x hx
    rw [e.1] at this
    exact absurd this (by show ¬ kind.size ≤ 6; omega)
  rw [he, h2] at h1
  exact h1
theorem empty_b : ((⟨#[]⟩ : ByteArray).toList == []) = true := by rw [ByteArray.toList_eq]; rfl
set_option maxRecDepth 100000 in
set_option maxHeartbeats 8000000 in
theorem lawGroups {a0 : Option Addr} {n0 cap0 : Nat} {bs : Nat → Nat} (w : World) (hle : n0 ≤ cap0) (hmax : cap0 ≤ maxLen) (h : BytesV w a0 n0 bs) (hb1 : ∀ i, i < n0 → bs i < 256) :
    Calls Try.prog 3 #[.slice a0 n0 cap0] w fun e w' => e = .returned (.bool true) ∧ Below w.heap.size w w' := by
  have HDr : Hid (∀ W, Below w.heap.size w W → Calls Try.prog 4 #[.slice a0 n0 cap0] W (DvPost W (dvN bs (rdN n0)) (dvG bs (rdN n0)) (dvS bs (rdN n0)) (dvK bs (rdN n0)))) := fun W hW => drawSave W hle hmax (h.imp id fun ⟨b, off, e, hlt, hx⟩ => ⟨b, off, e, Nat.lt_of_lt_of_le hlt hW.size, fun i hi => (hW.cell (by exact hlt)).trans (hx i hi)⟩) hb1
  have hnp := dvN_pos bs (rdN n0)
  have Hty : Hid (Ty6 (dvS bs (rdN n0))) := dvS_ty bs (rdN n0)
  have hnm : (n0 : Int) ≤ 9223372036854775807 := by unfold maxLen at hmax; omega
  clear hmax hle h hb1
  generalize dvN bs (rdN n0) = n at *
  generalize dvG bs (rdN n0) = G at *
  generalize dvS bs (rdN n0) = s at *
  generalize dvK bs (rdN n0) = near at *
  have Hf := fnC_fnd G s n
  have HSp : Hid (∀ (W : World) (a : Option Addr) (c : Nat) (sa : Option Addr) (sc : Nat), SlT W a n c G → SlE W sa sc s → Calls Try.prog 5 #[.agg #[.slice a n c], .slice sa s.length sc, .int .i64 near] W fun e w' => ∃ va vc, e = .returned (.tuple #[.agg #[.slice va (svN G n s (fnC G s n)) vc], .int .i64 (svC G n s (fnC G s n))]) ∧ Below W.heap.size W w') := fun W a c sa sc h1 h2 => (svS_sl n c near (fnC G s n) W Hf h1 h2).mono fun e w' ⟨v, T, h3, h4, h5⟩ => by
    obtain ⟨va, vc, rfl, _⟩ := h4.out.slt
    exact ⟨va, vc, h3, h5⟩
  have HIm : Hid (∀ (W : World) (a : Option Addr) (c : Nat) (sa : Option Addr) (sc : Nat), SlT W a n c G → SlE W sa sc s → Calls Try.prog 6 #[.agg #[.slice a n c], .slice sa s.length sc, .int .i64 near] W fun e w' => ∃ va vc, e = .returned (.tuple #[.agg #[.slice va (svN G n s (fnC G s n)) vc], .int .i64 (svC G n s (fnC G s n))]) ∧ Hid (SlT w' va (svN G n s (fnC G s n)) vc (extP G n (nwG G n s near))) ∧ Below W.heap.size W w') := fun W a c sa sc h1 h2 => by
    rcases h1.cells with h0 | ⟨b, off, rfl, _⟩
    · omega
    · refine (svI_any b off n c near (fnC G s n) W Hf h1 h2).mono fun e w' ⟨v, T, h3, h4, h5⟩ => ?_
      obtain ⟨va, vc, rfl, h6⟩ := h4.out.slt
      exact ⟨va, vc, h3, h6, h5⟩
  have HNo : Hid (svC G n s (fnC G s n) < 0 → svN G n s (fnC G s n) = 0) := fun hc => by
    cases hok : (stoB G n && stB s)
    · exact (sv_bad hok).1
    · by_cases h1 : 0 ≤ fnC G s n
      · rw [(sv_old hok h1).2] at hc; omega
      · by_cases h2 : 1000 ≤ n
        · exact (sv_full hok h1 h2).1
        · rw [(sv_new hok h1 h2).2] at hc; omega
  have HYes : Hid (0 ≤ svC G n s (fnC G s n) → stoTo G n = true ∧ stB s = true ∧ ∃ g : Nat, svC G n s (fnC G s n) = (g : Int) ∧ g < svN G n s (fnC G s n) ∧ n ≤ svN G n s (fnC G s n) ∧ stoB (extP G n (nwG G n s near)) (svN G n s (fnC G s n)) = true ∧ expF (extP G n (nwG G n s near)) (g + 1) g = s ∧ ∀ i, i < n → expF (extP G n (nwG G n s near)) (i + 1) i = expF G (i + 1) i) := fun hc => by
    cases hok : (stoB G n && stB s)
    · rw [(sv_bad hok).2] at hc; omega
    · rw [Bool.and_eq_true] at hok
      exact ⟨(stoB_parts hok.1).2, hok.2, sv_facts hok.1 hok.2 Hf hc⟩
  clear Hf
  generalize svN G n s (fnC G s n) = N at *
  generalize svC G n s (fnC G s n) = cd at *
  generalize extP G n (nwG G n s near) = G' at *
  by_cases hbig : 1048576 < n0
  · have hbz : (1048576 : Int) < (n0 : Int) := by omega
    clear HDr HSp HIm HNo HYes Hty
    go_enter Try.func3, Try.ntmps3
    go_wp2
    go_ret
    exact ⟨rfl, Below.refl _ _⟩
  have hbz : ¬ (1048576 : Int) < (n0 : Int) := by omega
  go_enter Try.func3, Try.ntmps3
  go_wp2_with fail
  refine (HDr.out w (Below.refl _ _)).mono ?_
  rintro e w1 ⟨a1, c1, sa, sc, rfl, H1, hb1⟩
  obtain ⟨v1, hv1⟩ : ∃ v1, v1 = w1.alloc (.cells #[.slice a1 n c1] 25) := ⟨_, rfl⟩
  have hbv1 : Below w1.heap.size w1 v1 := by rw [hv1]; exact (Below.refl _ _).alloc (Nat.le_refl _) _
  have X1 : v1.cell? ⟨w1.heap.size, 0, none⟩ = some (.slice a1 n c1) := by rw [hv1]; exact World.cell?_alloc_at _ _ _ _ rfl
  have z1 : w1.heap.size < v1.heap.size := by rw [hv1]; simp
  have hbw1 := hb1.trans (hbv1.mono hb1.size)
  have H1v : Hid (SlT v1 a1 n c1 G ∧ SlE v1 sa sc s) := ⟨H1.out.1.below hbv1, H1.out.2.below hbv1⟩
  clear H1 hb1
  go_wp2_with fail
  rw [← hv1]
  clear hv1
  refine (HSp.out v1 a1 c1 sa sc H1v.out.1 H1v.out.2).mono ?_
  rintro e w2 ⟨va, vc, rfl, hb2⟩
  obtain ⟨v2, hv2⟩ : ∃ v2, v2 = w2.alloc (.cells #[.slice va N vc] 25) := ⟨_, rfl⟩
  have hbv2 : Below w2.heap.size w2 v2 := by rw [hv2]; exact (Below.refl _ _).alloc (Nat.le_refl _) _
  have hb12 := hb2.trans (hbv2.mono hb2.size)
  have hbw2 := hbw1.trans (hb12.mono hbw1.size)
  clear hb2
  go_wp2_with fail
  rw [← hv2]
  clear hv2 hbv2
  refine (HDr.out v2 hbw2).mono ?_
  rintro e w3 ⟨a3, c3, ta, tc, rfl, H3, hb3⟩
  obtain ⟨v3, hv3⟩ : ∃ v3, v3 = w3.alloc (.cells #[.slice a3 n c3] 25) := ⟨_, rfl⟩
  have hbv3 : Below w3.heap.size w3 v3 := by rw [hv3]; exact (Below.refl _ _).alloc (Nat.le_refl _) _
  have X3 : v3.cell? ⟨w3.heap.size, 0, none⟩ = some (.slice a3 n c3) := by rw [hv3]; exact World.cell?_alloc_at _ _ _ _ rfl
  have hb13 := hb12.trans ((hb3.trans (hbv3.mono hb3.size)).mono hb12.size)
  have hbw3 := hbw1.trans (hb13.mono hbw1.size)
  have H3v : Hid (SlT v3 a3 n c3 G ∧ SlE v3 ta tc s) := ⟨H3.out.1.below hbv3, H3.out.2.below hbv3⟩
  clear H3 hb3 hb12 hbw2
  go_wp2_with fail
  rw [← hv3]
  clear hv3 hbv3
  refine (HIm.out v3 a3 c3 ta tc H3v.out.1 H3v.out.2).mono ?_
  rintro e w4 ⟨vb, vd, rfl, H4, hb4⟩
  obtain ⟨v4, hv4⟩ : ∃ v4, v4 = w4.alloc (.cells #[.slice vb N vd] 25) := ⟨_, rfl⟩
  have hbv4 : Below w4.heap.size w4 v4 := by rw [hv4]; exact (Below.refl _ _).alloc (Nat.le_refl _) _
  have hb14 := hb13.trans ((hb4.trans (hbv4.mono hb4.size)).mono hb13.size)
  have hbw4 := hbw1.trans (hb14.mono hbw1.size)
  obtain ⟨B, hBd⟩ : ∃ B, B = w4.heap.size := ⟨_, rfl⟩
  obtain ⟨A, hAd⟩ : ∃ A, A = w1.heap.size := ⟨_, rfl⟩
  have X4 : v4.cell? ⟨B, 0, none⟩ = some (.slice vb N vd) := by rw [hv4, hBd]; exact World.cell?_alloc_at _ _ _ _ rfl
  have zB : B < v4.heap.size := by rw [hv4, hBd]; simp
  have zA : A < v4.heap.size := by rw [hAd]; exact Nat.lt_of_lt_of_le z1 hb14.size
  have X1' : v4.cell? ⟨A, 0, none⟩ = some (.slice a1 n c1) := by rw [hAd]; exact (hb14.cell (p := ⟨w1.heap.size, 0, none⟩) z1).trans X1
  have HW : Hid (∀ W, Below v4.heap.size v4 W → W.cell? ⟨A, 0, none⟩ = some (.slice a1 n c1) ∧ W.cell? ⟨B, 0, none⟩ = some (.slice vb N vd) ∧ SlT W a1 n c1 G ∧ SlE W sa sc s ∧ SlT W vb N vd G' ∧ Below w.heap.size w W) := fun W hW =>
    ⟨(hW.cell (p := ⟨A, 0, none⟩) zA).trans X1', (hW.cell (p := ⟨B, 0, none⟩) zB).trans X4, H1v.out.1.below (hb14.trans (hW.mono hb14.size)), H1v.out.2.below (hb14.trans (hW.mono hb14.size)), (H4.out.below hbv4).below hW, hbw4.trans (hW.mono hbw4.size)⟩
  rw [← hAd]
  clear H1v H3v H4 hb4 hb13 hb14 hbw1 hbw3 hbv1 X1 X3 HDr HSp HIm hbv4 hAd
  go_upto_region 7 with fail
  rw [← hv4, ← hBd]
  clear hv4 hBd z1
  by_cases hcd : cd < 0
  · have hN : N = 0 := HNo.out hcd
    subst hN
    have HF := (HW.out v4 (Below.refl _ _)).2.2.2.2.2
    have HF' : Hid (Below w.heap.size w v4) := HF
    clear HF HW HNo HYes Hty
    go_wp2
    go_ret
    exact ⟨rfl, HF'.out⟩
  obtain ⟨hto, hst, g, rfl, hgN, hnN, hsto, hexp, hold⟩ := HYes.out (by omega)
  obtain ⟨hN1000, hto'⟩ := stoB_parts hsto
  have hs3 : s.length ≤ 300 := (st_parts hst).1
  have hex : ∀ i : Nat, i < N → exOk G' N (i : Int) = true := fun i hi => by unfold exOk; rw [hsto, decide_eq_true (show (0 : Int) ≤ i by omega), decide_eq_true (show (i : Int) < N by omega)]; rfl
  have hexG : ∀ i : Nat, i < n → exOk G n (i : Int) = true := fun i hi => by unfold exOk stoB; rw [hto, decide_eq_true hnp.2, decide_eq_true (show (0 : Int) ≤ i by omega), decide_eq_true (show (i : Int) < n by omega)]; rfl
  have HEI : Hid (∀ (i : Nat), i < N → ∀ W, Below v4.heap.size v4 W → Calls Try.prog 7 #[.agg #[.slice vb N vd], .int .i64 (i : Int)] W fun e w' => ∃ xa xc, e = .returned (.tuple #[.slice xa (expF G' (i + 1) i).length xc, .bool true]) ∧ Hid (SlE w' xa xc (expF G' (i + 1) i)) ∧ Below W.heap.size W w') := fun i hi W hW => by
    refine (expI_ans (i : Int) W (HW.out W hW).2.2.2.2.1).mono ?_
    rintro e w' ⟨hb, xa, xc, rfl, hsl, _⟩
    have ev : exV G' N (i : Int) = expF G' (i + 1) i := by unfold exV; rw [hex i hi, if_pos rfl]; rfl
    rw [ev] at hsl
    exact ⟨xa, xc, by rw [ev, hex i hi], hsl, hb⟩
  have HES : Hid (∀ (i : Nat), i < n → ∀ W, Below v4.heap.size v4 W → Calls Try.prog 10 #[.agg #[.slice a1 n c1], .int .i64 (i : Int)] W fun e w' => ∃ xa xc, e = .returned (.tuple #[.slice xa (expF G' (i + 1) i).length xc, .bool true]) ∧ Hid (SlE w' xa xc (expF G' (i + 1) i)) ∧ Below W.heap.size W w') := fun i hi W hW => by
    refine (expS_sl (i : Int) W (HW.out W hW).2.2.1).mono ?_
    rintro e w' ⟨hb, xa, xc, rfl, hsl, _⟩
    have ev : exV G n (i : Int) = expF G' (i + 1) i := by unfold exV; rw [hexG i hi, if_pos rfl, hold i hi]; rfl
    rw [ev] at hsl
    exact ⟨xa, xc, by rw [ev, hexG i hi], hsl, hb⟩
  have HLen : Hid (∀ i, i < N → (expF G' (i + 1) i).length ≤ 300) := fun i hi => (grpOk_parts (stoTo_at hto' i hi)).2.2.2.2
  have HSo : Hid (∀ W, Below v4.heap.size v4 W → Calls Try.prog 8 #[.agg #[.slice vb N vd]] W fun e w' => e = .returned (.bool true) ∧ Below W.heap.size W w') := fun W hW => (storeI_sl W (HW.out W hW).2.2.2.2.1).mono fun e w' ⟨h1, h2⟩ => ⟨by rw [h1, hsto], h2⟩
  have HSm : Hid (∀ (l : List Ent) (xa ya : Option Addr) (xc yc : Nat) W, l.length ≤ 300 → SlE W xa xc l → SlE W ya yc l → Calls Try.prog 9 #[.slice xa l.length xc, .slice ya l.length yc] W fun e w' => e = .returned (.bool true) ∧ Below W.heap.size W w') := fun l xa ya xc yc W hl h1 h2 => (same_sl W (by omega) h1 h2).mono fun e w' ⟨h3, h4⟩ => ⟨h3, h4⟩
  have HLo : Hid (∀ (kind key : ByteArray) W, Below v4.heap.size v4 W → Calls Try.prog 11 #[.agg #[.slice vb N vd], .int .i64 (g : Int), .string kind, .string key] W fun e w' => e = .returned (.tuple #[.string (lkF G' kind key (g + 1) g).1, .int .i64 ((lkF G' kind key (g + 1) g).2 : Nat), .bool (!((lkF G' kind key (g + 1) g).1.toList == []))]) ∧ Below W.heap.size W w') := fun kind key W hW => by
    refine (lookI_sl (g : Int) kind key W (HW.out W hW).2.2.2.2.1).mono ?_
    rintro e w' ⟨hb, hp⟩
    rcases hp with ⟨_, q, hq, rfl⟩ | ⟨h0, _⟩
    · have e1 : q = g := by omega
      subst e1
      exact ⟨rfl, hb⟩
    · rw [hex g hgN] at h0; cases h0
  have HL1 : Hid (∀ x, x ∈ s → ∀ W, Below v4.heap.size v4 W → Calls Try.prog 11 #[.agg #[.slice vb N vd], .int .i64 (g : Int), .string x.ty, .string x.key] W fun e w' => ∃ v : Nat, e = .returned (.tuple #[.string x.id, .int .i64 (v : Int), .bool true]) ∧ 1 ≤ v ∧ v ≤ 5 ∧ Below W.heap.size W w') := fun x hx W hW => by
    obtain ⟨f1, f2⟩ := lk_found hto' hgN hexp hst hx
    have f3 := lk_five hto' hgN x.ty x.key
    refine (HLo.out x.ty x.key W hW).mono fun e w' ⟨h1, h2⟩ => ⟨_, ?_, f3.1, f3.2, h2⟩
    rw [h1, f1, f2]
    rfl
  have HL2 : Hid (∀ W, Below v4.heap.size v4 W → Calls Try.prog 11 #[.agg #[.slice vb N vd], .int .i64 (g : Int), .string ⟨#[110, 111, 32, 115, 117, 99, 104, 32, 116, 121, 112, 101]⟩, .string ⟨#[]⟩] W fun e w' => ∃ v : Nat, e = .returned (.tuple #[.string ⟨#[]⟩, .int .i64 (v : Int), .bool false]) ∧ 1 ≤ v ∧ v ≤ 5 ∧ Below W.heap.size W w') := fun W hW => by
    have f1 := lk_none hto' hgN hexp Hty.out (kind := ⟨#[110, 111, 32, 115, 117, 99, 104, 32, 116, 121, 112, 101]⟩) (by decide) ⟨#[]⟩
    have f3 := lk_five hto' hgN ⟨#[110, 111, 32, 115, 117, 99, 104, 32, 116, 121, 112, 101]⟩ ⟨#[]⟩
    refine (HLo.out _ _ W hW).mono fun e w' ⟨h1, h2⟩ => ⟨_, ?_, f3.1, f3.2, h2⟩
    rw [h1, f1, empty_b]
    rfl
  have HEg : Hid (∀ W, Below v4.heap.size v4 W → Calls Try.prog 7 #[.agg #[.slice vb N vd], .int .i64 (g : Int)] W fun e w' => ∃ xa xc, e = .returned (.tuple #[.slice xa s.length xc, .bool true]) ∧ Hid (SlE w' xa xc s) ∧ Below W.heap.size W w') := fun W hW => by
    have := HEI.out g hgN W hW
    rw [hexp] at this
    exact this
  clear HNo HYes Hty hto hst hsto hexp hold hN1000 hto' hex hexG HLo X4 X1'
  have hcdz : ¬ ((g : Int) < 0) := by omega
  obtain ⟨y1, y4, -, -, -, -⟩ := HW.out v4 (Below.refl _ _)
  go_wp2_with fail
  refine (HEg.out v4 (Below.refl _ _)).mono ?_
  rintro e w5 ⟨xa, xc, rfl, H5, hb5⟩
  clear y1 y4 HEg
  obtain ⟨y1, y4, -, -, -, -⟩ := HW.out w5 hb5
  go_wp2_with fail
  refine (HSo.out w5 hb5).mono ?_
  rintro e w6 ⟨rfl, hb6⟩
  have hb46 := hb5.trans (hb6.mono hb5.size)
  clear y1 y4 HSo
  go_wp2_with fail
  refine (HSm.out s xa sa xc sc w6 hs3 (H5.out.below hb6) (HW.out w6 hb46).2.2.2.1).mono ?_
  rintro e w7 ⟨rfl, hb7⟩
  have hb47 := hb46.trans (hb7.mono hb46.size)
  clear hb6 hb46 hb7 hb5 H5
  obtain ⟨y1, y4, -, -, -, -⟩ := HW.out w7 hb47
  go_wp2_with fail
  clear y1 y4
  go_loopw [15] (fun iv wr => ∃ i : Nat, i ≤ n ∧ iv = .int .i64 (i : Int) ∧ Below v4.heap.size v4 wr) (fun iv _ => n - (intOf iv).toNat)
  case atStart => exact ⟨0, Nat.zero_le _, rfl, hb47⟩
  case round =>
    clear hb47
    obtain ⟨i, hi, rfl, hB⟩ := hrel
    obtain ⟨y1, y4, -, -, -, -⟩ := HW.out wr hB
    by_cases hlt : i < n
    · have hltz : (i : Int) < (n : Int) := by omega
      go_wp2_with fail
      refine (HES.out i hlt wr hB).mono ?_
      rintro e w8 ⟨oa, oc, rfl, HO, hb8⟩
      have hb48 := hB.trans (hb8.mono hB.size)
      clear y1 y4
      obtain ⟨y1, y4, -, -, -, -⟩ := HW.out w8 hb48
      go_wp2_with fail
      refine (HEI.out i (by omega) w8 hb48).mono ?_
      rintro e w9 ⟨ka, kc, rfl, HK, hb9⟩
      have hb49 := hb48.trans (hb9.mono hb48.size)
      have HOk : Hid (SlE w9 oa oc (expF G' (i + 1) i)) := HO.out.below hb9
      have hle := HLen.out i (by omega)
      clear y1 y4 HO hb8 hb9 hb48
      go_wp2_with fail
      refine (HSm.out _ ka oa kc oc w9 hle HK.out HOk.out).mono ?_
      rintro e w10 ⟨rfl, hb10⟩
      have hb410 := hb49.trans (hb10.mono hb49.size)
      clear hb10 hb49 HK HOk hle hB
      go_wp2
      go_roundw
      case rel => exact ⟨i + 1, by omega, by go_num, hb410⟩
      case measure => simp [intOf]; omega
    · have hltz : ¬ (i : Int) < (n : Int) := by omega
      go_wp2_with fail
      clear y1 y4 HES HEI HSm HLen
      obtain ⟨wo, rfl⟩ : ∃ wo : World, wo = wr := ⟨_, rfl⟩
      go_loopw [20] (fun iv wr => ∃ i : Nat, i ≤ s.length ∧ iv = .int .i64 (i : Int) ∧ Below v4.heap.size v4 wr) (fun iv _ => s.length - (intOf iv).toNat)
      case atStart => exact ⟨0, Nat.zero_le _, rfl, hB⟩
      case round =>
        clear hB
        obtain ⟨i, hi, rfl, hB⟩ := hrel
        obtain ⟨y1, y4, -, hsl, -, hbw⟩ := HW.out wr hB
        by_cases hlt : i < s.length
        · have hltz : (i : Int) < (s.length : Int) := by omega
          obtain ⟨sb, so, rfl, hsb, q1, q2, q3⟩ : ∃ sb so, sa = some ⟨sb, so, none⟩ ∧ sb < wr.heap.size ∧ wr.cell? ⟨sb, so + i * 3, none⟩ = some (.string (eAt s i).ty) ∧ wr.cell? ⟨sb, so + i * 3 + 1, none⟩ = some (.string (eAt s i).key) ∧ wr.cell? ⟨sb, so + i * 3 + 2, none⟩ = some (.string (eAt s i).id) := by
            rcases hsl.cells with h0 | ⟨sb, so, e, hb, c1, c2, c3⟩
            · rw [h0] at hlt; exact absurd hlt (Nat.not_lt_zero _)
            · exact ⟨sb, so, e, hb, c1 i hlt, c2 i hlt, c3 i hlt⟩
          have hzx := (hsl.size i hlt).2.2
          have hxm := eAt_mem s i hlt
          have HLk : Hid (∀ W, Below wr.heap.size wr W → Calls Try.prog 11 #[.agg #[.slice vb N vd], .int .i64 (g : Int), .string (eAt s i).ty, .string (eAt s i).key] W fun e w' => ∃ v : Nat, e = .returned (.tuple #[.string (eAt s i).id, .int .i64 (v : Int), .bool true]) ∧ 1 ≤ v ∧ v ≤ 5 ∧ Below wr.heap.size wr w') := fun W hW => (HL1.out _ hxm W (hB.trans (hW.mono hB.size))).mono fun e w' ⟨v, h1, h2, h3, h4⟩ => ⟨v, h1, h2, h3, hW.trans (h4.mono hW.size)⟩
          clear hxm hsl
          generalize eAt s i = x at *
          have hBr : B < wr.heap.size := Nat.lt_of_lt_of_le zB hB.size
          have HS : Hid (∀ W, Below wr.heap.size wr W → W.cell? ⟨B, 0, none⟩ = some (.slice vb N vd) ∧ W.cell? ⟨sb, so + i * 3, none⟩ = some (.string x.ty) ∧ W.cell? ⟨sb, so + i * 3 + 1, none⟩ = some (.string x.key)) := fun W hW => ⟨(hW.cell (p := ⟨B, 0, none⟩) hBr).trans y4, (hW.cell (p := ⟨sb, so + i * 3, none⟩) hsb).trans q1, (hW.cell (p := ⟨sb, so + i * 3 + 1, none⟩) hsb).trans q2⟩
          have hrf : Below wr.heap.size wr wr := Below.refl _ _
          clear y1 y4 hbw
          go_upto_region 24 with fail
          refine wp_region_held_drew (S := fun X => X.cell? ⟨B, 0, none⟩ = some (.slice vb N vd) ∧ X.cell? ⟨sb, so + i * 3, none⟩ = some (.string x.ty) ∧ X.cell? ⟨sb, so + i * 3 + 1, none⟩ = some (.string x.key)) (by kernel_rfl) ?_ (fun hHeld => ?_)
          · (try dsimp only); exact HS.out _ (by with_reducible first | exact hrf | exact hrf.drew | exact hrf.drew.drew | exact hrf.drew.drew.drew)
          refine wpAnyH_take (i := 0) (v := ?vm1) rfl (by kernel_rfl) (by kernel_rfl) (by kernel_rfl) (fun _ _ _ h => h) (Or.inl ⟨by rfl, ?hm1⟩) (by assumption) ?_
          case hm1 => (intro w hSw; (try dsimp only at hSw); go_simp; try (with_reducible rfl))
          simp only [Act.put, List.getElem_toArray, List.getElem_cons_zero, List.setIfInBounds_toArray, List.set_cons_zero, List.set_cons_succ]
          refine wpAnyH_take (i := 1) (v := ?vm2) rfl (by kernel_rfl) (by kernel_rfl) (by kernel_rfl) (fun _ _ _ h => h) (Or.inl ⟨by rfl, ?hm2⟩) (by assumption) ?_
          case hm2 => (intro w hSw; (try dsimp only at hSw); go_simp; try (with_reducible rfl))
          simp only [Act.put, List.getElem_toArray, List.getElem_cons_zero, List.getElem_cons_succ, List.setIfInBounds_toArray, List.set_cons_zero, List.set_cons_succ]
          refine wpAnyH_take (i := 2) (v := ?vm3) rfl (by kernel_rfl) (by kernel_rfl) (by kernel_rfl) (fun _ _ _ h => h) (Or.inl ⟨by rfl, ?hm3⟩) (by assumption) ?_
          case hm3 => (intro w hSw; (try dsimp only at hSw); go_simp; try (with_reducible rfl))
          simp only [Act.put, List.getElem_toArray, List.getElem_cons_zero, List.getElem_cons_succ, List.setIfInBounds_toArray, List.set_cons_zero, List.set_cons_succ]
          refine wpAnyH_take (i := 3) (v := ?vm4) rfl (by kernel_rfl) (by kernel_rfl) (by kernel_rfl) (fun _ _ _ h => h) (Or.inl ⟨by rfl, ?hm4⟩) (by assumption) ?_
          case hm4 => (intro w hSw; (try dsimp only at hSw); go_simp; try (with_reducible rfl))
          simp only [Act.put, List.getElem_toArray, List.getElem_cons_zero, List.getElem_cons_succ, List.setIfInBounds_toArray, List.set_cons_zero, List.set_cons_succ]
          refine wpAnyH_take (i := 4) (v := ?vm5) rfl (by kernel_rfl) (by kernel_rfl) (by kernel_rfl) (fun _ _ _ h => h) (Or.inl ⟨by rfl, ?hm5⟩) (by assumption) ?_
          case hm5 => (intro w hSw; (try dsimp only at hSw); go_simp; try (with_reducible rfl))
          simp only [Act.put, List.getElem_toArray, List.getElem_cons_zero, List.getElem_cons_succ, List.setIfInBounds_toArray, List.set_cons_zero, List.set_cons_succ]
          refine wpAnyH_take (i := 5) (v := ?vm6) rfl (by kernel_rfl) (by kernel_rfl) (by kernel_rfl) (fun _ _ _ h => h) (Or.inl ⟨by rfl, ?hm6⟩) (by assumption) ?_
          case hm6 => (intro w hSw; (try dsimp only at hSw); go_simp; try (with_reducible rfl))
          simp only [Act.put, List.getElem_toArray, List.getElem_cons_zero, List.getElem_cons_succ, List.setIfInBounds_toArray, List.set_cons_zero, List.set_cons_succ]
          refine wpAnyH_take (i := 6) (v := ?vm7) rfl (by kernel_rfl) (by kernel_rfl) (by kernel_rfl) (fun _ _ _ h => h) (Or.inl ⟨by rfl, ?hm7⟩) (by assumption) ?_
          case hm7 => (intro w hSw; (try dsimp only at hSw); go_simp; try (with_reducible rfl))
          simp only [Act.put, List.getElem_toArray, List.getElem_cons_zero, List.getElem_cons_succ, List.setIfInBounds_toArray, List.set_cons_zero, List.set_cons_succ]
          refine wpAnyH_take (i := 7) (v := ?vm8) rfl (by kernel_rfl) (by kernel_rfl) (by kernel_rfl) (fun _ _ _ h => h) (Or.inl ⟨by rfl, ?hm8⟩) (by assumption) ?_
          case hm8 => (intro w hSw; (try dsimp only at hSw); go_simp; try (with_reducible rfl))
          simp only [Act.put, List.getElem_toArray, List.getElem_cons_zero, List.getElem_cons_succ, List.setIfInBounds_toArray, List.set_cons_zero, List.set_cons_succ]
          refine wpAnyH_take (i := 8) (v := ?vm9) rfl (by kernel_rfl) (by kernel_rfl) (by kernel_rfl) (fun _ _ _ h => h) (Or.inl ⟨by rfl, ?hm9⟩) (by assumption) ?_
          case hm9 => (intro w hSw; (try dsimp only at hSw); go_simp; try (with_reducible rfl))
          simp only [Act.put, List.getElem_toArray, List.getElem_cons_zero, List.getElem_cons_succ, List.setIfInBounds_toArray, List.set_cons_zero, List.set_cons_succ]
          refine wpAnyH_take (i := 9) (v := ?vm10) rfl (by kernel_rfl) (by kernel_rfl) (by kernel_rfl) (fun _ _ _ h => h) (Or.inl ⟨by rfl, ?hm10⟩) (by assumption) ?_
          case hm10 => (intro w hSw; (try dsimp only at hSw); go_simp; try (with_reducible rfl))
          simp only [Act.put, List.getElem_toArray, List.getElem_cons_zero, List.getElem_cons_succ, List.setIfInBounds_toArray, List.set_cons_zero, List.set_cons_succ]
          refine wpAnyH_take (i := 10) (v := ?vm11) rfl (by kernel_rfl) (by kernel_rfl) (by kernel_rfl) (fun _ _ _ h => h) (Or.inl ⟨by rfl, ?hm11⟩) (by assumption) ?_
          case hm11 => (intro w hSw; (try dsimp only at hSw); go_simp; try (with_reducible rfl))
          simp only [Act.put, List.getElem_toArray, List.getElem_cons_zero, List.getElem_cons_succ, List.setIfInBounds_toArray, List.set_cons_zero, List.set_cons_succ]
          refine wpAnyH_take (i := 11) (v := ?vm12) rfl (by kernel_rfl) (by kernel_rfl) (by kernel_rfl) (fun _ _ _ h => h) (Or.inl ⟨by rfl, ?hm12⟩) (by assumption) ?_
          case hm12 => (intro w hSw; (try dsimp only at hSw); go_simp; try (with_reducible rfl))
          simp only [Act.put, List.getElem_toArray, List.getElem_cons_zero, List.getElem_cons_succ, List.setIfInBounds_toArray, List.set_cons_zero, List.set_cons_succ]
          refine wpAnyH_ready (rs := [12]) (by kernel_rfl) (by simp) ?_
          refine AllReadyH.cons rfl (fun K hK => ?_) AllReadyH.nil
          go_simp
          go_at_call 11
          refine (HLk.out _ (by with_reducible first | exact hrf | exact hrf.drew | exact hrf.drew.drew | exact hrf.drew.drew.drew)).mono ?_
          rintro e w2 ⟨v, rfl, hv1, hv5, hb2⟩
          (try dsimp only)
          refine hK.out _ _ ?_ (fun hHeld => ?_)
          · (try dsimp only); exact HS.out _ (by with_reducible first | exact hb2 | exact hb2.drew | exact hb2.drew.drew | exact hb2.drew.drew.drew)
          clear hK K
          try simp only [Act.put, List.getElem_toArray, List.getElem_cons_zero, List.getElem_cons_succ, List.setIfInBounds_toArray, List.set_cons_zero, List.set_cons_succ]
          refine wpAnyH_take (i := 13) (v := ?vm13) rfl (by kernel_rfl) (by kernel_rfl) (by kernel_rfl) (fun _ _ _ h => h) (Or.inl ⟨by rfl, ?hm13⟩) (by assumption) ?_
          case hm13 => (intro w hSw; (try dsimp only at hSw); go_simp; try (with_reducible rfl))
          simp only [Act.put, List.getElem_toArray, List.getElem_cons_zero, List.getElem_cons_succ, List.setIfInBounds_toArray, List.set_cons_zero, List.set_cons_succ]
          refine wpAnyH_take (i := 14) (v := ?vm14) rfl (by kernel_rfl) (by kernel_rfl) (by kernel_rfl) (fun _ _ _ h => h) (Or.inl ⟨by rfl, ?hm14⟩) (by assumption) ?_
          case hm14 => (intro w hSw; (try dsimp only at hSw); go_simp; try (with_reducible rfl))
          simp only [Act.put, List.getElem_toArray, List.getElem_cons_zero, List.getElem_cons_succ, List.setIfInBounds_toArray, List.set_cons_zero, List.set_cons_succ]
          refine wpAnyH_take (i := 15) (v := ?vm15) rfl (by kernel_rfl) (by kernel_rfl) (by kernel_rfl) (fun _ _ _ h => h) (Or.inl ⟨by rfl, ?hm15⟩) (by assumption) ?_
          case hm15 => (intro w hSw; (try dsimp only at hSw); go_simp; try (with_reducible rfl))
          simp only [Act.put, List.getElem_toArray, List.getElem_cons_zero, List.getElem_cons_succ, List.setIfInBounds_toArray, List.set_cons_zero, List.set_cons_succ]
          refine wpAnyH_take (i := 16) (v := ?vm16) rfl (by kernel_rfl) (by kernel_rfl) (by kernel_rfl) (fun _ _ _ h => h) (Or.inl ⟨by rfl, ?hm16⟩) (by assumption) ?_
          case hm16 => (intro w hSw; (try dsimp only at hSw); go_simp; try (with_reducible rfl))
          simp only [Act.put, List.getElem_toArray, List.getElem_cons_zero, List.getElem_cons_succ, List.setIfInBounds_toArray, List.set_cons_zero, List.set_cons_succ]
          refine wpAnyH_take (i := 17) (v := ?vm17) rfl (by kernel_rfl) (by kernel_rfl) (by kernel_rfl) (fun _ _ _ h => h) (Or.inl ⟨by rfl, ?hm17⟩) (by assumption) ?_
          case hm17 => (intro w hSw; (try dsimp only at hSw); go_simp; try (with_reducible rfl))
          simp only [Act.put, List.getElem_toArray, List.getElem_cons_zero, List.getElem_cons_succ, List.setIfInBounds_toArray, List.set_cons_zero, List.set_cons_succ]
          refine wpAnyH_take (i := 18) (v := ?vm18) rfl (by kernel_rfl) (by kernel_rfl) (by kernel_rfl) (fun _ _ _ h => h) (Or.inl ⟨by rfl, ?hm18⟩) (by assumption) ?_
          case hm18 => (intro w hSw; (try dsimp only at hSw); go_simp; try (with_reducible rfl))
          simp only [Act.put, List.getElem_toArray, List.getElem_cons_zero, List.getElem_cons_succ, List.setIfInBounds_toArray, List.set_cons_zero, List.set_cons_succ]
          refine wpAnyH_take (i := 19) (v := ?vm19) rfl (by kernel_rfl) (by kernel_rfl) (by kernel_rfl) (fun _ _ _ h => h) (Or.inl ⟨by rfl, ?hm19⟩) (by assumption) ?_
          case hm19 => (intro w hSw; (try dsimp only at hSw); go_simp; try (with_reducible rfl))
          simp only [Act.put, List.getElem_toArray, List.getElem_cons_zero, List.getElem_cons_succ, List.setIfInBounds_toArray, List.set_cons_zero, List.set_cons_succ]
          refine wpAnyH_done (by kernel_rfl) ?_ _
          have q3' := (hb2.cell (p := ⟨sb, so + i * 3 + 2, none⟩) hsb).trans q3
          have hb42 := hB.trans (hb2.mono hB.size)
          have hvz1 : ¬ (v : Int) < 1 := by omega
          have hvz5 : ¬ (5 : Int) < (v : Int) := by omega
          clear hb2 hB HS HLk q1 q2 q3 hrf
          go_wp2
          go_roundw
          case rel => exact ⟨i + 1, by omega, by go_num, hb42⟩
          case measure => simp [intOf]; omega
        · have hltz : ¬ (i : Int) < (s.length : Int) := by omega
          clear hsl HL1
          go_wp2_with fail
          refine (HL2.out wr hB).mono ?_
          rintro e w8 ⟨v, rfl, hv1, hv5, hb8⟩
          have hvz1 : (1 : Int) ≤ (v : Int) := by omega
          have hvz5 : (v : Int) ≤ 5 := by omega
          have HF : Hid (Below w.heap.size w w8) := hbw.trans (hb8.mono hbw.size)
          clear y1 y4 HW hb8 hbw HL2
          go_wp2
          go_ret
          exact ⟨rfl, HF.out⟩
end Go.Proofs.Ytgocjlpbokhoeaa
