import Derived.Test.YtihacnhmiopalaaDoorXeNT
namespace Go.Proofs.YtihacnhmiopalaaDoor
open Go.RowKit
def fgM (S : Nat -> ByteArray) (n : Nat) : Nat -> ByteArray := fun i => if i < n then S i else ⟨#[122]⟩ ++ decB (1000 + i)
def fgL (S : Nat -> Int) (n : Nat) : Nat -> Int := fun i => if i < n then S i else 0
theorem XeN.congS {p : Nat} {wo w W : World} {bs : Nat -> Nat} {m q : Nat} {e : Ev} {t : Ls} {i : Nat} {M M' : Nat -> ByteArray} {L L' : Nat -> Int} {a : Option Addr} {c : Nat} (h : XeN p wo w W bs m q e t i M L a c) (hs : ∀ j, j < i -> M j = M' j ∧ L j = L' j) : XeN p wo w W bs m q e t i M' L' a c :=
 ⟨h.x, by unfold OwnG; rw [<- encG_congr hs]; exact h.a9, h.p6, h.q7, h.h, h.hp, h.hq⟩
theorem extF_selfI (S : Nat -> Int) (i : Nat) : extF S i (S i) = S := funext fun j => by
 unfold extF
 split
 ·rename_i h; rw [h]
 ·rfl
theorem decB_size2 (n : Nat) (h : n <= 2000) : (decB n).size <= 20 := by show (Lib.decDigits n).toArray.size <= 20; rw [List.size_toArray, Lib.decDigits_length]; exact Lib.nDigits_le20 n (by omega)
set_option maxRecDepth 100000 in
set_option maxHeartbeats 4000000 in
theorem xeC14 (p : Nat) {bs : Nat -> Nat} {m q k v : Nat} {e : Ev} {t : Ls} {od : ByteArray} {R : Ending -> World -> Prop} {u1 u8 u9 u10 u11 u12 u13 u14 u15 u16 u17 u18 u19 u20 u21 u22 u23 u24 u25 u26 u27 u28 u29 u30 u31 u32 u33 u34 u35 u36 u37 u38 u39 u40 u41 u42 u43 u44 u45 u46 u47 u48 u49 u50 u51 u52 u53 u54 u55 u56 u57 u58 u59 u60 u61 u62 u63 u64 u65 u66 u67 u68 u69 u70 u71 u72 u73 u74 u75 u76 u77 u78 u79 u80 u81 u82 u83 u84 u85 u86 u87 u88 u89 u90 u91 u92 u93 u94 u95 u96 u97 u98 u99 u100 u101 u102 u103 u104 u105 u106 u107 u108 u109 u110 u111 u112 u113 u114 u115 u116 u117 u118 u119 u120 u121 u122 u123 u124 u125 u126 u127 u128 u129 u130 u131 u132 u133 u134 u135 u136 u137 u138 u139 u140 u141 u142 u143 u144 u145 u146 u147 u148 u149 u150 u151 u152 u153 u154 u155 u156 u157 u158 u159 u160 u161 u162 u163 u164 u165 u166 : Value} (wo w W : World) (hp : p < wo.heap.size) (hww : wo.heap.size <= w.heap.size) (hwl : wo.heap.size <= t.lo) (hhi : t.hi <= w.heap.size) (hk : k < 256) (hv : v < 256) (hc : k % 16 = 14) (HQ : Hid (QO W e t)) (HX : Hid (EvX p wo w W bs m q t.lo t.hi (fun o => (#[.string e.id, .string e.sd, .string e.ty, .bool e.st, .string e.key, .int .i64 e.tm, .slice t.pa e.np t.cp, .slice t.aa e.na t.ca, .string e.val, .slice t.ga e.ng t.cg] : Array Value)[o]?.getD undef))) (HR : Hid (XeR p wo w bs m q t.lo t.hi (spE k v e) R)) :
  Code.wp Tryd.prog (tlN (Tryd.f13.body.getD .skip) 4) (bodyPost Tryd.prog Tryd.f13 R) { tmps := #[.pointer (some ⟨p, 0, none⟩), u1, undef, .pointer (some ⟨w.heap.size, 0, none⟩), .pointer (some ⟨w.heap.size + 1, 0, none⟩), .int .i64 (k : Int), .int .i64 (v : Int), .string od, u8, u9, u10, u11, u12, u13, u14, u15, u16, u17, u18, u19, u20, u21, u22, u23, u24, u25, u26, u27, u28, u29, u30, u31, u32, u33, u34, u35, u36, u37, u38, u39, u40, u41, u42, u43, u44, u45, u46, u47, u48, u49, u50, u51, u52, u53, u54, u55, u56, u57, u58, u59, u60, u61, u62, u63, u64, u65, u66, u67, u68, u69, u70, u71, u72, u73, u74, u75, u76, u77, u78, u79, u80, u81, u82, u83, u84, u85, u86, u87, u88, u89, u90, u91, u92, u93, u94, u95, u96, u97, u98, u99, u100, u101, u102, u103, u104, u105, u106, u107, u108, u109, u110, u111, u112, u113, u114, u115, u116, u117, u118, u119, u120, u121, u122, u123, u124, u125, u126, u127, u128, u129, u130, u131, u132, u133, u134, u135, u136, u137, u138, u139, u140, u141, u142, u143, u144, u145, u146, u147, u148, u149, u150, u151, u152, u153, u154, u155, u156, u157, u158, u159, u160, u161, u162, u163, u164, u165, u166], defers := [] } W := by
 obtain ⟨i0, hi0, hz0, hz1, hz2⟩ := info_parts Tryd.infoGrant
 rw [show tlN (Tryd.f13.body.getD .skip) 4 = Code.seq _ _ from rfl]
 have hsp : spE k v e = { e with ng := mx e.ng (49 + v % 3), M := fgM e.M e.ng, L := fgL e.L e.ng } := by unfold spE fgM fgL; simp [hc]
 rw [hsp] at HR
 have hci : (k : Int) % 16 = 14 := by omega
 have b7 : W.cell? ⟨w.heap.size, 9, none⟩ = some (.slice t.ga e.ng t.cg) := HX.out.b 9 (by decide)
 have HL0 : Hid (XeN p wo w W bs m q e t e.ng (fgM e.M e.ng) (fgL e.L e.ng) t.ga t.cg) := (XeN.new HQ.out HX.out).congS (fun j hj => by unfold fgM fgL; rw [if_pos hj, if_pos hj]; exact ⟨rfl, rfl⟩)
 obtain ⟨lim, hlim⟩ : ∃ lim, lim = 49 + v % 3 := ⟨_, rfl⟩
 rw [<- hlim] at HR
 have hli : 49 + (v : Int) % 3 = (lim : Int) := by omega
 have hl11 : lim <= 51 := by omega
 obtain ⟨mm, hmm⟩ : ∃ mm, mm = mx e.ng lim := ⟨_, rfl⟩
 rw [<- hmm] at HR
 have hmx : e.ng <= mm ∧ lim <= mm ∧ (mm = e.ng ∨ mm = lim) := by rw [hmm]; unfold mx; split <;> omega
 have Hok : Hid (EvOk W e t.pa t.cp t.aa t.ca t.ga t.cg) := HQ.out.j.ok
 have HLH : Hid (t.lo <= t.hi) := HQ.out.j.hh.1
 clear hlim hmm HQ HX
 go_upto_if 23 with fail
 go_cut [166] (fun _ wx => ∃ a c, XeN p wo w wx bs m q e t mm (fgM e.M e.ng) (fgL e.L e.ng) a c)
 case first =>
  clear HR
  go_wp2_with fail
  go_loopw [9] (fun iv wr => ∃ i : Nat, e.ng <= i ∧ i <= mm ∧ iv = .int .i64 (i : Int) ∧ ∃ a c, XeN p wo w wr bs m q e t i (fgM e.M e.ng) (fgL e.L e.ng) a c) (fun iv _ => 2000 - (intOf iv).toNat)
  case atStart => exact ⟨e.ng, Nat.le_refl _, hmx.1, rfl, _, _, HL0.out⟩
  case round =>
   clear HL0 b7 hci hc
   obtain ⟨i, hi1, hi2, rfl, a, c, hL⟩ := hrel
   have HL : Hid (XeN p wo w wr bs m q e t i (fgM e.M e.ng) (fgL e.L e.ng) a c) := hL
   by_cases hlt : i < lim
   ·have hlti : (i : Int) < (lim : Int) := by omega
    have y7 : wr.cell? ⟨w.heap.size, 9, none⟩ = some (.slice a i c) := hL.x.b 9 (by decide)
    have HD0 : ∀ W, Calls Tryd.prog 27 #[.int .i64 (1000 + (i : Int))] W (fun e w' => e = .returned (.string (decB (1000 + i))) ∧ Below W.heap.size W w') := fun W => by have h1 := decS_nat (1000 + i) (1000 + i) W (Nat.le_refl _) (by omega); rw [show (((1000 + i : Nat)) : Int) = 1000 + (i : Int) by omega] at h1; exact h1
    have e9 : IntKind.i64.wrap (1000 + (i : Int)) = 1000 + (i : Int) := by rw [IntKind.wrap_i64]; omega
    have hdz := decB_size2 (1000 + i) (by omega)
    obtain ⟨dc, hdc⟩ : ∃ dc, dc = decB (1000 + i) := ⟨_, rfl⟩
    rw [<- hdc] at HD0 hdz
    have HD : Hid (∀ W, Calls Tryd.prog 27 #[.int .i64 (1000 + (i : Int))] W (fun e w' => e = .returned (.string dc) ∧ Below W.heap.size W w')) := HD0
    have Hx : Hid (extF (fgM e.M e.ng) i (⟨#[122]⟩ ++ dc) = fgM e.M e.ng) := by
     unfold Hid
     rw [show (⟨#[122]⟩ : ByteArray) ++ dc = fgM e.M e.ng i by unfold fgM; rw [if_neg (by omega), hdc]]
     exact extF_self _ _
    have Hy : Hid (extF (fgL e.L e.ng) i 0 = fgL e.L e.ng) := by
     unfold Hid
     conv => lhs; rw [show (0 : Int) = fgL e.L e.ng i by unfold fgL; rw [if_neg (by omega)]]
     exact extF_selfI _ _
    have hcat : ¬ 9223372036854775807 < 1 + dc.size := by omega
    have HO : Hid (∀ W, Below wr.heap.size wr W -> W.ownsRow t.lo 57 2 (.slice a i c) i (encG (fgM e.M e.ng) (fgL e.L e.ng) i)) := fun W hW => (HL.out.below hW).a9
    have hm1 : i + 1 <= maxLen := by unfold maxLen; omega
    have hm2 : (i + 1) * 24 <= 140737488355328 := by omega
    have hlw : t.lo <= wr.heap.size := by have := hL.x.sz; have q : t.lo <= t.hi := HLH.out; omega
    have hszr := hL.x.sz
    have hrf : Below wr.heap.size wr wr := Below.refl _ _
    clear hL HD0 hdc
    go_upto_region 39 with fail
    refine wp_region_held_drew (S := fun _ => True) (by kernel_rfl) ?_ (fun hHeld => ?_)
    ·(try dsimp only); all_goals trivial
    refine tk 0 ?vm1 rfl (Or.inl ⟨by rfl, ?hm1⟩) ?_
    case hm1 => (intro w h; (try dsimp only at h); go_simp; try (with_reducible rfl))
    simp only [Act.put, si]
    refine tk 2 ?vm2 rfl (Or.inl ⟨by rfl, ?hm2⟩) ?_
    case hm2 => (intro w h; (try dsimp only at h); go_simp; try (with_reducible rfl))
    simp only [Act.put, si]
    refine tk 3 ?vm3 rfl (Or.inl ⟨by rfl, ?hm3⟩) ?_
    case hm3 => (intro w h; (try dsimp only at h); go_simp; try (with_reducible rfl))
    simp only [Act.put, si]
    refine wpAnyH_ready (rs := [1, 4]) (by kernel_rfl) (by simp) ?_
    refine AllReadyH.cons rfl (fun K hK => ?_) (AllReadyH.cons rfl (fun K hK => ?_) AllReadyH.nil)
    ·go_simp
     refine hK.out _ _ ?_ (fun hHeld => ?_)
     ·(try dsimp only); all_goals trivial
     clear hK K
     try simp only [Act.put, si]
     refine wpAnyH_ready (rs := [4]) (by kernel_rfl) (by simp) ?_
     refine AllReadyH.cons rfl (fun K hK => ?_) AllReadyH.nil
     go_simp
     go_at_call 27
     refine (HD.out _).mono ?_
     rintro ee w2 ⟨rfl, hb2'⟩
     have hb2 : Below wr.heap.size wr w2 := Below.trans (by first | with_reducible exact hrf | with_reducible exact hrf.drew | with_reducible exact hrf.drew.drew | with_reducible exact hrf.drew.drew.drew) (hb2'.mono (by first | exact Nat.le_refl _ | exact hrf.size))
     try dsimp only
     refine hK.out _ _ ?_ (fun hHeld => ?_)
     ·(try dsimp only); all_goals trivial
     clear hK K
     try simp only [Act.put, si]
     refine tk 5 ?vm4 rfl (Or.inl ⟨by rfl, ?hm4⟩) ?_
     case hm4 => (intro w h; (try dsimp only at h); go_simp; try (with_reducible rfl))
     simp only [Act.put, si]
     refine tk 6 ?vm5 rfl (Or.inl ⟨by rfl, ?hm5⟩) ?_
     case hm5 => (intro w h; (try dsimp only at h); go_simp; try (with_reducible rfl))
     simp only [Act.put, si]
     refine wpAnyH_ready (rs := [7]) (by kernel_rfl) (by simp) ?_
     refine AllReadyH.cons rfl (fun K hK => ?_) AllReadyH.nil
     go_simp
     refine hK.out _ _ ?_ (fun hHeld => ?_)
     ·(try dsimp only); all_goals trivial
     clear hK K
     try simp only [Act.put, si]
     refine wpAnyH_ready (rs := [8]) (by kernel_rfl) (by simp) ?_
     refine AllReadyH.cons rfl (fun K hK => ?_) AllReadyH.nil
     refine step_append_lies _ (by rfl) _ _ _ (by rfl) t.lo 57 i0 _ 2 24 Tryd.underlying24 hi0 hz0 hz1 hz2 rfl (by decide) (.slice a i c) i (encG (fgM e.M e.ng) (fgL e.L e.ng) i) (by rfl) (HO.out _ (by first | exact hb2.alloc hb2.size _ | exact (hb2.alloc hb2.size _).drew | exact hb2.drew.alloc hb2.size _ | exact (hb2.drew.alloc hb2.size _).drew)) ⟨w2.heap.size, 0, none⟩ 1 1 [.string (⟨#[122]⟩ ++ dc), .int .i64 0] (by rfl) (by rfl) (two_cellG _ _ _ _) (two_oneG _ _) (by decide) hm1 hm2 (by simp; have := hb2.size; omega) (w2.heap.size + 1) (by simp) ?_
     intro gg cq w4 hown4 hgr4 hat4 hlt4
     have hG4 := HL.out.grow hp hwl hhi hww (by first | exact hb2.alloc hb2.size _ | exact (hb2.alloc hb2.size _).drew | exact hb2.drew.alloc hb2.size _ | exact (hb2.drew.alloc hb2.size _).drew) hgr4
     have z7 : w4.cell? ⟨w.heap.size, 9, none⟩ = some (.slice a i c) := hG4.b 9 (by decide)
     have f7 := hG4.f0 9
     refine hK.out _ _ ?_ (fun hHeld => ?_)
     ·(try dsimp only); all_goals trivial
     clear hK K
     try simp only [Act.put, si]
     refine tk 9 ?vm6 rfl (Or.inl ⟨by rfl, ?hm6⟩) ?_
     case hm6 => (intro w h; (try dsimp only at h); go_simp; try (with_reducible rfl))
     simp only [Act.put, si]
     refine wpAnyH_ready (rs := [10]) (by kernel_rfl) (by simp) ?_
     refine AllReadyH.cons rfl (fun K hK => ?_) AllReadyH.nil
     go_simp
     refine hK.out _ _ ?_ (fun hHeld => ?_)
     ·(try dsimp only); all_goals trivial
     clear hK K
     try simp only [Act.put, si]
     refine wpAnyH_done (by kernel_rfl) ?_ _
     have hS := HL.out.step hp hwl hhi hww (X := _) (by first | exact hb2.alloc hb2.size _ | exact (hb2.alloc hb2.size _).drew | exact hb2.drew.alloc hb2.size _ | exact (hb2.drew.alloc hb2.size _).drew) hown4 hgr4 (hat4.imp (fun q => q) (fun q => by simp; omega))
     rw [Hx.out, Hy.out] at hS
     clear hG4 z7 f7
     (try go_wp2)
     first | exact ⟨⟨i + 1, by omega, by omega, by go_num, _, _, hS⟩, by simp [intOf]; omega⟩ | exact ⟨⟨i + 1, by omega, by omega, by go_num, _, _, hS.below (Below.refl _ _).drew⟩, by simp [intOf]; omega⟩
    ·go_simp
     go_at_call 27
     refine (HD.out _).mono ?_
     rintro ee w2 ⟨rfl, hb2'⟩
     have hb2 : Below wr.heap.size wr w2 := Below.trans (by first | with_reducible exact hrf | with_reducible exact hrf.drew | with_reducible exact hrf.drew.drew | with_reducible exact hrf.drew.drew.drew) (hb2'.mono (by first | exact Nat.le_refl _ | exact hrf.size))
     try dsimp only
     refine hK.out _ _ ?_ (fun hHeld => ?_)
     ·(try dsimp only); all_goals trivial
     clear hK K
     try simp only [Act.put, si]
     refine tk 5 ?vm7 rfl (Or.inl ⟨by rfl, ?hm7⟩) ?_
     case hm7 => (intro w h; (try dsimp only at h); go_simp; try (with_reducible rfl))
     simp only [Act.put, si]
     refine tk 6 ?vm8 rfl (Or.inl ⟨by rfl, ?hm8⟩) ?_
     case hm8 => (intro w h; (try dsimp only at h); go_simp; try (with_reducible rfl))
     simp only [Act.put, si]
     have y7b : w2.cell? ⟨w.heap.size, 9, none⟩ = some (.slice a i c) := (HL.out.below hb2).x.b 9 (by decide)
     have y7c : (w2.alloc (.cells #[.string (⟨#[122]⟩ ++ dc), .int .i64 0] 57)).cell? ⟨w.heap.size, 9, none⟩ = some (.slice a i c) := (HL.out.below (hb2.alloc hb2.size _)).x.b 9 (by decide)
     refine wpAnyH_ready (rs := [1, 7]) (by kernel_rfl) (by simp) ?_
     refine AllReadyH.cons rfl (fun K hK => ?_) (AllReadyH.cons rfl (fun K hK => ?_) AllReadyH.nil)
     ·go_simp
      refine hK.out _ _ ?_ (fun hHeld => ?_)
      ·(try dsimp only); all_goals trivial
      clear hK K
      try simp only [Act.put, si]
      refine wpAnyH_ready (rs := [7]) (by kernel_rfl) (by simp) ?_
      refine AllReadyH.cons rfl (fun K hK => ?_) AllReadyH.nil
      go_simp
      refine hK.out _ _ ?_ (fun hHeld => ?_)
      ·(try dsimp only); all_goals trivial
      clear hK K
      try simp only [Act.put, si]
      refine wpAnyH_ready (rs := [8]) (by kernel_rfl) (by simp) ?_
      refine AllReadyH.cons rfl (fun K hK => ?_) AllReadyH.nil
      refine step_append_lies _ (by rfl) _ _ _ (by rfl) t.lo 57 i0 _ 2 24 Tryd.underlying24 hi0 hz0 hz1 hz2 rfl (by decide) (.slice a i c) i (encG (fgM e.M e.ng) (fgL e.L e.ng) i) (by rfl) (HO.out _ (by first | exact hb2.alloc hb2.size _ | exact (hb2.alloc hb2.size _).drew | exact hb2.drew.alloc hb2.size _ | exact (hb2.drew.alloc hb2.size _).drew)) ⟨w2.heap.size, 0, none⟩ 1 1 [.string (⟨#[122]⟩ ++ dc), .int .i64 0] (by rfl) (by rfl) (two_cellG _ _ _ _) (two_oneG _ _) (by decide) hm1 hm2 (by simp; have := hb2.size; omega) (w2.heap.size + 1) (by simp) ?_
      intro gg cq w4 hown4 hgr4 hat4 hlt4
      have hG4 := HL.out.grow hp hwl hhi hww (by first | exact hb2.alloc hb2.size _ | exact (hb2.alloc hb2.size _).drew | exact hb2.drew.alloc hb2.size _ | exact (hb2.drew.alloc hb2.size _).drew) hgr4
      have z7 : w4.cell? ⟨w.heap.size, 9, none⟩ = some (.slice a i c) := hG4.b 9 (by decide)
      have f7 := hG4.f0 9
      refine hK.out _ _ ?_ (fun hHeld => ?_)
      ·(try dsimp only); all_goals trivial
      clear hK K
      try simp only [Act.put, si]
      refine tk 9 ?vm9 rfl (Or.inl ⟨by rfl, ?hm9⟩) ?_
      case hm9 => (intro w h; (try dsimp only at h); go_simp; try (with_reducible rfl))
      simp only [Act.put, si]
      refine wpAnyH_ready (rs := [10]) (by kernel_rfl) (by simp) ?_
      refine AllReadyH.cons rfl (fun K hK => ?_) AllReadyH.nil
      go_simp
      refine hK.out _ _ ?_ (fun hHeld => ?_)
      ·(try dsimp only); all_goals trivial
      clear hK K
      try simp only [Act.put, si]
      refine wpAnyH_done (by kernel_rfl) ?_ _
      have hS := HL.out.step hp hwl hhi hww (X := _) (by first | exact hb2.alloc hb2.size _ | exact (hb2.alloc hb2.size _).drew | exact hb2.drew.alloc hb2.size _ | exact (hb2.drew.alloc hb2.size _).drew) hown4 hgr4 (hat4.imp (fun q => q) (fun q => by simp; omega))
      rw [Hx.out, Hy.out] at hS
      clear hG4 z7 f7
      (try go_wp2)
      first | exact ⟨⟨i + 1, by omega, by omega, by go_num, _, _, hS⟩, by simp [intOf]; omega⟩ | exact ⟨⟨i + 1, by omega, by omega, by go_num, _, _, hS.below (Below.refl _ _).drew⟩, by simp [intOf]; omega⟩
     ·go_simp
      refine hK.out _ _ ?_ (fun hHeld => ?_)
      ·(try dsimp only); all_goals trivial
      clear hK K
      try simp only [Act.put, si]
      refine wpAnyH_ready (rs := [1]) (by kernel_rfl) (by simp) ?_
      refine AllReadyH.cons rfl (fun K hK => ?_) AllReadyH.nil
      go_simp
      refine hK.out _ _ ?_ (fun hHeld => ?_)
      ·(try dsimp only); all_goals trivial
      clear hK K
      try simp only [Act.put, si]
      refine wpAnyH_ready (rs := [8]) (by kernel_rfl) (by simp) ?_
      refine AllReadyH.cons rfl (fun K hK => ?_) AllReadyH.nil
      refine step_append_lies _ (by rfl) _ _ _ (by rfl) t.lo 57 i0 _ 2 24 Tryd.underlying24 hi0 hz0 hz1 hz2 rfl (by decide) (.slice a i c) i (encG (fgM e.M e.ng) (fgL e.L e.ng) i) (by rfl) (HO.out _ (by first | exact hb2.alloc hb2.size _ | exact (hb2.alloc hb2.size _).drew | exact hb2.drew.alloc hb2.size _ | exact (hb2.drew.alloc hb2.size _).drew)) ⟨w2.heap.size, 0, none⟩ 1 1 [.string (⟨#[122]⟩ ++ dc), .int .i64 0] (by rfl) (by rfl) (two_cellG _ _ _ _) (two_oneG _ _) (by decide) hm1 hm2 (by simp; have := hb2.size; omega) (w2.heap.size + 1) (by simp) ?_
      intro gg cq w4 hown4 hgr4 hat4 hlt4
      have hG4 := HL.out.grow hp hwl hhi hww (by first | exact hb2.alloc hb2.size _ | exact (hb2.alloc hb2.size _).drew | exact hb2.drew.alloc hb2.size _ | exact (hb2.drew.alloc hb2.size _).drew) hgr4
      have z7 : w4.cell? ⟨w.heap.size, 9, none⟩ = some (.slice a i c) := hG4.b 9 (by decide)
      have f7 := hG4.f0 9
      refine hK.out _ _ ?_ (fun hHeld => ?_)
      ·(try dsimp only); all_goals trivial
      clear hK K
      try simp only [Act.put, si]
      refine tk 9 ?vm10 rfl (Or.inl ⟨by rfl, ?hm10⟩) ?_
      case hm10 => (intro w h; (try dsimp only at h); go_simp; try (with_reducible rfl))
      simp only [Act.put, si]
      refine wpAnyH_ready (rs := [10]) (by kernel_rfl) (by simp) ?_
      refine AllReadyH.cons rfl (fun K hK => ?_) AllReadyH.nil
      go_simp
      refine hK.out _ _ ?_ (fun hHeld => ?_)
      ·(try dsimp only); all_goals trivial
      clear hK K
      try simp only [Act.put, si]
      refine wpAnyH_done (by kernel_rfl) ?_ _
      have hS := HL.out.step hp hwl hhi hww (X := _) (by first | exact hb2.alloc hb2.size _ | exact (hb2.alloc hb2.size _).drew | exact hb2.drew.alloc hb2.size _ | exact (hb2.drew.alloc hb2.size _).drew) hown4 hgr4 (hat4.imp (fun q => q) (fun q => by simp; omega))
      rw [Hx.out, Hy.out] at hS
      clear hG4 z7 f7
      (try go_wp2)
      first | exact ⟨⟨i + 1, by omega, by omega, by go_num, _, _, hS⟩, by simp [intOf]; omega⟩ | exact ⟨⟨i + 1, by omega, by omega, by go_num, _, _, hS.below (Below.refl _ _).drew⟩, by simp [intOf]; omega⟩
   ·go_wp2
    go_meet
    exact ⟨a, c, by rw [show mm = i by omega]; exact HL.out⟩
 case rest =>
  obtain ⟨a, c, hL⟩ := hcut
  have ho := Hok.out
  apply_assumption
  refine xeEnd p (e := { e with ng := mm, M := fgM e.M e.ng, L := fgL e.L e.ng }) wo w _ hp hww hL.x (fun W' hK hD => HR.out _ _ _ _ _ _ _ W' ?_ ?_ ?_ ?_ hL.x hK hD)
  ·obtain ⟨x1, x2, e1, q1, _⟩ := hL.p6.slw ho.hp.size
   injection e1 with e1 _ e3
   rw [<- e1, <- e3] at q1
   obtain ⟨x1, x2, e1, q2, _⟩ := hL.q7.slw ho.ha.size
   injection e1 with e1 _ e3
   rw [<- e1, <- e3] at q2
   exact ⟨ho.hid, ho.hsd, ho.hty, ho.hkey, ho.hval, q1, q2, hL.a9.slg (fun i hi => by
    unfold fgM
    split
    ·exact ho.hg.size i (by omega)
    ·rw [ByteArray.size_append]
     have := decB_size2 (1000 + i) (by have : i < mm := hi; omega)
     show 1 + _ <= maxLen
     unfold maxLen
     omega)⟩
  ·exact (own_lo hL.p6 (Nat.le_refl _)).imp id fun ⟨b, off, e1, hb⟩ => ⟨b, off, e1, Or.inl ⟨hb, hL.hp b (by rw [e1]; rfl)⟩⟩
  ·exact (own_lo hL.q7 (Nat.le_refl _)).imp id fun ⟨b, off, e1, hb⟩ => ⟨b, off, e1, Or.inl ⟨hb, hL.hq b (by rw [e1]; rfl)⟩⟩
  ·exact (own_lo hL.a9 (Nat.le_refl _)).imp id fun ⟨b, off, e1, hb⟩ => ⟨b, off, e1, (hL.h b (by rw [e1]; rfl)).imp (fun q => ⟨hb, q⟩) id⟩
end Go.Proofs.YtihacnhmiopalaaDoor
