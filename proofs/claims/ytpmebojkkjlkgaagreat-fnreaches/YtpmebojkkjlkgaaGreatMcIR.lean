import Derived.Test.YtpmebojkkjlkgaaGreatMcTZR
namespace Go.Proofs.YtpmebojkkjlkgaaGreat
open Go.RowKit
set_option maxRecDepth 100000 in
set_option maxHeartbeats 8000000 in
theorem mcI_sl {a : Option Addr} {n cap : Nat} {E : Nat -> Ev} (w : World) (h : SlV w a n cap E) :
  Calls Tryz.prog 6 #[.agg #[.slice a n cap]] w (McPost E n w) := by
 obtain ⟨i0, hi, hz0, hz1, hz2⟩ := info_parts Tryz.infoSpot
 obtain ⟨j0, jh, jz0, jz1, jz2⟩ := info_parts Tryz.infoInts
 obtain ⟨n0, nh, nz0, nz1, nz2⟩ := info_parts Tryz.infoInt
 obtain ⟨wa, hwa⟩ : ∃ wa, wa = (w.alloc (.cells #[.slice a n cap] 25)).alloc (.cells #[.slice none 0 0, .slice none 0 0] 30) := ⟨_, rfl⟩
 have hba : Below w.heap.size w wa := by rw [hwa]; exact ((Below.refl _ _).alloc (Nat.le_refl _) _).alloc (by simp) _
 have hza : w.heap.size + 1 < wa.heap.size := by rw [hwa]; simp
 have hca : Hid (∀ W, Below wa.heap.size wa W -> W.cell? ⟨w.heap.size, 0, none⟩ = some (.slice a n cap) ∧ (W.cell? ⟨w.heap.size + 1, 0, none⟩ = some (.slice none 0 0) ∧ W.cell? ⟨w.heap.size + 1, 1, none⟩ = some (.slice none 0 0)) ∧ W.frozen? ⟨w.heap.size + 1, 0, none⟩ = false ∧ W.frozen? ⟨w.heap.size + 1, 1, none⟩ = false) := fun W hW => by
  refine ⟨(hW.cell (by show w.heap.size < wa.heap.size; omega)).trans ?_, ⟨(hW.cell (by exact hza)).trans ?_, (hW.cell (by exact hza)).trans ?_⟩, (hW.frozen (by exact hza)).trans ?_, (hW.frozen (by exact hza)).trans ?_⟩ <;> rw [hwa]
  ·rw [World.cell?_alloc_past _ _ _ (by simp)]; exact World.cell?_alloc_at _ _ _ _ rfl
  ·exact World.cell?_alloc_at _ _ _ _ (by simp)
  ·exact World.cell?_alloc_at _ _ _ _ (by simp)
  ·exact World.frozen?_alloc_at _ _ _ _ (by simp)
  ·exact World.frozen?_alloc_at _ _ _ _ (by simp)
 have r0 : ((w.alloc (.cells #[.slice a n cap] 25)).alloc (.cells #[.slice none 0 0, .slice none 0 0] 30)).cell? ⟨w.heap.size, 0, none⟩ = some (.slice a n cap) := by rw [<- hwa]; exact (hca.out _ (Below.refl _ _)).1
 go_enter Tryz.func6, Tryz.ntmps6
 go_wp2_with fail
 rw [<- hwa]
 clear hwa r0
 refine (graph_sl _ (h.below hba)).mono ?_
 rintro x w1 ⟨hb1, hp⟩
 have hw1 := hba.trans (hb1.mono hba.size)
 rcases hp with ⟨hroom, mm, ra, rcx, rfl, -, hL⟩ | ⟨hroom, rfl⟩
 case inr =>
  have hbA : Below w1.heap.size w1 (w1.alloc (.cells #[.slice none 0 0, .map none, .slice none 0 0] 55)) := (Below.refl _ _).alloc (Nat.le_refl _) _
  obtain ⟨-, ⟨y0, y1⟩, y2, y3⟩ := hca.out _ hb1
  obtain ⟨-, ⟨d0, d1⟩, d2, d3⟩ := hca.out _ (hb1.trans (hbA.mono hb1.size))
  have hlt1 : w.heap.size + 1 < w1.heap.size := Nat.lt_of_lt_of_le hza hb1.size
  have hne1 : w.heap.size + 1 ≠ w1.heap.size := by omega
  obtain ⟨W0, hW0⟩ : ∃ W0, W0 = ((w1.alloc (.cells #[.slice none 0 0, .map none, .slice none 0 0] 55)).setCell ⟨w.heap.size + 1, 0, none⟩ (.slice none 0 0)).setCell ⟨w.heap.size + 1, 1, none⟩ (.slice none 0 0) := ⟨_, rfl⟩
  have hbf : Below w.heap.size w (((w1.setCell ⟨w.heap.size + 1, 0, none⟩ (.slice none 0 0)).setCell ⟨w.heap.size + 1, 1, none⟩ (.slice none 0 0)).alloc (.cells #[.slice none 0 0, .map none, .slice none 0 0] 55)) := ((hw1.setCell (by exact Nat.le_succ _) _).setCell (by exact Nat.le_succ _) _).alloc (by have := hw1.size; simp [World.setCell]; omega) _
  have Hn : Hid (McPost E n w (.returned (.tuple #[.agg #[.slice none 0 0, .slice none 0 0], .bool false])) (((w1.setCell ⟨w.heap.size + 1, 0, none⟩ (.slice none 0 0)).setCell ⟨w.heap.size + 1, 1, none⟩ (.slice none 0 0)).alloc (.cells #[.slice none 0 0, .map none, .slice none 0 0] 55))) := McPost.none hroom hbf
  have k0 : (((w1.setCell ⟨w.heap.size + 1, 0, none⟩ (.slice none 0 0)).setCell ⟨w.heap.size + 1, 1, none⟩ (.slice none 0 0)).alloc (.cells #[.slice none 0 0, .map none, .slice none 0 0] 55)).cell? ⟨w.heap.size + 1, 0, none⟩ = some (.slice none 0 0) := by
   rw [World.cell?_alloc_lt _ _ _ (by simpa [World.setCell] using hlt1), set_far (by omega)]; exact set_same ⟨_, y0⟩
  have k1 : (((w1.setCell ⟨w.heap.size + 1, 0, none⟩ (.slice none 0 0)).setCell ⟨w.heap.size + 1, 1, none⟩ (.slice none 0 0)).alloc (.cells #[.slice none 0 0, .map none, .slice none 0 0] 55)).cell? ⟨w.heap.size + 1, 1, none⟩ = some (.slice none 0 0) := by
   rw [World.cell?_alloc_lt _ _ _ (by simpa [World.setCell] using hlt1)]; exact set_same ⟨_, by rw [set_far (by omega)]; exact y1⟩
  clear hroom hW0 hbf
  go_wp2
  exact bodyPost_ret (v := .tuple #[.agg #[.slice none 0 0, .slice none 0 0], .bool false]) (by simp [results, Tryz.results6, go_sem, k0, k1]) rfl Hn.out
 have h300 := room_300 hroom
 have Hroom : Hid (roomTo E n = true) := hroom
 have Hrs : Hid (∀ k, k < n -> ∀ j, j < naE E k -> rsE E n k j < k) := rsE_lt hroom
 obtain ⟨w2, hw2⟩ : ∃ w2, w2 = w1.alloc (.cells #[.slice a n cap, .map (some mm), .slice ra n rcx] 55) := ⟨_, rfl⟩
 have h12 : Below w1.heap.size w1 w2 := by rw [hw2]; exact (Below.refl _ _).alloc (Nat.le_refl _) _
 have hs12 : w1.heap.size < w2.heap.size := by rw [hw2]; simp
 have hb2 := hb1.trans (h12.mono hb1.size)
 have hww2 := hba.trans (hb2.mono hba.size)
 have hc2 : Hid (w2.cell? ⟨w1.heap.size, 2, none⟩ = some (.slice ra n rcx)) := by unfold Hid; rw [hw2]; exact World.cell?_alloc_at _ _ _ _ rfl
 obtain ⟨w3, hw3⟩ : ∃ w3, w3 = w2.alloc (.cells #[.slice none 0 0, .slice none 0 0] 30) := ⟨_, rfl⟩
 have h23 : Below w2.heap.size w2 w3 := by rw [hw3]; exact (Below.refl _ _).alloc (Nat.le_refl _) _
 have H3 : Hid (St w2 w3 (.slice none 0 0) 0 (.slice none 0 0) 0 (.slice none 0 0) (chN (naE E) (rsE E n) 0) (endF (naE E) (rsE E n) 0) (mcF E n) (mcR E n) (mcX E n) (fun _ => ⟨none, 0, 0, 0⟩)) := by
  refine ⟨?_, ?_, ?_, ?_, ⟨OwnS.nil _ _ _, RowR.nil _ _ _ _ _, fun g hg => (by cases hg)⟩, OwnI.nil _ _ _, fun g hg => (by cases hg), h23, by rw [hw3]; simp⟩ <;> rw [hw3]
  ·exact World.cell?_alloc_at _ _ _ _ rfl
  ·exact World.cell?_alloc_at _ _ _ _ rfl
  ·exact World.frozen?_alloc_at _ _ _ _ rfl
  ·exact World.frozen?_alloc_at _ _ _ _ rfl
 have g23 : ((w1.alloc (.cells #[.slice a n cap, .map (some mm), .slice ra n rcx] 55)).alloc (.cells #[.slice none 0 0, .slice none 0 0] 30)).cell? ⟨w1.heap.size, 2, none⟩ = some (.slice ra n rcx) := by rw [<- hw2, <- hw3]; exact (h23.cell (by exact hs12)).trans hc2.out
 have Hres : Hid (∀ W, Below w2.heap.size w2 W -> (W.cell? ⟨w.heap.size + 1, 0, none⟩ = some (.slice none 0 0) ∧ W.cell? ⟨w.heap.size + 1, 1, none⟩ = some (.slice none 0 0)) ∧ W.frozen? ⟨w.heap.size + 1, 0, none⟩ = false ∧ W.frozen? ⟨w.heap.size + 1, 1, none⟩ = false) := fun W hW => (hca.out W (hb2.trans (hW.mono hb2.size))).2
 have HLr : Hid (∀ k, k < n -> ∃ rb ro xa xc, ra = some ⟨rb, ro, none⟩ ∧ (∀ W, Below w2.heap.size w2 W -> W.cell? ⟨rb, ro + k, none⟩ = some (.slice xa (E k).na xc) ∧ SlI W xa (E k).na xc (fun j => ((rsE E n k j : Nat) : Int)))) := fun k hk => by
  rcases hL.cells with h0 | ⟨rb, ro, e, hrb, hc⟩
  ·omega
  ·obtain ⟨xa, xc, c1, hsl⟩ := hc k hk
   refine ⟨rb, ro, xa, xc, e, fun W hW => ⟨?_, ?_⟩⟩
   ·exact ((h12.trans (hW.mono h12.size)).cell (by exact hrb)).trans c1
   ·have := hsl.below (h12.trans (hW.mono h12.size))
    refine ⟨this.le, this.max, this.cells.imp id fun ⟨b', o', e', hl', hc'⟩ => ⟨b', o', e', hl', fun j hj => ?_⟩⟩
    rw [hc' j hj]
    have q1 := (room_auth Hroom.out hk hj).2.2
    have q2 := (rsE_at Hroom.out hk hj).1
    show some (Value.int .i64 (posV E k ((E k).Av j))) = _
    rw [q1, q2]
 have hrn := Nat.le_trans hL.le hL.max
 unfold maxLen at hrn
 clear hL hroom h hca
 have hzz : Hid (w1.heap.size + 1 = w2.heap.size) := by unfold Hid; rw [hw2]; simp
 go_wp2_with fail
 rw [<- hw2, <- hw3, hzz.out]
 clear hw2 hw3 g23 hc2 hzz
 go_loopw [7, 22] (fun ev iv wr => ∃ k : Nat, k <= n ∧ iv = .int .i64 (k : Int) ∧ ∃ sa scap ra8 rc8 ea ec T, ev = .slice ea (chN (naE E) (rsE E n) k) ec ∧ Hid (St w2 wr (.slice sa k scap) k (.slice ra8 k rc8) k (.slice ea (chN (naE E) (rsE E n) k) ec) (chN (naE E) (rsE E n) k) (endF (naE E) (rsE E n) k) (mcF E n) (mcR E n) (mcX E n) T)) (fun _ iv _ => n - (intOf iv).toNat)
 case atStart => exact ⟨0, Nat.zero_le _, rfl, none, 0, none, 0, none, 0, _, rfl, H3⟩
 case round =>
  clear H3
  obtain ⟨k, hk, rfl, sa, scap, ra8, rc8, ea, ec, T, rfl, H0⟩ := hrel
  by_cases hlt : k < n
  ·obtain ⟨rb, ro, xa, xc, rfl, hrow⟩ := HLr.out k hlt
   have Hww : Hid (∀ W, Below w2.heap.size w2 W -> SlI W xa (E k).na xc (fun j => ((rsE E n k j : Nat) : Int))) := fun W hW => (hrow W hW).2
   have a0 := (hrow wr H0.out.bel).1
   have b00 := H0.out.b0
   obtain ⟨spk, hspk⟩ : ∃ spk, spk = mcF E n k := ⟨_, rfl⟩
   have Hspk : Hid (mcF E n k = spk) := hspk.symm
   have Hspk2 : Hid (sp (naE E) (rsE E n) k = spk) := hspk.symm
   have Hsp : Hid ((nxtTo (mcF E n) k (rsE E n k) (E k).na).getD ⟨chN (naE E) (rsE E n) k, 1⟩ = spk) := by
    unfold Hid
    rw [hspk]
    exact (sp_eq (naE E) (rsE E n) (Hrs.out k hlt)).symm
   have hinv := (sp_inv Hrs.out (k + 1) (by omega)).1 k (Nat.lt_succ_self _)
   have Hsc : Hid (spk.c < chN (naE E) (rsE E n) (k + 1)) := by rw [hspk]; exact hinv.1
   have Hsc2 : Hid (chN (naE E) (rsE E n) (k + 1) = if spk.c = chN (naE E) (rsE E n) k then chN (naE E) (rsE E n) k + 1 else chN (naE E) (rsE E n) k) := by rw [hspk]; exact chN_succ (naE E) (rsE E n) k
   have hchk := chN_le Hrs.out k
   have Hnx : Hid (Calls Tryz.prog 16 #[.slice sa k scap, .slice ea (chN (naE E) (rsE E n) k) ec, .slice xa (E k).na xc] wr fun x w' => x = .returned (.agg #[.int .i64 ((spk.c : Nat) : Int), .int .i64 ((spk.q : Nat) : Int)]) ∧ Below wr.heap.size wr w') := by
    have hsh := H0.out.shapes
    obtain ⟨⟨a1, c1, e1, q1⟩, -, ⟨a2, c2, e2, q2⟩⟩ := hsh
    injection e1 with e11 _ e13
    injection e2 with e21 _ e23
    rw [<- e11, <- e13] at q1
    rw [<- e21, <- e23] at q2
    have := nxI_any (f := mcF E n) (en := endF (naE E) (rsE E n) k) (r := rsE E n k) (E k).na xc wr q1 q2 (Hww.out wr H0.out.bel) (fun j hj => Hrs.out k hlt j hj) (fun p hp => ⟨((sp_inv Hrs.out k (by omega)).1 p hp).1, by have := sp_q_le Hrs.out p (by omega); show (sp (naE E) (rsE E n) p).q < _; omega⟩) (fun p hp => end_last Hrs.out (by omega) hp)
    rw [Hsp.out] at this
    exact this
   have hkn : (k : Int) < (n : Int) := by omega
   have hm1 : k + 1 <= maxLen := by unfold maxLen; omega
   have hm2 : (k + 1) * 16 <= 140737488355328 := by omega
   have hm3 : (k + 1) * 24 <= 140737488355328 := by omega
   clear hrow hspk hinv Hsp
   go_wp2_with fail
   refine Hnx.out.mono ?_
   rintro x w4 ⟨rfl, hb4⟩
   have H4 : Hid (_) := H0.out.below hb4
   have hSg : Hid (∀ g, (Value.slice sa k scap).ownBlock = some g -> g < w4.heap.size) := fun g hg => (rowGt H4.out.co.s g hg).2
   have hRg : Hid (∀ g, (Value.slice ra8 k rc8).ownBlock = some g -> g < w4.heap.size) := fun g hg => (rowGt H4.out.co.r.own g hg).2
   have hEg : Hid (∀ g, (Value.slice ea (chN (naE E) (rsE E n) k) ec).ownBlock = some g -> g < w4.heap.size) := fun g hg => (rowGt H4.out.en g hg).2
   obtain ⟨w5, hw5⟩ : ∃ w5, w5 = w4.alloc (.cells #[.int .i64 ((spk.c : Nat) : Int), .int .i64 ((spk.q : Nat) : Int)] 35) := ⟨_, rfl⟩
   have h45 : Below w4.heap.size w4 w5 := by rw [hw5]; exact (Below.refl _ _).alloc (Nat.le_refl _) _
   have hs45 : w4.heap.size < w5.heap.size := by rw [hw5]; simp
   have H5 : Hid (_) := H4.out.below h45
   have p50 : w5.cell? ⟨w4.heap.size, 0, none⟩ = some (.int .i64 ((spk.c : Nat) : Int)) := by rw [hw5]; exact World.cell?_alloc_at _ _ _ _ rfl
   have p51 : w5.cell? ⟨w4.heap.size, 1, none⟩ = some (.int .i64 ((spk.q : Nat) : Int)) := by rw [hw5]; exact World.cell?_alloc_at _ _ _ _ rfl
   have h24 : w2.heap.size < w4.heap.size := H4.out.sz
   clear H0 H4 hb4 b00 a0 Hnx
   by_cases hc : spk.c = chN (naE E) (rsE E n) k
   ·have Hc : Hid (spk.c = chN (naE E) (rsE E n) k) := hc
    have hd3 : (((spk.c : Nat) : Int) == ((chN (naE E) (rsE E n) k : Nat) : Int)) = true := by rw [hc]; simp
    have Hch1 : Hid (chN (naE E) (rsE E n) (k + 1) = chN (naE E) (rsE E n) k + 1) := by unfold Hid; rw [Hsc2.out, if_pos hc]
    have hownE : (w4.alloc (.cells #[.int .i64 ((spk.c : Nat) : Int), .int .i64 ((spk.q : Nat) : Int)] 35)).ownsRow (w2.heap.size + 1) 3 1 (.slice ea (chN (naE E) (rsE E n) k) ec) (chN (naE E) (rsE E n) k) (ints (fun c => ((endF (naE E) (rsE E n) k c : Nat) : Int)) (chN (naE E) (rsE E n) k)) := by rw [<- hw5]; exact H5.out.en
    have HW6 : Hid (∀ (w6 : World) (eg ec2 : Nat), w6.ownsRow (w2.heap.size + 1) 3 1 (.slice (some ⟨eg, 0, none⟩) (chN (naE E) (rsE E n) k + 1) ec2) (chN (naE E) (rsE E n) k + 1) (ints (fun c => ((endF (naE E) (rsE E n) k c : Nat) : Int)) (chN (naE E) (rsE E n) k) ++ [.int .i64 0]) -> ((w4.alloc (.cells #[.int .i64 ((spk.c : Nat) : Int), .int .i64 ((spk.q : Nat) : Int)] 35)).alloc (.cells #[.int .i64 0] 3)).grownBy w6 (Value.slice ea (chN (naE E) (rsE E n) k) ec).ownBlock -> ((Value.slice ea (chN (naE E) (rsE E n) k) ec).ownBlock = some eg ∨ eg = w4.heap.size + 1 + 1) -> TL w2 w4 w6 sa scap k ra8 rc8 eg ec2 (chN (naE E) (rsE E n) k + 1) spk (endF (naE E) (rsE E n) (k + 1)) (mcF E n) (mcR E n) (mcX E n) T ∧ w4.heap.size < w6.heap.size) := fun w6 eg ec2 hown hgr hgg => by
     rw [<- hw5] at hgr
     have hX : Below w5.heap.size w5 (w5.alloc (.cells #[.int .i64 0] 3)) := (Below.refl _ _).alloc (Nat.le_refl _) _
     have hz5 : w5.heap.size = w4.heap.size + 1 := by rw [hw5]; simp
     have hne : some w4.heap.size ≠ (Value.slice ea (chN (naE E) (rsE E n) k) ec).ownBlock := fun e => by have := hEg.out _ e.symm; omega
     have far : ∀ o, w6.cell? ⟨w4.heap.size, o, none⟩ = w5.cell? ⟨w4.heap.size, o, none⟩ := fun o => (hgr.cell_far _ (by show w4.heap.size < _; simp; omega) hne).trans (hX.cell (by exact hs45))
     have hsg := hgr.size
     rw [World.size_alloc] at hsg
     have hP6 : w4.heap.size < w6.heap.size := by omega
     refine ⟨tl_of (H5.out.pushE hX hown hgr (hgg.imp id fun e => by rw [e, World.size_alloc, hz5]; exact Nat.le_refl _) (endF_new Hrs.out (by omega) (Nat.le_refl _))) Hspk.out (by have := Hsc.out; rw [Hch1.out] at this; exact this) (fun i _ => by rw [endF, Hspk2.out]) ((far 0).trans p50) ((far 1).trans p51) ?_ hP6 hSg.out h24, hP6⟩
     rcases hgg with q | q
     ·have := hEg.out _ q; omega
     ·omega
    have q0 : (w4.alloc (.cells #[.int .i64 ((spk.c : Nat) : Int), .int .i64 ((spk.q : Nat) : Int)] 35)).cell? ⟨w2.heap.size, 0, none⟩ = some (.slice sa k scap) := by rw [<- hw5]; exact H5.out.b0
    have hn1 : chN (naE E) (rsE E n) k + 1 <= maxLen := by unfold maxLen; omega
    have hn2 : (chN (naE E) (rsE E n) k + 1) * 8 <= 140737488355328 := by omega
    have hn3 : w2.heap.size + 1 <= ((w4.alloc (.cells #[.int .i64 ((spk.c : Nat) : Int), .int .i64 ((spk.q : Nat) : Int)] 35)).alloc (.cells #[.int .i64 0] 3)).heap.size := by simp; omega
    have hgcE : ∀ (j : Nat) (u : Value), [Value.int .i64 0][j]? = some u -> ((w4.alloc (.cells #[.int .i64 ((spk.c : Nat) : Int), .int .i64 ((spk.q : Nat) : Int)] 35)).alloc (.cells #[.int .i64 0] 3)).cell? ((⟨w4.heap.size + 1, 0, none⟩ : Addr).add j) = some u := fun j u hj => by
     have := one_cellsI (w4.alloc (.cells #[.int .i64 ((spk.c : Nat) : Int), .int .i64 ((spk.q : Nat) : Int)] 35)) (.int .i64 0) 3 j u hj
     rw [World.size_alloc] at this
     exact this
    have ic0 : (0 : Int) <= ((spk.c : Nat) : Int) := by omega
    have ic1 : ((spk.c : Nat) : Int) < ((chN (naE E) (rsE E n) k : Nat) : Int) + 1 := by omega
    have ic2 : spk.c < chN (naE E) (rsE E n) k + 1 := by omega
    rw [Hch1.out] at Hsc
    clear hw5 Hsc2 hc
    go_wp2_with (first | (at_builtin; refine wpList_append_lies _ rfl _ _ 36 rfl (w2.heap.size + 1) 3 n0 (.int .i64 0) 1 8 Tryz.underlying36 nh nz0 nz1 nz2 rfl (by decide) _ _ _ rfl (World.ownsRow.alloc hownE _) ⟨w4.heap.size + 1, 0, none⟩ 1 1 [.int .i64 0] rfl rfl hgcE (one_oneI 0) (by decide) hn1 hn2 hn3 (w4.heap.size + 1 + 1) (by simp) ?_; intro eg ec2 w6 hown6 hgrow6 hat6 hlt6; obtain ⟨htl, hP6⟩ := HW6.out w6 eg ec2 hown6 hgrow6 hat6; obtain ⟨⟨tv, te0⟩, te1, tp0, tp1, ty0, ty1, ty2, town, tgc, tm0, tW8⟩ := htl) | (at_builtin; refine wpList_append_lies _ rfl _ _ 27 rfl (w2.heap.size + 1) 35 i0 (.agg #[.int .i64 0, .int .i64 0]) 2 16 Tryz.underlying27 hi hz0 hz1 hz2 rfl (by decide) _ _ _ rfl (World.ownsRow.alloc town _) ⟨w6.heap.size, 0, none⟩ 1 1 (spV spk) rfl rfl tgc (spV_one _) (by decide) hm1 hm2 tm0 (w6.heap.size + 1) (by simp [World.setCell]) ?_; intro gg cc wx hownx hgrowx hatx hltx; obtain ⟨⟨f80, f81⟩, hH8, ⟨p80, p81⟩, hP8⟩ := tW8.out wx gg cc hownx hgrowx hatx; have H8 : Hid (_) := hH8; clear hH8 hownx hgrowx hatx))
    obtain ⟨w8, hw8⟩ : ∃ w8, w8 = wx.setCell ⟨w2.heap.size, 0, none⟩ (.slice (some ⟨gg, 0, none⟩) (k + 1) cc) := ⟨_, rfl⟩
    rw [<- hw8] at H8 p80 p81 hP8 ⊢
    clear hw8 f80 f81
    have r8 := H8.out.b1
    have rz8 := H8.out.z1
    have hB8 := H8.out.sz
    have hrf8 : Below w8.heap.size w8 w8 := Below.refl _ _
    have HS : Hid (∀ W, Below w8.heap.size w8 W -> W.cell? ⟨w4.heap.size, 0, none⟩ = some (.int .i64 ((spk.c : Nat) : Int)) ∧ W.cell? ⟨w4.heap.size, 1, none⟩ = some (.int .i64 ((spk.q : Nat) : Int))) := fun W hW => ⟨(hW.cell (by exact hP8)).trans p80, (hW.cell (by exact hP8)).trans p81⟩
    have Hrf : Hid (∀ W, Below w8.heap.size w8 W -> Calls Tryz.prog 17 #[.slice ra8 k rc8, .int .i64 ((chN (naE E) (rsE E n) k + 1 : Nat) : Int), .agg #[.int .i64 ((spk.c : Nat) : Int), .int .i64 ((spk.q : Nat) : Int)], .slice xa (E k).na xc] W fun x w' => ∃ t : Lr, x = .returned (.slice t.a (chN (naE E) (rsE E n) k + 1) t.c) ∧ Hid (QR w' (chN (naE E) (rsE E n) k + 1) (mcX E n k) t) ∧ w8.heap.size <= t.lo ∧ Below w8.heap.size w8 w') := fun W hW => by
     have hWw := Hww.out w8 H8.out.bel
     refine (rfI_any (rn := mcR E n) (X := rc (naE E) (rsE E n)) (r := rsE E n k) (s := spk) (E k).na xc (chN (naE E) (rsE E n) k + 1) W (by have := chN_le Hrs.out (k + 1); have := Hch1.out; omega) (by obtain ⟨-, ⟨a', c', e, q⟩, -⟩ := (H8.out.below hW).shapes; injection e with e1 _ e3; rw [e1, e3]; exact q) (hWw.below hW) (fun j hj => Hrs.out k hlt j hj) (fun p hp => by have := chN_mono Hrs.out (show p + 1 <= k + 1 by omega); rw [Hch1.out] at this; exact this) (fun p c hp hc => rc_zero Hrs.out (by omega) hc) Hsc.out).mono ?_
     rintro x w' ⟨t, h1, h2, h3, h4⟩
     refine ⟨t, h1, ?_, Nat.le_trans hW.size h3, hW.trans (h4.mono hW.size)⟩
     unfold Hid
     have e : mcX E n k = fun c => (((if c = spk.c then spk.q else mxTo (fun j => rc (naE E) (rsE E n) (rsE E n k j) c) (E k).na : Nat)) : Int) := by
      funext c
      show ((rc (naE E) (rsE E n) k c : Nat) : Int) = _
      rw [rc_eq _ _ (Hrs.out k hlt) c, Hspk2.out]
      rfl
     rw [e]
     exact h2.out
    have HO : Hid (∀ Y, Below w8.heap.size w8 Y -> Y.ownsRow (w2.heap.size + 1) 36 1 (.slice ra8 k rc8) k (encR (mcR E n) T k)) := fun Y hY => (H8.out.below hY).co.r.own
    have HF : Hid (∀ Y wy, Below w8.heap.size w8 Y -> Y.grownBy wy (Value.slice ra8 k rc8).ownBlock -> wy.cell? ⟨w2.heap.size, 1, none⟩ = some (.slice ra8 k rc8) ∧ wy.frozen? ⟨w2.heap.size, 1, none⟩ = false ∧ (wy.cell? ⟨w4.heap.size, 0, none⟩ = some (.int .i64 ((spk.c : Nat) : Int)) ∧ wy.cell? ⟨w4.heap.size, 1, none⟩ = some (.int .i64 ((spk.q : Nat) : Int))) ∧ ∀ V, (wy.setCell ⟨w2.heap.size, 1, none⟩ V).cell? ⟨w4.heap.size, 0, none⟩ = some (.int .i64 ((spk.c : Nat) : Int)) ∧ (wy.setCell ⟨w2.heap.size, 1, none⟩ V).cell? ⟨w4.heap.size, 1, none⟩ = some (.int .i64 ((spk.q : Nat) : Int))) := fun Y wy hY hgr => by
     obtain ⟨-, q1, -, q3, -, -⟩ := H8.out.far hY hgr (fun q hq => (rowGt H8.out.co.r.own q hq).1)
     have hsY := hY.size
     have hne : some w4.heap.size ≠ (Value.slice ra8 k rc8).ownBlock := fun e => by have := hRg.out _ e.symm; omega
     have far : ∀ o, wy.cell? ⟨w4.heap.size, o, none⟩ = w8.cell? ⟨w4.heap.size, o, none⟩ := fun o => (hgr.cell_far _ (by show w4.heap.size < Y.heap.size; omega) hne).trans (hY.cell (by exact hP8))
     have e0 := (far 0).trans p80
     have e1 := (far 1).trans p81
     exact ⟨q1, q3, ⟨e0, e1⟩, fun V => ⟨by rw [far_block (by omega)]; exact e0, by rw [far_block (by omega)]; exact e1⟩⟩
    have HZ : Hid (∀ (w9 Y wy : World) (t : Lr) (gg2 cc2 : Nat), Below w8.heap.size w8 w9 -> QR w9 (chN (naE E) (rsE E n) k + 1) (mcX E n k) t -> w8.heap.size <= t.lo -> Below w9.heap.size w9 Y -> wy.ownsRow (w2.heap.size + 1) 36 1 (.slice (some ⟨gg2, 0, none⟩) (k + 1) cc2) (k + 1) (encR (mcR E n) T k ++ [.slice t.a (chN (naE E) (rsE E n) k + 1) t.c]) -> Y.grownBy wy (Value.slice ra8 k rc8).ownBlock -> ((Value.slice ra8 k rc8).ownBlock = some gg2 ∨ Y.heap.size <= gg2) -> St w2 (wy.setCell ⟨w2.heap.size, 1, none⟩ (.slice (some ⟨gg2, 0, none⟩) (k + 1) cc2)) (.slice (some ⟨gg, 0, none⟩) (k + 1) cc) (k + 1) (.slice (some ⟨gg2, 0, none⟩) (k + 1) cc2) (k + 1) (.slice (some ⟨eg, 0, none⟩) (chN (naE E) (rsE E n) k + 1) ec2) (chN (naE E) (rsE E n) k + 1) (endF (naE E) (rsE E n) (k + 1)) (mcF E n) (mcR E n) (mcX E n) (extR T k t)) := fun w9 Y wy t gg2 cc2 h1 hq hlo hY hown hgr hgg => by
     have e : mcR E n k = chN (naE E) (rsE E n) k + 1 := Hch1.out
     exact (H8.out.pushR (h1.trans (hY.mono h1.size)) (by rw [e]; exact hq.below hY) hlo (by rw [e]; exact hown) hgr hgg).2.2
    clear H8 p80 p81
    refine wp_region_held_drew (S := fun W => W.cell? ⟨w4.heap.size, 0, none⟩ = some (.int .i64 ((spk.c : Nat) : Int)) ∧ W.cell? ⟨w4.heap.size, 1, none⟩ = some (.int .i64 ((spk.q : Nat) : Int))) (by kernel_rfl) ?_ (fun hHeld => ?_)
    ·(try dsimp only); exact HS.out _ (by first | with_reducible exact hrf8 | with_reducible exact hrf8.drew | with_reducible exact hrf8.drew.drew | with_reducible exact hrf8.drew.drew.drew)
    refine tk 0 ?vm1 rfl (Or.inl ⟨by rfl, ?hm1⟩) ?_
    case hm1 => (intro w h; (try dsimp only at h); go_simp; try (with_reducible rfl))
    simp only [Act.put, si]
    refine tk 2 ?vm2 rfl (Or.inl ⟨by rfl, ?hm2⟩) ?_
    case hm2 => (intro w h; (try dsimp only at h); go_simp; try (with_reducible rfl))
    simp only [Act.put, si]
    refine tk 4 ?vm3 rfl (Or.inl ⟨by rfl, ?hm3⟩) ?_
    case hm3 => (intro w h; (try dsimp only at h); go_simp; try (with_reducible rfl))
    simp only [Act.put, si]
    refine tk 5 ?vm4 rfl (Or.inl ⟨by rfl, ?hm4⟩) ?_
    case hm4 => (intro w h; (try dsimp only at h); go_simp; try (with_reducible rfl))
    simp only [Act.put, si]
    refine tk 6 ?vm5 rfl (Or.inl ⟨by rfl, ?hm5⟩) ?_
    case hm5 => (intro w h; (try dsimp only at h); go_simp; try (with_reducible rfl))
    simp only [Act.put, si]
    refine tk 7 ?vm6 rfl (Or.inl ⟨by rfl, ?hm6⟩) ?_
    case hm6 => (intro w h; (try dsimp only at h); go_simp; try (with_reducible rfl))
    simp only [Act.put, si]
    refine wpAnyH_ready (rs := [1, 3]) (by kernel_rfl) (by simp) ?_
    refine AllReadyH.cons rfl (fun K hK => ?_) (AllReadyH.cons rfl (fun K hK => ?_) AllReadyH.nil)
    ·go_simp
     refine hK.out _ _ ?_ (fun hHeld => ?_)
     ·(try dsimp only); exact HS.out _ (by first | with_reducible exact hrf8 | with_reducible exact hrf8.drew | with_reducible exact hrf8.drew.drew | with_reducible exact hrf8.drew.drew.drew)
     clear hK K
     try simp only [Act.put, si]
     refine wpAnyH_ready (rs := [3]) (by kernel_rfl) (by simp) ?_
     refine AllReadyH.cons rfl (fun K hK => ?_) AllReadyH.nil
     go_simp
     refine hK.out _ _ ?_ (fun hHeld => ?_)
     ·(try dsimp only); exact HS.out _ (by first | with_reducible exact hrf8 | with_reducible exact hrf8.drew | with_reducible exact hrf8.drew.drew | with_reducible exact hrf8.drew.drew.drew)
     clear hK K
     try simp only [Act.put, si]
     refine wpAnyH_ready (rs := [8]) (by kernel_rfl) (by simp) ?_
     refine AllReadyH.cons rfl (fun K hK => ?_) AllReadyH.nil
     go_simp
     go_at_call 17
     refine (Hrf.out _ (by first | with_reducible exact hrf8 | with_reducible exact hrf8.drew | with_reducible exact hrf8.drew.drew | with_reducible exact hrf8.drew.drew.drew)).mono ?_
     rintro x w9 ⟨t, rfl, hq9, ht9, hb9⟩
     have q1v := (hb9.cell (by exact hB8)).trans r8
     have qva : ∀ Z, (w9.alloc Z).cell? ⟨w2.heap.size, 1, none⟩ = some (.slice ra8 k rc8) := fun Z => (((Below.refl _ _).alloc (Nat.le_refl _) _).cell (by show w2.heap.size < w9.heap.size; have := hb9.size; omega)).trans q1v
     try dsimp only
     refine hK.out _ _ ?_ (fun hHeld => ?_)
     ·(try dsimp only); exact HS.out _ (by first | with_reducible exact hb9 | with_reducible exact hb9.drew | with_reducible exact hb9.drew.drew | with_reducible exact hb9.drew.drew.drew)
     clear hK K
     try simp only [Act.put, si]
     refine wpAnyH_ready (rs := [9]) (by kernel_rfl) (by simp) ?_
     refine AllReadyH.cons rfl (fun K hK => ?_) AllReadyH.nil
     go_simp
     refine hK.out _ _ ?_ (fun hHeld => ?_)
     ·(try dsimp only); exact HS.out _ (by first | exact hb9.alloc hb9.size _ | exact (hb9.alloc hb9.size _).drew | exact (hb9.drew.alloc hb9.size _))
     clear hK K
     try simp only [Act.put, si]
     refine wpAnyH_ready (rs := [10]) (by kernel_rfl) (by simp) ?_
     refine AllReadyH.cons rfl (fun K hK => ?_) AllReadyH.nil
     refine step_append_lies _ (by rfl) _ _ _ (by rfl) (w2.heap.size + 1) 36 j0 _ 1 24 Tryz.underlying28 jh jz0 jz1 jz2 rfl (by decide) (.slice ra8 k rc8) k (encR (mcR E n) T k) (by rfl) (HO.out _ (by first | exact hb9.alloc hb9.size _ | exact (hb9.alloc hb9.size _).drew | exact (hb9.drew.alloc hb9.size _))) ⟨w9.heap.size, 0, none⟩ 1 1 [.slice t.a (chN (naE E) (rsE E n) k + 1) t.c] (by rfl) (by rfl) (fun j u hj => one_cellsI w9 _ _ j u hj) (one_slice _ ⟨_, _, _, rfl⟩) (by decide) hm1 hm3 (by simp; have := hb9.size; omega) (w9.heap.size + 1) (by simp) ?_
     intro gg2 cc2 wy hown3 hgrow hat hlt3
     obtain ⟨F3, Z3, hS3, hS4⟩ := HF.out _ wy (by first | exact hb9.alloc hb9.size _ | exact (hb9.alloc hb9.size _).drew | exact (hb9.drew.alloc hb9.size _)) hgrow
     refine hK.out _ _ ?_ (fun hHeld => ?_)
     ·(try dsimp only); exact hS3
     clear hK K
     try simp only [Act.put, si]
     refine tk 11 ?vm7 rfl (Or.inl ⟨by rfl, ?hm7⟩) ?_
     case hm7 => (intro w h; (try dsimp only at h); go_simp; try (with_reducible rfl))
     simp only [Act.put, si]
     refine wpAnyH_ready (rs := [12]) (by kernel_rfl) (by simp) ?_
     refine AllReadyH.cons rfl (fun K hK => ?_) AllReadyH.nil
     go_simp
     refine hK.out _ _ ?_ (fun hHeld => ?_)
     ·(try dsimp only); exact hS4 _
     clear hK K
     try simp only [Act.put, si]
     refine wpAnyH_done (by kernel_rfl) ?_ _
     have Y1 : Hid (_) := HZ.out w9 _ wy t gg2 cc2 hb9 hq9.out ht9 (by first | exact (Below.refl _ _).alloc (Nat.le_refl _) _ | exact ((Below.refl _ _).alloc (Nat.le_refl _) _).drew) hown3 hgrow (hat.imp (fun q => q) (fun q => by simp; omega))
     clear hown3 hgrow HZ HF HO HS Hrf
     go_wp2
     go_roundw
     case rel => exact ⟨k + 1, by omega, by go_num, some ⟨gg, 0, none⟩, cc, some ⟨gg2, 0, none⟩, cc2, some ⟨eg, 0, none⟩, ec2, extR T k t, by rw [Hch1.out], by rw [Hch1.out]; exact Y1⟩
     case measure => simp [intOf]; omega
    ·go_simp
     refine hK.out _ _ ?_ (fun hHeld => ?_)
     ·(try dsimp only); exact HS.out _ (by first | with_reducible exact hrf8 | with_reducible exact hrf8.drew | with_reducible exact hrf8.drew.drew | with_reducible exact hrf8.drew.drew.drew)
     clear hK K
     try simp only [Act.put, si]
     refine wpAnyH_ready (rs := [1, 8]) (by kernel_rfl) (by simp) ?_
     refine AllReadyH.cons rfl (fun K hK => ?_) (AllReadyH.cons rfl (fun K hK => ?_) AllReadyH.nil)
     ·go_simp
      refine hK.out _ _ ?_ (fun hHeld => ?_)
      ·(try dsimp only); exact HS.out _ (by first | with_reducible exact hrf8 | with_reducible exact hrf8.drew | with_reducible exact hrf8.drew.drew | with_reducible exact hrf8.drew.drew.drew)
      clear hK K
      try simp only [Act.put, si]
      refine wpAnyH_ready (rs := [8]) (by kernel_rfl) (by simp) ?_
      refine AllReadyH.cons rfl (fun K hK => ?_) AllReadyH.nil
      go_simp
      go_at_call 17
      refine (Hrf.out _ (by first | with_reducible exact hrf8 | with_reducible exact hrf8.drew | with_reducible exact hrf8.drew.drew | with_reducible exact hrf8.drew.drew.drew)).mono ?_
      rintro x w9 ⟨t, rfl, hq9, ht9, hb9⟩
      have q1v := (hb9.cell (by exact hB8)).trans r8
      have qva : ∀ Z, (w9.alloc Z).cell? ⟨w2.heap.size, 1, none⟩ = some (.slice ra8 k rc8) := fun Z => (((Below.refl _ _).alloc (Nat.le_refl _) _).cell (by show w2.heap.size < w9.heap.size; have := hb9.size; omega)).trans q1v
      try dsimp only
      refine hK.out _ _ ?_ (fun hHeld => ?_)
      ·(try dsimp only); exact HS.out _ (by first | with_reducible exact hb9 | with_reducible exact hb9.drew | with_reducible exact hb9.drew.drew | with_reducible exact hb9.drew.drew.drew)
      clear hK K
      try simp only [Act.put, si]
      refine wpAnyH_ready (rs := [9]) (by kernel_rfl) (by simp) ?_
      refine AllReadyH.cons rfl (fun K hK => ?_) AllReadyH.nil
      go_simp
      refine hK.out _ _ ?_ (fun hHeld => ?_)
      ·(try dsimp only); exact HS.out _ (by first | exact hb9.alloc hb9.size _ | exact (hb9.alloc hb9.size _).drew | exact (hb9.drew.alloc hb9.size _))
      clear hK K
      try simp only [Act.put, si]
      refine wpAnyH_ready (rs := [10]) (by kernel_rfl) (by simp) ?_
      refine AllReadyH.cons rfl (fun K hK => ?_) AllReadyH.nil
      refine step_append_lies _ (by rfl) _ _ _ (by rfl) (w2.heap.size + 1) 36 j0 _ 1 24 Tryz.underlying28 jh jz0 jz1 jz2 rfl (by decide) (.slice ra8 k rc8) k (encR (mcR E n) T k) (by rfl) (HO.out _ (by first | exact hb9.alloc hb9.size _ | exact (hb9.alloc hb9.size _).drew | exact (hb9.drew.alloc hb9.size _))) ⟨w9.heap.size, 0, none⟩ 1 1 [.slice t.a (chN (naE E) (rsE E n) k + 1) t.c] (by rfl) (by rfl) (fun j u hj => one_cellsI w9 _ _ j u hj) (one_slice _ ⟨_, _, _, rfl⟩) (by decide) hm1 hm3 (by simp; have := hb9.size; omega) (w9.heap.size + 1) (by simp) ?_
      intro gg2 cc2 wy hown3 hgrow hat hlt3
      obtain ⟨F3, Z3, hS3, hS4⟩ := HF.out _ wy (by first | exact hb9.alloc hb9.size _ | exact (hb9.alloc hb9.size _).drew | exact (hb9.drew.alloc hb9.size _)) hgrow
      refine hK.out _ _ ?_ (fun hHeld => ?_)
      ·(try dsimp only); exact hS3
      clear hK K
      try simp only [Act.put, si]
      refine tk 11 ?vm8 rfl (Or.inl ⟨by rfl, ?hm8⟩) ?_
      case hm8 => (intro w h; (try dsimp only at h); go_simp; try (with_reducible rfl))
      simp only [Act.put, si]
      refine wpAnyH_ready (rs := [12]) (by kernel_rfl) (by simp) ?_
      refine AllReadyH.cons rfl (fun K hK => ?_) AllReadyH.nil
      go_simp
      refine hK.out _ _ ?_ (fun hHeld => ?_)
      ·(try dsimp only); exact hS4 _
      clear hK K
      try simp only [Act.put, si]
      refine wpAnyH_done (by kernel_rfl) ?_ _
      have Y1 : Hid (_) := HZ.out w9 _ wy t gg2 cc2 hb9 hq9.out ht9 (by first | exact (Below.refl _ _).alloc (Nat.le_refl _) _ | exact ((Below.refl _ _).alloc (Nat.le_refl _) _).drew) hown3 hgrow (hat.imp (fun q => q) (fun q => by simp; omega))
      clear hown3 hgrow HZ HF HO HS Hrf
      go_wp2
      go_roundw
      case rel => exact ⟨k + 1, by omega, by go_num, some ⟨gg, 0, none⟩, cc, some ⟨gg2, 0, none⟩, cc2, some ⟨eg, 0, none⟩, ec2, extR T k t, by rw [Hch1.out], by rw [Hch1.out]; exact Y1⟩
      case measure => simp [intOf]; omega
     ·go_simp
      go_at_call 17
      refine (Hrf.out _ (by first | with_reducible exact hrf8 | with_reducible exact hrf8.drew | with_reducible exact hrf8.drew.drew | with_reducible exact hrf8.drew.drew.drew)).mono ?_
      rintro x w9 ⟨t, rfl, hq9, ht9, hb9⟩
      have q1v := (hb9.cell (by exact hB8)).trans r8
      have qva : ∀ Z, (w9.alloc Z).cell? ⟨w2.heap.size, 1, none⟩ = some (.slice ra8 k rc8) := fun Z => (((Below.refl _ _).alloc (Nat.le_refl _) _).cell (by show w2.heap.size < w9.heap.size; have := hb9.size; omega)).trans q1v
      try dsimp only
      refine hK.out _ _ ?_ (fun hHeld => ?_)
      ·(try dsimp only); exact HS.out _ (by first | with_reducible exact hb9 | with_reducible exact hb9.drew | with_reducible exact hb9.drew.drew | with_reducible exact hb9.drew.drew.drew)
      clear hK K
      try simp only [Act.put, si]
      refine wpAnyH_ready (rs := [1, 9]) (by kernel_rfl) (by simp) ?_
      refine AllReadyH.cons rfl (fun K hK => ?_) (AllReadyH.cons rfl (fun K hK => ?_) AllReadyH.nil)
      ·go_simp
       refine hK.out _ _ ?_ (fun hHeld => ?_)
       ·(try dsimp only); exact HS.out _ (by first | with_reducible exact hb9 | with_reducible exact hb9.drew | with_reducible exact hb9.drew.drew | with_reducible exact hb9.drew.drew.drew)
       clear hK K
       try simp only [Act.put, si]
       refine wpAnyH_ready (rs := [9]) (by kernel_rfl) (by simp) ?_
       refine AllReadyH.cons rfl (fun K hK => ?_) AllReadyH.nil
       go_simp
       refine hK.out _ _ ?_ (fun hHeld => ?_)
       ·(try dsimp only); exact HS.out _ (by first | exact hb9.alloc hb9.size _ | exact (hb9.alloc hb9.size _).drew | exact (hb9.drew.alloc hb9.size _))
       clear hK K
       try simp only [Act.put, si]
       refine wpAnyH_ready (rs := [10]) (by kernel_rfl) (by simp) ?_
       refine AllReadyH.cons rfl (fun K hK => ?_) AllReadyH.nil
       refine step_append_lies _ (by rfl) _ _ _ (by rfl) (w2.heap.size + 1) 36 j0 _ 1 24 Tryz.underlying28 jh jz0 jz1 jz2 rfl (by decide) (.slice ra8 k rc8) k (encR (mcR E n) T k) (by rfl) (HO.out _ (by first | exact hb9.alloc hb9.size _ | exact (hb9.alloc hb9.size _).drew | exact (hb9.drew.alloc hb9.size _))) ⟨w9.heap.size, 0, none⟩ 1 1 [.slice t.a (chN (naE E) (rsE E n) k + 1) t.c] (by rfl) (by rfl) (fun j u hj => one_cellsI w9 _ _ j u hj) (one_slice _ ⟨_, _, _, rfl⟩) (by decide) hm1 hm3 (by simp; have := hb9.size; omega) (w9.heap.size + 1) (by simp) ?_
       intro gg2 cc2 wy hown3 hgrow hat hlt3
       obtain ⟨F3, Z3, hS3, hS4⟩ := HF.out _ wy (by first | exact hb9.alloc hb9.size _ | exact (hb9.alloc hb9.size _).drew | exact (hb9.drew.alloc hb9.size _)) hgrow
       refine hK.out _ _ ?_ (fun hHeld => ?_)
       ·(try dsimp only); exact hS3
       clear hK K
       try simp only [Act.put, si]
       refine tk 11 ?vm9 rfl (Or.inl ⟨by rfl, ?hm9⟩) ?_
       case hm9 => (intro w h; (try dsimp only at h); go_simp; try (with_reducible rfl))
       simp only [Act.put, si]
       refine wpAnyH_ready (rs := [12]) (by kernel_rfl) (by simp) ?_
       refine AllReadyH.cons rfl (fun K hK => ?_) AllReadyH.nil
       go_simp
       refine hK.out _ _ ?_ (fun hHeld => ?_)
       ·(try dsimp only); exact hS4 _
       clear hK K
       try simp only [Act.put, si]
       refine wpAnyH_done (by kernel_rfl) ?_ _
       have Y1 : Hid (_) := HZ.out w9 _ wy t gg2 cc2 hb9 hq9.out ht9 (by first | exact (Below.refl _ _).alloc (Nat.le_refl _) _ | exact ((Below.refl _ _).alloc (Nat.le_refl _) _).drew) hown3 hgrow (hat.imp (fun q => q) (fun q => by simp; omega))
       clear hown3 hgrow HZ HF HO HS Hrf
       go_wp2
       go_roundw
       case rel => exact ⟨k + 1, by omega, by go_num, some ⟨gg, 0, none⟩, cc, some ⟨gg2, 0, none⟩, cc2, some ⟨eg, 0, none⟩, ec2, extR T k t, by rw [Hch1.out], by rw [Hch1.out]; exact Y1⟩
       case measure => simp [intOf]; omega
      ·go_simp
       refine hK.out _ _ ?_ (fun hHeld => ?_)
       ·(try dsimp only); exact HS.out _ (by first | exact hb9.alloc hb9.size _ | exact (hb9.alloc hb9.size _).drew | exact (hb9.drew.alloc hb9.size _))
       clear hK K
       try simp only [Act.put, si]
       refine wpAnyH_ready (rs := [1]) (by kernel_rfl) (by simp) ?_
       refine AllReadyH.cons rfl (fun K hK => ?_) AllReadyH.nil
       go_simp
       refine hK.out _ _ ?_ (fun hHeld => ?_)
       ·(try dsimp only); exact HS.out _ (by first | exact hb9.alloc hb9.size _ | exact (hb9.alloc hb9.size _).drew | exact (hb9.drew.alloc hb9.size _))
       clear hK K
       try simp only [Act.put, si]
       refine wpAnyH_ready (rs := [10]) (by kernel_rfl) (by simp) ?_
       refine AllReadyH.cons rfl (fun K hK => ?_) AllReadyH.nil
       refine step_append_lies _ (by rfl) _ _ _ (by rfl) (w2.heap.size + 1) 36 j0 _ 1 24 Tryz.underlying28 jh jz0 jz1 jz2 rfl (by decide) (.slice ra8 k rc8) k (encR (mcR E n) T k) (by rfl) (HO.out _ (by first | exact hb9.alloc hb9.size _ | exact (hb9.alloc hb9.size _).drew | exact (hb9.drew.alloc hb9.size _))) ⟨w9.heap.size, 0, none⟩ 1 1 [.slice t.a (chN (naE E) (rsE E n) k + 1) t.c] (by rfl) (by rfl) (fun j u hj => one_cellsI w9 _ _ j u hj) (one_slice _ ⟨_, _, _, rfl⟩) (by decide) hm1 hm3 (by simp; have := hb9.size; omega) (w9.heap.size + 1) (by simp) ?_
       intro gg2 cc2 wy hown3 hgrow hat hlt3
       obtain ⟨F3, Z3, hS3, hS4⟩ := HF.out _ wy (by first | exact hb9.alloc hb9.size _ | exact (hb9.alloc hb9.size _).drew | exact (hb9.drew.alloc hb9.size _)) hgrow
       refine hK.out _ _ ?_ (fun hHeld => ?_)
       ·(try dsimp only); exact hS3
       clear hK K
       try simp only [Act.put, si]
       refine tk 11 ?vm10 rfl (Or.inl ⟨by rfl, ?hm10⟩) ?_
       case hm10 => (intro w h; (try dsimp only at h); go_simp; try (with_reducible rfl))
       simp only [Act.put, si]
       refine wpAnyH_ready (rs := [12]) (by kernel_rfl) (by simp) ?_
       refine AllReadyH.cons rfl (fun K hK => ?_) AllReadyH.nil
       go_simp
       refine hK.out _ _ ?_ (fun hHeld => ?_)
       ·(try dsimp only); exact hS4 _
       clear hK K
       try simp only [Act.put, si]
       refine wpAnyH_done (by kernel_rfl) ?_ _
       have Y1 : Hid (_) := HZ.out w9 _ wy t gg2 cc2 hb9 hq9.out ht9 (by first | exact (Below.refl _ _).alloc (Nat.le_refl _) _ | exact ((Below.refl _ _).alloc (Nat.le_refl _) _).drew) hown3 hgrow (hat.imp (fun q => q) (fun q => by simp; omega))
       clear hown3 hgrow HZ HF HO HS Hrf
       go_wp2
       go_roundw
       case rel => exact ⟨k + 1, by omega, by go_num, some ⟨gg, 0, none⟩, cc, some ⟨gg2, 0, none⟩, cc2, some ⟨eg, 0, none⟩, ec2, extR T k t, by rw [Hch1.out], by rw [Hch1.out]; exact Y1⟩
       case measure => simp [intOf]; omega
   ·have hci : ¬ (((spk.c : Nat) : Int) = ((chN (naE E) (rsE E n) k : Nat) : Int)) := by omega
    have Hch1 : Hid (chN (naE E) (rsE E n) (k + 1) = chN (naE E) (rsE E n) k) := by unfold Hid; rw [Hsc2.out, if_neg hc]
    rw [Hch1.out] at Hsc Hsc2
    obtain ⟨eg, he⟩ : ∃ eg, ea = some ⟨eg, 0, none⟩ := by
     rcases rowCells H5.out.en with ⟨q, q2⟩ | ⟨g', cap', q, _⟩
     ·have := Hsc.out; omega
     ·injection q with q; exact ⟨g', q⟩
    subst he
    have htl : TL w2 w4 w5 sa scap k ra8 rc8 eg ec (chN (naE E) (rsE E n) k) spk (endF (naE E) (rsE E n) (k + 1)) (mcF E n) (mcR E n) (mcX E n) T := tl_of H5.out Hspk.out Hsc.out (fun i _ => by rw [endF, Hspk2.out]) p50 p51 (fun e => by have := hEg.out eg rfl; omega) hs45 hSg.out h24
    have hz5 : w5.heap.size = w4.heap.size + 1 := by rw [hw5]; simp
    rw [hw5] at htl
    obtain ⟨⟨tv, te0⟩, te1, tp0, tp1, ty0, ty1, ty2, town, tgc, tm0, tW8⟩ := htl
    simp only [World.size_alloc] at tgc tW8
    have ic0 : (0 : Int) <= ((spk.c : Nat) : Int) := by omega
    have ic1 : ((spk.c : Nat) : Int) < ((chN (naE E) (rsE E n) k : Nat) : Int) := by have := Hsc.out; omega
    have q0 : (w4.alloc (.cells #[.int .i64 ((spk.c : Nat) : Int), .int .i64 ((spk.q : Nat) : Int)] 35)).cell? ⟨w2.heap.size, 0, none⟩ = some (.slice sa k scap) := by rw [<- hw5]; exact H5.out.b0
    clear hw5 H5 p50 p51 hz5
    go_wp2_with (at_builtin; refine wpList_append_lies _ rfl _ _ 27 rfl (w2.heap.size + 1) 35 i0 (.agg #[.int .i64 0, .int .i64 0]) 2 16 Tryz.underlying27 hi hz0 hz1 hz2 rfl (by decide) _ _ _ rfl (World.ownsRow.alloc town _) ⟨w4.heap.size + 1, 0, none⟩ 1 1 (spV spk) rfl rfl tgc (spV_one _) (by decide) hm1 hm2 tm0 (w4.heap.size + 1 + 1) (by simp [World.setCell]) ?_; intro gg cc wx hownx hgrowx hatx hltx; obtain ⟨⟨f80, f81⟩, hH8, ⟨p80, p81⟩, hP8⟩ := tW8.out wx gg cc hownx hgrowx hatx; have H8 : Hid (_) := hH8; clear hH8 hownx hgrowx hatx)
    obtain ⟨w8, hw8⟩ : ∃ w8, w8 = wx.setCell ⟨w2.heap.size, 0, none⟩ (.slice (some ⟨gg, 0, none⟩) (k + 1) cc) := ⟨_, rfl⟩
    rw [<- hw8] at H8 p80 p81 hP8 ⊢
    clear hw8 f80 f81
    have r8 := H8.out.b1
    have rz8 := H8.out.z1
    have hB8 := H8.out.sz
    have hrf8 : Below w8.heap.size w8 w8 := Below.refl _ _
    have HS : Hid (∀ W, Below w8.heap.size w8 W -> W.cell? ⟨w4.heap.size, 0, none⟩ = some (.int .i64 ((spk.c : Nat) : Int)) ∧ W.cell? ⟨w4.heap.size, 1, none⟩ = some (.int .i64 ((spk.q : Nat) : Int))) := fun W hW => ⟨(hW.cell (by exact hP8)).trans p80, (hW.cell (by exact hP8)).trans p81⟩
    have Hrf : Hid (∀ W, Below w8.heap.size w8 W -> Calls Tryz.prog 17 #[.slice ra8 k rc8, .int .i64 ((chN (naE E) (rsE E n) k : Nat) : Int), .agg #[.int .i64 ((spk.c : Nat) : Int), .int .i64 ((spk.q : Nat) : Int)], .slice xa (E k).na xc] W fun x w' => ∃ t : Lr, x = .returned (.slice t.a (chN (naE E) (rsE E n) k) t.c) ∧ Hid (QR w' (chN (naE E) (rsE E n) k) (mcX E n k) t) ∧ w8.heap.size <= t.lo ∧ Below w8.heap.size w8 w') := fun W hW => by
     have hWw := Hww.out w8 H8.out.bel
     refine (rfI_any (rn := mcR E n) (X := rc (naE E) (rsE E n)) (r := rsE E n k) (s := spk) (E k).na xc (chN (naE E) (rsE E n) k) W (by have := chN_le Hrs.out (k + 1); have := Hch1.out; omega) (by obtain ⟨-, ⟨a', c', e, q⟩, -⟩ := (H8.out.below hW).shapes; injection e with e1 _ e3; rw [e1, e3]; exact q) (hWw.below hW) (fun j hj => Hrs.out k hlt j hj) (fun p hp => by have := chN_mono Hrs.out (show p + 1 <= k + 1 by omega); rw [Hch1.out] at this; exact this) (fun p c hp hc => rc_zero Hrs.out (by omega) hc) Hsc.out).mono ?_
     rintro x w' ⟨t, h1, h2, h3, h4⟩
     refine ⟨t, h1, ?_, Nat.le_trans hW.size h3, hW.trans (h4.mono hW.size)⟩
     unfold Hid
     have e : mcX E n k = fun c => (((if c = spk.c then spk.q else mxTo (fun j => rc (naE E) (rsE E n) (rsE E n k j) c) (E k).na : Nat)) : Int) := by
      funext c
      show ((rc (naE E) (rsE E n) k c : Nat) : Int) = _
      rw [rc_eq _ _ (Hrs.out k hlt) c, Hspk2.out]
      rfl
     rw [e]
     exact h2.out
    have HO : Hid (∀ Y, Below w8.heap.size w8 Y -> Y.ownsRow (w2.heap.size + 1) 36 1 (.slice ra8 k rc8) k (encR (mcR E n) T k)) := fun Y hY => (H8.out.below hY).co.r.own
    have HF : Hid (∀ Y wy, Below w8.heap.size w8 Y -> Y.grownBy wy (Value.slice ra8 k rc8).ownBlock -> wy.cell? ⟨w2.heap.size, 1, none⟩ = some (.slice ra8 k rc8) ∧ wy.frozen? ⟨w2.heap.size, 1, none⟩ = false ∧ (wy.cell? ⟨w4.heap.size, 0, none⟩ = some (.int .i64 ((spk.c : Nat) : Int)) ∧ wy.cell? ⟨w4.heap.size, 1, none⟩ = some (.int .i64 ((spk.q : Nat) : Int))) ∧ ∀ V, (wy.setCell ⟨w2.heap.size, 1, none⟩ V).cell? ⟨w4.heap.size, 0, none⟩ = some (.int .i64 ((spk.c : Nat) : Int)) ∧ (wy.setCell ⟨w2.heap.size, 1, none⟩ V).cell? ⟨w4.heap.size, 1, none⟩ = some (.int .i64 ((spk.q : Nat) : Int))) := fun Y wy hY hgr => by
     obtain ⟨-, q1, -, q3, -, -⟩ := H8.out.far hY hgr (fun q hq => (rowGt H8.out.co.r.own q hq).1)
     have hsY := hY.size
     have hne : some w4.heap.size ≠ (Value.slice ra8 k rc8).ownBlock := fun e => by have := hRg.out _ e.symm; omega
     have far : ∀ o, wy.cell? ⟨w4.heap.size, o, none⟩ = w8.cell? ⟨w4.heap.size, o, none⟩ := fun o => (hgr.cell_far _ (by show w4.heap.size < Y.heap.size; omega) hne).trans (hY.cell (by exact hP8))
     have e0 := (far 0).trans p80
     have e1 := (far 1).trans p81
     exact ⟨q1, q3, ⟨e0, e1⟩, fun V => ⟨by rw [far_block (by omega)]; exact e0, by rw [far_block (by omega)]; exact e1⟩⟩
    have HZ : Hid (∀ (w9 Y wy : World) (t : Lr) (gg2 cc2 : Nat), Below w8.heap.size w8 w9 -> QR w9 (chN (naE E) (rsE E n) k) (mcX E n k) t -> w8.heap.size <= t.lo -> Below w9.heap.size w9 Y -> wy.ownsRow (w2.heap.size + 1) 36 1 (.slice (some ⟨gg2, 0, none⟩) (k + 1) cc2) (k + 1) (encR (mcR E n) T k ++ [.slice t.a (chN (naE E) (rsE E n) k) t.c]) -> Y.grownBy wy (Value.slice ra8 k rc8).ownBlock -> ((Value.slice ra8 k rc8).ownBlock = some gg2 ∨ Y.heap.size <= gg2) -> St w2 (wy.setCell ⟨w2.heap.size, 1, none⟩ (.slice (some ⟨gg2, 0, none⟩) (k + 1) cc2)) (.slice (some ⟨gg, 0, none⟩) (k + 1) cc) (k + 1) (.slice (some ⟨gg2, 0, none⟩) (k + 1) cc2) (k + 1) (.slice (some ⟨eg, 0, none⟩) (chN (naE E) (rsE E n) k) ec) (chN (naE E) (rsE E n) k) (endF (naE E) (rsE E n) (k + 1)) (mcF E n) (mcR E n) (mcX E n) (extR T k t)) := fun w9 Y wy t gg2 cc2 h1 hq hlo hY hown hgr hgg => by
     have e : mcR E n k = chN (naE E) (rsE E n) k := Hch1.out
     exact (H8.out.pushR (h1.trans (hY.mono h1.size)) (by rw [e]; exact hq.below hY) hlo (by rw [e]; exact hown) hgr hgg).2.2
    clear H8 p80 p81
    refine wp_region_held_drew (S := fun W => W.cell? ⟨w4.heap.size, 0, none⟩ = some (.int .i64 ((spk.c : Nat) : Int)) ∧ W.cell? ⟨w4.heap.size, 1, none⟩ = some (.int .i64 ((spk.q : Nat) : Int))) (by kernel_rfl) ?_ (fun hHeld => ?_)
    ·(try dsimp only); exact HS.out _ (by first | with_reducible exact hrf8 | with_reducible exact hrf8.drew | with_reducible exact hrf8.drew.drew | with_reducible exact hrf8.drew.drew.drew)
    refine tk 0 ?vm11 rfl (Or.inl ⟨by rfl, ?hm11⟩) ?_
    case hm11 => (intro w h; (try dsimp only at h); go_simp; try (with_reducible rfl))
    simp only [Act.put, si]
    refine tk 2 ?vm12 rfl (Or.inl ⟨by rfl, ?hm12⟩) ?_
    case hm12 => (intro w h; (try dsimp only at h); go_simp; try (with_reducible rfl))
    simp only [Act.put, si]
    refine tk 4 ?vm13 rfl (Or.inl ⟨by rfl, ?hm13⟩) ?_
    case hm13 => (intro w h; (try dsimp only at h); go_simp; try (with_reducible rfl))
    simp only [Act.put, si]
    refine tk 5 ?vm14 rfl (Or.inl ⟨by rfl, ?hm14⟩) ?_
    case hm14 => (intro w h; (try dsimp only at h); go_simp; try (with_reducible rfl))
    simp only [Act.put, si]
    refine tk 6 ?vm15 rfl (Or.inl ⟨by rfl, ?hm15⟩) ?_
    case hm15 => (intro w h; (try dsimp only at h); go_simp; try (with_reducible rfl))
    simp only [Act.put, si]
    refine tk 7 ?vm16 rfl (Or.inl ⟨by rfl, ?hm16⟩) ?_
    case hm16 => (intro w h; (try dsimp only at h); go_simp; try (with_reducible rfl))
    simp only [Act.put, si]
    refine wpAnyH_ready (rs := [1, 3]) (by kernel_rfl) (by simp) ?_
    refine AllReadyH.cons rfl (fun K hK => ?_) (AllReadyH.cons rfl (fun K hK => ?_) AllReadyH.nil)
    ·go_simp
     refine hK.out _ _ ?_ (fun hHeld => ?_)
     ·(try dsimp only); exact HS.out _ (by first | with_reducible exact hrf8 | with_reducible exact hrf8.drew | with_reducible exact hrf8.drew.drew | with_reducible exact hrf8.drew.drew.drew)
     clear hK K
     try simp only [Act.put, si]
     refine wpAnyH_ready (rs := [3]) (by kernel_rfl) (by simp) ?_
     refine AllReadyH.cons rfl (fun K hK => ?_) AllReadyH.nil
     go_simp
     refine hK.out _ _ ?_ (fun hHeld => ?_)
     ·(try dsimp only); exact HS.out _ (by first | with_reducible exact hrf8 | with_reducible exact hrf8.drew | with_reducible exact hrf8.drew.drew | with_reducible exact hrf8.drew.drew.drew)
     clear hK K
     try simp only [Act.put, si]
     refine wpAnyH_ready (rs := [8]) (by kernel_rfl) (by simp) ?_
     refine AllReadyH.cons rfl (fun K hK => ?_) AllReadyH.nil
     go_simp
     go_at_call 17
     refine (Hrf.out _ (by first | with_reducible exact hrf8 | with_reducible exact hrf8.drew | with_reducible exact hrf8.drew.drew | with_reducible exact hrf8.drew.drew.drew)).mono ?_
     rintro x w9 ⟨t, rfl, hq9, ht9, hb9⟩
     have q1v := (hb9.cell (by exact hB8)).trans r8
     have qva : ∀ Z, (w9.alloc Z).cell? ⟨w2.heap.size, 1, none⟩ = some (.slice ra8 k rc8) := fun Z => (((Below.refl _ _).alloc (Nat.le_refl _) _).cell (by show w2.heap.size < w9.heap.size; have := hb9.size; omega)).trans q1v
     try dsimp only
     refine hK.out _ _ ?_ (fun hHeld => ?_)
     ·(try dsimp only); exact HS.out _ (by first | with_reducible exact hb9 | with_reducible exact hb9.drew | with_reducible exact hb9.drew.drew | with_reducible exact hb9.drew.drew.drew)
     clear hK K
     try simp only [Act.put, si]
     refine wpAnyH_ready (rs := [9]) (by kernel_rfl) (by simp) ?_
     refine AllReadyH.cons rfl (fun K hK => ?_) AllReadyH.nil
     go_simp
     refine hK.out _ _ ?_ (fun hHeld => ?_)
     ·(try dsimp only); exact HS.out _ (by first | exact hb9.alloc hb9.size _ | exact (hb9.alloc hb9.size _).drew | exact (hb9.drew.alloc hb9.size _))
     clear hK K
     try simp only [Act.put, si]
     refine wpAnyH_ready (rs := [10]) (by kernel_rfl) (by simp) ?_
     refine AllReadyH.cons rfl (fun K hK => ?_) AllReadyH.nil
     refine step_append_lies _ (by rfl) _ _ _ (by rfl) (w2.heap.size + 1) 36 j0 _ 1 24 Tryz.underlying28 jh jz0 jz1 jz2 rfl (by decide) (.slice ra8 k rc8) k (encR (mcR E n) T k) (by rfl) (HO.out _ (by first | exact hb9.alloc hb9.size _ | exact (hb9.alloc hb9.size _).drew | exact (hb9.drew.alloc hb9.size _))) ⟨w9.heap.size, 0, none⟩ 1 1 [.slice t.a (chN (naE E) (rsE E n) k) t.c] (by rfl) (by rfl) (fun j u hj => one_cellsI w9 _ _ j u hj) (one_slice _ ⟨_, _, _, rfl⟩) (by decide) hm1 hm3 (by simp; have := hb9.size; omega) (w9.heap.size + 1) (by simp) ?_
     intro gg2 cc2 wy hown3 hgrow hat hlt3
     obtain ⟨F3, Z3, hS3, hS4⟩ := HF.out _ wy (by first | exact hb9.alloc hb9.size _ | exact (hb9.alloc hb9.size _).drew | exact (hb9.drew.alloc hb9.size _)) hgrow
     refine hK.out _ _ ?_ (fun hHeld => ?_)
     ·(try dsimp only); exact hS3
     clear hK K
     try simp only [Act.put, si]
     refine tk 11 ?vm17 rfl (Or.inl ⟨by rfl, ?hm17⟩) ?_
     case hm17 => (intro w h; (try dsimp only at h); go_simp; try (with_reducible rfl))
     simp only [Act.put, si]
     refine wpAnyH_ready (rs := [12]) (by kernel_rfl) (by simp) ?_
     refine AllReadyH.cons rfl (fun K hK => ?_) AllReadyH.nil
     go_simp
     refine hK.out _ _ ?_ (fun hHeld => ?_)
     ·(try dsimp only); exact hS4 _
     clear hK K
     try simp only [Act.put, si]
     refine wpAnyH_done (by kernel_rfl) ?_ _
     have Y1 : Hid (_) := HZ.out w9 _ wy t gg2 cc2 hb9 hq9.out ht9 (by first | exact (Below.refl _ _).alloc (Nat.le_refl _) _ | exact ((Below.refl _ _).alloc (Nat.le_refl _) _).drew) hown3 hgrow (hat.imp (fun q => q) (fun q => by simp; omega))
     clear hown3 hgrow HZ HF HO HS Hrf
     go_wp2
     go_roundw
     case rel => exact ⟨k + 1, by omega, by go_num, some ⟨gg, 0, none⟩, cc, some ⟨gg2, 0, none⟩, cc2, some ⟨eg, 0, none⟩, ec, extR T k t, by rw [Hch1.out], by rw [Hch1.out]; exact Y1⟩
     case measure => simp [intOf]; omega
    ·go_simp
     refine hK.out _ _ ?_ (fun hHeld => ?_)
     ·(try dsimp only); exact HS.out _ (by first | with_reducible exact hrf8 | with_reducible exact hrf8.drew | with_reducible exact hrf8.drew.drew | with_reducible exact hrf8.drew.drew.drew)
     clear hK K
     try simp only [Act.put, si]
     refine wpAnyH_ready (rs := [1, 8]) (by kernel_rfl) (by simp) ?_
     refine AllReadyH.cons rfl (fun K hK => ?_) (AllReadyH.cons rfl (fun K hK => ?_) AllReadyH.nil)
     ·go_simp
      refine hK.out _ _ ?_ (fun hHeld => ?_)
      ·(try dsimp only); exact HS.out _ (by first | with_reducible exact hrf8 | with_reducible exact hrf8.drew | with_reducible exact hrf8.drew.drew | with_reducible exact hrf8.drew.drew.drew)
      clear hK K
      try simp only [Act.put, si]
      refine wpAnyH_ready (rs := [8]) (by kernel_rfl) (by simp) ?_
      refine AllReadyH.cons rfl (fun K hK => ?_) AllReadyH.nil
      go_simp
      go_at_call 17
      refine (Hrf.out _ (by first | with_reducible exact hrf8 | with_reducible exact hrf8.drew | with_reducible exact hrf8.drew.drew | with_reducible exact hrf8.drew.drew.drew)).mono ?_
      rintro x w9 ⟨t, rfl, hq9, ht9, hb9⟩
      have q1v := (hb9.cell (by exact hB8)).trans r8
      have qva : ∀ Z, (w9.alloc Z).cell? ⟨w2.heap.size, 1, none⟩ = some (.slice ra8 k rc8) := fun Z => (((Below.refl _ _).alloc (Nat.le_refl _) _).cell (by show w2.heap.size < w9.heap.size; have := hb9.size; omega)).trans q1v
      try dsimp only
      refine hK.out _ _ ?_ (fun hHeld => ?_)
      ·(try dsimp only); exact HS.out _ (by first | with_reducible exact hb9 | with_reducible exact hb9.drew | with_reducible exact hb9.drew.drew | with_reducible exact hb9.drew.drew.drew)
      clear hK K
      try simp only [Act.put, si]
      refine wpAnyH_ready (rs := [9]) (by kernel_rfl) (by simp) ?_
      refine AllReadyH.cons rfl (fun K hK => ?_) AllReadyH.nil
      go_simp
      refine hK.out _ _ ?_ (fun hHeld => ?_)
      ·(try dsimp only); exact HS.out _ (by first | exact hb9.alloc hb9.size _ | exact (hb9.alloc hb9.size _).drew | exact (hb9.drew.alloc hb9.size _))
      clear hK K
      try simp only [Act.put, si]
      refine wpAnyH_ready (rs := [10]) (by kernel_rfl) (by simp) ?_
      refine AllReadyH.cons rfl (fun K hK => ?_) AllReadyH.nil
      refine step_append_lies _ (by rfl) _ _ _ (by rfl) (w2.heap.size + 1) 36 j0 _ 1 24 Tryz.underlying28 jh jz0 jz1 jz2 rfl (by decide) (.slice ra8 k rc8) k (encR (mcR E n) T k) (by rfl) (HO.out _ (by first | exact hb9.alloc hb9.size _ | exact (hb9.alloc hb9.size _).drew | exact (hb9.drew.alloc hb9.size _))) ⟨w9.heap.size, 0, none⟩ 1 1 [.slice t.a (chN (naE E) (rsE E n) k) t.c] (by rfl) (by rfl) (fun j u hj => one_cellsI w9 _ _ j u hj) (one_slice _ ⟨_, _, _, rfl⟩) (by decide) hm1 hm3 (by simp; have := hb9.size; omega) (w9.heap.size + 1) (by simp) ?_
      intro gg2 cc2 wy hown3 hgrow hat hlt3
      obtain ⟨F3, Z3, hS3, hS4⟩ := HF.out _ wy (by first | exact hb9.alloc hb9.size _ | exact (hb9.alloc hb9.size _).drew | exact (hb9.drew.alloc hb9.size _)) hgrow
      refine hK.out _ _ ?_ (fun hHeld => ?_)
      ·(try dsimp only); exact hS3
      clear hK K
      try simp only [Act.put, si]
      refine tk 11 ?vm18 rfl (Or.inl ⟨by rfl, ?hm18⟩) ?_
      case hm18 => (intro w h; (try dsimp only at h); go_simp; try (with_reducible rfl))
      simp only [Act.put, si]
      refine wpAnyH_ready (rs := [12]) (by kernel_rfl) (by simp) ?_
      refine AllReadyH.cons rfl (fun K hK => ?_) AllReadyH.nil
      go_simp
      refine hK.out _ _ ?_ (fun hHeld => ?_)
      ·(try dsimp only); exact hS4 _
      clear hK K
      try simp only [Act.put, si]
      refine wpAnyH_done (by kernel_rfl) ?_ _
      have Y1 : Hid (_) := HZ.out w9 _ wy t gg2 cc2 hb9 hq9.out ht9 (by first | exact (Below.refl _ _).alloc (Nat.le_refl _) _ | exact ((Below.refl _ _).alloc (Nat.le_refl _) _).drew) hown3 hgrow (hat.imp (fun q => q) (fun q => by simp; omega))
      clear hown3 hgrow HZ HF HO HS Hrf
      go_wp2
      go_roundw
      case rel => exact ⟨k + 1, by omega, by go_num, some ⟨gg, 0, none⟩, cc, some ⟨gg2, 0, none⟩, cc2, some ⟨eg, 0, none⟩, ec, extR T k t, by rw [Hch1.out], by rw [Hch1.out]; exact Y1⟩
      case measure => simp [intOf]; omega
     ·go_simp
      go_at_call 17
      refine (Hrf.out _ (by first | with_reducible exact hrf8 | with_reducible exact hrf8.drew | with_reducible exact hrf8.drew.drew | with_reducible exact hrf8.drew.drew.drew)).mono ?_
      rintro x w9 ⟨t, rfl, hq9, ht9, hb9⟩
      have q1v := (hb9.cell (by exact hB8)).trans r8
      have qva : ∀ Z, (w9.alloc Z).cell? ⟨w2.heap.size, 1, none⟩ = some (.slice ra8 k rc8) := fun Z => (((Below.refl _ _).alloc (Nat.le_refl _) _).cell (by show w2.heap.size < w9.heap.size; have := hb9.size; omega)).trans q1v
      try dsimp only
      refine hK.out _ _ ?_ (fun hHeld => ?_)
      ·(try dsimp only); exact HS.out _ (by first | with_reducible exact hb9 | with_reducible exact hb9.drew | with_reducible exact hb9.drew.drew | with_reducible exact hb9.drew.drew.drew)
      clear hK K
      try simp only [Act.put, si]
      refine wpAnyH_ready (rs := [1, 9]) (by kernel_rfl) (by simp) ?_
      refine AllReadyH.cons rfl (fun K hK => ?_) (AllReadyH.cons rfl (fun K hK => ?_) AllReadyH.nil)
      ·go_simp
       refine hK.out _ _ ?_ (fun hHeld => ?_)
       ·(try dsimp only); exact HS.out _ (by first | with_reducible exact hb9 | with_reducible exact hb9.drew | with_reducible exact hb9.drew.drew | with_reducible exact hb9.drew.drew.drew)
       clear hK K
       try simp only [Act.put, si]
       refine wpAnyH_ready (rs := [9]) (by kernel_rfl) (by simp) ?_
       refine AllReadyH.cons rfl (fun K hK => ?_) AllReadyH.nil
       go_simp
       refine hK.out _ _ ?_ (fun hHeld => ?_)
       ·(try dsimp only); exact HS.out _ (by first | exact hb9.alloc hb9.size _ | exact (hb9.alloc hb9.size _).drew | exact (hb9.drew.alloc hb9.size _))
       clear hK K
       try simp only [Act.put, si]
       refine wpAnyH_ready (rs := [10]) (by kernel_rfl) (by simp) ?_
       refine AllReadyH.cons rfl (fun K hK => ?_) AllReadyH.nil
       refine step_append_lies _ (by rfl) _ _ _ (by rfl) (w2.heap.size + 1) 36 j0 _ 1 24 Tryz.underlying28 jh jz0 jz1 jz2 rfl (by decide) (.slice ra8 k rc8) k (encR (mcR E n) T k) (by rfl) (HO.out _ (by first | exact hb9.alloc hb9.size _ | exact (hb9.alloc hb9.size _).drew | exact (hb9.drew.alloc hb9.size _))) ⟨w9.heap.size, 0, none⟩ 1 1 [.slice t.a (chN (naE E) (rsE E n) k) t.c] (by rfl) (by rfl) (fun j u hj => one_cellsI w9 _ _ j u hj) (one_slice _ ⟨_, _, _, rfl⟩) (by decide) hm1 hm3 (by simp; have := hb9.size; omega) (w9.heap.size + 1) (by simp) ?_
       intro gg2 cc2 wy hown3 hgrow hat hlt3
       obtain ⟨F3, Z3, hS3, hS4⟩ := HF.out _ wy (by first | exact hb9.alloc hb9.size _ | exact (hb9.alloc hb9.size _).drew | exact (hb9.drew.alloc hb9.size _)) hgrow
       refine hK.out _ _ ?_ (fun hHeld => ?_)
       ·(try dsimp only); exact hS3
       clear hK K
       try simp only [Act.put, si]
       refine tk 11 ?vm19 rfl (Or.inl ⟨by rfl, ?hm19⟩) ?_
       case hm19 => (intro w h; (try dsimp only at h); go_simp; try (with_reducible rfl))
       simp only [Act.put, si]
       refine wpAnyH_ready (rs := [12]) (by kernel_rfl) (by simp) ?_
       refine AllReadyH.cons rfl (fun K hK => ?_) AllReadyH.nil
       go_simp
       refine hK.out _ _ ?_ (fun hHeld => ?_)
       ·(try dsimp only); exact hS4 _
       clear hK K
       try simp only [Act.put, si]
       refine wpAnyH_done (by kernel_rfl) ?_ _
       have Y1 : Hid (_) := HZ.out w9 _ wy t gg2 cc2 hb9 hq9.out ht9 (by first | exact (Below.refl _ _).alloc (Nat.le_refl _) _ | exact ((Below.refl _ _).alloc (Nat.le_refl _) _).drew) hown3 hgrow (hat.imp (fun q => q) (fun q => by simp; omega))
       clear hown3 hgrow HZ HF HO HS Hrf
       go_wp2
       go_roundw
       case rel => exact ⟨k + 1, by omega, by go_num, some ⟨gg, 0, none⟩, cc, some ⟨gg2, 0, none⟩, cc2, some ⟨eg, 0, none⟩, ec, extR T k t, by rw [Hch1.out], by rw [Hch1.out]; exact Y1⟩
       case measure => simp [intOf]; omega
      ·go_simp
       refine hK.out _ _ ?_ (fun hHeld => ?_)
       ·(try dsimp only); exact HS.out _ (by first | exact hb9.alloc hb9.size _ | exact (hb9.alloc hb9.size _).drew | exact (hb9.drew.alloc hb9.size _))
       clear hK K
       try simp only [Act.put, si]
       refine wpAnyH_ready (rs := [1]) (by kernel_rfl) (by simp) ?_
       refine AllReadyH.cons rfl (fun K hK => ?_) AllReadyH.nil
       go_simp
       refine hK.out _ _ ?_ (fun hHeld => ?_)
       ·(try dsimp only); exact HS.out _ (by first | exact hb9.alloc hb9.size _ | exact (hb9.alloc hb9.size _).drew | exact (hb9.drew.alloc hb9.size _))
       clear hK K
       try simp only [Act.put, si]
       refine wpAnyH_ready (rs := [10]) (by kernel_rfl) (by simp) ?_
       refine AllReadyH.cons rfl (fun K hK => ?_) AllReadyH.nil
       refine step_append_lies _ (by rfl) _ _ _ (by rfl) (w2.heap.size + 1) 36 j0 _ 1 24 Tryz.underlying28 jh jz0 jz1 jz2 rfl (by decide) (.slice ra8 k rc8) k (encR (mcR E n) T k) (by rfl) (HO.out _ (by first | exact hb9.alloc hb9.size _ | exact (hb9.alloc hb9.size _).drew | exact (hb9.drew.alloc hb9.size _))) ⟨w9.heap.size, 0, none⟩ 1 1 [.slice t.a (chN (naE E) (rsE E n) k) t.c] (by rfl) (by rfl) (fun j u hj => one_cellsI w9 _ _ j u hj) (one_slice _ ⟨_, _, _, rfl⟩) (by decide) hm1 hm3 (by simp; have := hb9.size; omega) (w9.heap.size + 1) (by simp) ?_
       intro gg2 cc2 wy hown3 hgrow hat hlt3
       obtain ⟨F3, Z3, hS3, hS4⟩ := HF.out _ wy (by first | exact hb9.alloc hb9.size _ | exact (hb9.alloc hb9.size _).drew | exact (hb9.drew.alloc hb9.size _)) hgrow
       refine hK.out _ _ ?_ (fun hHeld => ?_)
       ·(try dsimp only); exact hS3
       clear hK K
       try simp only [Act.put, si]
       refine tk 11 ?vm20 rfl (Or.inl ⟨by rfl, ?hm20⟩) ?_
       case hm20 => (intro w h; (try dsimp only at h); go_simp; try (with_reducible rfl))
       simp only [Act.put, si]
       refine wpAnyH_ready (rs := [12]) (by kernel_rfl) (by simp) ?_
       refine AllReadyH.cons rfl (fun K hK => ?_) AllReadyH.nil
       go_simp
       refine hK.out _ _ ?_ (fun hHeld => ?_)
       ·(try dsimp only); exact hS4 _
       clear hK K
       try simp only [Act.put, si]
       refine wpAnyH_done (by kernel_rfl) ?_ _
       have Y1 : Hid (_) := HZ.out w9 _ wy t gg2 cc2 hb9 hq9.out ht9 (by first | exact (Below.refl _ _).alloc (Nat.le_refl _) _ | exact ((Below.refl _ _).alloc (Nat.le_refl _) _).drew) hown3 hgrow (hat.imp (fun q => q) (fun q => by simp; omega))
       clear hown3 hgrow HZ HF HO HS Hrf
       go_wp2
       go_roundw
       case rel => exact ⟨k + 1, by omega, by go_num, some ⟨gg, 0, none⟩, cc, some ⟨gg2, 0, none⟩, cc2, some ⟨eg, 0, none⟩, ec, extR T k t, by rw [Hch1.out], by rw [Hch1.out]; exact Y1⟩
       case measure => simp [intOf]; omega
  ·have hkn : k = n := by omega
   subst hkn
   have hN : mcN E k = k := by unfold mcN; rw [Hroom.out]; rfl
   obtain ⟨⟨y0, y1⟩, y2, y3⟩ := Hres.out _ H0.out.bel
   have b0 := H0.out.b0
   have b1 := H0.out.b1
   have hw := hww2.trans (H0.out.bel.mono hww2.size)
   have hl1 : w.heap.size + 1 < w2.heap.size := by have := hb2.size; omega
   have HP : Hid (McPost E k w (.returned (.tuple #[.agg #[.slice sa k scap, .slice ra8 k rc8], .bool true])) ((wr.setCell ⟨w.heap.size + 1, 0, none⟩ (.slice sa k scap)).setCell ⟨w.heap.size + 1, 1, none⟩ (.slice ra8 k rc8))) := by
    refine ⟨_, _, T, by rw [Hroom.out], ?_, (hw.setCell (by exact Nat.le_succ _) _).setCell (by exact Nat.le_succ _) _⟩
    unfold Hid
    rw [hN]
    exact ((H0.out.co.setB (by omega)).setB (by omega)).base_le (by omega)
   have k0 : ((wr.setCell ⟨w.heap.size + 1, 0, none⟩ (.slice sa k scap)).setCell ⟨w.heap.size + 1, 1, none⟩ (.slice ra8 k rc8)).cell? ⟨w.heap.size + 1, 0, none⟩ = some (.slice sa k scap) := by rw [set_far (by omega)]; exact set_same ⟨_, y0⟩
   have k1 : ((wr.setCell ⟨w.heap.size + 1, 0, none⟩ (.slice sa k scap)).setCell ⟨w.heap.size + 1, 1, none⟩ (.slice ra8 k rc8)).cell? ⟨w.heap.size + 1, 1, none⟩ = some (.slice ra8 k rc8) := set_same ⟨_, by rw [set_far (by omega)]; exact y1⟩
   clear H0 HLr
   go_wp2
   exact bodyPost_ret (v := .tuple #[.agg #[.slice sa k scap, .slice ra8 k rc8], .bool true]) (by simp [results, Tryz.results6, go_sem, k0, k1]) rfl HP.out
end Go.Proofs.YtpmebojkkjlkgaaGreat
