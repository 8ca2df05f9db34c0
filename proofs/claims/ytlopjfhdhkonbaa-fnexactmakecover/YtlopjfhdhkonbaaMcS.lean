/-
  spec.MakeCover.
-/
import Derived.Test.YtlopjfhdhkonbaaMcV
import Derived.Test.YtlopjfhdhkonbaaRmC
namespace Go.Proofs.Ytlopjfhdhkonbaa
open Go.RowKit

set_option maxRecDepth 100000 in
set_option maxHeartbeats 8000000 in
theorem mcS_any (b off n cap : Nat) {E : Nat → Ev} (w : World) (h : SlV w (some ⟨b, off, none⟩) n cap E) :
    Calls Try.prog 5 #[.agg #[.slice (some ⟨b, off, none⟩) n cap]] w (McPost E n w) := by
  obtain ⟨i0, hi, hz0, hz1, hz2⟩ := info_parts Try.infoSpot
  obtain ⟨j0, jh, jz0, jz1, jz2⟩ := info_parts Try.infoInts
  obtain ⟨n0, nh, nz0, nz1, nz2⟩ := info_parts Try.infoInt
  have hnn := Nat.le_trans h.le h.max
  unfold maxLen at hnn
  obtain ⟨wa, hwa⟩ : ∃ wa, wa = ((((w.alloc (.cells #[.slice (some ⟨b, off, none⟩) n cap] 34)).alloc (.cells #[.slice none 0 0, .slice none 0 0] 29)).alloc (.cells #[] 44)).alloc (.cells #[] 52)).alloc (.cells #[.slice (some ⟨w.heap.size + 1 + 1, 0, none⟩) 0 0, .slice (some ⟨w.heap.size + 1 + 1 + 1, 0, none⟩) 0 0] 29) := ⟨_, rfl⟩
  have hsa : wa.heap.size = w.heap.size + 5 := by rw [hwa]; simp
  have hba : Below w.heap.size w wa := by rw [hwa]; exact (((((Below.refl _ _).alloc (Nat.le_refl _) _).alloc (by simp) _).alloc (by simp; omega) _).alloc (by simp; omega) _).alloc (by simp; omega) _
  have HA : Hid (Sx w wa (some ⟨b, off, none⟩) n cap (.slice (some ⟨w.heap.size + 1 + 1, 0, none⟩) 0 0) 0 (.slice (some ⟨w.heap.size + 1 + 1 + 1, 0, none⟩) 0 0) 0 (mcF E n) (mcR E n) (mcX E n) (fun _ => ⟨none, 0, 0, 0⟩)) := by
    refine ⟨?_, ?_, ?_, ?_, ?_, ?_, ?_, ?_, ?_, ⟨?_, ⟨?_, fun _ hi => absurd hi (Nat.not_lt_zero _), fun _ hi => absurd hi (Nat.not_lt_zero _), fun _ _ _ hj => absurd hj (Nat.not_lt_zero _), fun _ _ _ hi => absurd hi (Nat.not_lt_zero _)⟩, fun _ _ _ hi => absurd hi (Nat.not_lt_zero _)⟩, fun g hg => ?_, fun g hg => ?_, fun _ hi => absurd hi (Nat.not_lt_zero _), hba, by omega⟩
    · rw [hwa, World.cell?_alloc_past _ _ _ (by first | (simp; done) | (simp; omega)), World.cell?_alloc_past _ _ _ (by first | (simp; done) | (simp; omega)), World.cell?_alloc_past _ _ _ (by first | (simp; done) | (simp; omega)), World.cell?_alloc_past _ _ _ (by simp)]; exact World.cell?_alloc_at _ _ _ _ rfl
    · rw [hwa, World.cell?_alloc_past _ _ _ (by first | (simp; done) | (simp; omega)), World.cell?_alloc_past _ _ _ (by first | (simp; done) | (simp; omega)), World.cell?_alloc_past _ _ _ (by simp)]; exact World.cell?_alloc_at _ _ _ _ (by simp)
    · rw [hwa, World.cell?_alloc_past _ _ _ (by first | (simp; done) | (simp; omega)), World.cell?_alloc_past _ _ _ (by first | (simp; done) | (simp; omega)), World.cell?_alloc_past _ _ _ (by simp)]; exact World.cell?_alloc_at _ _ _ _ (by simp)
    · rw [hwa, World.frozen?_alloc_past _ _ _ (by first | (simp; done) | (simp; omega)), World.frozen?_alloc_past _ _ _ (by first | (simp; done) | (simp; omega)), World.frozen?_alloc_past _ _ _ (by simp)]; exact World.frozen?_alloc_at _ _ _ _ (by simp)
    · rw [hwa, World.frozen?_alloc_past _ _ _ (by first | (simp; done) | (simp; omega)), World.frozen?_alloc_past _ _ _ (by first | (simp; done) | (simp; omega)), World.frozen?_alloc_past _ _ _ (by simp)]; exact World.frozen?_alloc_at _ _ _ _ (by simp)
    · rw [hwa]; exact World.cell?_alloc_at _ _ _ _ (by simp)
    · rw [hwa]; exact World.cell?_alloc_at _ _ _ _ (by simp)
    · rw [hwa]; exact World.frozen?_alloc_at _ _ _ _ (by simp)
    · rw [hwa]; exact World.frozen?_alloc_at _ _ _ _ (by simp)
    · have := OwnS.new ((w.alloc (.cells #[.slice (some ⟨b, off, none⟩) n cap] 34)).alloc (.cells #[.slice none 0 0, .slice none 0 0] 29)) (w.heap.size + 2) (by simp) (mcF E n)
      simp only [World.size_alloc] at this
      rw [hwa]
      exact ownsRow_blw (ownsRow_blw this ((Below.refl _ _).alloc (Nat.le_refl _) _)) ((Below.refl _ _).alloc (Nat.le_refl _) _)
    · have := (RowR.new (((w.alloc (.cells #[.slice (some ⟨b, off, none⟩) n cap] 34)).alloc (.cells #[.slice none 0 0, .slice none 0 0] 29)).alloc (.cells #[] 44)) (w.heap.size + 2) (by first | (simp; done) | (simp; omega)) (mcR E n) (mcX E n) (fun _ => ⟨none, 0, 0, 0⟩)).own
      simp only [World.size_alloc] at this
      rw [hwa]
      exact ownsRow_blw this ((Below.refl _ _).alloc (Nat.le_refl _) _)
    · have := ownInj hg; omega
    · have := ownInj hg; omega
  have r0 : (((((w.alloc (.cells #[.slice (some ⟨b, off, none⟩) n cap] 34)).alloc (.cells #[.slice none 0 0, .slice none 0 0] 29)).alloc (.cells #[] 44)).alloc (.cells #[] 52)).alloc (.cells #[.slice (some ⟨w.heap.size + 1 + 1, 0, none⟩) 0 0, .slice (some ⟨w.heap.size + 1 + 1 + 1, 0, none⟩) 0 0] 29)).cell? ⟨w.heap.size, 0, none⟩ = some (.slice (some ⟨b, off, none⟩) n cap) := by rw [← hwa]; exact HA.out.x0
  have Hsl : Hid (∀ W, Below w.heap.size w W → SlV W (some ⟨b, off, none⟩) n cap E) := fun W hW => h.below hW
  have Hids : Hid (∀ j, j < n → (E j).id.size ≤ maxLen) := fun j hj => by
    rcases h.cells with h0 | ⟨_, _, _, _, hc⟩
    · omega
    · obtain ⟨_, _, _, _, _, _, _, hok⟩ := hc j hj
      exact hok.hid
  have Hbc : Hid (∀ j, j < n → b < w.heap.size ∧ w.cell? ⟨b, off + j * 10, none⟩ = some (.string (E j).id)) := fun j hj => by
    rcases h.cells with h0 | ⟨b', off', e, hlt, hc⟩
    · omega
    · injection e with e; injection e with e1 e2 _
      subst e1 e2
      obtain ⟨_, _, _, _, _, _, hcs, _⟩ := hc j hj
      exact ⟨hlt, hcs.c0⟩
  go_enter Try.func5, Try.ntmps5
  go_wp2_with fail
  rw [← hwa]
  clear hwa r0
  refine (roomS_sl _ (h.below hba)).mono ?_
  rintro x w1 ⟨rfl, hb1⟩
  have H1 : Hid (_) := HA.out.below hb1
  clear HA h
  cases hroom : roomTo E n
  case false =>
    obtain ⟨q0, q1, q2, q3, q4⟩ : w1.cell? ⟨w.heap.size + 1, 0, none⟩ = some (.slice none 0 0) ∧ w1.cell? ⟨w.heap.size + 1, 1, none⟩ = some (.slice none 0 0) ∧ w1.frozen? ⟨w.heap.size + 1, 0, none⟩ = false ∧ w1.frozen? ⟨w.heap.size + 1, 1, none⟩ = false ∧ True := ⟨H1.out.a0, H1.out.a1, H1.out.y0, H1.out.y1, trivial⟩
    have Hn : Hid (McPost E n w (.returned (.tuple #[.agg #[.slice none 0 0, .slice none 0 0], .bool false])) ((w1.setCell ⟨w.heap.size + 1, 0, none⟩ (.slice none 0 0)).setCell ⟨w.heap.size + 1, 1, none⟩ (.slice none 0 0))) := McPost.none hroom ((H1.out.bel.setCell (by exact Nat.le_succ _) _).setCell (by exact Nat.le_succ _) _)
    have k0 : ((w1.setCell ⟨w.heap.size + 1, 0, none⟩ (.slice none 0 0)).setCell ⟨w.heap.size + 1, 1, none⟩ (.slice none 0 0)).cell? ⟨w.heap.size + 1, 0, none⟩ = some (.slice none 0 0) := by rw [set_far (by omega)]; exact set_same ⟨_, q0⟩
    have k1 : ((w1.setCell ⟨w.heap.size + 1, 0, none⟩ (.slice none 0 0)).setCell ⟨w.heap.size + 1, 1, none⟩ (.slice none 0 0)).cell? ⟨w.heap.size + 1, 1, none⟩ = some (.slice none 0 0) := set_same ⟨_, by rw [set_far (by omega)]; exact q1⟩
    clear H1 q4
    go_wp2
    exact bodyPost_ret (v := .tuple #[.agg #[.slice none 0 0, .slice none 0 0], .bool false]) (by simp [results, Try.results5, go_sem, k0, k1]) rfl Hn.out
  have h300 := room_300 hroom
  have Hroom : Hid (roomTo E n = true) := hroom
  have Hrs : Hid (∀ k, k < n → ∀ j, j < naE E k → rsE E n k j < k) := rsE_lt hroom
  clear hroom hba hb1
  go_wp2_with fail
  go_loopw [5, 6] (fun cv iv wr => ∃ k : Nat, k ≤ n ∧ iv = .int .i64 (k : Int) ∧ cv = .int .i64 ((chN (naE E) (rsE E n) k : Nat) : Int) ∧ ∃ sa scap ra8 rc8 T, Hid (Sx w wr (some ⟨b, off, none⟩) n cap (.slice sa k scap) k (.slice ra8 k rc8) k (mcF E n) (mcR E n) (mcX E n) T)) (fun _ iv _ => n - (intOf iv).toNat)
  case atStart => exact ⟨0, Nat.zero_le _, rfl, rfl, _, _, _, _, _, H1⟩
  case round =>
    clear H1
    obtain ⟨k, hk, rfl, rfl, sa, scap, ra8, rc8, T, H0⟩ := hrel
    have x00 := H0.out.x0
    have b00 := H0.out.b0
    by_cases hlt : k < n
    · obtain ⟨hb, Hid0'⟩ := Hbc.out k hlt
      have Hid0 : Hid (w.cell? ⟨b, off + k * 10, none⟩ = some (.string (E k).id)) := Hid0'
      have Hsz : Hid ((E k).id.size ≤ maxLen) := Hids.out k hlt
      obtain ⟨spk, hspk⟩ : ∃ spk, spk = mcF E n k := ⟨_, rfl⟩
      have Hspk : Hid (mcF E n k = spk) := hspk.symm
      have Hsp : Hid ((nxtTo (mcF E n) k (rsE E n k) (naE E k)).getD ⟨chN (naE E) (rsE E n) k, 1⟩ = spk) := by
        unfold Hid
        rw [hspk]
        exact (sp_eq (naE E) (rsE E n) (Hrs.out k hlt)).symm
      have Hsc2 : Hid (chN (naE E) (rsE E n) (k + 1) = if spk.c = chN (naE E) (rsE E n) k then chN (naE E) (rsE E n) k + 1 else chN (naE E) (rsE E n) k) := by rw [hspk]; exact chN_succ (naE E) (rsE E n) k
      have hchk := chN_le Hrs.out k
      have Hcall : Hid (Calls Try.prog 15 #[.agg #[.slice (some ⟨b, off, none⟩) n cap], .slice sa k scap, .int .i64 ((chN (naE E) (rsE E n) k : Nat) : Int), .int .i64 (k : Int)] wr fun x w' => x = .returned (.agg #[.int .i64 ((spk.c : Nat) : Int), .int .i64 ((spk.q : Nat) : Int)]) ∧ Below wr.heap.size wr w') := by
        obtain ⟨a1, c1, e1, q1⟩ := H0.out.co.sls
        injection e1 with e11 _ e13
        rw [← e11, ← e13] at q1
        have := spotS_any b off n cap k (chN (naE E) (rsE E n) k) (f := mcF E n) wr Hroom.out hlt (Hsl.out wr H0.out.bel) q1 (fun p hp => by have := sp_q_le Hrs.out p (by omega); show (sp (naE E) (rsE E n) p).q < _; omega)
        rw [Hsp.out] at this
        exact this
      have hm1 : k + 1 ≤ maxLen := by unfold maxLen; omega
      have hm2 : (k + 1) * 16 ≤ 140737488355328 := by omega
      have hm3 : (k + 1) * 24 ≤ 140737488355328 := by omega
      clear hspk Hsp Hid0'
      go_wp2_with fail
      refine Hcall.out.mono ?_
      rintro x w4 ⟨rfl, hb4⟩
      have H4 : Hid (_) := H0.out.below hb4
      have hbA : Below w4.heap.size w4 (w4.alloc (.cells #[.int .i64 ((spk.c : Nat) : Int), .int .i64 ((spk.q : Nat) : Int)] 44)) := (Below.refl _ _).alloc (Nat.le_refl _) _
      have H5 : Hid (Sx w (w4.alloc (.cells #[.int .i64 ((spk.c : Nat) : Int), .int .i64 ((spk.q : Nat) : Int)] 44)) (some ⟨b, off, none⟩) n cap (.slice sa k scap) k (.slice ra8 k rc8) k (mcF E n) (mcR E n) (mcX E n) T) := H4.out.below hbA
      have town : (w4.alloc (.cells #[.int .i64 ((spk.c : Nat) : Int), .int .i64 ((spk.q : Nat) : Int)] 44)).ownsRow (w.heap.size + 2) 44 2 (.slice sa k scap) k (encS (mcF E n) k) := H5.out.co.s
      have tb0 := H5.out.b0
      have tgc : ∀ (j : Nat) (u : Value), (spV spk)[j]? = some u → ((w4.alloc (.cells #[.int .i64 ((spk.c : Nat) : Int), .int .i64 ((spk.q : Nat) : Int)] 44)).alloc (.cells #[.int .i64 ((spk.c : Nat) : Int), .int .i64 ((spk.q : Nat) : Int)] 44)).cell? ((⟨w4.heap.size + 1, 0, none⟩ : Addr).add j) = some u := fun j u hj => by
        have := spV_cells (w4.alloc (.cells #[.int .i64 ((spk.c : Nat) : Int), .int .i64 ((spk.q : Nat) : Int)] 44)) spk 44 j u hj
        rw [World.size_alloc] at this
        exact this
      have tm0 : w.heap.size + 2 ≤ ((w4.alloc (.cells #[.int .i64 ((spk.c : Nat) : Int), .int .i64 ((spk.q : Nat) : Int)] 44)).alloc (.cells #[.int .i64 ((spk.c : Nat) : Int), .int .i64 ((spk.q : Nat) : Int)] 44)).heap.size := by have := H4.out.sz; simp; omega
      have tW8 : Hid (∀ (wx : World) (gg cc : Nat), wx.ownsRow (w.heap.size + 2) 44 2 (.slice (some ⟨gg, 0, none⟩) (k + 1) cc) (k + 1) (encS (mcF E n) k ++ spV spk) → ((w4.alloc (.cells #[.int .i64 ((spk.c : Nat) : Int), .int .i64 ((spk.q : Nat) : Int)] 44)).alloc (.cells #[.int .i64 ((spk.c : Nat) : Int), .int .i64 ((spk.q : Nat) : Int)] 44)).grownBy wx (Value.slice sa k scap).ownBlock → ((Value.slice sa k scap).ownBlock = some gg ∨ gg = w4.heap.size + 1 + 1) → wx.cell? ⟨w.heap.size + 4, 0, none⟩ = some (.slice sa k scap) ∧ wx.frozen? ⟨w.heap.size + 4, 0, none⟩ = false ∧ Sx w (wx.setCell ⟨w.heap.size + 4, 0, none⟩ (.slice (some ⟨gg, 0, none⟩) (k + 1) cc)) (some ⟨b, off, none⟩) n cap (.slice (some ⟨gg, 0, none⟩) (k + 1) cc) (k + 1) (.slice ra8 k rc8) k (mcF E n) (mcR E n) (mcX E n) T) := fun wx gg cc hown hgr hgg => H5.out.pushS ((Below.refl _ _).alloc (Nat.le_refl _) _) (by rw [Hspk.out]; exact hown) hgr (hgg.imp id fun e => by rw [e]; simp)
      have hlt4 : w.heap.size + 4 < w4.heap.size := H4.out.sz
      have hne4 : w.heap.size + 4 ≠ w4.heap.size := by omega
      clear H0 H4 H5 hb4 b00 x00 Hcall hbA
      by_cases hc : spk.c = chN (naE E) (rsE E n) k
      · have hd3 : (((spk.c : Nat) : Int) == ((chN (naE E) (rsE E n) k : Nat) : Int)) = true := by rw [hc]; simp
        have Hch1 : Hid (chN (naE E) (rsE E n) (k + 1) = chN (naE E) (rsE E n) k + 1) := by unfold Hid; rw [Hsc2.out, if_pos hc]
        clear hc Hsc2
        go_wp2_with (at_builtin; refine wpList_append_lies _ rfl _ _ 26 rfl (w.heap.size + 2) 44 i0 (.agg #[.int .i64 0, .int .i64 0]) 2 16 Try.underlying26 hi hz0 hz1 hz2 rfl (by decide) _ _ _ rfl (World.ownsRow.alloc town _) ⟨w4.heap.size + 1, 0, none⟩ 1 1 (spV spk) rfl rfl tgc (spV_one _) (by decide) hm1 hm2 tm0 (w4.heap.size + 1 + 1) (by simp) ?_; intro gg cc wx hownx hgrowx hatx hltx; obtain ⟨f80, f81, hH8⟩ := tW8.out wx gg cc hownx hgrowx hatx; have H8 : Hid (_) := hH8; clear hH8 hownx hgrowx hatx)
        obtain ⟨chv, hchv⟩ : ∃ chv, chv = chN (naE E) (rsE E n) k + 1 := ⟨_, rfl⟩
        rw [show ((chN (naE E) (rsE E n) k : Nat) : Int) + 1 = ((chv : Nat) : Int) by omega]
        have Hch1 : Hid (chN (naE E) (rsE E n) (k + 1) = chv) := by unfold Hid; rw [Hch1.out, hchv]
        have hchv2 : chv ≤ k + 1 := by omega
        clear hchv
        obtain ⟨w8, hw8⟩ : ∃ w8, w8 = wx.setCell ⟨w.heap.size + 4, 0, none⟩ (.slice (some ⟨gg, 0, none⟩) (k + 1) cc) := ⟨_, rfl⟩
        rw [← hw8] at H8 ⊢
        clear hw8 f80 f81
        have hrf8 : Below w8.heap.size w8 w8 := Below.refl _ _
        have hbw8 := H8.out.bel
        have HS12 : Hid (∀ W, Below w8.heap.size w8 W → W.cell? ⟨w.heap.size, 0, none⟩ = some (.slice (some ⟨b, off, none⟩) n cap) ∧ W.cell? ⟨b, off + k * 10, none⟩ = some (.string (E k).id)) := fun W hW => ⟨(H8.out.below hW).x0, ((hbw8.trans (hW.mono hbw8.size)).cell (by exact hb)).trans Hid0.out⟩
        have Hfu : Hid (∀ W, Below w8.heap.size w8 W → W.cell? ⟨w8.heap.size, 0, none⟩ = some (.string (E k).id) → w8.heap.size < W.heap.size → Calls Try.prog 16 #[.agg #[.slice (some ⟨b, off, none⟩) n cap], .slice (some ⟨w8.heap.size, 0, none⟩) 1 1] W fun x w' => ∃ fa fc l, x = .returned (.slice fa l.length fc) ∧ Hid (SlS w' fa l.length fc (getL l) ∧ l.length ≤ 1000 ∧ ∀ s, s ∈ l ↔ s = (E k).id ∨ Chn E n (fun _ => (E k).id) 1 s) ∧ Below w8.heap.size w8 w') := fun W hW h1 h2 => by
          have hwW := hbw8.trans (hW.mono hbw8.size)
          refine (fullS_any w8.heap.size 0 1 k W Hroom.out hlt (Hsl.out W hwW) h2 h1 ⟨Nat.le_refl _, by decide⟩ Hsz.out).mono ?_
          rintro x w' ⟨v, l, rfl, ho, hs, hm, hb'⟩
          have hin : ∀ s, s ∈ l → ∃ j, j < n ∧ (E j).id = s := fun s hs' => by
            rcases (hm s).1 hs' with e | e
            · exact ⟨k, hlt, e.symm⟩
            · exact chn_id Hroom.out e
          have hln := ids_len Hroom.out (hs.imp fun hab e => by subst e; exact absurd hab (List.lt_irrefl _)) hin
          obtain ⟨fa, fc, rfl, hsl, _⟩ := ho.sl (fun s hs' => by obtain ⟨j, hj, rfl⟩ := hin s hs'; exact Hids.out j hj)
          exact ⟨fa, fc, l, rfl, ⟨hsl, by omega, hm⟩, hW.trans (hb'.mono hW.size)⟩
        go_cut [8] from 20 to 91 (fun v wx => ∃ fa fc l, v = .slice fa l.length fc ∧ Hid (SlS wx fa l.length fc (getL l) ∧ l.length ≤ 1000 ∧ ∀ s, s ∈ l ↔ s = (E k).id ∨ Chn E n (fun _ => (E k).id) 1 s) ∧ Below w8.heap.size w8 wx)
        case first =>
          refine wp_region_held_drew (S := fun W => W.cell? ⟨w.heap.size, 0, none⟩ = some (.slice (some ⟨b, off, none⟩) n cap) ∧ W.cell? ⟨b, off + k * 10, none⟩ = some (.string (E k).id)) (by kernel_rfl) ?_ (fun hHeld => ?_)
          · (try dsimp only); exact HS12.out _ (by first | with_reducible exact hrf8 | with_reducible exact hrf8.drew | with_reducible exact hrf8.drew.drew | with_reducible exact hrf8.drew.drew.drew)
          refine wpAnyH_take (i := 0) (v := ?vm1) rfl (by kernel_rfl) (by kernel_rfl) (by kernel_rfl) (fun _ _ _ h => h) (Or.inl ⟨by rfl, ?hm1⟩) (by assumption) ?_
          case hm1 => (intro w hSw; (try dsimp only at hSw); go_simp; try (with_reducible rfl))
          simp only [Act.put, List.getElem_toArray, List.getElem_cons_zero, List.setIfInBounds_toArray, List.set_cons_zero, List.set_cons_succ]
          refine wpAnyH_take (i := 1) (v := ?vm2) rfl (by kernel_rfl) (by kernel_rfl) (by kernel_rfl) (fun _ _ _ h => h) (Or.inl ⟨by rfl, ?hm2⟩) (by assumption) ?_
          case hm2 => (intro w hSw; (try dsimp only at hSw); go_simp; try (with_reducible rfl))
          simp only [Act.put, List.getElem_toArray, List.getElem_cons_zero, List.getElem_cons_succ, List.setIfInBounds_toArray, List.set_cons_zero, List.set_cons_succ]
          refine wpAnyH_take (i := 2) (v := ?vm3) rfl (by kernel_rfl) (by kernel_rfl) (by kernel_rfl) (fun _ _ _ h => h) (Or.inl ⟨by rfl, ?hm3⟩) (by assumption) ?_
          case hm3 => (intro w hSw; (try dsimp only at hSw); go_simp; try (with_reducible rfl))
          simp only [Act.put, List.getElem_toArray, List.getElem_cons_zero, List.getElem_cons_succ, List.setIfInBounds_toArray, List.set_cons_zero, List.set_cons_succ]
          refine wpAnyH_take (i := 3) (v := ?vm4) rfl (by kernel_rfl) (by kernel_rfl) (by kernel_rfl) (fun _ _ _ h => h) (Or.inl ⟨by rfl, ?hm4⟩) (by assumption) ?_
          case hm4 => (intro w hSw; (try dsimp only at hSw); go_simp; try (with_reducible rfl))
          simp only [Act.put, List.getElem_toArray, List.getElem_cons_zero, List.getElem_cons_succ, List.setIfInBounds_toArray, List.set_cons_zero, List.set_cons_succ]
          refine wpAnyH_take (i := 4) (v := ?vm5) rfl (by kernel_rfl) (by kernel_rfl) (by kernel_rfl) (fun _ _ _ h => h) (Or.inl ⟨by rfl, ?hm5⟩) (by assumption) ?_
          case hm5 => (intro w hSw; (try dsimp only at hSw); go_simp; try (with_reducible rfl))
          simp only [Act.put, List.getElem_toArray, List.getElem_cons_zero, List.getElem_cons_succ, List.setIfInBounds_toArray, List.set_cons_zero, List.set_cons_succ]
          refine wpAnyH_take (i := 5) (v := ?vm6) rfl (by kernel_rfl) (by kernel_rfl) (by kernel_rfl) (fun _ _ _ h => h) (Or.inl ⟨by rfl, ?hm6⟩) (by assumption) ?_
          case hm6 => (intro w hSw; (try dsimp only at hSw); go_simp; try (with_reducible rfl))
          simp only [Act.put, List.getElem_toArray, List.getElem_cons_zero, List.getElem_cons_succ, List.setIfInBounds_toArray, List.set_cons_zero, List.set_cons_succ]
          refine wpAnyH_take (i := 6) (v := ?vm7) rfl (by kernel_rfl) (by kernel_rfl) (by kernel_rfl) (fun _ _ _ h => h) (Or.inl ⟨by rfl, ?hm7⟩) (by assumption) ?_
          case hm7 => (intro w hSw; (try dsimp only at hSw); go_simp; try (with_reducible rfl))
          simp only [Act.put, List.getElem_toArray, List.getElem_cons_zero, List.getElem_cons_succ, List.setIfInBounds_toArray, List.set_cons_zero, List.set_cons_succ]
          refine wpAnyH_ready (rs := [7]) (by kernel_rfl) (by simp) ?_
          refine AllReadyH.cons rfl (fun K hK => ?_) AllReadyH.nil
          go_simp
          refine hK.out _ _ ?_ (fun hHeld => ?_)
          · (try dsimp only); exact HS12.out _ (by first | exact hrf8.alloc hrf8.size _ | exact (hrf8.drew.alloc hrf8.size _) | exact (hrf8.alloc hrf8.size _).drew)
          clear hK K
          try simp only [Act.put, List.getElem_toArray, List.getElem_cons_zero, List.getElem_cons_succ, List.setIfInBounds_toArray, List.set_cons_zero, List.set_cons_succ]
          refine wpAnyH_ready (rs := [8]) (by kernel_rfl) (by simp) ?_
          refine AllReadyH.cons rfl (fun K hK => ?_) AllReadyH.nil
          go_simp
          go_at_call 16
          refine (Hfu.out _ (by first | exact hrf8.alloc hrf8.size _ | exact (hrf8.drew.alloc hrf8.size _) | exact (hrf8.alloc hrf8.size _).drew) (by first | exact World.cell?_alloc_at _ _ _ _ rfl | exact (((Below.refl _ _).drew).cell (by simp)).trans (World.cell?_alloc_at _ _ _ _ rfl)) (by simp)).mono ?_
          rintro x w9 ⟨fa, fc, l, rfl, hl9, hb9⟩
          try dsimp only
          refine hK.out _ _ ?_ (fun hHeld => ?_)
          · (try dsimp only); exact HS12.out _ (by first | with_reducible exact hb9 | with_reducible exact hb9.drew | with_reducible exact hb9.drew.drew | with_reducible exact hb9.drew.drew.drew)
          clear hK K
          try simp only [Act.put, List.getElem_toArray, List.getElem_cons_zero, List.getElem_cons_succ, List.setIfInBounds_toArray, List.set_cons_zero, List.set_cons_succ]
          refine wpAnyH_take (i := 9) (v := ?vm8) rfl (by kernel_rfl) (by kernel_rfl) (by kernel_rfl) (fun _ _ _ h => h) (Or.inl ⟨by rfl, ?hm8⟩) (by assumption) ?_
          case hm8 => (intro w hSw; (try dsimp only at hSw); go_simp; try (with_reducible rfl))
          simp only [Act.put, List.getElem_toArray, List.getElem_cons_zero, List.getElem_cons_succ, List.setIfInBounds_toArray, List.set_cons_zero, List.set_cons_succ]
          refine wpAnyH_done (by kernel_rfl) ?_ _
          (try go_wp2_with fail)
          go_meet
          exact ⟨fa, fc, l, rfl, hl9, by first | exact hb9 | exact hb9.drew⟩
        case rest =>
          obtain ⟨fa, fc, l, rfl, hl9, hb9⟩ := hcut
          obtain ⟨w9, hw9⟩ : ∃ W : World, W = wc := ⟨_, rfl⟩
          subst hw9
          have H9 : Hid (Sx w w9 (some ⟨b, off, none⟩) n cap (.slice (some ⟨gg, 0, none⟩) (k + 1) cc) (k + 1) (.slice ra8 k rc8) k (mcF E n) (mcR E n) (mcX E n) T) := H8.out.below hb9
          clear H8 hb9 HS12 Hfu hrf8 hbw8
          have HPos : Hid (∀ i, i < l.length → ∃ p, posV E n (getL l i) = ((p : Nat) : Int) ∧ RR (naE E) (rsE E n) k p ∧ p ≤ k) := fun i hi => by
            rcases (hl9.out.2.2 _).1 (getL_mem hi) with e | e
            · exact ⟨k, by rw [e]; exact posV_here Hroom.out hlt, RR.refl, Nat.le_refl _⟩
            · obtain ⟨p, hp, e2⟩ := chn_id Hroom.out e
              have hr := chn_rr Hroom.out hlt e p hp e2
              exact ⟨p, by rw [← e2]; exact posV_here Hroom.out hp, hr, RR.le Hrs.out hlt hr⟩
          obtain ⟨u, hu⟩ : ∃ u : Nat → Sp, u = fun i => mcF E n (posV E n (getL l i)).toNat := ⟨_, rfl⟩
          have Hu : Hid (∀ i p, posV E n (getL l i) = ((p : Nat) : Int) → u i = mcF E n p) := fun i p e => by rw [hu]; show mcF E n (posV E n (getL l i)).toNat = _; rw [e]; rfl
          have HG : Hid (∀ c, gstTo u c l.length = rc (naE E) (rsE E n) k c) := fun c => by
            refine gst_rc Hrs.out hlt (fun i hi => ?_) (fun p hp => ?_)
            · obtain ⟨p, e, hr, _⟩ := HPos.out i hi
              exact ⟨p, hr, Hu.out i p e⟩
            · have hin : (E p).id ∈ l := by
                rcases rr_chn Hroom.out hlt hp with e | e
                · rw [e]; exact (hl9.out.2.2 _).2 (Or.inl rfl)
                · exact (hl9.out.2.2 _).2 (Or.inr e)
              obtain ⟨i, hi, e⟩ := mem_getL hin
              exact ⟨i, hi, Hu.out i p (by rw [e]; exact posV_here Hroom.out (by have := RR.le Hrs.out hlt hp; omega))⟩
          have hl1000 := hl9.out.2.1
          have HU0 : Hid (OwnS (w9.alloc (.cells #[] 44)) w9.heap.size (.slice (some ⟨w9.heap.size, 0, none⟩) 0 0) 0 u) := OwnS.new w9 _ (Nat.le_refl _) u
          have hB0 : Below w9.heap.size w9 (w9.alloc (.cells #[] 44)) := (Below.refl _ _).alloc (Nat.le_refl _) _
          clear hu
          go_wp2_with fail
          go_loopw [9, 10] (fun uv iv wr => ∃ j : Nat, j ≤ l.length ∧ iv = .int .i64 (j : Int) ∧ ∃ ua uc, uv = .slice ua j uc ∧ Hid (OwnS wr w9.heap.size (.slice ua j uc) j u) ∧ Below w9.heap.size w9 wr) (fun _ iv _ => l.length - (intOf iv).toNat)
          case atStart => exact ⟨0, Nat.zero_le _, rfl, _, _, rfl, HU0, hB0⟩
          case round =>
            clear HU0 hB0
            obtain ⟨j, hj, rfl, ua, uc, rfl, hU, hbo⟩ := hrel
            obtain ⟨wo, rfl⟩ : ∃ wo : World, wo = wr := ⟨_, rfl⟩
            have hzo : w9.heap.size ≤ wo.heap.size := hbo.size
            by_cases hlj : j < l.length
            · obtain ⟨p, hp, -, hpk⟩ := HPos.out j hlj
              have Huj := Hu.out j p hp
              obtain ⟨fb, fo, hfa, hfb, hfc⟩ : ∃ fb fo, fa = some ⟨fb, fo, none⟩ ∧ fb < w9.heap.size ∧ w9.cell? ⟨fb, fo + j, none⟩ = some (.string (getL l j)) := by
                rcases hl9.out.1.cells with h0 | ⟨fb, fo, e, hb', hc'⟩
                · omega
                · exact ⟨fb, fo, e, hb', hc' j hlj⟩
              subst hfa
              obtain ⟨uj, huj⟩ : ∃ uj, uj = u j := ⟨_, rfl⟩
              have HUJ : Hid (uj = u j) := huj
              obtain ⟨hgl, hg0, hg1⟩ : gg < w9.heap.size ∧ w9.cell? ⟨gg, p * 2, none⟩ = some (.int .i64 ((uj.c : Nat) : Int)) ∧ w9.cell? ⟨gg, p * 2 + 1, none⟩ = some (.int .i64 ((uj.q : Nat) : Int)) := by
                obtain ⟨a', c', e, q⟩ := H9.out.co.s.sl
                injection e with e1 _ e3
                rw [← e1] at q
                rcases q.cells with h0 | ⟨g', o', e', hl', c1, c2⟩
                · omega
                · injection e' with e'; injection e' with e1' e2' _
                  subst e1' e2'
                  have q1 := c1 p (by omega)
                  have q2 := c2 p (by omega)
                  rw [Nat.zero_add] at q1 q2
                  rw [huj, Huj]
                  exact ⟨hl', q1, q2⟩
              have HS17 : Hid (∀ W, Below w9.heap.size w9 W → (W.cell? ⟨w.heap.size, 0, none⟩ = some (.slice (some ⟨b, off, none⟩) n cap) ∧ W.cell? ⟨w.heap.size + 4, 0, none⟩ = some (.slice (some ⟨gg, 0, none⟩) (k + 1) cc)) ∧ W.cell? ⟨fb, fo + j, none⟩ = some (.string (getL l j)) ∧ W.cell? ⟨gg, p * 2, none⟩ = some (.int .i64 ((uj.c : Nat) : Int)) ∧ W.cell? ⟨gg, p * 2 + 1, none⟩ = some (.int .i64 ((uj.q : Nat) : Int))) := fun W hW => ⟨⟨(H9.out.below hW).x0, (H9.out.below hW).b0⟩, (hW.cell (by exact hfb)).trans hfc, (hW.cell (by exact hgl)).trans hg0, (hW.cell (by exact hgl)).trans hg1⟩
              have Hat : Hid (∀ W, Below wo.heap.size wo W → Calls Try.prog 17 #[.agg #[.slice (some ⟨b, off, none⟩) n cap], .string (getL l j)] W fun x w' => x = .returned (.int .i64 ((p : Nat) : Int)) ∧ Below wo.heap.size wo w') := fun W hW => by
                have hwo := H9.out.bel.trans (hbo.mono H9.out.bel.size)
                refine (l2At_sl _ W (Hsl.out W (hwo.trans (hW.mono hwo.size)))).mono ?_
                rintro x w' ⟨rfl, rfl⟩
                rw [hp]
                exact ⟨rfl, hW.alloc hW.size _⟩
              have HO : Hid (∀ Y, Below wo.heap.size wo Y → Y.ownsRow w9.heap.size 44 2 (.slice ua j uc) j (encS u j)) := fun Y hY => ownsRow_blw hU.out hY
              have HGr : Hid (∀ Y wy, Below w9.heap.size w9 Y → Y.grownBy wy (Value.slice ua j uc).ownBlock → Below w9.heap.size w9 wy) := fun Y wy hY hgr => hY.grown hgr (by have := hY.size; omega) (fun q hq => (rowGt hU.out q hq).1)
              have hrfo : Below wo.heap.size wo wo := Below.refl _ _
              have hj1 : j + 1 ≤ maxLen := by unfold maxLen; omega
              have hj2 : (j + 1) * 16 ≤ 140737488355328 := by omega
              have hji : (j : Int) < (l.length : Int) := by omega
              have hj0 : (0 : Int) ≤ (j : Int) := by omega
              have hpi : (0 : Int) ≤ ((p : Nat) : Int) := by omega
              have hpi2 : ((p : Nat) : Int) < (k : Int) + 1 := by omega
              have hpi3 : p < k + 1 := by omega
              clear huj Huj hfc hg0 hg1 hp hU
              go_wp2_with fail
              refine wp_region_held_drew (S := fun W => (W.cell? ⟨w.heap.size, 0, none⟩ = some (.slice (some ⟨b, off, none⟩) n cap) ∧ W.cell? ⟨w.heap.size + 4, 0, none⟩ = some (.slice (some ⟨gg, 0, none⟩) (k + 1) cc)) ∧ W.cell? ⟨fb, fo + j, none⟩ = some (.string (getL l j)) ∧ W.cell? ⟨gg, p * 2, none⟩ = some (.int .i64 ((uj.c : Nat) : Int)) ∧ W.cell? ⟨gg, p * 2 + 1, none⟩ = some (.int .i64 ((uj.q : Nat) : Int))) (by kernel_rfl) ?_ (fun hHeld => ?_)
              · (try dsimp only); exact HS17.out _ (by first | exact hbo | exact hbo.drew | exact hbo.drew.drew)
              refine wpAnyH_take (i := 0) (v := ?vm9) rfl (by kernel_rfl) (by kernel_rfl) (by kernel_rfl) (fun _ _ _ h => h) (Or.inl ⟨by rfl, ?hm9⟩) (by assumption) ?_
              case hm9 => (intro w hSw; (try dsimp only at hSw); go_simp; try (with_reducible rfl))
              simp only [Act.put, List.getElem_toArray, List.getElem_cons_zero, List.setIfInBounds_toArray, List.set_cons_zero, List.set_cons_succ]
              refine wpAnyH_take (i := 1) (v := ?vm10) rfl (by kernel_rfl) (by kernel_rfl) (by kernel_rfl) (fun _ _ _ h => h) (Or.inl ⟨by rfl, ?hm10⟩) (by assumption) ?_
              case hm10 => (intro w hSw; (try dsimp only at hSw); go_simp; try (with_reducible rfl))
              simp only [Act.put, List.getElem_toArray, List.getElem_cons_zero, List.getElem_cons_succ, List.setIfInBounds_toArray, List.set_cons_zero, List.set_cons_succ]
              refine wpAnyH_take (i := 2) (v := ?vm11) rfl (by kernel_rfl) (by kernel_rfl) (by kernel_rfl) (fun _ _ _ h => h) (Or.inl ⟨by rfl, ?hm11⟩) (by assumption) ?_
              case hm11 => (intro w hSw; (try dsimp only at hSw); go_simp; try (with_reducible rfl))
              simp only [Act.put, List.getElem_toArray, List.getElem_cons_zero, List.getElem_cons_succ, List.setIfInBounds_toArray, List.set_cons_zero, List.set_cons_succ]
              refine wpAnyH_take (i := 3) (v := ?vm12) rfl (by kernel_rfl) (by kernel_rfl) (by kernel_rfl) (fun _ _ _ h => h) (Or.inl ⟨by rfl, ?hm12⟩) (by assumption) ?_
              case hm12 => (intro w hSw; (try dsimp only at hSw); go_simp; try (with_reducible rfl))
              simp only [Act.put, List.getElem_toArray, List.getElem_cons_zero, List.getElem_cons_succ, List.setIfInBounds_toArray, List.set_cons_zero, List.set_cons_succ]
              refine wpAnyH_take (i := 4) (v := ?vm13) rfl (by kernel_rfl) (by kernel_rfl) (by kernel_rfl) (fun _ _ _ h => h) (Or.inl ⟨by rfl, ?hm13⟩) (by assumption) ?_
              case hm13 => (intro w hSw; (try dsimp only at hSw); go_simp; try (with_reducible rfl))
              simp only [Act.put, List.getElem_toArray, List.getElem_cons_zero, List.getElem_cons_succ, List.setIfInBounds_toArray, List.set_cons_zero, List.set_cons_succ]
              refine wpAnyH_take (i := 5) (v := ?vm14) rfl (by kernel_rfl) (by kernel_rfl) (by kernel_rfl) (fun _ _ _ h => h) (Or.inl ⟨by rfl, ?hm14⟩) (by assumption) ?_
              case hm14 => (intro w hSw; (try dsimp only at hSw); go_simp; try (with_reducible rfl))
              simp only [Act.put, List.getElem_toArray, List.getElem_cons_zero, List.getElem_cons_succ, List.setIfInBounds_toArray, List.set_cons_zero, List.set_cons_succ]
              refine wpAnyH_take (i := 6) (v := ?vm15) rfl (by kernel_rfl) (by kernel_rfl) (by kernel_rfl) (fun _ _ _ h => h) (Or.inl ⟨by rfl, ?hm15⟩) (by assumption) ?_
              case hm15 => (intro w hSw; (try dsimp only at hSw); go_simp; try (with_reducible rfl))
              simp only [Act.put, List.getElem_toArray, List.getElem_cons_zero, List.getElem_cons_succ, List.setIfInBounds_toArray, List.set_cons_zero, List.set_cons_succ]
              refine wpAnyH_take (i := 7) (v := ?vm16) rfl (by kernel_rfl) (by kernel_rfl) (by kernel_rfl) (fun _ _ _ h => h) (Or.inl ⟨by rfl, ?hm16⟩) (by assumption) ?_
              case hm16 => (intro w hSw; (try dsimp only at hSw); go_simp; try (with_reducible rfl))
              simp only [Act.put, List.getElem_toArray, List.getElem_cons_zero, List.getElem_cons_succ, List.setIfInBounds_toArray, List.set_cons_zero, List.set_cons_succ]
              refine wpAnyH_ready (rs := [8]) (by kernel_rfl) (by simp) ?_
              refine AllReadyH.cons rfl (fun K hK => ?_) AllReadyH.nil
              go_simp
              go_at_call 17
              refine (Hat.out _ (by first | with_reducible exact hrfo | with_reducible exact hrfo.drew | with_reducible exact hrfo.drew.drew | with_reducible exact hrfo.drew.drew.drew)).mono ?_
              rintro x w1 ⟨rfl, h01⟩
              have hb1 := hbo.trans (h01.mono hzo)
              have hz1b : w9.heap.size ≤ w1.heap.size := hb1.size
              try dsimp only
              refine hK.out _ _ ?_ (fun hHeld => ?_)
              · (try dsimp only); exact HS17.out _ (by first | exact hb1 | exact hb1.drew)
              clear hK K
              try simp only [Act.put, List.getElem_toArray, List.getElem_cons_zero, List.getElem_cons_succ, List.setIfInBounds_toArray, List.set_cons_zero, List.set_cons_succ]
              refine wpAnyH_take (i := 9) (v := ?vm17) rfl (by kernel_rfl) (by kernel_rfl) (by kernel_rfl) (fun _ _ _ h => h) (Or.inl ⟨by rfl, ?hm17⟩) (by assumption) ?_
              case hm17 => (intro w hSw; (try dsimp only at hSw); go_simp; try (with_reducible rfl))
              simp only [Act.put, List.getElem_toArray, List.getElem_cons_zero, List.getElem_cons_succ, List.setIfInBounds_toArray, List.set_cons_zero, List.set_cons_succ]
              refine wpAnyH_take (i := 10) (v := ?vm18) rfl (by kernel_rfl) (by kernel_rfl) (by kernel_rfl) (fun _ _ _ h => h) (Or.inl ⟨by rfl, ?hm18⟩) (by assumption) ?_
              case hm18 => (intro w hSw; (try dsimp only at hSw); go_simp; try (with_reducible rfl))
              simp only [Act.put, List.getElem_toArray, List.getElem_cons_zero, List.getElem_cons_succ, List.setIfInBounds_toArray, List.set_cons_zero, List.set_cons_succ]
              refine wpAnyH_ready (rs := [11]) (by kernel_rfl) (by simp) ?_
              refine AllReadyH.cons rfl (fun K hK => ?_) AllReadyH.nil
              go_simp
              refine hK.out _ _ ?_ (fun hHeld => ?_)
              · (try dsimp only); exact HS17.out _ (by first | exact hb1.alloc hz1b _ | exact (hb1.alloc hz1b _).drew | exact (hb1.drew.alloc hz1b _))
              clear hK K
              try simp only [Act.put, List.getElem_toArray, List.getElem_cons_zero, List.getElem_cons_succ, List.setIfInBounds_toArray, List.set_cons_zero, List.set_cons_succ]
              refine wpAnyH_ready (rs := [12]) (by kernel_rfl) (by simp) ?_
              refine AllReadyH.cons rfl (fun K hK => ?_) AllReadyH.nil
              refine step_append_lies _ (by rfl) _ _ _ (by rfl) w9.heap.size 44 i0 _ 2 16 Try.underlying26 hi hz0 hz1 hz2 rfl (by decide) (.slice ua j uc) j (encS u j) (by rfl) (HO.out _ (by first | exact h01.alloc h01.size _ | exact (h01.alloc h01.size _).drew | exact (h01.drew.alloc h01.size _))) ⟨w1.heap.size, 0, none⟩ 1 1 (spV uj) (by rfl) (by rfl) (fun q v hq => spV_cells w1 uj _ q v hq) (spV_one uj) (by decide) hj1 hj2 (by simp; have := h01.size; omega) (w1.heap.size + 1) (by simp) ?_
              intro g2 c2 wy hown3 hgrow hat hlt3
              have hby := HGr.out _ wy (by first | exact hb1.alloc hz1b _ | exact (hb1.alloc hz1b _).drew | exact (hb1.drew.alloc hz1b _)) hgrow
              refine hK.out _ _ ?_ (fun hHeld => ?_)
              · (try dsimp only); exact HS17.out _ hby
              clear hK K
              try simp only [Act.put, List.getElem_toArray, List.getElem_cons_zero, List.getElem_cons_succ, List.setIfInBounds_toArray, List.set_cons_zero, List.set_cons_succ]
              refine wpAnyH_take (i := 13) (v := ?vm19) rfl (by kernel_rfl) (by kernel_rfl) (by kernel_rfl) (fun _ _ _ h => h) (Or.inl ⟨by rfl, ?hm19⟩) (by assumption) ?_
              case hm19 => (intro w hSw; (try dsimp only at hSw); go_simp; try (with_reducible rfl))
              simp only [Act.put, List.getElem_toArray, List.getElem_cons_zero, List.getElem_cons_succ, List.setIfInBounds_toArray, List.set_cons_zero, List.set_cons_succ]
              refine wpAnyH_done (by kernel_rfl) ?_ _
              have HU2 : Hid (OwnS wy w9.heap.size (.slice (some ⟨g2, 0, none⟩) (j + 1) c2) (j + 1) u) := by
                unfold Hid OwnS
                rw [← encS_snoc, ← HUJ.out]
                exact hown3
              clear hown3 hgrow HO HGr Hat HS17
              (try go_wp2)
              go_roundw
              case rel => exact ⟨j + 1, by omega, by go_num, some ⟨g2, 0, none⟩, c2, rfl, HU2, hby⟩
              case measure => simp [intOf]; omega
            · have hjl : j = l.length := by omega
              subst hjl
              obtain ⟨a', c', e', hsl'⟩ := hU.out.sl
              injection e' with e1' _ e3'
              subst e1' e3'
              have Hsp2 : Hid (SlP wo ua l.length uc (spC u) (spQ u)) := hsl'
              have H10 : Hid (Sx w wo (some ⟨b, off, none⟩) n cap (.slice (some ⟨gg, 0, none⟩) (k + 1) cc) (k + 1) (.slice ra8 k rc8) k (mcF E n) (mcR E n) (mcX E n) T) := H9.out.below hbo
              have HI0 : Hid (OwnI (wo.alloc (.cells #[] 3)) wo.heap.size (.slice (some ⟨wo.heap.size, 0, none⟩) 0 0) 0 (mcX E n k)) := OwnI.new wo _ (Nat.le_refl _) _
              have hB0 : Below wo.heap.size wo (wo.alloc (.cells #[] 3)) := (Below.refl _ _).alloc (Nat.le_refl _) _
              clear hU hsl' H9 hbo hl9 HPos Hu
              go_wp2_with fail
              go_loopw [11, 12] (fun rv iv wr => ∃ c : Nat, c ≤ chv ∧ iv = .int .i64 (c : Int) ∧ ∃ ra2 rc2, rv = .slice ra2 c rc2 ∧ Hid (OwnI wr wo.heap.size (.slice ra2 c rc2) c (mcX E n k)) ∧ Below wo.heap.size wo wr) (fun _ iv _ => chv - (intOf iv).toNat)
              case atStart => exact ⟨0, Nat.zero_le _, rfl, _, _, rfl, HI0, hB0⟩
              case round =>
                clear HI0 hB0
                obtain ⟨c, hcc, rfl, ra2, rc2, rfl, hI, hb3⟩ := hrel
                by_cases hlc : c < chv
                · have hlci : (c : Int) < ((chv : Nat) : Int) := by omega
                  have hownI := hI.out
                  have Hgs : Hid (Calls Try.prog 18 #[.slice ua l.length uc, .int .i64 (c : Int)] wr fun e w' => e = .returned (.int .i64 ((rc (naE E) (rsE E n) k c : Nat) : Int)) ∧ w' = wr) := by
                    have := gst_sl c wr (Hsp2.out.below hb3)
                    rw [HG.out c] at this
                    exact this
                  have hc1 : c + 1 ≤ maxLen := by unfold maxLen; omega
                  have hc2 : (c + 1) * 8 ≤ 140737488355328 := by omega
                  have hc3 : ∀ o, wo.heap.size ≤ (wr.alloc o).heap.size := fun o => by have := hb3.size; simp; omega
                  have HX3 : Hid (∀ (wy : World) (g3 c3 : Nat), wy.ownsRow wo.heap.size 3 1 (.slice (some ⟨g3, 0, none⟩) (c + 1) c3) (c + 1) (ints (mcX E n k) c ++ [.int .i64 ((rc (naE E) (rsE E n) k c : Nat) : Int)]) → (wr.alloc (.cells #[.int .i64 ((rc (naE E) (rsE E n) k c : Nat) : Int)] 3)).grownBy wy (Value.slice ra2 c rc2).ownBlock → OwnI wy wo.heap.size (.slice (some ⟨g3, 0, none⟩) (c + 1) c3) (c + 1) (mcX E n k) ∧ Below wo.heap.size wo wy) := fun wy g3 c3 ho hgr => ⟨OwnI.snoc ho rfl, (hb3.alloc hb3.size _).grown hgr (by have := hb3.size; simp; omega) (fun q hq => (rowGt hI.out q hq).1)⟩
                  have hsrc : ∀ (q : Nat) (v : Value), [Value.int .i64 ((rc (naE E) (rsE E n) k c : Nat) : Int)][q]? = some v → (wr.alloc (.cells #[.int .i64 ((rc (naE E) (rsE E n) k c : Nat) : Int)] 3)).cell? ((⟨wr.heap.size, 0, none⟩ : Addr).add q) = some v := fun q v hq => one_cellsI wr _ _ q v hq
                  have hone := one_oneI ((rc (naE E) (rsE E n) k c : Nat) : Int)
                  clear hI
                  generalize rc (naE E) (rsE E n) k c = rv at *
                  go_wp2_with fail
                  refine Hgs.out.mono ?_
                  rintro x w' ⟨rfl, rfl⟩
                  go_wp2_with (at_builtin; refine wpList_append_lies _ rfl _ _ 52 rfl wo.heap.size 3 n0 (.int .i64 0) 1 8 Try.underlying52 nh nz0 nz1 nz2 rfl (by decide) _ _ _ rfl (World.ownsRow.alloc hownI _) ⟨w'.heap.size, 0, none⟩ 1 1 [.int .i64 ((rv : Nat) : Int)] rfl rfl hsrc hone (by decide) hc1 hc2 (hc3 _) (w'.heap.size + 1) (by simp) ?_; intro g3 c3 wy hown3 hgrow3 hat3 hlt3; obtain ⟨z1, z2⟩ := HX3.out wy g3 c3 hown3 hgrow3; have Z1 : Hid (_) := z1; clear z1 hown3 hgrow3 hat3)
                  exact ⟨⟨c + 1, by omega, by go_num, some ⟨g3, 0, none⟩, c3, rfl, Z1, z2⟩, by simp [intOf]; omega⟩
                · have hce : chv = c := by omega
                  subst hce
                  have hlci : ¬ (((chv : Nat) : Int) < ((chv : Nat) : Int)) := by omega
                  obtain ⟨a3, c3', e3, hq3⟩ := hI.out.qr hb3.size
                  injection e3 with e31 _ e33
                  subst e31 e33
                  have Hq3 : Hid (QR wr (chv) (mcX E n k) ⟨ra2, rc2, wo.heap.size, wr.heap.size⟩) := hq3
                  have H11 : Hid (Sx w wr (some ⟨b, off, none⟩) n cap (.slice (some ⟨gg, 0, none⟩) (k + 1) cc) (k + 1) (.slice ra8 k rc8) k (mcF E n) (mcR E n) (mcX E n) T) := H10.out.below hb3
                  have hownR : wr.ownsRow (w.heap.size + 2) 52 1 (.slice ra8 k rc8) k (encR (mcR E n) T k) := H11.out.co.r.own
                  have tb1 := H11.out.b1
                  have hm4 : ∀ o, w.heap.size + 2 ≤ (wr.alloc o).heap.size := fun o => by have := H11.out.sz; simp; omega
                  have hsrc : ∀ (q : Nat) (v : Value), [Value.slice ra2 (chv) rc2][q]? = some v → (wr.alloc (.cells #[.slice ra2 (chv) rc2] 52)).cell? ((⟨wr.heap.size, 0, none⟩ : Addr).add q) = some v := fun q v hq => one_cellsI wr _ _ q v hq
                  have HX4 : Hid (∀ (wy : World) (g4 c4 : Nat), wy.ownsRow (w.heap.size + 2) 52 1 (.slice (some ⟨g4, 0, none⟩) (k + 1) c4) (k + 1) (encR (mcR E n) T k ++ [.slice ra2 (chv) rc2]) → (wr.alloc (.cells #[.slice ra2 (chv) rc2] 52)).grownBy wy (Value.slice ra8 k rc8).ownBlock → ((Value.slice ra8 k rc8).ownBlock = some g4 ∨ g4 = wr.heap.size + 1) → wy.cell? ⟨w.heap.size + 4, 1, none⟩ = some (.slice ra8 k rc8) ∧ wy.frozen? ⟨w.heap.size + 4, 1, none⟩ = false ∧ Sx w (wy.setCell ⟨w.heap.size + 4, 1, none⟩ (.slice (some ⟨g4, 0, none⟩) (k + 1) c4)) (some ⟨b, off, none⟩) n cap (.slice (some ⟨gg, 0, none⟩) (k + 1) cc) (k + 1) (.slice (some ⟨g4, 0, none⟩) (k + 1) c4) (k + 1) (mcF E n) (mcR E n) (mcX E n) (extR T k ⟨ra2, rc2, wo.heap.size, wr.heap.size⟩)) := fun wy g4 c4 ho hgr hgg => by
                    have e : mcR E n k = chv := Hch1.out
                    have hX : Below wr.heap.size wr (wr.alloc (.cells #[.slice ra2 (chv) rc2] 52)) := (Below.refl _ _).alloc (Nat.le_refl _) _
                    exact H10.out.pushR (t := ⟨ra2, rc2, wo.heap.size, wr.heap.size⟩) (hb3.trans (hX.mono hb3.size)) (by rw [e]; exact Hq3.out.below hX) (Nat.le_refl _) (by rw [e]; exact ho) hgr (hgg.imp id fun q => by rw [q]; simp)
                  clear hI hq3 H10 H11 Hq3
                  go_wp2_with (at_builtin; refine wpList_append_lies _ rfl _ _ 27 rfl (w.heap.size + 2) 52 j0 (.slice none 0 0) 1 24 Try.underlying27 jh jz0 jz1 jz2 rfl (by decide) _ _ _ rfl (World.ownsRow.alloc hownR _) ⟨wr.heap.size, 0, none⟩ 1 1 [.slice ra2 (chv) rc2] rfl rfl hsrc (one_slice _ ⟨_, _, _, rfl⟩) (by decide) hm1 hm3 (hm4 _) (wr.heap.size + 1) (by simp) ?_; intro g4 c4 wy hown4 hgrow4 hat4 hlt4; obtain ⟨f90, f91, z1⟩ := HX4.out wy g4 c4 hown4 hgrow4 hat4; have Z1 : Hid (_) := z1; clear z1 hown4 hgrow4 hat4)
                  exact ⟨⟨k + 1, by omega, by go_num, by rw [Hch1.out], _, _, _, _, _, Z1⟩, by simp [intOf]; omega⟩
      · have hci : ¬ (((spk.c : Nat) : Int) = ((chN (naE E) (rsE E n) k : Nat) : Int)) := by omega
        have Hch1 : Hid (chN (naE E) (rsE E n) (k + 1) = chN (naE E) (rsE E n) k) := by unfold Hid; rw [Hsc2.out, if_neg hc]
        clear hc Hsc2
        go_wp2_with (at_builtin; refine wpList_append_lies _ rfl _ _ 26 rfl (w.heap.size + 2) 44 i0 (.agg #[.int .i64 0, .int .i64 0]) 2 16 Try.underlying26 hi hz0 hz1 hz2 rfl (by decide) _ _ _ rfl (World.ownsRow.alloc town _) ⟨w4.heap.size + 1, 0, none⟩ 1 1 (spV spk) rfl rfl tgc (spV_one _) (by decide) hm1 hm2 tm0 (w4.heap.size + 1 + 1) (by simp) ?_; intro gg cc wx hownx hgrowx hatx hltx; obtain ⟨f80, f81, hH8⟩ := tW8.out wx gg cc hownx hgrowx hatx; have H8 : Hid (_) := hH8; clear hH8 hownx hgrowx hatx)
        obtain ⟨w8, hw8⟩ : ∃ w8, w8 = wx.setCell ⟨w.heap.size + 4, 0, none⟩ (.slice (some ⟨gg, 0, none⟩) (k + 1) cc) := ⟨_, rfl⟩
        rw [← hw8] at H8 ⊢
        clear hw8 f80 f81
        have hrf8 : Below w8.heap.size w8 w8 := Below.refl _ _
        have hbw8 := H8.out.bel
        have HS12 : Hid (∀ W, Below w8.heap.size w8 W → W.cell? ⟨w.heap.size, 0, none⟩ = some (.slice (some ⟨b, off, none⟩) n cap) ∧ W.cell? ⟨b, off + k * 10, none⟩ = some (.string (E k).id)) := fun W hW => ⟨(H8.out.below hW).x0, ((hbw8.trans (hW.mono hbw8.size)).cell (by exact hb)).trans Hid0.out⟩
        have Hfu : Hid (∀ W, Below w8.heap.size w8 W → W.cell? ⟨w8.heap.size, 0, none⟩ = some (.string (E k).id) → w8.heap.size < W.heap.size → Calls Try.prog 16 #[.agg #[.slice (some ⟨b, off, none⟩) n cap], .slice (some ⟨w8.heap.size, 0, none⟩) 1 1] W fun x w' => ∃ fa fc l, x = .returned (.slice fa l.length fc) ∧ Hid (SlS w' fa l.length fc (getL l) ∧ l.length ≤ 1000 ∧ ∀ s, s ∈ l ↔ s = (E k).id ∨ Chn E n (fun _ => (E k).id) 1 s) ∧ Below w8.heap.size w8 w') := fun W hW h1 h2 => by
          have hwW := hbw8.trans (hW.mono hbw8.size)
          refine (fullS_any w8.heap.size 0 1 k W Hroom.out hlt (Hsl.out W hwW) h2 h1 ⟨Nat.le_refl _, by decide⟩ Hsz.out).mono ?_
          rintro x w' ⟨v, l, rfl, ho, hs, hm, hb'⟩
          have hin : ∀ s, s ∈ l → ∃ j, j < n ∧ (E j).id = s := fun s hs' => by
            rcases (hm s).1 hs' with e | e
            · exact ⟨k, hlt, e.symm⟩
            · exact chn_id Hroom.out e
          have hln := ids_len Hroom.out (hs.imp fun hab e => by subst e; exact absurd hab (List.lt_irrefl _)) hin
          obtain ⟨fa, fc, rfl, hsl, _⟩ := ho.sl (fun s hs' => by obtain ⟨j, hj, rfl⟩ := hin s hs'; exact Hids.out j hj)
          exact ⟨fa, fc, l, rfl, ⟨hsl, by omega, hm⟩, hW.trans (hb'.mono hW.size)⟩
        go_cut [8] from 20 to 91 (fun v wx => ∃ fa fc l, v = .slice fa l.length fc ∧ Hid (SlS wx fa l.length fc (getL l) ∧ l.length ≤ 1000 ∧ ∀ s, s ∈ l ↔ s = (E k).id ∨ Chn E n (fun _ => (E k).id) 1 s) ∧ Below w8.heap.size w8 wx)
        case first =>
          refine wp_region_held_drew (S := fun W => W.cell? ⟨w.heap.size, 0, none⟩ = some (.slice (some ⟨b, off, none⟩) n cap) ∧ W.cell? ⟨b, off + k * 10, none⟩ = some (.string (E k).id)) (by kernel_rfl) ?_ (fun hHeld => ?_)
          · (try dsimp only); exact HS12.out _ (by first | with_reducible exact hrf8 | with_reducible exact hrf8.drew | with_reducible exact hrf8.drew.drew | with_reducible exact hrf8.drew.drew.drew)
          refine wpAnyH_take (i := 0) (v := ?vm20) rfl (by kernel_rfl) (by kernel_rfl) (by kernel_rfl) (fun _ _ _ h => h) (Or.inl ⟨by rfl, ?hm20⟩) (by assumption) ?_
          case hm20 => (intro w hSw; (try dsimp only at hSw); go_simp; try (with_reducible rfl))
          simp only [Act.put, List.getElem_toArray, List.getElem_cons_zero, List.setIfInBounds_toArray, List.set_cons_zero, List.set_cons_succ]
          refine wpAnyH_take (i := 1) (v := ?vm21) rfl (by kernel_rfl) (by kernel_rfl) (by kernel_rfl) (fun _ _ _ h => h) (Or.inl ⟨by rfl, ?hm21⟩) (by assumption) ?_
          case hm21 => (intro w hSw; (try dsimp only at hSw); go_simp; try (with_reducible rfl))
          simp only [Act.put, List.getElem_toArray, List.getElem_cons_zero, List.getElem_cons_succ, List.setIfInBounds_toArray, List.set_cons_zero, List.set_cons_succ]
          refine wpAnyH_take (i := 2) (v := ?vm22) rfl (by kernel_rfl) (by kernel_rfl) (by kernel_rfl) (fun _ _ _ h => h) (Or.inl ⟨by rfl, ?hm22⟩) (by assumption) ?_
          case hm22 => (intro w hSw; (try dsimp only at hSw); go_simp; try (with_reducible rfl))
          simp only [Act.put, List.getElem_toArray, List.getElem_cons_zero, List.getElem_cons_succ, List.setIfInBounds_toArray, List.set_cons_zero, List.set_cons_succ]
          refine wpAnyH_take (i := 3) (v := ?vm23) rfl (by kernel_rfl) (by kernel_rfl) (by kernel_rfl) (fun _ _ _ h => h) (Or.inl ⟨by rfl, ?hm23⟩) (by assumption) ?_
          case hm23 => (intro w hSw; (try dsimp only at hSw); go_simp; try (with_reducible rfl))
          simp only [Act.put, List.getElem_toArray, List.getElem_cons_zero, List.getElem_cons_succ, List.setIfInBounds_toArray, List.set_cons_zero, List.set_cons_succ]
          refine wpAnyH_take (i := 4) (v := ?vm24) rfl (by kernel_rfl) (by kernel_rfl) (by kernel_rfl) (fun _ _ _ h => h) (Or.inl ⟨by rfl, ?hm24⟩) (by assumption) ?_
          case hm24 => (intro w hSw; (try dsimp only at hSw); go_simp; try (with_reducible rfl))
          simp only [Act.put, List.getElem_toArray, List.getElem_cons_zero, List.getElem_cons_succ, List.setIfInBounds_toArray, List.set_cons_zero, List.set_cons_succ]
          refine wpAnyH_take (i := 5) (v := ?vm25) rfl (by kernel_rfl) (by kernel_rfl) (by kernel_rfl) (fun _ _ _ h => h) (Or.inl ⟨by rfl, ?hm25⟩) (by assumption) ?_
          case hm25 => (intro w hSw; (try dsimp only at hSw); go_simp; try (with_reducible rfl))
          simp only [Act.put, List.getElem_toArray, List.getElem_cons_zero, List.getElem_cons_succ, List.setIfInBounds_toArray, List.set_cons_zero, List.set_cons_succ]
          refine wpAnyH_take (i := 6) (v := ?vm26) rfl (by kernel_rfl) (by kernel_rfl) (by kernel_rfl) (fun _ _ _ h => h) (Or.inl ⟨by rfl, ?hm26⟩) (by assumption) ?_
          case hm26 => (intro w hSw; (try dsimp only at hSw); go_simp; try (with_reducible rfl))
          simp only [Act.put, List.getElem_toArray, List.getElem_cons_zero, List.getElem_cons_succ, List.setIfInBounds_toArray, List.set_cons_zero, List.set_cons_succ]
          refine wpAnyH_ready (rs := [7]) (by kernel_rfl) (by simp) ?_
          refine AllReadyH.cons rfl (fun K hK => ?_) AllReadyH.nil
          go_simp
          refine hK.out _ _ ?_ (fun hHeld => ?_)
          · (try dsimp only); exact HS12.out _ (by first | exact hrf8.alloc hrf8.size _ | exact (hrf8.drew.alloc hrf8.size _) | exact (hrf8.alloc hrf8.size _).drew)
          clear hK K
          try simp only [Act.put, List.getElem_toArray, List.getElem_cons_zero, List.getElem_cons_succ, List.setIfInBounds_toArray, List.set_cons_zero, List.set_cons_succ]
          refine wpAnyH_ready (rs := [8]) (by kernel_rfl) (by simp) ?_
          refine AllReadyH.cons rfl (fun K hK => ?_) AllReadyH.nil
          go_simp
          go_at_call 16
          refine (Hfu.out _ (by first | exact hrf8.alloc hrf8.size _ | exact (hrf8.drew.alloc hrf8.size _) | exact (hrf8.alloc hrf8.size _).drew) (by first | exact World.cell?_alloc_at _ _ _ _ rfl | exact (((Below.refl _ _).drew).cell (by simp)).trans (World.cell?_alloc_at _ _ _ _ rfl)) (by simp)).mono ?_
          rintro x w9 ⟨fa, fc, l, rfl, hl9, hb9⟩
          try dsimp only
          refine hK.out _ _ ?_ (fun hHeld => ?_)
          · (try dsimp only); exact HS12.out _ (by first | with_reducible exact hb9 | with_reducible exact hb9.drew | with_reducible exact hb9.drew.drew | with_reducible exact hb9.drew.drew.drew)
          clear hK K
          try simp only [Act.put, List.getElem_toArray, List.getElem_cons_zero, List.getElem_cons_succ, List.setIfInBounds_toArray, List.set_cons_zero, List.set_cons_succ]
          refine wpAnyH_take (i := 9) (v := ?vm27) rfl (by kernel_rfl) (by kernel_rfl) (by kernel_rfl) (fun _ _ _ h => h) (Or.inl ⟨by rfl, ?hm27⟩) (by assumption) ?_
          case hm27 => (intro w hSw; (try dsimp only at hSw); go_simp; try (with_reducible rfl))
          simp only [Act.put, List.getElem_toArray, List.getElem_cons_zero, List.getElem_cons_succ, List.setIfInBounds_toArray, List.set_cons_zero, List.set_cons_succ]
          refine wpAnyH_done (by kernel_rfl) ?_ _
          (try go_wp2_with fail)
          go_meet
          exact ⟨fa, fc, l, rfl, hl9, by first | exact hb9 | exact hb9.drew⟩
        case rest =>
          obtain ⟨fa, fc, l, rfl, hl9, hb9⟩ := hcut
          obtain ⟨w9, hw9⟩ : ∃ W : World, W = wc := ⟨_, rfl⟩
          subst hw9
          have H9 : Hid (Sx w w9 (some ⟨b, off, none⟩) n cap (.slice (some ⟨gg, 0, none⟩) (k + 1) cc) (k + 1) (.slice ra8 k rc8) k (mcF E n) (mcR E n) (mcX E n) T) := H8.out.below hb9
          clear H8 hb9 HS12 Hfu hrf8 hbw8
          have HPos : Hid (∀ i, i < l.length → ∃ p, posV E n (getL l i) = ((p : Nat) : Int) ∧ RR (naE E) (rsE E n) k p ∧ p ≤ k) := fun i hi => by
            rcases (hl9.out.2.2 _).1 (getL_mem hi) with e | e
            · exact ⟨k, by rw [e]; exact posV_here Hroom.out hlt, RR.refl, Nat.le_refl _⟩
            · obtain ⟨p, hp, e2⟩ := chn_id Hroom.out e
              have hr := chn_rr Hroom.out hlt e p hp e2
              exact ⟨p, by rw [← e2]; exact posV_here Hroom.out hp, hr, RR.le Hrs.out hlt hr⟩
          obtain ⟨u, hu⟩ : ∃ u : Nat → Sp, u = fun i => mcF E n (posV E n (getL l i)).toNat := ⟨_, rfl⟩
          have Hu : Hid (∀ i p, posV E n (getL l i) = ((p : Nat) : Int) → u i = mcF E n p) := fun i p e => by rw [hu]; show mcF E n (posV E n (getL l i)).toNat = _; rw [e]; rfl
          have HG : Hid (∀ c, gstTo u c l.length = rc (naE E) (rsE E n) k c) := fun c => by
            refine gst_rc Hrs.out hlt (fun i hi => ?_) (fun p hp => ?_)
            · obtain ⟨p, e, hr, _⟩ := HPos.out i hi
              exact ⟨p, hr, Hu.out i p e⟩
            · have hin : (E p).id ∈ l := by
                rcases rr_chn Hroom.out hlt hp with e | e
                · rw [e]; exact (hl9.out.2.2 _).2 (Or.inl rfl)
                · exact (hl9.out.2.2 _).2 (Or.inr e)
              obtain ⟨i, hi, e⟩ := mem_getL hin
              exact ⟨i, hi, Hu.out i p (by rw [e]; exact posV_here Hroom.out (by have := RR.le Hrs.out hlt hp; omega))⟩
          have hl1000 := hl9.out.2.1
          have HU0 : Hid (OwnS (w9.alloc (.cells #[] 44)) w9.heap.size (.slice (some ⟨w9.heap.size, 0, none⟩) 0 0) 0 u) := OwnS.new w9 _ (Nat.le_refl _) u
          have hB0 : Below w9.heap.size w9 (w9.alloc (.cells #[] 44)) := (Below.refl _ _).alloc (Nat.le_refl _) _
          clear hu
          go_wp2_with fail
          go_loopw [9, 10] (fun uv iv wr => ∃ j : Nat, j ≤ l.length ∧ iv = .int .i64 (j : Int) ∧ ∃ ua uc, uv = .slice ua j uc ∧ Hid (OwnS wr w9.heap.size (.slice ua j uc) j u) ∧ Below w9.heap.size w9 wr) (fun _ iv _ => l.length - (intOf iv).toNat)
          case atStart => exact ⟨0, Nat.zero_le _, rfl, _, _, rfl, HU0, hB0⟩
          case round =>
            clear HU0 hB0
            obtain ⟨j, hj, rfl, ua, uc, rfl, hU, hbo⟩ := hrel
            obtain ⟨wo, rfl⟩ : ∃ wo : World, wo = wr := ⟨_, rfl⟩
            have hzo : w9.heap.size ≤ wo.heap.size := hbo.size
            by_cases hlj : j < l.length
            · obtain ⟨p, hp, -, hpk⟩ := HPos.out j hlj
              have Huj := Hu.out j p hp
              obtain ⟨fb, fo, hfa, hfb, hfc⟩ : ∃ fb fo, fa = some ⟨fb, fo, none⟩ ∧ fb < w9.heap.size ∧ w9.cell? ⟨fb, fo + j, none⟩ = some (.string (getL l j)) := by
                rcases hl9.out.1.cells with h0 | ⟨fb, fo, e, hb', hc'⟩
                · omega
                · exact ⟨fb, fo, e, hb', hc' j hlj⟩
              subst hfa
              obtain ⟨uj, huj⟩ : ∃ uj, uj = u j := ⟨_, rfl⟩
              have HUJ : Hid (uj = u j) := huj
              obtain ⟨hgl, hg0, hg1⟩ : gg < w9.heap.size ∧ w9.cell? ⟨gg, p * 2, none⟩ = some (.int .i64 ((uj.c : Nat) : Int)) ∧ w9.cell? ⟨gg, p * 2 + 1, none⟩ = some (.int .i64 ((uj.q : Nat) : Int)) := by
                obtain ⟨a', c', e, q⟩ := H9.out.co.s.sl
                injection e with e1 _ e3
                rw [← e1] at q
                rcases q.cells with h0 | ⟨g', o', e', hl', c1, c2⟩
                · omega
                · injection e' with e'; injection e' with e1' e2' _
                  subst e1' e2'
                  have q1 := c1 p (by omega)
                  have q2 := c2 p (by omega)
                  rw [Nat.zero_add] at q1 q2
                  rw [huj, Huj]
                  exact ⟨hl', q1, q2⟩
              have HS17 : Hid (∀ W, Below w9.heap.size w9 W → (W.cell? ⟨w.heap.size, 0, none⟩ = some (.slice (some ⟨b, off, none⟩) n cap) ∧ W.cell? ⟨w.heap.size + 4, 0, none⟩ = some (.slice (some ⟨gg, 0, none⟩) (k + 1) cc)) ∧ W.cell? ⟨fb, fo + j, none⟩ = some (.string (getL l j)) ∧ W.cell? ⟨gg, p * 2, none⟩ = some (.int .i64 ((uj.c : Nat) : Int)) ∧ W.cell? ⟨gg, p * 2 + 1, none⟩ = some (.int .i64 ((uj.q : Nat) : Int))) := fun W hW => ⟨⟨(H9.out.below hW).x0, (H9.out.below hW).b0⟩, (hW.cell (by exact hfb)).trans hfc, (hW.cell (by exact hgl)).trans hg0, (hW.cell (by exact hgl)).trans hg1⟩
              have Hat : Hid (∀ W, Below wo.heap.size wo W → Calls Try.prog 17 #[.agg #[.slice (some ⟨b, off, none⟩) n cap], .string (getL l j)] W fun x w' => x = .returned (.int .i64 ((p : Nat) : Int)) ∧ Below wo.heap.size wo w') := fun W hW => by
                have hwo := H9.out.bel.trans (hbo.mono H9.out.bel.size)
                refine (l2At_sl _ W (Hsl.out W (hwo.trans (hW.mono hwo.size)))).mono ?_
                rintro x w' ⟨rfl, rfl⟩
                rw [hp]
                exact ⟨rfl, hW.alloc hW.size _⟩
              have HO : Hid (∀ Y, Below wo.heap.size wo Y → Y.ownsRow w9.heap.size 44 2 (.slice ua j uc) j (encS u j)) := fun Y hY => ownsRow_blw hU.out hY
              have HGr : Hid (∀ Y wy, Below w9.heap.size w9 Y → Y.grownBy wy (Value.slice ua j uc).ownBlock → Below w9.heap.size w9 wy) := fun Y wy hY hgr => hY.grown hgr (by have := hY.size; omega) (fun q hq => (rowGt hU.out q hq).1)
              have hrfo : Below wo.heap.size wo wo := Below.refl _ _
              have hj1 : j + 1 ≤ maxLen := by unfold maxLen; omega
              have hj2 : (j + 1) * 16 ≤ 140737488355328 := by omega
              have hji : (j : Int) < (l.length : Int) := by omega
              have hj0 : (0 : Int) ≤ (j : Int) := by omega
              have hpi : (0 : Int) ≤ ((p : Nat) : Int) := by omega
              have hpi2 : ((p : Nat) : Int) < (k : Int) + 1 := by omega
              have hpi3 : p < k + 1 := by omega
              clear huj Huj hfc hg0 hg1 hp hU
              go_wp2_with fail
              refine wp_region_held_drew (S := fun W => (W.cell? ⟨w.heap.size, 0, none⟩ = some (.slice (some ⟨b, off, none⟩) n cap) ∧ W.cell? ⟨w.heap.size + 4, 0, none⟩ = some (.slice (some ⟨gg, 0, none⟩) (k + 1) cc)) ∧ W.cell? ⟨fb, fo + j, none⟩ = some (.string (getL l j)) ∧ W.cell? ⟨gg, p * 2, none⟩ = some (.int .i64 ((uj.c : Nat) : Int)) ∧ W.cell? ⟨gg, p * 2 + 1, none⟩ = some (.int .i64 ((uj.q : Nat) : Int))) (by kernel_rfl) ?_ (fun hHeld => ?_)
              · (try dsimp only); exact HS17.out _ (by first | exact hbo | exact hbo.drew | exact hbo.drew.drew)
              refine wpAnyH_take (i := 0) (v := ?vm28) rfl (by kernel_rfl) (by kernel_rfl) (by kernel_rfl) (fun _ _ _ h => h) (Or.inl ⟨by rfl, ?hm28⟩) (by assumption) ?_
              case hm28 => (intro w hSw; (try dsimp only at hSw); go_simp; try (with_reducible rfl))
              simp only [Act.put, List.getElem_toArray, List.getElem_cons_zero, List.setIfInBounds_toArray, List.set_cons_zero, List.set_cons_succ]
              refine wpAnyH_take (i := 1) (v := ?vm29) rfl (by kernel_rfl) (by kernel_rfl) (by kernel_rfl) (fun _ _ _ h => h) (Or.inl ⟨by rfl, ?hm29⟩) (by assumption) ?_
              case hm29 => (intro w hSw; (try dsimp only at hSw); go_simp; try (with_reducible rfl))
              simp only [Act.put, List.getElem_toArray, List.getElem_cons_zero, List.getElem_cons_succ, List.setIfInBounds_toArray, List.set_cons_zero, List.set_cons_succ]
              refine wpAnyH_take (i := 2) (v := ?vm30) rfl (by kernel_rfl) (by kernel_rfl) (by kernel_rfl) (fun _ _ _ h => h) (Or.inl ⟨by rfl, ?hm30⟩) (by assumption) ?_
              case hm30 => (intro w hSw; (try dsimp only at hSw); go_simp; try (with_reducible rfl))
              simp only [Act.put, List.getElem_toArray, List.getElem_cons_zero, List.getElem_cons_succ, List.setIfInBounds_toArray, List.set_cons_zero, List.set_cons_succ]
              refine wpAnyH_take (i := 3) (v := ?vm31) rfl (by kernel_rfl) (by kernel_rfl) (by kernel_rfl) (fun _ _ _ h => h) (Or.inl ⟨by rfl, ?hm31⟩) (by assumption) ?_
              case hm31 => (intro w hSw; (try dsimp only at hSw); go_simp; try (with_reducible rfl))
              simp only [Act.put, List.getElem_toArray, List.getElem_cons_zero, List.getElem_cons_succ, List.setIfInBounds_toArray, List.set_cons_zero, List.set_cons_succ]
              refine wpAnyH_take (i := 4) (v := ?vm32) rfl (by kernel_rfl) (by kernel_rfl) (by kernel_rfl) (fun _ _ _ h => h) (Or.inl ⟨by rfl, ?hm32⟩) (by assumption) ?_
              case hm32 => (intro w hSw; (try dsimp only at hSw); go_simp; try (with_reducible rfl))
              simp only [Act.put, List.getElem_toArray, List.getElem_cons_zero, List.getElem_cons_succ, List.setIfInBounds_toArray, List.set_cons_zero, List.set_cons_succ]
              refine wpAnyH_take (i := 5) (v := ?vm33) rfl (by kernel_rfl) (by kernel_rfl) (by kernel_rfl) (fun _ _ _ h => h) (Or.inl ⟨by rfl, ?hm33⟩) (by assumption) ?_
              case hm33 => (intro w hSw; (try dsimp only at hSw); go_simp; try (with_reducible rfl))
              simp only [Act.put, List.getElem_toArray, List.getElem_cons_zero, List.getElem_cons_succ, List.setIfInBounds_toArray, List.set_cons_zero, List.set_cons_succ]
              refine wpAnyH_take (i := 6) (v := ?vm34) rfl (by kernel_rfl) (by kernel_rfl) (by kernel_rfl) (fun _ _ _ h => h) (Or.inl ⟨by rfl, ?hm34⟩) (by assumption) ?_
              case hm34 => (intro w hSw; (try dsimp only at hSw); go_simp; try (with_reducible rfl))
              simp only [Act.put, List.getElem_toArray, List.getElem_cons_zero, List.getElem_cons_succ, List.setIfInBounds_toArray, List.set_cons_zero, List.set_cons_succ]
              refine wpAnyH_take (i := 7) (v := ?vm35) rfl (by kernel_rfl) (by kernel_rfl) (by kernel_rfl) (fun _ _ _ h => h) (Or.inl ⟨by rfl, ?hm35⟩) (by assumption) ?_
              case hm35 => (intro w hSw; (try dsimp only at hSw); go_simp; try (with_reducible rfl))
              simp only [Act.put, List.getElem_toArray, List.getElem_cons_zero, List.getElem_cons_succ, List.setIfInBounds_toArray, List.set_cons_zero, List.set_cons_succ]
              refine wpAnyH_ready (rs := [8]) (by kernel_rfl) (by simp) ?_
              refine AllReadyH.cons rfl (fun K hK => ?_) AllReadyH.nil
              go_simp
              go_at_call 17
              refine (Hat.out _ (by first | with_reducible exact hrfo | with_reducible exact hrfo.drew | with_reducible exact hrfo.drew.drew | with_reducible exact hrfo.drew.drew.drew)).mono ?_
              rintro x w1 ⟨rfl, h01⟩
              have hb1 := hbo.trans (h01.mono hzo)
              have hz1b : w9.heap.size ≤ w1.heap.size := hb1.size
              try dsimp only
              refine hK.out _ _ ?_ (fun hHeld => ?_)
              · (try dsimp only); exact HS17.out _ (by first | exact hb1 | exact hb1.drew)
              clear hK K
              try simp only [Act.put, List.getElem_toArray, List.getElem_cons_zero, List.getElem_cons_succ, List.setIfInBounds_toArray, List.set_cons_zero, List.set_cons_succ]
              refine wpAnyH_take (i := 9) (v := ?vm36) rfl (by kernel_rfl) (by kernel_rfl) (by kernel_rfl) (fun _ _ _ h => h) (Or.inl ⟨by rfl, ?hm36⟩) (by assumption) ?_
              case hm36 => (intro w hSw; (try dsimp only at hSw); go_simp; try (with_reducible rfl))
              simp only [Act.put, List.getElem_toArray, List.getElem_cons_zero, List.getElem_cons_succ, List.setIfInBounds_toArray, List.set_cons_zero, List.set_cons_succ]
              refine wpAnyH_take (i := 10) (v := ?vm37) rfl (by kernel_rfl) (by kernel_rfl) (by kernel_rfl) (fun _ _ _ h => h) (Or.inl ⟨by rfl, ?hm37⟩) (by assumption) ?_
              case hm37 => (intro w hSw; (try dsimp only at hSw); go_simp; try (with_reducible rfl))
              simp only [Act.put, List.getElem_toArray, List.getElem_cons_zero, List.getElem_cons_succ, List.setIfInBounds_toArray, List.set_cons_zero, List.set_cons_succ]
              refine wpAnyH_ready (rs := [11]) (by kernel_rfl) (by simp) ?_
              refine AllReadyH.cons rfl (fun K hK => ?_) AllReadyH.nil
              go_simp
              refine hK.out _ _ ?_ (fun hHeld => ?_)
              · (try dsimp only); exact HS17.out _ (by first | exact hb1.alloc hz1b _ | exact (hb1.alloc hz1b _).drew | exact (hb1.drew.alloc hz1b _))
              clear hK K
              try simp only [Act.put, List.getElem_toArray, List.getElem_cons_zero, List.getElem_cons_succ, List.setIfInBounds_toArray, List.set_cons_zero, List.set_cons_succ]
              refine wpAnyH_ready (rs := [12]) (by kernel_rfl) (by simp) ?_
              refine AllReadyH.cons rfl (fun K hK => ?_) AllReadyH.nil
              refine step_append_lies _ (by rfl) _ _ _ (by rfl) w9.heap.size 44 i0 _ 2 16 Try.underlying26 hi hz0 hz1 hz2 rfl (by decide) (.slice ua j uc) j (encS u j) (by rfl) (HO.out _ (by first | exact h01.alloc h01.size _ | exact (h01.alloc h01.size _).drew | exact (h01.drew.alloc h01.size _))) ⟨w1.heap.size, 0, none⟩ 1 1 (spV uj) (by rfl) (by rfl) (fun q v hq => spV_cells w1 uj _ q v hq) (spV_one uj) (by decide) hj1 hj2 (by simp; have := h01.size; omega) (w1.heap.size + 1) (by simp) ?_
              intro g2 c2 wy hown3 hgrow hat hlt3
              have hby := HGr.out _ wy (by first | exact hb1.alloc hz1b _ | exact (hb1.alloc hz1b _).drew | exact (hb1.drew.alloc hz1b _)) hgrow
              refine hK.out _ _ ?_ (fun hHeld => ?_)
              · (try dsimp only); exact HS17.out _ hby
              clear hK K
              try simp only [Act.put, List.getElem_toArray, List.getElem_cons_zero, List.getElem_cons_succ, List.setIfInBounds_toArray, List.set_cons_zero, List.set_cons_succ]
              refine wpAnyH_take (i := 13) (v := ?vm38) rfl (by kernel_rfl) (by kernel_rfl) (by kernel_rfl) (fun _ _ _ h => h) (Or.inl ⟨by rfl, ?hm38⟩) (by assumption) ?_
              case hm38 => (intro w hSw; (try dsimp only at hSw); go_simp; try (with_reducible rfl))
              simp only [Act.put, List.getElem_toArray, List.getElem_cons_zero, List.getElem_cons_succ, List.setIfInBounds_toArray, List.set_cons_zero, List.set_cons_succ]
              refine wpAnyH_done (by kernel_rfl) ?_ _
              have HU2 : Hid (OwnS wy w9.heap.size (.slice (some ⟨g2, 0, none⟩) (j + 1) c2) (j + 1) u) := by
                unfold Hid OwnS
                rw [← encS_snoc, ← HUJ.out]
                exact hown3
              clear hown3 hgrow HO HGr Hat HS17
              (try go_wp2)
              go_roundw
              case rel => exact ⟨j + 1, by omega, by go_num, some ⟨g2, 0, none⟩, c2, rfl, HU2, hby⟩
              case measure => simp [intOf]; omega
            · have hjl : j = l.length := by omega
              subst hjl
              obtain ⟨a', c', e', hsl'⟩ := hU.out.sl
              injection e' with e1' _ e3'
              subst e1' e3'
              have Hsp2 : Hid (SlP wo ua l.length uc (spC u) (spQ u)) := hsl'
              have H10 : Hid (Sx w wo (some ⟨b, off, none⟩) n cap (.slice (some ⟨gg, 0, none⟩) (k + 1) cc) (k + 1) (.slice ra8 k rc8) k (mcF E n) (mcR E n) (mcX E n) T) := H9.out.below hbo
              have HI0 : Hid (OwnI (wo.alloc (.cells #[] 3)) wo.heap.size (.slice (some ⟨wo.heap.size, 0, none⟩) 0 0) 0 (mcX E n k)) := OwnI.new wo _ (Nat.le_refl _) _
              have hB0 : Below wo.heap.size wo (wo.alloc (.cells #[] 3)) := (Below.refl _ _).alloc (Nat.le_refl _) _
              clear hU hsl' H9 hbo hl9 HPos Hu
              go_wp2_with fail
              go_loopw [11, 12] (fun rv iv wr => ∃ c : Nat, c ≤ chN (naE E) (rsE E n) k ∧ iv = .int .i64 (c : Int) ∧ ∃ ra2 rc2, rv = .slice ra2 c rc2 ∧ Hid (OwnI wr wo.heap.size (.slice ra2 c rc2) c (mcX E n k)) ∧ Below wo.heap.size wo wr) (fun _ iv _ => chN (naE E) (rsE E n) k - (intOf iv).toNat)
              case atStart => exact ⟨0, Nat.zero_le _, rfl, _, _, rfl, HI0, hB0⟩
              case round =>
                clear HI0 hB0
                obtain ⟨c, hcc, rfl, ra2, rc2, rfl, hI, hb3⟩ := hrel
                by_cases hlc : c < chN (naE E) (rsE E n) k
                · have hlci : (c : Int) < ((chN (naE E) (rsE E n) k : Nat) : Int) := by omega
                  have hownI := hI.out
                  have Hgs : Hid (Calls Try.prog 18 #[.slice ua l.length uc, .int .i64 (c : Int)] wr fun e w' => e = .returned (.int .i64 ((rc (naE E) (rsE E n) k c : Nat) : Int)) ∧ w' = wr) := by
                    have := gst_sl c wr (Hsp2.out.below hb3)
                    rw [HG.out c] at this
                    exact this
                  have hc1 : c + 1 ≤ maxLen := by unfold maxLen; omega
                  have hc2 : (c + 1) * 8 ≤ 140737488355328 := by omega
                  have hc3 : ∀ o, wo.heap.size ≤ (wr.alloc o).heap.size := fun o => by have := hb3.size; simp; omega
                  have HX3 : Hid (∀ (wy : World) (g3 c3 : Nat), wy.ownsRow wo.heap.size 3 1 (.slice (some ⟨g3, 0, none⟩) (c + 1) c3) (c + 1) (ints (mcX E n k) c ++ [.int .i64 ((rc (naE E) (rsE E n) k c : Nat) : Int)]) → (wr.alloc (.cells #[.int .i64 ((rc (naE E) (rsE E n) k c : Nat) : Int)] 3)).grownBy wy (Value.slice ra2 c rc2).ownBlock → OwnI wy wo.heap.size (.slice (some ⟨g3, 0, none⟩) (c + 1) c3) (c + 1) (mcX E n k) ∧ Below wo.heap.size wo wy) := fun wy g3 c3 ho hgr => ⟨OwnI.snoc ho rfl, (hb3.alloc hb3.size _).grown hgr (by have := hb3.size; simp; omega) (fun q hq => (rowGt hI.out q hq).1)⟩
                  have hsrc : ∀ (q : Nat) (v : Value), [Value.int .i64 ((rc (naE E) (rsE E n) k c : Nat) : Int)][q]? = some v → (wr.alloc (.cells #[.int .i64 ((rc (naE E) (rsE E n) k c : Nat) : Int)] 3)).cell? ((⟨wr.heap.size, 0, none⟩ : Addr).add q) = some v := fun q v hq => one_cellsI wr _ _ q v hq
                  have hone := one_oneI ((rc (naE E) (rsE E n) k c : Nat) : Int)
                  clear hI
                  generalize rc (naE E) (rsE E n) k c = rv at *
                  go_wp2_with fail
                  refine Hgs.out.mono ?_
                  rintro x w' ⟨rfl, rfl⟩
                  go_wp2_with (at_builtin; refine wpList_append_lies _ rfl _ _ 52 rfl wo.heap.size 3 n0 (.int .i64 0) 1 8 Try.underlying52 nh nz0 nz1 nz2 rfl (by decide) _ _ _ rfl (World.ownsRow.alloc hownI _) ⟨w'.heap.size, 0, none⟩ 1 1 [.int .i64 ((rv : Nat) : Int)] rfl rfl hsrc hone (by decide) hc1 hc2 (hc3 _) (w'.heap.size + 1) (by simp) ?_; intro g3 c3 wy hown3 hgrow3 hat3 hlt3; obtain ⟨z1, z2⟩ := HX3.out wy g3 c3 hown3 hgrow3; have Z1 : Hid (_) := z1; clear z1 hown3 hgrow3 hat3)
                  exact ⟨⟨c + 1, by omega, by go_num, some ⟨g3, 0, none⟩, c3, rfl, Z1, z2⟩, by simp [intOf]; omega⟩
                · have hce : chN (naE E) (rsE E n) k = c := by omega
                  subst hce
                  have hlci : ¬ (((chN (naE E) (rsE E n) k : Nat) : Int) < ((chN (naE E) (rsE E n) k : Nat) : Int)) := by omega
                  obtain ⟨a3, c3', e3, hq3⟩ := hI.out.qr hb3.size
                  injection e3 with e31 _ e33
                  subst e31 e33
                  have Hq3 : Hid (QR wr (chN (naE E) (rsE E n) k) (mcX E n k) ⟨ra2, rc2, wo.heap.size, wr.heap.size⟩) := hq3
                  have H11 : Hid (Sx w wr (some ⟨b, off, none⟩) n cap (.slice (some ⟨gg, 0, none⟩) (k + 1) cc) (k + 1) (.slice ra8 k rc8) k (mcF E n) (mcR E n) (mcX E n) T) := H10.out.below hb3
                  have hownR : wr.ownsRow (w.heap.size + 2) 52 1 (.slice ra8 k rc8) k (encR (mcR E n) T k) := H11.out.co.r.own
                  have tb1 := H11.out.b1
                  have hm4 : ∀ o, w.heap.size + 2 ≤ (wr.alloc o).heap.size := fun o => by have := H11.out.sz; simp; omega
                  have hsrc : ∀ (q : Nat) (v : Value), [Value.slice ra2 (chN (naE E) (rsE E n) k) rc2][q]? = some v → (wr.alloc (.cells #[.slice ra2 (chN (naE E) (rsE E n) k) rc2] 52)).cell? ((⟨wr.heap.size, 0, none⟩ : Addr).add q) = some v := fun q v hq => one_cellsI wr _ _ q v hq
                  have HX4 : Hid (∀ (wy : World) (g4 c4 : Nat), wy.ownsRow (w.heap.size + 2) 52 1 (.slice (some ⟨g4, 0, none⟩) (k + 1) c4) (k + 1) (encR (mcR E n) T k ++ [.slice ra2 (chN (naE E) (rsE E n) k) rc2]) → (wr.alloc (.cells #[.slice ra2 (chN (naE E) (rsE E n) k) rc2] 52)).grownBy wy (Value.slice ra8 k rc8).ownBlock → ((Value.slice ra8 k rc8).ownBlock = some g4 ∨ g4 = wr.heap.size + 1) → wy.cell? ⟨w.heap.size + 4, 1, none⟩ = some (.slice ra8 k rc8) ∧ wy.frozen? ⟨w.heap.size + 4, 1, none⟩ = false ∧ Sx w (wy.setCell ⟨w.heap.size + 4, 1, none⟩ (.slice (some ⟨g4, 0, none⟩) (k + 1) c4)) (some ⟨b, off, none⟩) n cap (.slice (some ⟨gg, 0, none⟩) (k + 1) cc) (k + 1) (.slice (some ⟨g4, 0, none⟩) (k + 1) c4) (k + 1) (mcF E n) (mcR E n) (mcX E n) (extR T k ⟨ra2, rc2, wo.heap.size, wr.heap.size⟩)) := fun wy g4 c4 ho hgr hgg => by
                    have e : mcR E n k = chN (naE E) (rsE E n) k := Hch1.out
                    have hX : Below wr.heap.size wr (wr.alloc (.cells #[.slice ra2 (chN (naE E) (rsE E n) k) rc2] 52)) := (Below.refl _ _).alloc (Nat.le_refl _) _
                    exact H10.out.pushR (t := ⟨ra2, rc2, wo.heap.size, wr.heap.size⟩) (hb3.trans (hX.mono hb3.size)) (by rw [e]; exact Hq3.out.below hX) (Nat.le_refl _) (by rw [e]; exact ho) hgr (hgg.imp id fun q => by rw [q]; simp)
                  clear hI hq3 H10 H11 Hq3
                  go_wp2_with (at_builtin; refine wpList_append_lies _ rfl _ _ 27 rfl (w.heap.size + 2) 52 j0 (.slice none 0 0) 1 24 Try.underlying27 jh jz0 jz1 jz2 rfl (by decide) _ _ _ rfl (World.ownsRow.alloc hownR _) ⟨wr.heap.size, 0, none⟩ 1 1 [.slice ra2 (chN (naE E) (rsE E n) k) rc2] rfl rfl hsrc (one_slice _ ⟨_, _, _, rfl⟩) (by decide) hm1 hm3 (hm4 _) (wr.heap.size + 1) (by simp) ?_; intro g4 c4 wy hown4 hgrow4 hat4 hlt4; obtain ⟨f90, f91, z1⟩ := HX4.out wy g4 c4 hown4 hgrow4 hat4; have Z1 : Hid (_) := z1; clear z1 hown4 hgrow4 hat4)
                  exact ⟨⟨k + 1, by omega, by go_num, by rw [Hch1.out], _, _, _, _, _, Z1⟩, by simp [intOf]; omega⟩
    · have hkn : k = n := by omega
      subst hkn
      have hN : mcN E k = k := by unfold mcN; rw [Hroom.out]; rfl
      have y0 := H0.out.a0
      have y1 := H0.out.a1
      have y2 := H0.out.y0
      have y3 := H0.out.y1
      have b1 := H0.out.b1
      have HP : Hid (McPost E k w (.returned (.tuple #[.agg #[.slice sa k scap, .slice ra8 k rc8], .bool true])) ((wr.setCell ⟨w.heap.size + 1, 0, none⟩ (.slice sa k scap)).setCell ⟨w.heap.size + 1, 1, none⟩ (.slice ra8 k rc8))) := by
        refine ⟨_, _, T, by rw [Hroom.out], ?_, (H0.out.bel.setCell (by exact Nat.le_succ _) _).setCell (by exact Nat.le_succ _) _⟩
        unfold Hid
        rw [hN]
        exact ((H0.out.co.setB (by omega)).setB (by omega)).base_le (by omega)
      have k0 : ((wr.setCell ⟨w.heap.size + 1, 0, none⟩ (.slice sa k scap)).setCell ⟨w.heap.size + 1, 1, none⟩ (.slice ra8 k rc8)).cell? ⟨w.heap.size + 1, 0, none⟩ = some (.slice sa k scap) := by rw [set_far (by omega)]; exact set_same ⟨_, y0⟩
      have k1 : ((wr.setCell ⟨w.heap.size + 1, 0, none⟩ (.slice sa k scap)).setCell ⟨w.heap.size + 1, 1, none⟩ (.slice ra8 k rc8)).cell? ⟨w.heap.size + 1, 1, none⟩ = some (.slice ra8 k rc8) := set_same ⟨_, by rw [set_far (by omega)]; exact y1⟩
      clear H0
      go_wp2
      exact bodyPost_ret (v := .tuple #[.agg #[.slice sa k scap, .slice ra8 k rc8], .bool true]) (by simp [results, Try.results5, go_sem, k0, k1]) rfl HP.out
end Go.Proofs.Ytlopjfhdhkonbaa
