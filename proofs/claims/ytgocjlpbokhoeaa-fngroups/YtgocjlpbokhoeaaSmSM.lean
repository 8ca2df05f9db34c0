import Derived.Test.YtgocjlpbokhoeaaLyT
import Derived.Test.YtgocjlpbokhoeaaOwnGM
import Derived.Test.YtgocjlpbokhoeaaStaI
import Derived.Test.YtgocjlpbokhoeaaAnEM
import Derived.Test.YtgocjlpbokhoeaaDeI
namespace Go.Proofs.Ytgocjlpbokhoeaa
open Go.RowKit
def LaPost (w : World) (G : Nat → Grp) (n : Nat) (g : Int) (e : Ending) (w' : World) : Prop := Below w.heap.size w w' ∧
  ((exOk G n g = true ∧ ∃ (q : Nat) (p : Option Addr), g = (q : Int) ∧ q < n ∧ stoTo G n = true ∧ e = .returned (.tuple #[.pointer p, .bool true]) ∧ LayAt w' none (.pointer p) (csF G q)) ∨
   (exOk G n g = false ∧ e = .returned (.tuple #[.pointer none, .bool false])))
set_option maxRecDepth 100000 in
set_option maxHeartbeats 1000000 in
theorem layerAt_sl {a : Option Addr} {n cap : Nat} {G : Nat → Grp} (g : Int) (w : World) (h : SlT w a n cap G) :
    Calls Try.prog 33 #[.agg #[.slice a n cap], .int .i64 g] w (LaPost w G n g) := by
  have hb0 : ∀ o, Below w.heap.size w (w.alloc o) := fun o => (Below.refl _ _).alloc (Nat.le_refl _) _
  go_enter Try.func33, Try.ntmps33
  go_wp2_with fail
  refine (layersOf_sl _ (h.below (hb0 _))).mono ?_
  rintro e w1 ⟨hb1, hp⟩
  have hw1 := (hb0 (.cells #[.slice a n cap] 25)).trans (hb1.mono (by simp))
  clear hb1
  rcases hp with ⟨ht, la, lc, X, rfl, hsq, hX⟩ | ⟨hf, rfl⟩
  · have HX : Hid (∀ i, i < n → LayAt w1 none (X i) (csF G i)) := hX
    have Hto : Hid (stoTo G n = true) := (stoB_parts ht).2
    have hn1 := (stoB_parts ht).1
    have Hex : Hid (exOk G n g = (decide (0 ≤ g) && decide (g < n))) := by unfold Hid exOk; rw [ht, Bool.true_and]
    clear hX ht
    go_wp2_with fail
    refine (hasPl_any la n lc g _).mono ?_
    rintro e w2 ⟨rfl, rfl⟩
    by_cases hpl : (decide (0 ≤ g) && decide (g < (n : Int))) = true
    · rw [hpl]
      rw [hpl] at Hex
      rw [Bool.and_eq_true, decide_eq_true_eq, decide_eq_true_eq] at hpl
      obtain ⟨q, rfl⟩ : ∃ q : Nat, g = (q : Int) := ⟨g.toNat, by omega⟩
      have hqn : q < n := by omega
      have hLq := HX.out q hqn
      obtain ⟨p, hp⟩ := hLq.ptr
      rw [hp] at hLq
      have HL : Hid (LayAt w2 none (.pointer p) (csF G q)) := hLq
      rcases hsq.cells with h0 | ⟨rb, ro, rfl, hrb, hrc⟩
      · omega
      have hr0 := hrc q hqn
      rw [hp] at hr0
      clear hrc hp hLq HX hpl
      go_wp2
      exact bodyPost_ret (v := .tuple #[.pointer p, .bool true]) (by simp [results, Try.results33, go_sem]) rfl ⟨hw1, Or.inl ⟨Hex.out, q, p, rfl, hqn, Hto.out, rfl, HL.out⟩⟩
    · have hpf : (decide (0 ≤ g) && decide (g < (n : Int))) = false := by cases hq : (decide (0 ≤ g) && decide (g < (n : Int))) <;> simp_all
      rw [hpf]
      rw [hpf] at Hex
      clear hpl hpf HX hsq
      go_wp2
      exact bodyPost_ret (v := .tuple #[.pointer none, .bool false]) (by simp [results, Try.results33, go_sem]) rfl ⟨hw1, Or.inr ⟨Hex.out, rfl⟩⟩
  · have Hex : Hid (exOk G n g = false) := by unfold Hid exOk; rw [hf, Bool.false_and]
    clear hf
    go_wp2
    exact bodyPost_ret (v := .tuple #[.pointer none, .bool false]) (by simp [results, Try.results33, go_sem]) rfl ⟨hw1, Or.inr ⟨Hex.out, rfl⟩⟩
end Go.Proofs.Ytgocjlpbokhoeaa
namespace Go.Proofs.Ytgocjlpbokhoeaa
open Go.RowKit
set_option maxRecDepth 100000 in
set_option maxHeartbeats 1000000 in
theorem expI_ans {a : Option Addr} {n cap : Nat} {G : Nat → Grp} (g : Int) (w : World) (h : SlT w a n cap G) :
    Calls Try.prog 7 #[.agg #[.slice a n cap], .int .i64 g] w (AnsE (exV G n g) (exOk G n g) w) := by
  have hb0 : ∀ o, Below w.heap.size w (w.alloc o) := fun o => (Below.refl _ _).alloc (Nat.le_refl _) _
  have Hok : Hid (∀ i, i < n → AllOk (G i).sets) := h.oksets
  have Hans : Hid (∀ W v, Below w.heap.size w W → OwnE W w.heap.size v (exV G n g) → AnsE (exV G n g) (exOk G n g) w (.returned (.tuple #[v, .bool (exOk G n g)])) W) := fun W v hW ho => ansE_of _ hW ho (exV_ok Hok.out g)
  go_enter Try.func7, Try.ntmps7
  go_wp2_with fail
  refine (layerAt_sl g _ (h.below (hb0 _))).mono ?_
  rintro e w1 ⟨hb1, hp⟩
  have hw1 := (hb0 (.cells #[.slice a n cap] 25)).trans (hb1.mono (by simp))
  clear hb1
  rcases hp with ⟨ht, q, p, rfl, hqn, hto, rfl, hL⟩ | ⟨hf, rfl⟩
  · have hok := cs_ok hto Hok.out q hqn
    have hbd := cs_bd hto q hqn
    have hfa := (cs_facts (stoTo_front hto) q hqn).2
    have hv : exV G n (q : Int) = stOf (csF G q) := by unfold exV; rw [ht, if_pos rfl, Int.toNat_natCast, hfa]
    rw [hv] at Hans
    rw [ht] at Hans
    have Hv : Hid (exV G n (q : Int) = stOf (csF G q) ∧ exOk G n (q : Int) = true) := ⟨hv, ht⟩
    have Hst : Hid (Calls Try.prog 34 #[.pointer p] w1 fun e w' => ∃ v, e = .returned v ∧ OwnE w' w1.heap.size v (stOf (csF G q)) ∧ Below w1.heap.size w1 w') := state_any w1 hL hok (by omega)
    have Hal : Hid (AllOk (stOf (csF G q))) := (stOf_ok hok).2.2
    clear hok hbd hfa hv hL hto ht
    generalize stOf (csF G q) = sl at *
    go_wp2_with fail
    refine (Hst.out).mono ?_
    rintro e w2 ⟨v, rfl, ho, hb2⟩
    obtain ⟨ga, gc, rfl, _⟩ := ho.sl Hal.out.at
    have hw2 := hw1.trans (hb2.mono hw1.size)
    have hfin : Hid (AnsE (exV G n (q : Int)) (exOk G n (q : Int)) w (.returned (.tuple #[.slice ga sl.length gc, .bool true])) w2) := by
      unfold Hid
      rw [Hv.out.1, Hv.out.2]
      exact Hans.out w2 _ hw2 (ho.base_le hw1.size)
    clear Hans
    go_wp2
    exact bodyPost_ret (v := .tuple #[.slice ga sl.length gc, .bool true]) (by simp [results, Try.results7, go_sem]) rfl hfin.out
  · have hv : exV G n g = [] := by unfold exV; rw [hf]; rfl
    rw [hv, hf] at Hans
    have hfin : Hid (AnsE (exV G n g) (exOk G n g) w (.returned (.tuple #[.slice none 0 0, .bool false])) w1) := by
      unfold Hid
      rw [hv, hf]
      exact Hans.out w1 (.slice none 0 0) hw1 ⟨rfl, Or.inl ⟨rfl, rfl⟩⟩
    clear hf hv Hans
    go_wp2
    exact bodyPost_ret (v := .tuple #[.slice none 0 0, .bool false]) (by simp [results, Try.results7, go_sem]) rfl hfin.out
end Go.Proofs.Ytgocjlpbokhoeaa
namespace Go.Proofs.Ytgocjlpbokhoeaa
open Go.RowKit
theorem lkL_lkF {G : Nat → Grp} {n : Nat} {kind key : ByteArray} (h : Front G n) : ∀ i, i < n → lkL (csF G i) ⟨kind, key, ⟨#[]⟩⟩ = lkF G kind key (i + 1) i := by
  intro i
  induction i using Nat.strongRecOn with
  | _ i ih =>
    intro hi
    unfold lkF
    rcases posI_look (G i).sets ⟨kind, key, ⟨#[]⟩⟩ with ⟨h1, h2⟩ | ⟨e, h1, h2, h3⟩
    · rw [if_neg (by omega)]
      by_cases hp : (G i).par < 0
      · rw [if_pos hp, (cs_root hp).1]
        unfold lkL
        rw [h1]
        rfl
      · obtain ⟨hlt, e1, _, _⟩ := cs_node h hi hp
        rw [if_neg hp, e1]
        unfold lkL
        rw [h1]
        simp only []
        rw [ih _ hlt (by omega), lkF_fuel h i _ (by omega) hlt]
    · rw [if_pos h2, h3]
      have : ∃ R, csF G i = (G i).sets :: R := by
        by_cases hp : (G i).par < 0
        · exact ⟨[], (cs_root hp).1⟩
        · exact ⟨_, (cs_node h hi hp).2.1⟩
      obtain ⟨R, hR⟩ := this
      rw [hR]
      unfold lkL
      rw [h1]
set_option maxRecDepth 100000 in
set_option maxHeartbeats 1000000 in
theorem lookI_sl {a : Option Addr} {n cap : Nat} {G : Nat → Grp} (g : Int) (kind key : ByteArray) (w : World) (h : SlT w a n cap G) :
    Calls Try.prog 11 #[.agg #[.slice a n cap], .int .i64 g, .string kind, .string key] w (LkPost w G n g kind key) := by
  have hb0 : ∀ o, Below w.heap.size w (w.alloc o) := fun o => (Below.refl _ _).alloc (Nat.le_refl _) _
  have Hok : Hid (∀ i, i < n → AllOk (G i).sets) := h.oksets
  go_enter Try.func11, Try.ntmps11
  go_wp2_with fail
  refine (layerAt_sl g _ (h.below (hb0 _))).mono ?_
  rintro e w1 ⟨hb1, hp⟩
  have hw1 := (hb0 (.cells #[.slice a n cap] 25)).trans (hb1.mono (by simp))
  clear hb1
  rcases hp with ⟨ht, q, p, rfl, hqn, hto, rfl, hL⟩ | ⟨hf, rfl⟩
  · have hok := cs_ok hto Hok.out q hqn
    have hbd := cs_bd hto q hqn
    have hv := lkL_lkF (kind := kind) (key := key) (stoTo_front hto) q hqn
    have Hend : Hid (∀ W' b, b = (!((lkF G kind key (q + 1) q).1.toList == [])) → Below w.heap.size w W' → LkPost w G n (q : Int) kind key (.returned (.tuple #[.string (lkF G kind key (q + 1) q).1, .int .i64 ((lkF G kind key (q + 1) q).2 : Nat), .bool b])) W') := fun W' b hbb hbw => ⟨hbw, Or.inl ⟨ht, q, rfl, by rw [hbb]⟩⟩
    have Hf : Hid (Calls Try.prog 35 #[.pointer p, slotV ⟨kind, key, ⟨#[]⟩⟩] w1 fun e w' => e = .returned (.tuple #[.string (lkF G kind key (q + 1) q).1, .int .i64 ((lkF G kind key (q + 1) q).2 : Nat)]) ∧ Grw w1 w') := by
      have := findL_any (csF G q) (.pointer p) ⟨kind, key, ⟨#[]⟩⟩ w1 hL hok.alls (by omega)
      rw [hv] at this
      exact this
    clear hok hbd hv hL hto ht
    generalize (lkF G kind key (q + 1) q).1 = id at *
    generalize (lkF G kind key (q + 1) q).2 = vn at *
    go_wp2_with fail
    refine (Hf.out).mono ?_
    rintro e w2 ⟨rfl, hg2⟩
    have hw2 := hw1.trans (hg2.below.mono hw1.size)
    cases he : (id.toList == [])
    · have hfin : Hid (_) := Hend.out w2 true (by rw [he]; rfl) hw2
      clear Hend
      go_wp2
      exact bodyPost_ret (v := .tuple #[.string id, .int .i64 (vn : Int), .bool true]) (by simp [results, Try.results11, go_sem]) rfl hfin.out
    · have hfin : Hid (_) := Hend.out w2 false (by rw [he]; rfl) hw2
      clear Hend
      go_wp2
      exact bodyPost_ret (v := .tuple #[.string id, .int .i64 (vn : Int), .bool false]) (by simp [results, Try.results11, go_sem]) rfl hfin.out
  · have Hf : Hid (exOk G n g = false) := hf
    clear hf
    go_wp2
    exact bodyPost_ret (v := .tuple #[.string ⟨#[]⟩, .int .i64 0, .bool false]) (by simp [results, Try.results11, go_sem]) rfl ⟨hw1, Or.inr ⟨Hf.out, rfl⟩⟩
end Go.Proofs.Ytgocjlpbokhoeaa
namespace Go.Proofs.Ytgocjlpbokhoeaa
open Go.RowKit
set_option maxHeartbeats 400000 in
theorem storeI_sl {a : Option Addr} {n cap : Nat} {G : Nat → Grp} (w : World) (h : SlT w a n cap G) :
    Calls Try.prog 8 #[.agg #[.slice a n cap]] w fun e w' => e = .returned (.bool (stoB G n)) ∧ Below w.heap.size w w' := by
  have hb0 : ∀ o, Below w.heap.size w (w.alloc o) := fun o => (Below.refl _ _).alloc (Nat.le_refl _) _
  go_enter Try.func8, Try.ntmps8
  go_wp2_with fail
  refine (layersOf_sl _ (h.below (hb0 _))).mono ?_
  rintro e w1 ⟨hb1, hp⟩
  have hw1 := (hb0 (.cells #[.slice a n cap] 25)).trans (hb1.mono (by simp))
  rcases hp with ⟨ht, la, lc, X, rfl, _, _⟩ | ⟨hf, rfl⟩
  · have hv : Hid (stoB G n = true) := ht
    clear ht
    go_wp2
    go_ret
    exact ⟨ret_bool hv.out.symm, hw1⟩
  · have hv : Hid (stoB G n = false) := hf
    clear hf
    go_wp2
    go_ret
    exact ⟨ret_bool hv.out.symm, hw1⟩
end Go.Proofs.Ytgocjlpbokhoeaa
namespace Go.Proofs.Ytgocjlpbokhoeaa
open Go.RowKit
theorem equal_zero (a a' : Option Addr) (cap cap' : Nat) (w : World) :
    Calls Try.prog 23 #[.slice a 0 cap, .slice a' 0 cap'] w fun e w' => e = .returned (.bool true) ∧ w' = w := by
  go_enter Try.func23, Try.ntmps23
  go_wp2
  refine wp_loop_rounds 1 ?_
  rw [rounds_succ]
  go_wp2
  go_ret
  exact ⟨rfl, rfl⟩
set_option maxRecDepth 100000 in
set_option maxHeartbeats 1000000 in
theorem equal_any (b off cap b' off' cap' : Nat) (l : List Ent) (w : World) (hn : l.length ≤ 100000)
    (c1 : ∀ i, i < l.length → w.cell? ⟨b, off + i * 3, none⟩ = some (.string (eAt l i).ty)) (c2 : ∀ i, i < l.length → w.cell? ⟨b, off + i * 3 + 1, none⟩ = some (.string (eAt l i).key)) (c3 : ∀ i, i < l.length → w.cell? ⟨b, off + i * 3 + 2, none⟩ = some (.string (eAt l i).id))
    (d1 : ∀ i, i < l.length → w.cell? ⟨b', off' + i * 3, none⟩ = some (.string (eAt l i).ty)) (d2 : ∀ i, i < l.length → w.cell? ⟨b', off' + i * 3 + 1, none⟩ = some (.string (eAt l i).key)) (d3 : ∀ i, i < l.length → w.cell? ⟨b', off' + i * 3 + 2, none⟩ = some (.string (eAt l i).id)) :
    Calls Try.prog 23 #[.slice (some ⟨b, off, none⟩) l.length cap, .slice (some ⟨b', off', none⟩) l.length cap'] w fun e w' => e = .returned (.bool true) ∧ Dr w w' := by
  go_enter Try.func23, Try.ntmps23
  go_wp2_with fail
  go_loopw [5] (fun iv wr => ∃ k : Nat, k ≤ l.length ∧ iv = .int .i64 (k : Int) ∧ Dr w wr) (fun iv _ => l.length - (intOf iv).toNat)
  case atStart => exact ⟨0, Nat.zero_le _, rfl, Dr.refl _⟩
  case round =>
    obtain ⟨k, hk, rfl, hdr⟩ := hrel
    by_cases hlt : k < l.length
    · have a1 := (hdr.cell _).trans (c1 k hlt)
      have a2 := (hdr.cell _).trans (c2 k hlt)
      have a3 := (hdr.cell _).trans (c3 k hlt)
      have e1 := (hdr.cell _).trans (d1 k hlt)
      have e2 := (hdr.cell _).trans (d2 k hlt)
      have e3 := (hdr.cell _).trans (d3 k hlt)
      clear c1 c2 c3 d1 d2 d3
      generalize eAt l k = en at *
      go_wp2_with fail
      go_region
      all_goals
        go_wp2
        exact ⟨⟨k + 1, by omega, by go_num, (by first | exact hdr.drewN 1 | exact hdr.drewN 2)⟩, by simp [intOf]; omega⟩
    · go_wp2
      go_ret
      exact ⟨rfl, hdr⟩
theorem same_sl {a a' : Option Addr} {cap cap' : Nat} {l : List Ent} (w : World) (hn : l.length ≤ 100000) (h : SlE w a cap l) (h' : SlE w a' cap' l) :
    Calls Try.prog 9 #[.slice a l.length cap, .slice a' l.length cap'] w fun e w' => e = .returned (.bool true) ∧ Below w.heap.size w w' := by
  have heq : Hid (Calls Try.prog 23 #[.slice a l.length cap, .slice a' l.length cap'] w fun e w' => e = .returned (.bool true) ∧ Below w.heap.size w w') := by
    rcases h.cells with rfl | ⟨b, off, rfl, _, c1, c2, c3⟩
    · refine (equal_zero a a' cap cap' w).mono ?_
      rintro e w' ⟨rfl, rfl⟩
      exact ⟨rfl, Below.refl _ _⟩
    · rcases h'.cells with rfl | ⟨b', off', rfl, _, d1, d2, d3⟩
      · refine (equal_zero _ a' cap cap' w).mono ?_
        rintro e w' ⟨rfl, rfl⟩
        exact ⟨rfl, Below.refl _ _⟩
      · refine (equal_any b off cap b' off' cap' l w hn c1 c2 c3 d1 d2 d3).mono ?_
        rintro e w' ⟨rfl, hd⟩
        exact ⟨rfl, hd.below _⟩
  clear h h'
  go_enter Try.func9, Try.ntmps9
  go_wp2_with fail
  refine (heq.out).mono ?_
  rintro e w' ⟨rfl, hb⟩
  go_wp2
  go_ret
  exact ⟨rfl, hb⟩
end Go.Proofs.Ytgocjlpbokhoeaa
