import Derived.Test.YtlopjfhdhkonbaaMp
namespace Go.Proofs.Ytlopjfhdhkonbaa
open Go.RowKit Go.Maps Go.ChangeMaps

set_option maxHeartbeats 1600000 in
theorem find_zero (m : Nat) (Kn : ByteArray → Bool) (V : ByteArray → Int) (S : Nat → ByteArray) (a : Option Addr) (cap : Nat) (w : World) :
    Calls Try.prog 38 #[.map (some m), .slice a 0 cap] w (FindPost w Kn V S 0) := by
  have hmk := make_find 0 (by decide) w
  simp only [Int.ofNat_zero] at hmk
  go_enter Try.func38, Try.ntmps38
  go_wp2
  clear hmk
  refine wp_loop_rounds 1 ?_
  rw [rounds_succ]
  go_wp2
  refine bodyPost_ret (v := .tuple #[.slice (some ⟨w.heap.size, 0, none⟩) 0 0, .bool true]) (by simp [results, Try.results38, go_sem]) rfl ⟨(Below.refl _ _).alloc (Nat.le_refl _) _, Or.inl ⟨rfl, _, rfl, OwnI.made w _ 0 _ (by decide) (size_madeCells _ _) (Nat.le_refl _) _⟩⟩

set_option maxHeartbeats 1600000 in
theorem find_any (m n : Nat) (Kn : ByteArray → Bool) (V : ByteArray → Int) (S : Nat → ByteArray) (b off k cap : Nat) (w : World) (hm : MapAt w m n Kn V) (hk : k ≤ 1048576) (hb : b < w.heap.size)
    (hs : ∀ i, i < k → (S i).size ≤ maxLen) (hc : ∀ i, i < k → w.cell? ⟨b, off + i, none⟩ = some (.string (S i))) :
    Calls Try.prog 38 #[.map (some m), .slice (some ⟨b, off, none⟩) k cap] w (FindPost w Kn V S k) := by
  obtain ⟨i0, hi, hz0, hz1, hz2⟩ := info_parts Try.infoIntO
  have hmk := make_find k (by omega) w
  go_enter Try.func38, Try.ntmps38
  go_wp2
  clear hmk
  go_loopw [6, 16] (fun v i wr => ∃ j : Nat, j ≤ k ∧ i = .int .i64 j ∧ Hid (allTo Kn S j = true) ∧ OwnI wr w.heap.size v j (fun i => V (S i)) ∧ Below w.heap.size w wr) (fun _ i _ => k - (intOf i).toNat)
  case atStart => exact ⟨0, Nat.zero_le _, rfl, rfl, OwnI.made w _ k _ (by unfold maxLen; omega) (size_madeCells _ _) (Nat.le_refl _) _, (Below.refl _ _).alloc (Nat.le_refl _) _⟩
  case round =>
    obtain ⟨j, hj, rfl, hall, hown, hbel⟩ := hrel
    by_cases hlt : j < k
    · obtain ⟨D, hD, hK⟩ := hm.below hbel
      have hck : wr.cell? ⟨b, off + j, none⟩ = some (.string (S j)) := (hbel.cell (by exact hb)).trans (hc j hlt)
      have hkey : keyOf Try.prog 9 (.string (S j)) = some (.string (S j).data.toList) := Go.WideMaps.keyOf_string_mk Try.underlying9 (hs j hlt)
      have hhas : has D (.string (S j).data.toList) = Kn (S j) := (hK (S j)).1
      have hat0 : Hid (Kn (S j) = true → D.atKey (.string (S j).data.toList) (.lit (.int .i64 0)) = .lit (.int .i64 (V (S j)))) := (hK (S j)).2
      have hm1 : j + 1 ≤ maxLen := by unfold maxLen; omega
      have hm2 : (j + 1) * 8 ≤ 140737488355328 := by omega
      have hag : ∀ q, u6.ownBlock = some q → w.heap.size ≤ q := fun q hq => (World.ownsRow.lt hown q hq).1
      have hm3 : ∀ o, w.heap.size ≤ (wr.alloc o).heap.size := fun o => by have := hbel.size; simp; omega
      clear hK
      cases hkn : Kn (S j)
      · rw [hkn] at hhas
        have hv : Hid (allTo Kn S k = false) := allTo_le Kn S k j hlt hkn
        go_wp2_with (at_lookup; refine wpList_lookup_own_ok_int _ rfl _ _ 56 rfl 9 3 .i64 lawStr Try.underlying56 Try.underlying3 (zeroInt _) m n D rfl hD _ _ rfl hkey ?_; intro c hat hwc; rw [hhas])
        refine bodyPost_ret (v := .tuple #[.slice none 0 0, .bool false]) (by simp [results, Try.results38, go_sem]) rfl ⟨hbel, Or.inr ⟨hv.out, rfl⟩⟩
      · rw [hkn] at hhas
        have hall2 : Hid (allTo Kn S (j + 1) = true) := by unfold Hid allTo; rw [hall.out, hkn]; rfl
        have hat1 := hat0.out hkn
        go_wp2_with (first
          | (at_lookup; refine wpList_lookup_own_ok_int _ rfl _ _ 56 rfl 9 3 .i64 lawStr Try.underlying56 Try.underlying3 (zeroInt _) m n D rfl hD _ _ rfl hkey ?_; intro c hat hwc; rw [hhas]; have hcv : Hid (c = V (S j)) := by (have := hat.symm.trans hat1; simpa [Hid] using this))
          | (at_builtin; refine wpList_append_own _ rfl _ _ 52 rfl w.heap.size 3 i0 (.int .i64 0) 1 8 Try.underlying52 hi hz0 hz1 hz2 rfl (by decide) _ _ _ rfl (World.ownsRow.alloc hown _) ⟨wr.heap.size, 0, none⟩ 1 1 [.int .i64 c] rfl rfl (one_cellsI _ _ _) (one_oneI _) hm1 hm2 (hm3 _) ?_; intro v2 w2 hown2 hgrow2 _))
        go_roundw
        case rel => exact ⟨j + 1, by omega, by go_num, hall2, OwnI.snoc hown2 hcv.out, (hbel.alloc hbel.size _).grown hgrow2 (hm3 _) hag⟩
        case measure => simp [intOf]; omega
    · have hjk : j = k := by omega
      subst hjk
      go_wp2
      refine bodyPost_ret (v := .tuple #[u6, .bool true]) (by simp [results, Try.results38, go_sem]) rfl ⟨hbel, Or.inl ⟨hall.out, _, rfl, hown⟩⟩

theorem find_sl {m n : Nat} {Kn : ByteArray → Bool} {V : ByteArray → Int} {S : Nat → ByteArray} {a : Option Addr} {k cap : Nat} (w : World) (hm : MapAt w m n Kn V) (hk : k ≤ 1048576) (hs : SlS w a k cap S) :
    Calls Try.prog 38 #[.map (some m), .slice a k cap] w (FindPost w Kn V S k) := by
  rcases hs.cells with rfl | ⟨b, off, rfl, hb, hc⟩
  · exact find_zero m Kn V S a cap w
  · exact find_any m n Kn V S b off k cap w hm hk hb hs.size hc

theorem knows_sl {m n : Nat} {Kn : ByteArray → Bool} {V : ByteArray → Int} {S : Nat → ByteArray} {a : Option Addr} {k cap : Nat} (w : World) (hm : MapAt w m n Kn V) (hk : k ≤ 1048576) (hs : SlS w a k cap S) :
    Calls Try.prog 55 #[.map (some m), .slice a k cap] w fun e w' => e = .returned (.bool (allTo Kn S k)) ∧ Below w.heap.size w w' := by
  go_enter Try.func55, Try.ntmps55
  go_wp2_with fail
  refine (find_sl w hm hk hs).mono ?_
  rintro e w1 ⟨hb1, hpost⟩
  rcases hpost with ⟨ht, v, rfl, _⟩ | ⟨hf, rfl⟩
  · have hv : Hid (true = allTo Kn S k) := ht.symm
    clear ht
    go_wp2
    go_ret
    exact ⟨ret_bool hv.out, hb1⟩
  · have hv : Hid (false = allTo Kn S k) := hf.symm
    clear hf
    go_wp2
    go_ret
    exact ⟨ret_bool hv.out, hb1⟩
end Go.Proofs.Ytlopjfhdhkonbaa
