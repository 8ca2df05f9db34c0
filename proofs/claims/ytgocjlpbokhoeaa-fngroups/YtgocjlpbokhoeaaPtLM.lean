import Derived.Test.YtgocjlpbokhoeaaSetS
import Derived.Deep.AppendSrc
import Derived.Test.YtgocjlpbokhoeaaDlPM
namespace Go.Proofs.Ytgocjlpbokhoeaa
open Go.RowKit
theorem encL_one (l : List Ent) (u : Value) (h : u ∈ encL l) : u.oneCell' = true := by
  obtain ⟨x, _, hx⟩ := List.mem_flatMap.1 h
  exact encE_one x u hx
theorem encL_at (l : List Ent) (w : World) (b off : Nat)
    (c1 : ∀ i, i < l.length → w.cell? ⟨b, off + i * 3, none⟩ = some (.string (eAt l i).ty)) (c2 : ∀ i, i < l.length → w.cell? ⟨b, off + i * 3 + 1, none⟩ = some (.string (eAt l i).key)) (c3 : ∀ i, i < l.length → w.cell? ⟨b, off + i * 3 + 2, none⟩ = some (.string (eAt l i).id))
    (j : Nat) (u : Value) (h : (encL l)[j]? = some u) : w.cell? ((⟨b, off, none⟩ : Addr).add j) = some u := by
  have hj : j < l.length * 3 := by
    rcases Nat.lt_or_ge j (l.length * 3) with h' | h'
    · exact h'
    · rw [List.getElem?_eq_none (by rw [encL_len]; exact h')] at h; cases h
  have hadd : (⟨b, off, none⟩ : Addr).add j = ⟨b, off + j, none⟩ := by unfold Addr.add; split <;> simp_all
  rw [hadd]
  have hi : j / 3 < l.length := by omega
  have hg := encL_get l (j / 3) hi
  rcases (by omega : j = j / 3 * 3 ∨ j = j / 3 * 3 + 1 ∨ j = j / 3 * 3 + 2) with e | e | e
  · rw [e] at h ⊢
    rw [hg.1] at h; cases h
    exact c1 _ hi
  · rw [e] at h ⊢
    rw [hg.2.1] at h; cases h
    rw [← Nat.add_assoc]; exact c2 _ hi
  · rw [e] at h ⊢
    rw [hg.2.2] at h; cases h
    rw [← Nat.add_assoc]; exact c3 _ hi
set_option maxHeartbeats 1000000 in
theorem copy_some (ad : Addr) (cap : Nat) (l : List Ent) (w : World) (hr : l.length ≤ 1000000) (hc : ∀ j u, (encL l)[j]? = some u → w.cell? (ad.add j) = some u) (hlt : l ≠ [] → ad.block < w.heap.size) :
    Calls Try.prog 22 #[.slice (some ad) l.length cap] w fun e w' => ∃ v, e = .returned v ∧ OwnE w' w.heap.size v l ∧ Below w.heap.size w w' := by
  obtain ⟨i0, hi, hz0, hz1, hz2⟩ := info_parts Try.infoEntry
  have hown : (w.alloc (.cells #[] 38)).ownsRow w.heap.size 38 3 (.slice (some ⟨w.heap.size, 0, none⟩) 0 0) 0 [] := ⟨rfl, Or.inr ⟨w.heap.size, 0, #[], rfl, Nat.le_refl _, by show (w.heap.push _)[w.heap.size]? = _; simp, Nat.le_refl _, by decide, rfl, rfl⟩⟩
  have hnews : ∀ j u, (encL l)[j]? = some u → (w.alloc (.cells #[] 38)).cell? (ad.add j) = some u := fun j u h => by
    have hne : l ≠ [] := by rintro rfl; simp [encL] at h
    rw [World.cell?_alloc_lt _ _ _ (by have := hlt hne; unfold Addr.add; split <;> simp_all)]
    exact hc j u h
  have hm1 : 0 + l.length ≤ maxLen := by unfold maxLen; omega
  have hm2 : (0 + l.length) * 48 ≤ 140737488355328 := by omega
  have hm3 : w.heap.size ≤ (w.alloc (.cells #[] 38)).heap.size := by simp
  clear hc hlt hr
  go_enter Try.func22, Try.ntmps22
  go_wp2_with (at_builtin; refine wpList_append_own _ rfl _ _ 26 rfl w.heap.size 38 i0 (.agg #[.string ByteArray.empty, .string ByteArray.empty, .string ByteArray.empty]) 3 48 Try.underlying26 hi hz0 hz1 hz2 rfl (by decide) _ _ _ rfl hown ad l.length cap (encL l) rfl (encL_len l) hnews (encL_one l) hm1 hm2 hm3 ?_; intro v2 w2 hown2 hgrow2 _)
  have hbel : Below w.heap.size w w2 := ((Below.refl _ _).alloc (Nat.le_refl _) _).grown hgrow2 hm3 (fun k hk => by cases hk; exact Nat.le_refl _)
  have hown3 : OwnE w2 w.heap.size v2 l := by
    have := hown2
    simp only [Nat.zero_add, List.nil_append] at this
    exact this
  clear hown2 hgrow2 hown hnews
  go_wp2
  go_ret
  exact ⟨_, rfl, hown3, hbel⟩
set_option maxHeartbeats 1000000 in
theorem copy_nil (cap : Nat) (w : World) :
    Calls Try.prog 22 #[.slice none 0 cap] w fun e w' => ∃ v, e = .returned v ∧ OwnE w' w.heap.size v [] ∧ Below w.heap.size w w' := by
  obtain ⟨i0, hi, hz0, hz1, hz2⟩ := info_parts Try.infoEntry
  have hap := fun ty => run_append_room_src (P := Try.prog) (w := w.alloc (.cells #[] 38)) 26 26 ty 38 i0 Try.underlying26 hi w.heap.size 0 0 0 (.slice none 0 cap) 0 [] (Src.ofNil _ Try.underlying26 cap) (Nat.le_refl _) (fun j hj => absurd hj (Nat.not_lt_zero _)) (fun j hj => absurd hj (Nat.not_lt_zero _))
  simp only [World.setCells, Nat.add_zero] at hap
  go_enter Try.func22, Try.ntmps22
  go_wp2
  go_ret
  exact ⟨_, rfl, ⟨rfl, Or.inr ⟨w.heap.size, 0, #[], rfl, Nat.le_refl _, by show (w.heap.push _)[w.heap.size]? = _; simp, Nat.le_refl _, by decide, rfl, rfl⟩⟩, (Below.refl _ _).alloc (Nat.le_refl _) _⟩
theorem copy_sl {a : Option Addr} {cap : Nat} {l : List Ent} (w : World) (hr : l.length ≤ 1000000) (h : SlE w a cap l) :
    Calls Try.prog 22 #[.slice a l.length cap] w fun e w' => ∃ v, e = .returned v ∧ OwnE w' w.heap.size v l ∧ Below w.heap.size w w' := by
  rcases h.cells with rfl | ⟨b, off, rfl, hb, c1, c2, c3⟩
  · cases a with
    | none => exact copy_nil cap w
    | some ad => exact copy_some ad cap [] w hr (fun j u h => by simp [encL] at h) (fun h => absurd rfl h)
  · exact copy_some _ cap l w hr (encL_at l w b off c1 c2 c3) (fun _ => hb)
end Go.Proofs.Ytgocjlpbokhoeaa
namespace Go.Proofs.Ytgocjlpbokhoeaa
open Go.RowKit
def patL (l ch : List Ent) : Nat → List Ent
  | 0 => l
  | k + 1 => setL (patL l ch k) (eAt ch k) false
theorem patL_len (l ch : List Ent) : ∀ k, (patL l ch k).length ≤ l.length + k
  | 0 => Nat.le_refl _
  | k + 1 => by have := patL_len l ch k; have := setL_len (patL l ch k) (eAt ch k) false; unfold patL; omega
theorem patL_ok {l ch : List Ent} (h : AllOk l) (hc : AllOk ch) : ∀ k, k ≤ ch.length → AllOk (patL l ch k)
  | 0, _ => h
  | k + 1, hk => (patL_ok h hc k (by omega)).set (hc.at k (by omega))
set_option maxRecDepth 100000 in
set_option maxHeartbeats 1000000 in
theorem l4Patch_sl {a : Option Addr} {cap : Nat} {l : List Ent} {ca : Option Addr} {cc : Nat} {ch : List Ent} (w : World) (hl : l.length ≤ 100000) (hcl : ch.length ≤ 100000) (h : SlE w a cap l) (hc : SlE w ca cc ch) :
    Calls Try.prog 41 #[.slice a l.length cap, .slice ca ch.length cc] w fun e w' => ∃ v, e = .returned v ∧ OwnE w' w.heap.size v (patL l ch ch.length) ∧ Below w.heap.size w w' := by
  have hok := h.ok
  have hcok := hc.ok
  go_enter Try.func41, Try.ntmps41
  go_wp2_with fail
  refine (copy_sl _ (by omega) h).mono ?_
  rintro e w1 ⟨v1, rfl, ho1, hb1⟩
  have Hok : Hid (_) := hok
  have Hcok : Hid (_) := hcok
  clear hok hcok
  go_wp2_with fail
  go_loopw [5, 6] (fun v i wr => ∃ k : Nat, k ≤ ch.length ∧ i = .int .i64 k ∧ OwnE wr w.heap.size v (patL l ch k) ∧ Below w.heap.size w wr) (fun _ i _ => ch.length - (intOf i).toNat)
  case atStart => exact ⟨0, Nat.zero_le _, rfl, ho1, hb1⟩
  case round =>
    clear ho1 hb1
    obtain ⟨k, hk, rfl, ho, hbel⟩ := hrel
    by_cases hlt : k < ch.length
    · obtain ⟨ga, gc, e1, hsl⟩ := ho.sl (patL_ok Hok.out Hcok.out k hk).at
      subst e1
      rcases hc.cells with rfl | ⟨b, off, rfl, hb, c1, c2, c3⟩
      · exact absurd hlt (Nat.not_lt_zero _)
      have a1 : wr.cell? ⟨b, off + k * 3, none⟩ = some (.string (eAt ch k).ty) := (hbel.cell (by exact hb)).trans (c1 k hlt)
      have a2 : wr.cell? ⟨b, off + k * 3 + 1, none⟩ = some (.string (eAt ch k).key) := (hbel.cell (by exact hb)).trans (c2 k hlt)
      have a3 : wr.cell? ⟨b, off + k * 3 + 2, none⟩ = some (.string (eAt ch k).id) := (hbel.cell (by exact hb)).trans (c3 k hlt)
      have hpl := patL_len l ch k
      have hst : Hid (setL (patL l ch k) (eAt ch k) false = patL l ch (k + 1)) := rfl
      clear c1 c2 c3
      go_wp2_with fail
      refine (set_sl (eAt ch k) false _ (by omega) hsl).mono ?_
      rintro e w2 ⟨v2, rfl, ho2, hb2⟩
      rw [hst.out] at ho2
      obtain ⟨ga2, gc2, e2, _⟩ := ho2.sl (patL_ok Hok.out Hcok.out (k + 1) hlt).at
      subst e2
      go_wp2
      go_roundw
      case rel => exact ⟨k + 1, by omega, by go_num, ho2.base_le hbel.size, hbel.trans (hb2.mono hbel.size)⟩
      case measure => simp [intOf]; omega
    · have hkn : ch.length = k := by omega
      subst hkn
      go_wp2
      go_ret
      exact ⟨_, rfl, ho, hbel⟩
end Go.Proofs.Ytgocjlpbokhoeaa
