import Derived.Test.YtgocjlpbokhoeaaProg
import Derived.Test.YtgocjlpbokhoeaaEntM
import Derived.Deep.RegionWith
import Derived.Test.YtgocjlpbokhoeaaStoM
import Derived.Test.YtgocjlpbokhoeaaOwnM
import Derived.Test.YtgocjlpbokhoeaaAnEM
import Derived.Lib.ItoaLen
import Derived.Deep.DeepFit
namespace Go.Proofs.Ytgocjlpbokhoeaa
open Go.RowKit
theorem eqTo_list {l l' : List Ent} (hl : l'.length = l.length) (h : ∀ i, i < l.length → eAt l i = eAt l' i) : l = l' := by
  refine List.ext_getElem hl.symm fun i h1 h2 => ?_
  rw [← eAt_get l i h1, ← eAt_get l' i h2]
  exact h i h1
theorem ba_ofL {a b : ByteArray} (h : a.toList = b.toList) : a = b := by
  rw [ByteArray.toList_eq, ByteArray.toList_eq] at h
  cases a
  cases b
  simp_all
theorem eqP_zero (a a' : Option Addr) (cap cap' : Nat) (w : World) :
    Calls Try.prog 23 #[.slice a 0 cap, .slice a' 0 cap'] w fun e w' => e = .returned (.bool true) ∧ w' = w := by
  go_enter Try.func23, Try.ntmps23
  go_wp2
  refine wp_loop_rounds 1 ?_
  rw [rounds_succ]
  go_wp2
  go_ret
  exact ⟨rfl, rfl⟩
theorem eqP_len (a a' : Option Addr) (n n' cap cap' : Nat) (w : World) (h : n ≠ n') :
    Calls Try.prog 23 #[.slice a n cap, .slice a' n' cap'] w fun e w' => e = .returned (.bool false) ∧ w' = w := by
  have h1 : ¬ ((n : Int) = (n' : Int)) := by omega
  go_enter Try.func23, Try.ntmps23
  go_wp2
  go_ret
  exact ⟨rfl, rfl⟩
def EqPost (l l' : List Ent) (w : World) (e : Ending) (w' : World) : Prop := (∃ q, e = .returned (.bool q) ∧ (q = true ↔ l = l')) ∧ Dr w w'
set_option maxRecDepth 100000 in
set_option maxHeartbeats 1000000 in
theorem eqP_any (b off cap b' off' cap' : Nat) (l l' : List Ent) (w : World) (hn : l.length ≤ 100000) (hl : l'.length = l.length)
    (c1 : ∀ i, i < l.length → w.cell? ⟨b, off + i * 3, none⟩ = some (.string (eAt l i).ty)) (c2 : ∀ i, i < l.length → w.cell? ⟨b, off + i * 3 + 1, none⟩ = some (.string (eAt l i).key)) (c3 : ∀ i, i < l.length → w.cell? ⟨b, off + i * 3 + 2, none⟩ = some (.string (eAt l i).id))
    (d1 : ∀ i, i < l'.length → w.cell? ⟨b', off' + i * 3, none⟩ = some (.string (eAt l' i).ty)) (d2 : ∀ i, i < l'.length → w.cell? ⟨b', off' + i * 3 + 1, none⟩ = some (.string (eAt l' i).key)) (d3 : ∀ i, i < l'.length → w.cell? ⟨b', off' + i * 3 + 2, none⟩ = some (.string (eAt l' i).id)) :
    Calls Try.prog 23 #[.slice (some ⟨b, off, none⟩) l.length cap, .slice (some ⟨b', off', none⟩) l.length cap'] w (EqPost l l' w) := by
  go_enter Try.func23, Try.ntmps23
  go_wp2_with fail
  go_loopw [5] (fun iv wr => ∃ k : Nat, k ≤ l.length ∧ iv = .int .i64 (k : Int) ∧ Hid (∀ i, i < k → eAt l i = eAt l' i) ∧ Dr w wr) (fun iv _ => l.length - (intOf iv).toNat)
  case atStart => exact ⟨0, Nat.zero_le _, rfl, fun _ hi => absurd hi (Nat.not_lt_zero _), Dr.refl _⟩
  case round =>
    obtain ⟨k, hk, rfl, hto, hdr⟩ := hrel
    by_cases hlt : k < l.length
    · have a1 := (hdr.cell _).trans (c1 k hlt)
      have a2 := (hdr.cell _).trans (c2 k hlt)
      have a3 := (hdr.cell _).trans (c3 k hlt)
      have e1 := (hdr.cell _).trans (d1 k (by omega))
      have e2 := (hdr.cell _).trans (d2 k (by omega))
      have e3 := (hdr.cell _).trans (d3 k (by omega))
      clear c1 c2 c3 d1 d2 d3
      by_cases he : eAt l k = eAt l' k
      · have hto2 : Hid (∀ i, i < k + 1 → eAt l i = eAt l' i) := fun i hi => by
          by_cases e : i = k
          · subst e; exact he
          · exact hto.out i (by omega)
        rw [← he] at e1 e2 e3
        clear he hto
        generalize eAt l k = en at *
        go_wp2_with fail
        go_region
        all_goals
          go_wp2
          exact ⟨⟨k + 1, by omega, by go_num, hto2, (by first | exact hdr.drewN 1 | exact hdr.drewN 2)⟩, by simp [intOf]; omega⟩
      · have hno : Hid (false = true ↔ l = l') := ⟨fun h => (by cases h), fun h => absurd (by rw [h]) he⟩
        clear hto
        generalize eAt l k = x at *
        generalize eAt l' k = y at *
        obtain ⟨t1, k1, i1⟩ := x
        obtain ⟨t2, k2, i2⟩ := y
        simp only at a1 a2 a3 e1 e2 e3
        by_cases ht : t1.toList = t2.toList
        · have ht := ba_ofL ht
          subst ht
          by_cases hk : k1.toList = k2.toList
          · have hk := ba_ofL hk
            subst hk
            by_cases hi : i1.toList = i2.toList
            · have hi := ba_ofL hi
              subst hi
              exact absurd rfl he
            · have hi2 : (i1.toList == i2.toList) = false := by simpa using hi
              clear he
              go_wp2_with fail
              go_region
              all_goals
                go_wp2
                go_ret
                exact ⟨⟨false, rfl, hno.out⟩, (by first | exact hdr.drewN 1 | exact hdr.drewN 2)⟩
          · have hk2 : (k1.toList == k2.toList) = false := by simpa using hk
            clear he
            go_wp2_with fail
            go_region
            all_goals
              go_wp2
              go_ret
              exact ⟨⟨false, rfl, hno.out⟩, (by first | exact hdr.drewN 1 | exact hdr.drewN 2)⟩
        · have ht2 : (t1.toList == t2.toList) = false := by simpa using ht
          clear he
          go_wp2_with fail
          go_region
          all_goals
            go_wp2
            go_ret
            exact ⟨⟨false, rfl, hno.out⟩, (by first | exact hdr.drewN 1 | exact hdr.drewN 2)⟩
    · have hkn : k = l.length := by omega
      have hyes : Hid (l = l') := eqTo_list hl (fun i hi => hto.out i (by omega))
      go_wp2
      go_ret
      exact ⟨⟨true, rfl, fun _ => hyes.out, fun _ => rfl⟩, hdr⟩
theorem eqP_sl {a a' : Option Addr} {cap cap' : Nat} {l l' : List Ent} (w : World) (hn : l.length ≤ 100000) (h : SlE w a cap l) (h' : SlE w a' cap' l') :
    Calls Try.prog 23 #[.slice a l.length cap, .slice a' l'.length cap'] w (EqPost l l' w) := by
  by_cases hl : l'.length = l.length
  · rcases h.cells with h0 | ⟨b, off, rfl, _, c1, c2, c3⟩
    · have h0' : l' = [] := List.eq_nil_of_length_eq_zero (by rw [hl, h0]; rfl)
      rw [h0, h0']
      refine (eqP_zero a a' cap cap' w).mono ?_
      rintro e w' ⟨rfl, rfl⟩
      exact ⟨⟨true, rfl, fun _ => rfl, fun _ => rfl⟩, Dr.refl _⟩
    · rcases h'.cells with h0 | ⟨b', off', rfl, _, d1, d2, d3⟩
      · have h0' : l = [] := List.eq_nil_of_length_eq_zero (by rw [← hl, h0]; rfl)
        rw [h0, h0']
        refine (eqP_zero _ a' cap cap' w).mono ?_
        rintro e w' ⟨rfl, rfl⟩
        exact ⟨⟨true, rfl, fun _ => rfl, fun _ => rfl⟩, Dr.refl _⟩
      · rw [hl]
        exact eqP_any b off cap b' off' cap' l l' w hn hl c1 c2 c3 d1 d2 d3
  · refine (eqP_len a a' l.length l'.length cap cap' w (fun e => hl e.symm)).mono ?_
    rintro e w' ⟨rfl, rfl⟩
    exact ⟨⟨false, rfl, fun h => (by cases h), fun e => absurd (by rw [e]) hl⟩, Dr.refl _⟩
end Go.Proofs.Ytgocjlpbokhoeaa
namespace Go.Proofs.Ytgocjlpbokhoeaa
open Go.RowKit
def mkGr (n : Nat) : Array Value := madeCells #[.int .i64 0, .slice none 0 0] (n * 2)
theorem mkGr_size (n : Nat) : (mkGr n).size = n * 2 := size_madeCells _ _
theorem Try.infoGroup : (Try.prog.info? 46).map (fun i => (i.zero, i.size, i.bytes)) = some (some (.agg #[.int .i64 0, .slice none 0 0]), 2, 32) := by kernel_rfl
end Go.Proofs.Ytgocjlpbokhoeaa
