/-
  impl's fits.
-/
import Derived.Test.YtepgmgkdhklfjaaGreatFtI
import Derived.Test.YtepgmgkdhklfjaaGreatSetA
namespace Go.Proofs.YtepgmgkdhklfjaaGreat
open Go.RowKit Go.Maps Go.ChangeMaps

set_option maxRecDepth 100000 in
set_option maxHeartbeats 1000000 in
theorem misf_any {a : Option Addr} {n cap m : Nat} {E : Nat → Ev} {ra : Option Addr} {nr rc bg : Nat} (x : Ent) (hx : x.id.size ≤ maxLen) (w : World) (h : SlV w a n cap E) (hm : MapAt w m n (knE E n) (posV E n)) (hg : ∀ o, w.cell? ⟨bg, o, none⟩ = (#[.slice a n cap, .map (some m), .slice ra nr rc] : Array Value)[o]?) (hbg : bg < w.heap.size) :
    Calls Tryz.prog 36 #[entV x, .pointer (some ⟨bg, 0, none⟩)] w fun e w' => e = .returned (.bool (!fit1 E n x)) ∧ Below w.heap.size w w' := by
  have hb0 : ∀ o, Below w.heap.size w (w.alloc o) := fun o => (Below.refl _ _).alloc (Nat.le_refl _) _
  have g0 : ∀ c o, (w.alloc c).cell? ⟨bg, o, none⟩ = (#[.slice a n cap, .map (some m), .slice ra nr rc] : Array Value)[o]? := fun c o => ((hb0 c).cell (by exact hbg)).trans (hg o)
  have hne : bg ≠ w.heap.size := by omega
  have k0 := g0 (.cells #[.string x.ty, .string x.key, .string x.id] 45) 0
  have k1 := g0 (.cells #[.string x.ty, .string x.key, .string x.id] 45) 1
  have k2 := g0 (.cells #[.string x.ty, .string x.key, .string x.id] 45) 2
  clear g0 hg
  go_enter Tryz.func36, Tryz.ntmps36
  go_wp2_with fail
  refine (hasE_any x hx _ (h.below (hb0 _)) (hm.below (hb0 _))).mono ?_
  rintro e w1 ⟨rfl, hb1⟩
  go_wp2
  go_ret
  exact ⟨rfl, (hb0 _).trans (hb1.mono (by simp))⟩

set_option maxRecDepth 100000 in
set_option maxHeartbeats 1000000 in
theorem idxM_any (b off cap : Nat) (l : List Ent) (E : Nat → Ev) (n bg : Nat) (w : World) (hn : l.length ≤ maxLen) (hb : b < w.heap.size)
    (HC : Hid (∀ W x, x ∈ l → Below w.heap.size w W → Calls Tryz.prog 36 #[entV x, .pointer (some ⟨bg, 0, none⟩)] W fun e w' => e = .returned (.bool (!fit1 E n x)) ∧ Below W.heap.size W w'))
    (h1 : ∀ i, i < l.length → w.cell? ⟨b, off + i * 3, none⟩ = some (.string (eAt l i).ty)) (h2 : ∀ i, i < l.length → w.cell? ⟨b, off + i * 3 + 1, none⟩ = some (.string (eAt l i).key)) (h3 : ∀ i, i < l.length → w.cell? ⟨b, off + i * 3 + 2, none⟩ = some (.string (eAt l i).id)) :
    Calls Tryz.prog 61 #[.slice (some ⟨b, off, none⟩) l.length cap, .func (.func 36) #[] #[.pointer (some ⟨bg, 0, none⟩)]] w fun e w' => ∃ z : Int, e = .returned (.int .i64 z) ∧ Hid (decide (0 ≤ z) = !fitTo E n l l.length) ∧ Below w.heap.size w w' := by
  unfold maxLen at hn
  go_enter Tryz.func61, Tryz.ntmps61
  go_wp2
  go_loopw [8] (fun i wr => ∃ k : Nat, k ≤ l.length ∧ i = .int .i64 k ∧ Hid (fitTo E n l k = true) ∧ Below w.heap.size w wr) (fun i _ => l.length - (intOf i).toNat)
  case atStart => exact ⟨0, Nat.zero_le _, rfl, rfl, Below.refl _ _⟩
  case round =>
    obtain ⟨k, hk, rfl, hto, hbel⟩ := hrel
    by_cases hlt : k < l.length
    · have a1 : wr.cell? ⟨b, off + k * 3, none⟩ = some (.string (eAt l k).ty) := (hbel.cell (by exact hb)).trans (h1 k hlt)
      have a2 : wr.cell? ⟨b, off + k * 3 + 1, none⟩ = some (.string (eAt l k).key) := (hbel.cell (by exact hb)).trans (h2 k hlt)
      have a3 : wr.cell? ⟨b, off + k * 3 + 2, none⟩ = some (.string (eAt l k).id) := (hbel.cell (by exact hb)).trans (h3 k hlt)
      have HX : Hid (Calls Tryz.prog 36 #[entV (eAt l k), .pointer (some ⟨bg, 0, none⟩)] wr fun e w' => e = .returned (.bool (!fit1 E n (eAt l k))) ∧ Below wr.heap.size wr w') := HC.out wr _ (eAt_mem l k hlt) hbel
      clear h1 h2 h3
      cases he : fit1 E n (eAt l k)
      case true =>
        have hto2 : Hid (fitTo E n l (k + 1) = true) := by unfold Hid; rw [fitTo, hto.out, he]; rfl
        rw [he] at HX
        go_wp2_with (go_at_call 36; refine (HX.out).mono ?_; rintro e w1 ⟨rfl, hb1⟩)
        go_roundw
        case rel => exact ⟨k + 1, by omega, by go_num, hto2, hbel.trans (hb1.mono hbel.size)⟩
        case measure => simp [intOf]; omega
      case false =>
        have hto2 : Hid (fitTo E n l l.length = false) := fitTo_le E n l l.length k hlt (by rw [fitTo, he, Bool.and_false])
        rw [he] at HX
        go_wp2_with (go_at_call 36; refine (HX.out).mono ?_; rintro e w1 ⟨rfl, hb1⟩)
        go_ret
        exact ⟨(k : Int), rfl, by unfold Hid; rw [hto2.out]; simp, hbel.trans (hb1.mono hbel.size)⟩
    · have hkn : l.length = k := by omega
      have hto2 : Hid (fitTo E n l l.length = true) := by rw [hkn]; exact hto
      clear h1 h2 h3 hto
      go_wp2
      go_ret
      exact ⟨-1, rfl, by unfold Hid; rw [hto2.out]; rfl, hbel⟩

set_option maxRecDepth 100000 in
set_option maxHeartbeats 2000000 in
theorem fits_sl {a : Option Addr} {n cap m : Nat} {E : Nat → Ev} {ra : Option Addr} {nr rc : Nat} {sa : Option Addr} {sc : Nat} {l : List Ent} (w : World) (h : SlV w a n cap E) (hm : MapAt w m n (knE E n) (posV E n)) (hs : SlE w sa sc l) :
    Calls Tryz.prog 20 #[.agg #[.slice a n cap, .map (some m), .slice ra nr rc], .slice sa l.length sc] w fun e w' => e = .returned (.bool (fitB E n l)) ∧ Below w.heap.size w w' := by
  have hb0 : ∀ o, Below w.heap.size w (w.alloc o) := fun o => (Below.refl _ _).alloc (Nat.le_refl _) _
  cases hst : stB l
  case false =>
    have Hz : Hid (fitB E n l = false) := by unfold Hid fitB; rw [hst, Bool.and_false]
    go_enter Tryz.func20, Tryz.ntmps20
    go_wp2_with (go_at_call 38; refine (stateI_sl _ (hs.below (hb0 _))).mono ?_; rintro e w1 ⟨rfl, hb1⟩; rw [hst])
    go_ret
    exact ⟨ret_bool Hz.out.symm, (hb0 _).trans (hb1.mono (by simp))⟩
  case true =>
    have Hz : Hid (fitB E n l = fitTo E n l l.length) := by unfold Hid fitB; rw [hst, Bool.and_true]
    have HCF : Hid (∀ W, Below (w.heap.size + 1) (w.alloc (.cells #[.slice a n cap, .map (some m), .slice ra nr rc] 51)) W → Calls Tryz.prog 39 #[.slice sa l.length sc, .func (.func 36) #[] #[.pointer (some ⟨w.heap.size, 0, none⟩)]] W fun e w' => e = .returned (.bool (!fitTo E n l l.length)) ∧ Below W.heap.size W w') := fun W hW => by
      have hwW : Below w.heap.size w W := (hb0 _).trans (hW.mono (by omega))
      have hsW : w.heap.size < W.heap.size := by have := hW.size; simp at this; omega
      have HI : Calls Tryz.prog 61 #[.slice sa l.length sc, .func (.func 36) #[] #[.pointer (some ⟨w.heap.size, 0, none⟩)]] W fun e w' => ∃ z : Int, e = .returned (.int .i64 z) ∧ Hid (decide (0 ≤ z) = !fitTo E n l l.length) ∧ Below W.heap.size W w' := by
        rcases (hs.below hwW).cells with rfl | ⟨b, off, rfl, hb, h1, h2, h3⟩
        · refine (idxF_zero sa sc _ W).mono ?_
          rintro e w' ⟨rfl, rfl⟩
          exact ⟨-1, rfl, rfl, Below.refl _ _⟩
        · exact idxM_any b off sc l E n w.heap.size W (Nat.le_trans hs.le hs.max) hb (fun W2 x hx hW2 => misf_any x (hs.ok x hx).2.2 W2 ((h.below hwW).below hW2) ((hm.below hwW).below hW2) (fun o => (hW2.cell (by exact hsW)).trans (box_cells hW o)) (Nat.lt_of_lt_of_le hsW hW2.size)) h1 h2 h3
      go_enter Tryz.func39, Tryz.ntmps39
      go_wp2_with fail
      refine HI.mono ?_
      rintro e w1 ⟨z, rfl, hz, hb1⟩
      go_wp2
      go_ret
      exact ⟨ret_bool hz.out, hb1⟩
    clear h hm
    generalize fitTo E n l l.length = ft at *
    go_enter Tryz.func20, Tryz.ntmps20
    go_wp2_with fail
    refine (stateI_sl _ (hs.below (hb0 _))).mono ?_
    rintro e w1 ⟨rfl, hb1⟩
    rw [hst]
    have hB1 := hb1.mono (B' := w.heap.size + 1) (by simp)
    have hw1 := (hb0 _).trans (hb1.mono (by simp))
    go_wp2_with fail
    refine (HCF.out _ hB1).mono ?_
    rintro e w2 ⟨rfl, hb2⟩
    go_wp2
    go_ret
    exact ⟨by first | exact ret_bool (by rw [Hz.out]; simp) | simp [Hz.out], hw1.trans (hb2.mono hw1.size)⟩
end Go.Proofs.YtepgmgkdhklfjaaGreat
