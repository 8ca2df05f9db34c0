import Derived.Test.YtihacnhmiopalaaDoorRdVT
namespace Go.Proofs.YtihacnhmiopalaaDoor
open Go.RowKit
set_option maxRecDepth 100000 in
set_option maxHeartbeats 1600000 in
theorem rdVal_gr (s : ByteArray) (w : World) (hs : s.size <= 1048576) (hm : MaxL w) (hgr : vGr s = true) :
  Calls Tryd.prog 43 #[.string s] w (ValPost s w) := by
 obtain ⟨i0, hi, hz0, hz1, hz2⟩ := info_parts Tryd.infoGrant
 have hok : vOk s = gAp s := by unfold vOk; rw [hgr]; rfl
 have hn : vN s = cN 44 s := by unfold vN; rw [hgr]; rfl
 have hv : vV s = ByteArray.empty := by unfold vV; rw [hgr]; rfl
 have hN := cN_le 44 s
 have hd' : (s.toList == [45]) = false := by
  rw [beq_eq_false_iff_ne]
  intro e
  have h1 : 1 < cN 58 s := by simpa [vGr] using hgr
  unfold cN at h1
  rw [<- ByteArray.toList_eq, e] at h1
  exact absurd h1 (by decide)
 have hcon : Hid (∀ W, Calls Tryd.prog 55 #[.string s, .string ⟨#[58]⟩] W fun e w' => e = .returned (.bool true) ∧ w' = W) := fun W => by
  have := Tryd.strings_Contains_one s 58 W
  rw [has_cN] at this
  have h2 : decide (1 < cN 58 s) = true := hgr
  rw [h2] at this
  exact this
 have hsl := split_sl 44 s w 9 hs
 have hspl : Hid (Calls Tryd.prog 40 #[.string s, .string ⟨#[44]⟩] w fun e w' => e = .returned (.slice (some ⟨w.heap.size, 0, none⟩) (cN 44 s) (cN 44 s)) ∧ w' = w.alloc (.cells ((cutB 44 s).map Value.string).toArray 9)) := split_any s 44 w hs hm
 have hgx : ∀ i, i < cN 44 s -> (w.alloc (.cells ((cutB 44 s).map Value.string).toArray 9)).cell? ⟨w.heap.size, i, none⟩ = some (.string (cS 44 s i)) := fun i hi => by
  rcases hsl.1.cells with h | ⟨b, off, e, _, hc⟩
  ·omega
  ·have e1 : w.heap.size = b := by injection e with e; injection e
   have e2 : (0 : Nat) = off := by injection e with e; injection e
   subst e1 e2
   have := hc i hi
   rwa [Nat.zero_add] at this
 clear hsl
 go_enter Tryd.func43, Tryd.ntmps43
 go_wp2_with fail
 refine (hcon.out _).mono ?_
 rintro e w ⟨rfl, rfl⟩
 go_wp2_with fail
 refine hspl.out.mono ?_
 rintro e w1 ⟨rfl, rfl⟩
 go_wp2_with fail
 go_loopw [5, 22] (fun v i wr => ∃ k : Nat, k <= cN 44 s ∧ i = .int .i64 k ∧ OwnG wr (w.heap.size + 1) v k (gMp s) (gLp s) ∧ Below (w.heap.size + 1) (w.alloc (.cells ((cutB 44 s).map Value.string).toArray 9)) wr ∧ Hid (gTp s k = true)) (fun _ i _ => cN 44 s - (intOf i).toNat)
 case atStart => exact ⟨0, Nat.zero_le _, rfl, OwnG.nil _ _ _ _, Below.refl _ _, rfl⟩
 case round =>
  obtain ⟨k, hk, rfl, hown, hbel, hto⟩ := hrel
  have hszr : w.heap.size + 1 <= wr.heap.size := by have := hbel.size; simpa using this
  have hbw : Below w.heap.size w wr := ((Below.refl _ _).alloc (Nat.le_refl _) _).trans (hbel.mono (Nat.le_succ _))
  by_cases hlt : k < cN 44 s
  ·have hp : wr.cell? ⟨w.heap.size, k, none⟩ = some (.string (cS 44 s k)) := (hbel.cell (by show w.heap.size < _; omega)).trans (hgx k hlt)
   have hps : (cS 44 s k).size <= 1048576 := Nat.le_trans (cS_size 44 s k hlt) hs
   obtain ⟨m, hmr⟩ := hm.below hbw
   have hcutc := Tryd.strings_Cut (cS 44 s k) ⟨#[58]⟩ m wr (by omega) hmr
   have hlist : (⟨#[58]⟩ : ByteArray).data.toList = [58] := rfl
   rw [hlist] at hcutc
   rcases split_first 58 (cS 44 s k).data.toList with hno | ⟨x, y, hxy, hx⟩
   ·rw [cut_none hno] at hcutc
    have Hc : Hid (Calls Tryd.prog 56 #[.string (cS 44 s k), .string ⟨#[58]⟩] wr fun e w' => e = .returned (.tuple #[.string ⟨(cS 44 s k).data.toList.toArray⟩, .string ⟨([] : List UInt8).toArray⟩, .bool false]) ∧ ∃ n, w' = wr.drewN n) := hcutc
    have hbad : Hid (gAp s = false) := gTp_le s _ k hlt (gOk_none hno)
    have hlev : Hid (∀ W, Calls Tryd.prog 57 #[.string ⟨([] : List UInt8).toArray⟩] W (LevPost ⟨([] : List UInt8).toArray⟩ W)) := fun W => levI_any _ W (by decide)
    clear hcutc hlist hno
    go_wp2_with fail
    refine Hc.out.mono ?_
    rintro e w2 ⟨rfl, q, rfl⟩
    go_wp2_with fail
    refine (hlev.out _).mono ?_
    rintro e w3 ⟨v, ok, rfl, hr, rfl⟩
    go_wp2
    refine bodyPost_ret (v := .tuple #[.string ByteArray.empty, .slice none 0 0, .bool false]) (by simp [results, Tryd.results43, go_sem]; rfl) rfl ⟨hbw.trans (Dr.below ⟨_, rfl⟩ _), Or.inl ⟨by rw [hok, hbad.out], rfl⟩⟩
   ·rw [cut_some hxy hx] at hcutc
    have Hc : Hid (Calls Tryd.prog 56 #[.string (cS 44 s k), .string ⟨#[58]⟩] wr fun e w' => e = .returned (.tuple #[.string ⟨x.toArray⟩, .string ⟨y.toArray⟩, .bool true]) ∧ ∃ n, w' = wr.drewN n) := hcutc
    have hg := gOk_some hxy hx
    have hys : (⟨y.toArray⟩ : ByteArray).size <= 1048576 := by
     have h1 : (cS 44 s k).data.toList.length <= 1048576 := hps
     rw [hxy] at h1
     show y.toArray.size <= 1048576
     rw [List.size_toArray]
     simp at h1; omega
    have hlev : Hid (∀ W, Calls Tryd.prog 57 #[.string ⟨y.toArray⟩] W (LevPost ⟨y.toArray⟩ W)) := fun W => levI_any _ W hys
    have Hg : Hid ((gOp s k = (numV y).isSome) ∧ ((numV y).isSome = true -> gMp s k = ⟨x.toArray⟩ ∧ gLp s k = (numV y).getD 0)) := hg
    clear hcutc hlist hg hxy hx
    go_wp2_with fail
    refine Hc.out.mono ?_
    rintro e w2 ⟨rfl, q, rfl⟩
    go_wp2_with fail
    refine (hlev.out _).mono ?_
    rintro e w3 ⟨v, ok, rfl, hr, rfl⟩
    have hr' : NumR y v ok := hr
    cases ok
    ·have hbad : Hid (gAp s = false) := gTp_le s _ k hlt (by
      rw [Hg.out.1]
      cases hn' : numV y with
      | none => rfl
      | some z => have := (hr'.1 z hn').2; cases this)
     go_wp2
     refine bodyPost_ret (v := .tuple #[.string ByteArray.empty, .slice none 0 0, .bool false]) (by simp [results, Tryd.results43, go_sem]; rfl) rfl ⟨hbw.trans (Dr.below ⟨_, rfl⟩ _), Or.inl ⟨by rw [hok, hbad.out], rfl⟩⟩
    ·have hn' : numV y = some v := by
      cases hn' : numV y with
      | none => have := hr'.2 hn'; cases this
      | some z => rw [(hr'.1 z hn').1]
     have hml := Hg.out.2 (by rw [hn']; rfl)
     have Hok : Hid (gOp s k = true) := by unfold Hid; rw [Hg.out.1, hn']; rfl
     have HM : Hid ((⟨x.toArray⟩ : ByteArray) = gMp s k) := hml.1.symm
     have HL : Hid (v = gLp s k) := by unfold Hid; rw [hml.2, hn']; rfl
     have hm1 : k + 1 <= maxLen := by unfold maxLen; omega
     have hm2 : (k + 1) * 24 <= 140737488355328 := by omega
     have hownd : OwnG (wr.drewN q) (w.heap.size + 1) u5 k (gMp s) (gLp s) := hown.below (Dr.below ⟨_, rfl⟩ _)
     have hbeld := hbel.trans (Dr.below (w := wr) (w' := wr.drewN q) ⟨_, rfl⟩ (w.heap.size + 1))
     have hszd : w.heap.size + 1 <= (wr.drewN q).heap.size := hszr
     have hm3 : ∀ o, w.heap.size + 1 <= ((wr.drewN q).alloc o).heap.size := fun o => by simp; omega
     have hag : ∀ j, u5.ownBlock = some j -> w.heap.size + 1 <= j := fun j hj => (World.ownsRow.lt hown j hj).1
     clear hn' hml hr hr' Hg hown hbel hp
     go_wp2_with (at_builtin; refine wpList_append_own _ rfl _ _ 24 rfl (w.heap.size + 1) 57 i0 (.agg #[.string ByteArray.empty, .int .i64 0]) 2 24 Tryd.underlying24 hi hz0 hz1 hz2 rfl (by decide) _ _ _ rfl (World.ownsRow.alloc hownd _) ⟨(wr.drewN q).heap.size, 0, none⟩ 1 1 [.string ⟨x.toArray⟩, .int .i64 v] rfl rfl (two_cells _ _ _ _) (two_one _ _) hm1 hm2 (hm3 _) ?_; intro v2 w4 hown4 hgrow _)
     go_roundw
     case rel =>
      exact ⟨k + 1, by omega, by go_num, OwnG.snoc hown4 HM.out HL.out, (hbeld.alloc hszd _).grown hgrow (hm3 _) hag, by unfold Hid gTp; rw [hto.out, Hok.out]; rfl⟩
     case measure => simp [intOf]; omega
  ·have hkn : k = cN 44 s := by omega
   subst hkn
   have hall : gAp s = true := hto.out
   have hgs : ∀ i, i < cN 44 s -> (gMp s i).size <= maxLen := fun i hi => by
    have h1 := cS_size 58 (cS 44 s i) 0 (cN_pos 58 _)
    have h2 := cS_size 44 s i hi
    unfold gMp maxLen; omega
   obtain ⟨a, cap, rfl, hsg, hsw⟩ := hown.sl hgs
   go_wp2
   refine bodyPost_ret (v := .tuple #[.string ByteArray.empty, .slice a (cN 44 s) cap, .bool true]) (by simp [results, Tryd.results43, go_sem]; rfl) rfl ⟨hbw, Or.inr ⟨by rw [hok, hall], a, cap, by rw [hn, hv], by rw [hn]; exact hsg, by rw [hn]; exact hsw.base_le (Nat.le_succ _)⟩⟩
theorem rdVal_any (s : ByteArray) (w : World) (hs : s.size <= 1048576) (hm : MaxL w) :
  Calls Tryd.prog 43 #[.string s] w (ValPost s w) := by
 cases hgr : vGr s
 ·exact rdVal_plain s w hgr
 ·exact rdVal_gr s w hs hm hgr
end Go.Proofs.YtihacnhmiopalaaDoor
