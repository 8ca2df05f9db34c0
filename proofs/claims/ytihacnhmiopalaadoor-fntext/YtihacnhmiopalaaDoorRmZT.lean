import Derived.Test.YtihacnhmiopalaaDoorSlZT
import Derived.Test.YtihacnhmiopalaaDoorProg
import Derived.Laws.BytesArg
import Derived.Lib.ItoaLen
import Derived.Deep.DeepFit
namespace Go.Proofs.YtihacnhmiopalaaDoor
open Go.RowKit
structure Ev where
 id : ByteArray
 sd : ByteArray
 ty : ByteArray
 key : ByteArray
 val : ByteArray
 st : Bool
 tm : Int
 np : Nat
 na : Nat
 ng : Nat
 Pv : Nat -> ByteArray
 Av : Nat -> ByteArray
 M : Nat -> ByteArray
 L : Nat -> Int
def Ev.code (e : Ev) : Int := evCode e.id e.sd e.ty e.key e.val e.st e.tm e.np e.na e.ng e.Pv e.Av e.M e.L
abbrev Ev.val' (e : Ev) (pa : Option Addr) (cp : Nat) (aa : Option Addr) (ca : Nat) (ga : Option Addr) (cg : Nat) : Value :=
 evV e.id e.sd e.ty e.key e.val e.st e.tm pa e.np cp aa e.na ca ga e.ng cg
structure EvOk (w : World) (e : Ev) (pa : Option Addr) (cp : Nat) (aa : Option Addr) (ca : Nat) (ga : Option Addr) (cg : Nat) : Prop where
 hid : e.id.size <= maxLen
 hsd : e.sd.size <= maxLen
 hty : e.ty.size <= maxLen
 hkey : e.key.size <= maxLen
 hval : e.val.size <= maxLen
 hp : SlS w pa e.np cp e.Pv
 ha : SlS w aa e.na ca e.Av
 hg : SlG w ga e.ng cg e.M e.L
theorem EvOk.below {w w' : World} {e : Ev} {pa aa ga : Option Addr} {cp ca cg : Nat} (h : EvOk w e pa cp aa ca ga cg) (hb : Below w.heap.size w w') : EvOk w' e pa cp aa ca ga cg :=
 ⟨h.hid, h.hsd, h.hty, h.hkey, h.hval, h.hp.below hb, h.ha.below hb, h.hg.below hb⟩
theorem strOfNums_one (n : Nat) : strOfNums [(n : Int)] = ⟨#[UInt8.ofNat n]⟩ := by
 simp [strOfNums]
theorem conv_one (W : World) (B n : Nat) (hc : W.cell? ⟨B, 0, none⟩ = some (.int .u8 (n : Int))) :
  (convert 22 9 (.slice (some ⟨B, 0, none⟩) 1 1)).run Tryd.prog W = .ok (.string ⟨#[UInt8.ofNat n]⟩) W := by
 rw [run_convert_bytes_arg W 22 5 Tryd.underlying22 Tryd.underlying5 B 0 1 1 [(n : Int)] rfl (fun i hi => by
  have : i = 0 := by omega
  subst this; exact hc) 9 Tryd.underlying9, strOfNums_one n]
set_option maxRecDepth 100000 in
set_option maxHeartbeats 400000 in
theorem decS_small (n : Nat) (w : World) (h10 : n < 10) :
  Calls Tryd.prog 27 #[.int .i64 n] w fun e w' => e = .returned (.string ⟨(Lib.decDigits n).toArray⟩) ∧ Below w.heap.size w w' := by
 have hcv : (convert 22 9 (.slice (some ⟨w.heap.size, 0, none⟩) 1 1)).run Tryd.prog (w.alloc (.cells #[.int .u8 (48 + (n : Int))] 5)) = .ok (.string ⟨(Lib.decDigits n).toArray⟩) (w.alloc (.cells #[.int .u8 (48 + (n : Int))] 5)) := by
  rw [conv_one _ _ (48 + n) (by rw [World.cell?_alloc_at _ _ _ _ rfl]; simp), Lib.decDigits, dif_pos h10]
 go_enter Tryd.func27, Tryd.ntmps27
 go_wp2_with fail
 go_ret
 exact ⟨rfl, (Below.refl _ _).alloc (Nat.le_refl _) _⟩
set_option maxRecDepth 100000 in
set_option maxHeartbeats 400000 in
theorem decS_step (n m d : Nat) (X Y : ByteArray) (w : World) (hn : (n : Int) <= 100000000000000) (h10 : (10 : Int) <= n) (hm : (n : Int) / 10 = m) (hd : (n : Int) % 10 = d)
  (hX : X.size <= 20) (hY : Y.size = 1)
  (hcv : ∀ (W : World) (B : Nat), W.cell? ⟨B, 0, none⟩ = some (.int .u8 (48 + (d : Int))) -> (convert 22 9 (.slice (some ⟨B, 0, none⟩) 1 1)).run Tryd.prog W = .ok (.string Y) W)
  (ih : Hid (∀ W : World, Calls Tryd.prog 27 #[.int .i64 m] W fun e w' => e = .returned (.string X) ∧ Below W.heap.size W w')) :
  Calls Tryd.prog 27 #[.int .i64 n] w fun e w' => e = .returned (.string (X ++ Y)) ∧ Below w.heap.size w w' := by
 have ew1 : IntKind.i64.wrap ((n : Int) / 10) = m := by rw [IntKind.wrap_i64]; omega
 have ew2 : (n : Int).tmod 10 = d := by rw [Int.tmod_eq_emod_of_nonneg (by omega), hd]
 have ew3 : IntKind.i64.wrap (48 + (d : Int)) = 48 + d := by rw [IntKind.wrap_i64]; omega
 have ew4 : IntKind.u8.wrap (48 + (d : Int)) = 48 + d := by rw [IntKind.wrap_u8]; omega
 have hxy : ¬ 9223372036854775807 < X.size + Y.size := by omega
 have hb0 : Below w.heap.size w w := Below.refl _ _
 clear hm hd hX hY
 go_enter Tryd.func27, Tryd.ntmps27
 go_wp2_with fail
 go_region_with (go_at_call 27; go_fit (ih.out _); rintro e w1 ⟨rfl, hb1⟩; first | (have hcx : w1.cell? ⟨w.heap.size, 0, none⟩ = some (.int .u8 (48 + (d : Int))) := (hb1.cell (by simp)).trans (World.cell?_alloc_at _ _ _ _ rfl)) | skip)
 all_goals
  go_wp2
  go_ret
  first
   | exact ⟨rfl, (hb0.drew.trans hb1).alloc (hb0.drew.trans hb1).size _⟩
   | exact ⟨rfl, ((hb0.alloc (Nat.le_refl _) _).drew).trans (hb1.mono (by simp))⟩
theorem decS_nat : ∀ (k n : Nat) (w : World), n <= k -> (n : Int) <= 100000000000000 →
  Calls Tryd.prog 27 #[.int .i64 n] w fun e w' => e = .returned (.string ⟨(Lib.decDigits n).toArray⟩) ∧ Below w.heap.size w w' := by
 intro k
 induction k with
 | zero =>
  intro n w hk _
  exact decS_small n w (by omega)
 | succ k ih =>
  intro n w hk hn
  by_cases h10 : n < 10
  ·exact decS_small n w h10
  ·have hs : (⟨(Lib.decDigits (n / 10)).toArray⟩ : ByteArray).size <= 20 := by
    show (Lib.decDigits (n / 10)).toArray.size <= 20
    rw [List.size_toArray, Lib.decDigits_length]
    exact Lib.nDigits_le20 _ (by omega)
   refine (decS_step n (n / 10) (n % 10) ⟨(Lib.decDigits (n / 10)).toArray⟩ ⟨#[UInt8.ofNat (48 + n % 10)]⟩ w hn (by omega) (by omega) (by omega) hs rfl
    (fun W B h => conv_one W B (48 + n % 10) (by rw [h]; simp)) (fun W => ih (n / 10) W (by omega) (by omega))).mono ?_
   rintro e w' ⟨rfl, hb⟩
   refine ⟨ret_str ?_, hb⟩
   rw [Lib.decDigits.eq_1 n, dif_neg h10, ByteArray.mk_append_mk]
end Go.Proofs.YtihacnhmiopalaaDoor
