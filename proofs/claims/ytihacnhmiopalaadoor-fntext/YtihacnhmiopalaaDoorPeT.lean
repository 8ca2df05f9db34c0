import Derived.Test.YtihacnhmiopalaaDoorPure8ZT
namespace Go.Proofs.YtihacnhmiopalaaDoor
open Go.RowKit
section
variable (l : ByteArray)
def peSt : Bool := (cS 32 l 3).data.toList.head? == some 61
def peKey : ByteArray := if peSt l then (cS 32 l 3).extract 1 (cS 32 l 3).size else ByteArray.empty
noncomputable def peTm : Option Int := (numV (cS 32 l 4).data.toList).bind fun z => if z < 0 then none else some z
noncomputable def peTime : Int := (peTm l).getD 0
def peGr : Bool := decide (1 < cN 58 (cS 32 l 7))
def peVal : ByteArray := if peGr l || dashQ (cS 32 l 7) then ByteArray.empty else cS 32 l 7
def peN : Nat := if peGr l then cN 44 (cS 32 l 7) else 0
def peHead : Bool := decide (cN 32 l = 8) && !hasB (cS 32 l) 8 ByteArray.empty
noncomputable def peForm : Bool := peHead l && ((peSt l || dashQ (cS 32 l 3)) && ((peTm l).isSome && (!peGr l || gAp (cS 32 l 7))))
noncomputable def peEv : Int := evCode (cS 32 l 0) (cS 32 l 1) (cS 32 l 2) (peKey l) (peVal l) (peSt l) (peTime l) (rN (cS 32 l 5)) (rN (cS 32 l 6)) (peN l) (cS 44 (cS 32 l 5)) (cS 44 (cS 32 l 6)) (gMp (cS 32 l 7)) (gLp (cS 32 l 7))
noncomputable def peCode : Int := if peForm l then (if peEv l = 0 then 0 else peEv l + 1) else 1
noncomputable abbrev peV (pa : Option Addr) (cp : Nat) (aa : Option Addr) (ca : Nat) (ga : Option Addr) (cg : Nat) : Value :=
 evV (cS 32 l 0) (cS 32 l 1) (cS 32 l 2) (peKey l) (peVal l) (peSt l) (peTime l) pa (rN (cS 32 l 5)) cp aa (rN (cS 32 l 6)) ca ga (peN l) cg
abbrev noV : Value := evV ByteArray.empty ByteArray.empty ByteArray.empty ByteArray.empty ByteArray.empty false 0 none 0 0 none 0 0 none 0 0
end
theorem pe_bad {l : ByteArray} (h : peForm l = false) : peCode l = 1 := by unfold peCode; rw [h]; rfl
theorem form_head {l : ByteArray} (h : peHead l = false) : peForm l = false := by unfold peForm; rw [h]; rfl
theorem form_key {l : ByteArray} (h1 : peSt l = false) (h2 : dashQ (cS 32 l 3) = false) : peForm l = false := by unfold peForm; rw [h1, h2]; simp
theorem form_tm {l : ByteArray} (h : (peTm l).isSome = false) : peForm l = false := by unfold peForm; rw [h]; simp
end Go.Proofs.YtihacnhmiopalaaDoor
