/-
  Plain functions of chapter 1: the content of an event, and its code.
-/
import Derived.Test.YtkfgolcjhiaacaaPure3
namespace Go.Proofs.Ytkfgolcjhiaacaa
open Go.RowKit

/-- join, invite, leave, ban. -/
def memB (v : ByteArray) : Bool := v.toList == [106, 111, 105, 110] || (v.toList == [105, 110, 118, 105, 116, 101] || (v.toList == [108, 101, 97, 118, 101] || v.toList == [98, 97, 110]))
/-- public, invite. -/
def rulB (v : ByteArray) : Bool := v.toList == [112, 117, 98, 108, 105, 99] || v.toList == [105, 110, 118, 105, 116, 101]

/-- the content fits the type. -/
def ctB (ty key val : ByteArray) (st : Bool) (np na ng : Nat) (M : Nat → ByteArray) (L : Nat → Int) : Bool :=
  if ty.toList == [99, 114, 101, 97, 116, 101] then st && key.toList.isEmpty && ng == 0 && np == 0 && na == 0 && val.toList.isEmpty
  else if ty.toList == [109, 101, 109, 98, 101, 114] then st && !key.toList.isEmpty && ng == 0 && memB val
  else if ty.toList == [106, 111, 105, 110, 95, 114, 117, 108, 101, 115] then st && key.toList.isEmpty && ng == 0 && rulB val
  else if ty.toList == [112, 111, 119, 101, 114] then st && key.toList.isEmpty && val.toList.isEmpty && grB M L ng
  else ng == 0 && (val.toList.isEmpty || isW val)

/-- EventOk's code. -/
def evCode (id sd ty key val : ByteArray) (st : Bool) (tm : Int) (np na ng : Nat) (Pv Av M : Nat → ByteArray) (L : Nat → Int) : Int :=
  if isW id = false ∨ isW sd = false ∨ isW ty = false then 1
  else if key.toList.isEmpty = false ∧ (st = false ∨ isW key = false) then 2
  else if tm < 0 ∨ 1000000000000 < tm then 3
  else if refsB Pv np id = false ∨ refsB Av na id = false then 4
  else if ctB ty key val st np na ng M L = false then 5
  else 0

end Go.Proofs.Ytkfgolcjhiaacaa
