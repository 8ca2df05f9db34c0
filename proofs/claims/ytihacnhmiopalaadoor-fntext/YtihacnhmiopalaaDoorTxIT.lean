import Derived.Test.YtihacnhmiopalaaDoorShelfT
import Derived.Test.YtihacnhmiopalaaDoorOwnTT
import Derived.Lib.LaidTab
namespace Go.Proofs.YtihacnhmiopalaaDoor
open Go.RowKit Go.Sort Go.Lib
theorem below_grow (w : World) (q : Nat) (os : Array Obj) : Below w.heap.size w (grow (w.drewN q) os) :=
 ⟨rfl, rfl, rfl, by first | (simp [grow]; done) | (simp [grow]; omega), fun i hi => by
  show ((w.drewN q).heap ++ os)[i]? = _
  rw [Array.getElem?_append_left (by show i < w.heap.size; omega)]
  rfl⟩
def Tab (w : World) : Prop := Lib.TabIs Tryd.prog w "internal/strconv.uint64pow10" .u64 Lib.pow10Tab
theorem Tab.below {w w' : World} (h : Tab w) (hb : Below w.heap.size w w') : Tab w' := by
 unfold Tab Lib.TabIs World.var? at h ⊢
 cases hg : Tryd.prog.globalNamed "internal/strconv.uint64pow10" with
 | none => rw [hg] at h; cases h
 | some g =>
  rw [hg] at h
  simp only [Option.bind_some] at h ⊢
  have hlt : g < w.heap.size := by
   rcases Nat.lt_or_ge g w.heap.size with h' | h'
   ·exact h'
   ·rw [Array.getElem?_eq_none h'] at h; cases h
  rw [hb.block g hlt]; exact h
theorem join_sl {a : Option Addr} {n cap : Nat} {S : Nat -> ByteArray} (sep : ByteArray) (w : World) (hsz : (joinB S sep n).size <= 140737488355328) (h : SlS w a n cap S) (hn : n <= 100) :
  Calls Tryd.prog 21 #[.slice a n cap, .string sep] w fun e w' => e = .returned (.string (joinB S sep n)) ∧ Below w.heap.size w w' := by
 rcases h.cells with rfl | ⟨b, off, rfl, hb, hc⟩
 ·refine (Tryd.strings_Join_none a cap sep w).mono ?_
  rintro e w' ⟨rfl, rfl⟩
  exact ⟨rfl, Below.refl _ _⟩
 ·have hl : ((List.range n).map S).length = n := by simp
  have hm : ((List.range n).map S).map (·.data.toList) = (List.range n).map fun i => (S i).data.toList := by simp [Function.comp_def]
  have hj := joinB_lib S sep n
  have := Tryd.strings_Join b off cap ((List.range n).map S) sep w (fun j x hx => by
    have hjn : j < n := by
     rcases Nat.lt_or_ge j n with h' | h'
     ·exact h'
     ·rw [List.getElem?_eq_none (by rw [hl]; exact h')] at hx; cases hx
    have : x = S j := by simpa [hjn] using hx.symm
    subst this
    exact hc j hjn) hb (by rw [hl]; omega) (by rw [hl]; exact h.le) (by
     rw [hm]; rw [hj] at hsz; exact Nat.le_trans (Nat.le_of_eq List.size_toArray.symm) hsz)
  rw [hm, <- hj, hl] at this
  exact this
theorem itoa_any (z : Int) (w : World) (h0 : -1000000000000 <= z) (h1 : z <= 1000000000000) (ht : Tab w) :
  Calls Tryd.prog 18 #[.int .i64 z] w fun e w' => e = .returned (.string (itoaB z)) ∧ Below w.heap.size w w' := by
 refine (Tryd.strconv_Itoa z (by omega) (by omega) w ht).mono ?_
 rintro e w' ⟨rfl, k, os, rfl⟩
 exact ⟨rfl, below_grow _ _ _⟩
theorem keyI_any (st : Bool) (key : ByteArray) (w : World) (hk : key.size <= 40) :
  Calls Tryd.prog 17 #[.bool st, .string key] w fun e w' => e = .returned (.string (keyT st key)) ∧ w' = w := by
 have hx : ¬ 9223372036854775807 < 1 + key.size := by omega
 cases st
 all_goals
  go_enter Tryd.func17, Tryd.ntmps17
  go_wp2
  go_ret
  exact ⟨rfl, rfl⟩
theorem refsTI_sl {a : Option Addr} {n cap : Nat} {S : Nat -> ByteArray} (w : World) (h : SlS w a n cap S) (hn : n <= 10) (hs : ∀ i, i < n -> (S i).size <= 40) :
  Calls Tryd.prog 19 #[.slice a n cap] w fun e w' => e = .returned (.string (refsT S n)) ∧ Below w.heap.size w w' := by
 by_cases h0 : n = 0
 ·subst h0
  go_enter Tryd.func19, Tryd.ntmps19
  go_wp2
  go_ret
  exact ⟨rfl, Below.refl _ _⟩
 ·have hsz : (joinB S ⟨#[44]⟩ n).size <= 140737488355328 := by
   have := joinB_bound S ⟨#[44]⟩ 40 (by decide) n hs; omega
  have hd : ¬ ((n : Int) = 0) := by omega
  go_enter Tryd.func19, Tryd.ntmps19
  go_wp2_with fail
  refine (join_sl _ w hsz h (by omega)).mono ?_
  rintro e w1 ⟨rfl, hb⟩
  go_wp2
  go_ret
  exact ⟨ret_str (by rw [refsT, if_neg h0]), hb⟩
end Go.Proofs.YtihacnhmiopalaaDoor
