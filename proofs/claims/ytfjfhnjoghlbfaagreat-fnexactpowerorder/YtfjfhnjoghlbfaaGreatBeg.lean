import Derived.Test.YtfjfhnjoghlbfaaGreatMpA
import Derived.Test.YtfjfhnjoghlbfaaGreatRm
namespace Go.Proofs.YtfjfhnjoghlbfaaGreat
open Go.RowKit Go.Maps Go.ChangeMaps

/-- an event begins the room or follows others. -/
def begB (size : Nat) (e : Ev) : Bool :=
  if size = 0 then e.ty.toList == [99, 114, 101, 97, 116, 101] else !(e.ty.toList == [99, 114, 101, 97, 116, 101]) && (decide (0 < e.np) && decide (0 < e.na))

/-- insertCode, by what the map knows. -/
def insC (Kn : ByteArray → Bool) (size : Nat) (e : Ev) : Int :=
  if e.code ≠ 0 then e.code
  else if Kn e.id = true then 6
  else if allTo Kn e.Pv e.np = false ∨ allTo Kn e.Av e.na = false then 7
  else if begB size e = false then 8
  else if 300 ≤ size then 9
  else 0
theorem insC1 {Kn : ByteArray → Bool} {size : Nat} {e : Ev} (h : e.code ≠ 0) : insC Kn size e = e.code := by rw [insC, if_pos h]
theorem insC6 {Kn : ByteArray → Bool} {size : Nat} {e : Ev} (h : e.code = 0) (h6 : Kn e.id = true) : insC Kn size e = 6 := by rw [insC, if_neg (by simp [h]), if_pos h6]
theorem insC7 {Kn : ByteArray → Bool} {size : Nat} {e : Ev} (h : e.code = 0) (h6 : Kn e.id = false) (h7 : allTo Kn e.Pv e.np = false ∨ allTo Kn e.Av e.na = false) : insC Kn size e = 7 := by
  rw [insC, if_neg (by simp [h]), if_neg (by simp [h6]), if_pos h7]
theorem insC8 {Kn : ByteArray → Bool} {size : Nat} {e : Ev} (h : e.code = 0) (h6 : Kn e.id = false) (h7 : allTo Kn e.Pv e.np = true) (h7' : allTo Kn e.Av e.na = true) (h8 : begB size e = false) : insC Kn size e = 8 := by
  rw [insC, if_neg (by simp [h]), if_neg (by simp [h6]), if_neg (by simp [h7, h7']), if_pos h8]
theorem insC9 {Kn : ByteArray → Bool} {size : Nat} {e : Ev} (h : e.code = 0) (h6 : Kn e.id = false) (h7 : allTo Kn e.Pv e.np = true) (h7' : allTo Kn e.Av e.na = true) (h8 : begB size e = true) (h9 : 300 ≤ size) : insC Kn size e = 9 := by
  rw [insC, if_neg (by simp [h]), if_neg (by simp [h6]), if_neg (by simp [h7, h7']), if_neg (by simp [h8]), if_pos h9]
theorem insC0 {Kn : ByteArray → Bool} {size : Nat} {e : Ev} (h : e.code = 0) (h6 : Kn e.id = false) (h7 : allTo Kn e.Pv e.np = true) (h7' : allTo Kn e.Av e.na = true) (h8 : begB size e = true) (h9 : ¬ 300 ≤ size) : insC Kn size e = 0 := by
  rw [insC, if_neg (by simp [h]), if_neg (by simp [h6]), if_neg (by simp [h7, h7']), if_neg (by simp [h8]), if_neg h9]

/-- a well-formed event has few references. -/
theorem code_refs {e : Ev} (h : e.code = 0) : e.np ≤ 10 ∧ e.na ≤ 10 := by
  unfold Ev.code evCode at h
  split at h; · cases h
  split at h; · cases h
  split at h; · cases h
  split at h; · cases h
  rename_i h4
  constructor
  · rcases Nat.lt_or_ge 10 e.np with h' | h'
    · exact absurd (Or.inl (by unfold refsB; rw [decide_eq_false (by omega)]; rfl)) h4
    · exact h'
  · rcases Nat.lt_or_ge 10 e.na with h' | h'
    · exact absurd (Or.inr (by unfold refsB; rw [decide_eq_false (by omega)]; rfl)) h4
    · exact h'

abbrev evCs (e : Ev) (pa : Option Addr) (cp : Nat) (aa : Option Addr) (ca : Nat) (ga : Option Addr) (cg : Nat) : Array Value :=
  #[.string e.id, .string e.sd, .string e.ty, .bool e.st, .string e.key, .int .i64 e.tm, .slice pa e.np cp, .slice aa e.na ca, .string e.val, .slice ga e.ng cg]

set_option maxHeartbeats 1000000 in
theorem beg_any (size : Nat) (e : Ev) (pa : Option Addr) (cp : Nat) (aa : Option Addr) (ca : Nat) (ga : Option Addr) (cg : Nat) (w : World) (hp : e.np ≤ 10) :
    Calls Tryz.prog 58 #[.int .i64 size, e.val' pa cp aa ca ga cg] w fun x w' => x = .returned (.bool (begB size e)) ∧ Below w.heap.size w w' := by
  have hb0 : ∀ o, Below w.heap.size w (w.alloc o) := fun o => (Below.refl _ _).alloc (Nat.le_refl _) _
  by_cases h0 : size = 0
  · subst h0
    have hv : Hid ((e.ty.toList == [99, 114, 101, 97, 116, 101]) = begB 0 e) := rfl
    go_enter Tryz.func58, Tryz.ntmps58
    go_wp2
    go_ret
    exact ⟨ret_bool hv.out, hb0 _⟩
  · have hv : Hid (begB size e = (!(e.ty.toList == [99, 114, 101, 97, 116, 101]) && (decide (0 < e.np) && decide (0 < e.na)))) := by unfold Hid begB; rw [if_neg h0]
    cases ht : (e.ty.toList == [99, 114, 101, 97, 116, 101])
    · by_cases hpp : 0 < e.np
      · have hv2 : Hid (decide (0 < e.na) = begB size e) := by unfold Hid; rw [hv.out, ht, decide_eq_true hpp]; rfl
        go_enter Tryz.func58, Tryz.ntmps58
        go_wp2
        go_ret
        exact ⟨ret_bool hv2.out, hb0 _⟩
      · have hv2 : Hid (false = begB size e) := by unfold Hid; rw [hv.out, ht, decide_eq_false hpp]; rfl
        have hnp : e.np = 0 := by omega
        go_enter Tryz.func58, Tryz.ntmps58
        go_wp2
        go_ret
        exact ⟨ret_bool hv2.out, hb0 _⟩
    · have hv2 : Hid (false = begB size e) := by unfold Hid; rw [hv.out, ht]; rfl
      go_enter Tryz.func58, Tryz.ntmps58
      go_wp2
      go_ret
      exact ⟨ret_bool hv2.out, hb0 _⟩
end Go.Proofs.YtfjfhnjoghlbfaaGreat
