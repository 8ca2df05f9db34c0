import Derived.Test.YtpdnocfefmobjaaBeg
namespace Go.Proofs.Ytpdnocfefmobjaa
open Go.RowKit Go.Maps Go.ChangeMaps

/-- the ids of the first k events are known. -/
def knE (E : Nat → Ev) (k : Nat) (s : ByteArray) : Bool := decide (0 ≤ posV E k s)

theorem allTo_there (E : Nat → Ev) (k : Nat) (S : Nat → ByteArray) : ∀ m, allTo (knE E k) S m = thereTo E k S m
  | 0 => rfl
  | m + 1 => by unfold allTo thereTo; rw [allTo_there E k S m]; rfl

theorem insC_code (E : Nat → Ev) (k : Nat) (e : Ev) : insC (knE E k) k e = insCode E k e := by
  unfold insC insCode
  by_cases hc : e.code ≠ 0
  · rw [if_pos hc, if_pos hc]
  rw [if_neg hc, if_neg hc]
  have hc' : e.code = 0 := by simpa using hc
  obtain ⟨h1, h2⟩ := code_refs hc'
  by_cases h6 : 0 ≤ posV E k e.id
  · rw [if_pos h6, if_pos (by unfold knE; exact decide_eq_true h6)]
  rw [if_neg h6, if_neg (by unfold knE; simpa using h6)]
  have t1 : thereB E k e.Pv e.np = allTo (knE E k) e.Pv e.np := by unfold thereB; rw [decide_eq_true (by omega), allTo_there]; rfl
  have t2 : thereB E k e.Av e.na = allTo (knE E k) e.Av e.na := by unfold thereB; rw [decide_eq_true (by omega), allTo_there]; rfl
  rw [t1, t2]
  by_cases h7 : allTo (knE E k) e.Pv e.np = false ∨ allTo (knE E k) e.Av e.na = false
  · rw [if_pos h7, if_pos h7]
  rw [if_neg h7, if_neg h7]
  unfold begB
  by_cases h0 : k = 0
  · subst h0
    cases ht : (e.ty.toList == [99, 114, 101, 97, 116, 101])
    · simp
    · simp
  · cases ht : (e.ty.toList == [99, 114, 101, 97, 116, 101])
    · by_cases hp : e.np = 0
      · simp [hp, h0, Nat.pos_of_ne_zero h0]
      · by_cases ha : e.na = 0
        · simp [ha, h0, Nat.pos_of_ne_zero h0]
        · simp [hp, ha, h0, Nat.pos_of_ne_zero hp, Nat.pos_of_ne_zero ha]
    · simp [h0, Nat.pos_of_ne_zero h0]

theorem ba_of_toList {s t : ByteArray} (h : (s.toList == t.toList) = true) : s = t := by
  rw [beq_iff_eq, ByteArray.toList_eq, ByteArray.toList_eq] at h
  obtain ⟨s⟩ := s; obtain ⟨t⟩ := t
  exact congrArg _ (Array.toList_inj.1 h)

theorem posV_step (E : Nat → Ev) (k : Nat) (s : ByteArray) : posV E (k + 1) s = if 0 ≤ posV E k s then posV E k s else if (E k).id.toList == s.toList then (k : Int) else -1 := by rw [posV]

theorem knE_succ (E : Nat → Ev) (k : Nat) (s : ByteArray) : (decide (s = (E k).id) || knE E k s) = knE E (k + 1) s := by
  unfold knE
  rw [posV_step]
  by_cases h : 0 ≤ posV E k s
  · simp [h]
  · by_cases e : s = (E k).id
    · subst e; simp [h]
    · have hne : ((E k).id.toList == s.toList) = false := by
        cases hb : ((E k).id.toList == s.toList)
        · rfl
        · exact absurd (ba_of_toList hb).symm e
      rw [if_neg h, hne]
      simp [h, e]

theorem posV_succ (E : Nat → Ev) (k : Nat) (s : ByteArray) (hn : posV E k (E k).id < 0) (hk : knE E (k + 1) s = true) : (if s = (E k).id then (k : Int) else posV E k s) = posV E (k + 1) s := by
  by_cases e : s = (E k).id
  · subst e
    rw [if_pos rfl]
    rw [posV_step, if_neg (by omega)]
    simp
  · rw [if_neg e]
    rw [← knE_succ, decide_eq_false e, Bool.false_or] at hk
    have h0 : 0 ≤ posV E k s := by simpa [knE] using hk
    rw [posV_step, if_pos h0]

theorem ins_fresh {E : Nat → Ev} {k : Nat} {e : Ev} (h : insCode E k e = 0) : posV E k e.id < 0 ∧ e.code = 0 ∧ k < 300 := by
  unfold insCode at h
  split at h
  · rename_i h1; exact absurd h h1
  rename_i h1
  split at h; · cases h
  rename_i h6
  split at h; · cases h
  split at h; · cases h
  split at h; · cases h
  split at h; · cases h
  rename_i h9
  exact ⟨by omega, by simpa using h1, by omega⟩
end Go.Proofs.Ytpdnocfefmobjaa
