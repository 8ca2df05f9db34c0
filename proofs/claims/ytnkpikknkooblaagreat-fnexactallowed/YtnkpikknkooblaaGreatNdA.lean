import Derived.Test.YtnkpikknkooblaaGreatRm
import Derived.Test.YtnkpikknkooblaaGreatCmA
import Derived.Test.YtnkpikknkooblaaGreatOwnB
import Derived.Test.YtnkpikknkooblaaGreatLvP
import Derived.Test.YtnkpikknkooblaaGreatEvA
/-
  Needed: plain functions.
-/
namespace Go.Proofs.YtnkpikknkooblaaGreat
open Go.RowKit

def slC : Ent := ⟨⟨#[99, 114, 101, 97, 116, 101]⟩, ⟨#[]⟩, ByteArray.empty⟩
def slJ : Ent := ⟨⟨#[106, 111, 105, 110, 95, 114, 117, 108, 101, 115]⟩, ⟨#[]⟩, ByteArray.empty⟩
def slM (u : ByteArray) : Ent := ⟨⟨#[109, 101, 109, 98, 101, 114]⟩, u, ByteArray.empty⟩
def slP : Ent := ⟨⟨#[112, 111, 119, 101, 114]⟩, ⟨#[]⟩, ByteArray.empty⟩
def isCr (e : Ev) : Bool := e.ty.toList == [99, 114, 101, 97, 116, 101]
def isMb (e : Ev) : Bool := e.ty.toList == [109, 101, 109, 98, 101, 114]
def isJn (e : Ev) : Bool := e.val.toList == [106, 111, 105, 110]

/-- the users that are looked at, sorted, each once. -/
def uq (e : Ev) : List ByteArray := if isMb e = false ∨ e.sd = e.key then [e.sd] else if e.sd.data.toList < e.key.data.toList then [e.sd, e.key] else [e.key, e.sd]
/-- the same, as often as they are put in. -/
def us (e : Ev) : List ByteArray := if isMb e = false then [e.sd] else if e.sd = e.key then [e.sd, e.sd] else if e.sd.data.toList < e.key.data.toList then [e.sd, e.key] else [e.key, e.sd]
def ndX (e : Ev) : List Ent := if isMb e then [slM e.key] else []
def ndY (e : Ev) : List Ent := if isMb e && isJn e then [slJ] else []
/-- as the program puts them in. -/
def ndA (e : Ev) : List Ent := [slC, slP, slM e.sd] ++ ndX e ++ ndY e
/-- in order. -/
def ndS (e : Ev) : List Ent := slC :: (ndY e ++ (us e).map slM ++ [slP])
/-- in order, each once. -/
def ndL (e : Ev) : List Ent := if e.code = 0 then (if isCr e then [slC] else slC :: (ndY e ++ (uq e).map slM ++ [slP])) else []

theorem lt_or_gt {a b : ByteArray} (h : a ≠ b) (h2 : ¬ a.data.toList < b.data.toList) : b.data.toList < a.data.toList := by
  rcases cmp_cases a.data.toList b.data.toList with ⟨h3, _⟩ | ⟨h3, _⟩ | ⟨h3, _⟩
  · exact absurd h3 h2
  · exact absurd (ba_eq h3) h
  · exact h3
theorem uq_srt (e : Ev) : Srt (uq e) := by
  unfold uq
  split
  · exact List.pairwise_singleton _ _
  · rename_i h
    rw [not_or] at h
    split
    · rename_i h2
      exact List.pairwise_cons.2 ⟨fun b hb => by rw [List.mem_singleton] at hb; subst hb; exact h2, List.pairwise_singleton _ _⟩
    · rename_i h2
      exact List.pairwise_cons.2 ⟨fun b hb => by rw [List.mem_singleton] at hb; subst hb; exact lt_or_gt h.2 h2, List.pairwise_singleton _ _⟩
theorem uq_mem (e : Ev) (s : ByteArray) : s ∈ uq e ↔ s = e.sd ∨ (isMb e = true ∧ s = e.key) := by
  unfold uq
  split
  · rename_i h
    rw [List.mem_singleton]
    constructor
    · exact Or.inl
    · rintro (h1 | ⟨h1, h2⟩)
      · exact h1
      · rcases h with h | h
        · rw [h] at h1; cases h1
        · rw [h]; exact h2
  · rename_i h
    rw [not_or] at h
    have hm : isMb e = true := by
      cases hq : isMb e
      · exact absurd hq h.1
      · rfl
    split <;> simp [hm, or_comm]
theorem us_perm (e : Ev) : ((us e).map slM).Perm (slM e.sd :: ndX e) := by
  unfold us ndX
  by_cases hm : isMb e = false
  · rw [if_pos hm, hm]; exact List.Perm.refl _
  · have hm' : isMb e = true := by
      cases hq : isMb e
      · exact absurd hq hm
      · rfl
    rw [if_neg hm, hm', if_pos rfl]
    by_cases h1 : e.sd = e.key
    · rw [if_pos h1, ← h1]; exact List.Perm.refl _
    · rw [if_neg h1]
      split
      · exact List.Perm.refl _
      · exact List.Perm.swap _ _ _
theorem nd_perm (e : Ev) : (ndS e).Perm (ndA e) := by
  unfold ndS ndA
  refine List.Perm.cons _ ?_
  have h1 : (ndY e ++ (us e).map slM ++ [slP]).Perm ([slP] ++ (ndY e ++ (us e).map slM)) := List.perm_append_comm
  refine h1.trans (List.Perm.cons _ ?_)
  show (ndY e ++ (us e).map slM).Perm ((slM e.sd :: ndX e) ++ ndY e)
  have h2 : (ndY e ++ (us e).map slM).Perm ((us e).map slM ++ ndY e) := List.perm_append_comm
  exact h2.trans ((us_perm e).append_right _)

theorem slC_lt_J : Lt slC slJ := Or.inl (by decide)
theorem slC_lt_M (u : ByteArray) : Lt slC (slM u) := Or.inl (by show _ < ([109, 101, 109, 98, 101, 114] : List UInt8); decide)
theorem slC_lt_P : Lt slC slP := Or.inl (by decide)
theorem slJ_lt_M (u : ByteArray) : Lt slJ (slM u) := Or.inl (by show _ < ([109, 101, 109, 98, 101, 114] : List UInt8); decide)
theorem slJ_lt_P : Lt slJ slP := Or.inl (by decide)
theorem slM_lt_P (u : ByteArray) : Lt (slM u) slP := Or.inl (by show ([109, 101, 109, 98, 101, 114] : List UInt8) < _; decide)
theorem slM_lt {u v : ByteArray} (h : u.data.toList < v.data.toList) : Lt (slM u) (slM v) := Or.inr ⟨rfl, h⟩

/-- in order whatever the list of users is, if that is. -/
theorem nd_order {R : Ent → Ent → Prop} (hR : ∀ a b, Lt a b → R a b) (e : Ev) {U : List ByteArray} (hU : (U.map slM).Pairwise R) : (slC :: (ndY e ++ U.map slM ++ [slP])).Pairwise R := by
  have hY : ∀ x ∈ ndY e, x = slJ := fun x hx => by
    unfold ndY at hx
    split at hx
    · exact List.mem_singleton.1 hx
    · cases hx
  have hYp : (ndY e).Pairwise R := by
    unfold ndY
    split
    · exact List.pairwise_singleton _ _
    · exact List.Pairwise.nil
  refine List.pairwise_cons.2 ⟨fun x hx => ?_, List.pairwise_append.2 ⟨List.pairwise_append.2 ⟨hYp, hU, fun a ha b hb => ?_⟩, List.pairwise_singleton _ _, fun a ha b hb => ?_⟩⟩
  · rw [List.mem_append, List.mem_append, List.mem_singleton, List.mem_map] at hx
    rcases hx with (hx | ⟨u, _, rfl⟩) | rfl
    · rw [hY x hx]; exact hR _ _ slC_lt_J
    · exact hR _ _ (slC_lt_M u)
    · exact hR _ _ slC_lt_P
  · rw [List.mem_map] at hb
    obtain ⟨u, _, rfl⟩ := hb
    rw [hY a ha]
    exact hR _ _ (slJ_lt_M u)
  · rw [List.mem_singleton] at hb
    subst hb
    rw [List.mem_append, List.mem_map] at ha
    rcases ha with ha | ⟨u, _, rfl⟩
    · rw [hY a ha]; exact hR _ _ slJ_lt_P
    · exact hR _ _ (slM_lt_P u)
theorem us_order (e : Ev) : ((us e).map slM).Pairwise fun a b => ¬ Lt b a := by
  unfold us
  split
  · exact List.pairwise_singleton _ _
  · split
    · exact List.pairwise_cons.2 ⟨fun b hb => by rw [List.mem_singleton.1 hb]; exact Lt.irrefl _, List.pairwise_singleton _ _⟩
    · rename_i h
      split
      · rename_i h2
        exact List.pairwise_cons.2 ⟨fun b hb => by rw [List.mem_singleton.1 hb]; exact (slM_lt h2).asymm, List.pairwise_singleton _ _⟩
      · rename_i h2
        exact List.pairwise_cons.2 ⟨fun b hb => by rw [List.mem_singleton.1 hb]; exact (slM_lt (lt_or_gt h h2)).asymm, List.pairwise_singleton _ _⟩
theorem ndS_order (e : Ev) : (ndS e).Pairwise fun a b => ¬ Lt b a := nd_order (fun _ _ h => h.asymm) e (us_order e)
theorem ndL_strict (e : Ev) : (slC :: (ndY e ++ (uq e).map slM ++ [slP])).Pairwise Lt := nd_order (fun _ _ h => h) e (List.pairwise_map.2 ((uq_srt e).imp fun h => slM_lt h))
theorem ndS_id (e : Ev) : ∀ x ∈ ndS e, x.id = ByteArray.empty := fun x hx => by
  unfold ndS at hx
  rw [List.mem_cons, List.mem_append, List.mem_append, List.mem_map, List.mem_singleton] at hx
  rcases hx with rfl | (hx | ⟨u, _, rfl⟩) | rfl
  · rfl
  · unfold ndY at hx
    split at hx
    · rw [List.mem_singleton.1 hx]; rfl
    · cases hx
  · rfl
  · rfl
/-- what the sort leaves. -/
theorem nd_sorted {e : Ev} {l : List Ent} (hp : l.Perm (ndA e)) (ho : l.Pairwise fun a b => ¬ Lt b a) : l = ndS e := by
  have hp2 : l.Perm (ndS e) := hp.trans (nd_perm e).symm
  refine List.Perm.eq_of_pairwise (le := fun a b => ¬ Lt b a) (fun a b ha hb hab hba => ?_) ho (ndS_order e) hp2
  have ia := ndS_id e a (hp2.mem_iff.1 ha)
  have ib := ndS_id e b hb
  rcases tri a b with ⟨h, _⟩ | ⟨h, _⟩ | ⟨h, _⟩
  · exact absurd h hba
  · obtain ⟨t1, k1, i1⟩ := a
    obtain ⟨t2, k2, i2⟩ := b
    simp only at h ia ib
    rw [h.1, h.2, ia, ib]
  · exact absurd h hab

theorem strict_ne {l : List Ent} (h : l.Pairwise Lt) : ∀ i, i + 1 < l.length → ¬ ((eAt l (i + 1)).ty = (eAt l i).ty ∧ (eAt l (i + 1)).key = (eAt l i).key) := fun i hi e => by
  rw [eAt_get l (i + 1) hi, eAt_get l i (by omega)] at e
  have := List.pairwise_iff_getElem.1 h i (i + 1) (by omega) hi (Nat.lt_succ_self i)
  exact this.ne ⟨e.1.symm, e.2.symm⟩
end Go.Proofs.YtnkpikknkooblaaGreat
/-
  What is allowed: plain functions over a view (the event at each slot).
-/
namespace Go.Proofs.YtnkpikknkooblaaGreat
open Go.RowKit

abbrev tMem : ByteArray := ⟨#[109, 101, 109, 98, 101, 114]⟩
abbrev tRul : ByteArray := ⟨#[106, 111, 105, 110, 95, 114, 117, 108, 101, 115]⟩
abbrev tLea : ByteArray := ⟨#[108, 101, 97, 118, 101]⟩
abbrev tAct : ByteArray := ⟨#[97, 99, 116]⟩
abbrev tSta : ByteArray := ⟨#[115, 116, 97, 116, 101]⟩
abbrev tBan : ByteArray := ⟨#[98, 97, 110]⟩
abbrev tKic : ByteArray := ⟨#[107, 105, 99, 107]⟩
abbrev tInv : ByteArray := ⟨#[105, 110, 118, 105, 116, 101]⟩

/-- the event at each slot. -/
abbrev View := ByteArray → ByteArray → Option Ev
/-- a state's view. -/
def evO (E : Nat → Ev) (n : Nat) (l : List Ent) : View := fun ty key => if 0 ≤ atV E n l ty key then some (E (atV E n l ty key).toNat) else none
def isJoin (t : ByteArray) : Bool := t.toList == [106, 111, 105, 110]
def isInv (t : ByteArray) : Bool := t.toList == [105, 110, 118, 105, 116, 101]
def isLea (t : ByteArray) : Bool := t.toList == [108, 101, 97, 118, 101]
def isBan (t : ByteArray) : Bool := t.toList == [98, 97, 110]
def isPub (t : ByteArray) : Bool := t.toList == [112, 117, 98, 108, 105, 99]
def isKic (t : ByteArray) : Bool := t.toList == [107, 105, 99, 107]
def isSta (t : ByteArray) : Bool := t.toList == [115, 116, 97, 116, 101]
/-- the level of a user. -/
def lvO (o : View) (u : ByteArray) : Int := match o tPow tNil with
  | some p => byG p u
  | none => match o tCre tNil with
    | some c => if (c.sd.toList == u.toList) = true then 100 else 0
    | none => 0
/-- the level at a name, or otherwise. -/
def thO (o : View) (nm : ByteArray) (z : Int) : Int := match o tPow tNil with
  | some p => (gV p.M p.L nm p.ng).getD z
  | none => z
/-- what a thing asks where no grant says it. -/
def dfV (o : View) (t : ByteArray) : Int := if isBan t || isKic t || (isSta t && (o tPow tNil).isSome) then 50 else 0
/-- the level for a thing. -/
def tgV (o : View) (t : ByteArray) : Int := thO o (⟨#[42]⟩ ++ t) (dfV o t)
/-- the membership of a user. -/
def memO (o : View) (u : ByteArray) : ByteArray := match o tMem u with
  | some m => m.val
  | none => tLea
def pubB (o : View) : Bool := match o tRul tNil with
  | some r => isPub r.val
  | none => false
def creB (o : View) (u : ByteArray) : Bool := match o tCre tNil with
  | some c => c.sd.toList == u.toList
  | none => false
def expB (t : ByteArray) : Bool := isJoin t || isInv t
/-- a join. -/
def joV (o : View) (e : Ev) : Int := if (e.sd.toList == e.key.toList) = false then 3 else if isBan (memO o e.key) then 4 else if expB (memO o e.key) || pubB o || (creB o e.sd && (o tMem e.key).isNone) then 0 else 5
/-- another's member event. -/
def meV (o : View) (e : Ev) : Int :=
  if isInv e.val then (if isJoin (memO o e.key) || isBan (memO o e.key) then 7 else if lvO o e.sd < tgV o tInv then 8 else 0)
  else if (isBan e.val || isBan (memO o e.key)) && decide (lvO o e.sd < tgV o tBan) then 8
  else if isLea e.val && decide (lvO o e.sd < tgV o tKic) then 8
  else if lvO o e.sd ≤ lvO o e.key then 9 else 0
/-- a name's grant may be so changed. -/
def rgB (a b : Option Int) (own : Int) (nm sd : ByteArray) : Bool :=
  if (a.isSome == b.isSome) && decide (a.getD 0 = b.getD 0) then true
  else if (a.isSome && decide (own < a.getD 0)) || (b.isSome && decide (own < b.getD 0)) then false
  else !(isW nm && !(nm.toList == sd.toList) && a.isSome && decide (own ≤ a.getD 0))
def rgN (p e : Ev) (own : Int) (nm : ByteArray) : Bool := rgB (gV p.M p.L nm p.ng) (gV e.M e.L nm e.ng) own nm e.sd
def evry (f : Nat → Bool) : Nat → Bool
  | 0 => true
  | k + 1 => evry f k && f k
theorem evry_le (f : Nat → Bool) : ∀ m k, k < m → f k = false → evry f m = false
  | m + 1, k, h, h1 => by
    by_cases e : k = m
    · subst e; rw [evry, h1, Bool.and_false]
    · rw [evry, evry_le f m k (by omega) h1]; rfl
/-- the grants may be so changed. -/
def pwB (p e : Ev) (own : Int) : Bool := evry (fun i => rgN p e own (p.M i)) p.ng && evry (fun i => rgN p e own (e.M i)) e.ng
/-- the names, the old ones first. -/
def nmAt (p e : Ev) (i : Nat) : ByteArray := if i < p.ng then p.M i else e.M (i - p.ng)
theorem evry_congr {f g : Nat → Bool} : ∀ {m}, (∀ i, i < m → f i = g i) → evry f m = evry g m
  | 0, _ => rfl
  | m + 1, h => by rw [evry, evry, h m (by omega), evry_congr (fun i hi => h i (by omega))]
theorem pw_names (p e : Ev) (own : Int) : evry (fun i => rgN p e own (nmAt p e i)) (p.ng + e.ng) = pwB p e own := by
  have h1 : ∀ k, evry (fun i => rgN p e own (nmAt p e i)) (p.ng + k) = (evry (fun i => rgN p e own (nmAt p e i)) p.ng && evry (fun i => rgN p e own (e.M i)) k) := fun k => by
    induction k with
    | zero => simp [evry]
    | succ k ih =>
      rw [show p.ng + (k + 1) = (p.ng + k) + 1 by omega, evry, ih, evry, Bool.and_assoc]
      congr 3
      unfold nmAt
      rw [if_neg (by omega), show p.ng + k - p.ng = k by omega]
  rw [h1]
  unfold pwB
  congr 1
  exact evry_congr fun i hi => by unfold nmAt; rw [if_pos hi]
/-- the level that an event asks. -/
def ndV (o : View) (e : Ev) : Int := thO o (⟨#[35]⟩ ++ e.ty) (tgV o (if e.st then tSta else tAct))
/-- the key begins with an at sign. -/
def atB (s : ByteArray) : Bool := if h : 0 < s.size then decide ((s[0].toNat : Int) = 64) else false
theorem atB_none {s : ByteArray} (h : s.toList.isEmpty = true) : atB s = false := by
  unfold atB
  rw [dif_neg]
  intro h0
  rw [ByteArray.toList_eq] at h
  have h1 : s.data.toList = [] := by simpa using h
  have h2 : s.size = s.data.toList.length := rfl
  rw [h1, List.length_nil] at h2
  omega
theorem size_pos {s : ByteArray} (h : s.toList.isEmpty = false) : 0 < s.size := by
  rw [ByteArray.toList_eq] at h
  have h2 : s.size = s.data.toList.length := rfl
  rw [h2]
  cases hs : s.data.toList with
  | nil => rw [hs] at h; cases h
  | cons x l => simp
/-- what is asked of an event that is no member event. -/
def tlV (o : View) (e : Ev) : Int :=
  if lvO o e.sd < ndV o e then 8
  else if atB e.key && !(e.key.toList == e.sd.toList) then 11
  else match o tPow tNil with
    | some p => if isPow e && !pwB p e (lvO o e.sd) then 12 else 0
    | none => 0
/-- the code of a well-formed event in a state that fits. -/
def alV (o : View) (e : Ev) : Int :=
  if isCr e then (if (o tCre tNil).isSome then 1 else 0)
  else if (o tCre tNil).isNone then 2
  else if isMb e && isJn e then joV o e
  else if isMb e && isLea e.val && (e.sd.toList == e.key.toList) then (if expB (memO o e.key) then 0 else 10)
  else if isJoin (memO o e.sd) = false then 6
  else if isMb e then meV o e
  else tlV o e
/-- what Allowed answers. -/
def alR (E : Nat → Ev) (n : Nat) (l : List Ent) (e : Ev) : Int := if e.code = 0 ∧ (roomTo E n && fitB E n l) = true then alV (evO E n l) e else 99

theorem lvO_evO (E : Nat → Ev) (n : Nat) (l : List Ent) (u : ByteArray) : lvO (evO E n l) u = lvV E n l u := by
  unfold lvO lvV evO
  by_cases hp : 0 ≤ atV E n l tPow tNil
  · simp only [hp, if_true]
  · simp only [hp, if_false]
    by_cases hc : 0 ≤ atV E n l tCre tNil
    · simp only [hc, if_true, true_and]
    · simp only [hc, if_false, false_and]
/-- what is known of a well-formed event. -/
theorem ev_key {e : Ev} (h : e.code = 0) : e.key.toList.isEmpty = true ∨ (e.st = true ∧ isW e.key = true) := by
  unfold Ev.code evCode at h
  split at h
  · cases h
  split at h
  · cases h
  rename_i h2
  cases hk : e.key.toList.isEmpty
  · refine Or.inr ⟨?_, ?_⟩
    · cases hs : e.st
      · exact absurd ⟨hk, Or.inl hs⟩ h2
      · rfl
    · cases hs : isW e.key
      · exact absurd ⟨hk, Or.inr hs⟩ h2
      · rfl
  · exact Or.inl rfl
theorem ev_ws {e : Ev} (h : e.code = 0) : isW e.sd = true ∧ isW e.ty = true := by
  unfold Ev.code evCode at h
  split at h
  · cases h
  rename_i h1
  simp only [not_or, Bool.not_eq_false] at h1
  exact h1.2
theorem ev_mem {e : Ev} (h : e.code = 0) (hm : isMb e = true) : memB e.val = true := by
  unfold isMb at hm
  unfold Ev.code evCode at h
  split at h
  · cases h
  split at h
  · cases h
  split at h
  · cases h
  split at h
  · cases h
  split at h
  · cases h
  rename_i h5
  have hc : ctB e.ty e.key e.val e.st e.np e.na e.ng e.M e.L = true := by
    cases hq : ctB e.ty e.key e.val e.st e.np e.na e.ng e.M e.L
    · exact absurd hq h5
    · rfl
  have ht' : e.ty.toList = [109, 101, 109, 98, 101, 114] := by simpa using hm
  unfold ctB at hc
  rw [ht'] at hc
  have e1 : (([109, 101, 109, 98, 101, 114] : List UInt8) == [99, 114, 101, 97, 116, 101]) = false := by decide
  rw [e1] at hc
  simp at hc
  first | exact hc.2 | exact hc.1.2
end Go.Proofs.YtnkpikknkooblaaGreat
/-
  impl's memberSlot, isMember.
-/
namespace Go.Proofs.YtnkpikknkooblaaGreat
open Go.RowKit

set_option maxRecDepth 100000 in
theorem mbrI_any (u : ByteArray) (w : World) :
    Calls Tryz.prog 67 #[.string u] w fun e w' => e = .returned (.agg #[.string ⟨#[109, 101, 109, 98, 101, 114]⟩, .string u]) ∧ Below w.heap.size w w' := by
  go_enter Tryz.func67, Tryz.ntmps67
  go_wp2
  refine bodyPost_ret (v := .agg #[.string ⟨#[109, 101, 109, 98, 101, 114]⟩, .string u]) (by simp [results, Tryz.results67, go_sem]) rfl ⟨rfl, ?_⟩
  repeat' (first | exact Below.refl _ _ | exact Nat.le_refl _ | (refine Below.setCell ?_ ?_ _) | (refine Below.alloc ?_ ?_ _) | (simp; done) | (simp; omega))

set_option maxRecDepth 100000 in
theorem isMI_any (e : Ev) (pa : Option Addr) (cp : Nat) (aa : Option Addr) (ca : Nat) (ga : Option Addr) (cg : Nat) (w : World) :
    Calls Tryz.prog 68 #[e.val' pa cp aa ca ga cg, .string ⟨#[106, 111, 105, 110]⟩] w fun x w' => x = .returned (.bool (isMb e && isJn e)) ∧ Below w.heap.size w w' := by
  have hb0 : ∀ o, Below w.heap.size w (w.alloc o) := fun o => (Below.refl _ _).alloc (Nat.le_refl _) _
  cases hm : isMb e
  case false =>
    have hm' : (e.ty.toList == [109, 101, 109, 98, 101, 114]) = false := hm
    clear hm
    go_enter Tryz.func68, Tryz.ntmps68
    go_wp2
    go_ret
    exact ⟨rfl, hb0 _⟩
  case true =>
    have hm' : (e.ty.toList == [109, 101, 109, 98, 101, 114]) = true := hm
    have Hj : Hid (isJn e = (e.val.toList == [106, 111, 105, 110])) := rfl
    clear hm
    go_enter Tryz.func68, Tryz.ntmps68
    go_wp2
    go_ret
    exact ⟨by rw [Hj.out]; rfl, hb0 _⟩
end Go.Proofs.YtnkpikknkooblaaGreat
/-
  What the rules say, one by one, and what the first that speaks says: plain.
-/
namespace Go.Proofs.YtnkpikknkooblaaGreat
open Go.RowKit

/-- a level against the key's. -/
def ovK (o : View) (e : Ev) : Int := if lvO o e.sd ≤ lvO o e.key then 9 else 0
def rCre (o : View) (e : Ev) : Int × Bool := if isCr e then (if (o tCre tNil).isSome then 1 else 0, true) else (0, false)
def rWit (o : View) : Int × Bool := (2, (o tCre tNil).isNone)
def rJoi (o : View) (e : Ev) : Int × Bool := if isMb e && isJn e then (joV o e, true) else (0, false)
def rLea (o : View) (e : Ev) : Int × Bool := if isMb e && isLea e.val && (e.sd.toList == e.key.toList) then (if expB (memO o e.key) then 0 else 10, true) else (0, false)
def rOut (o : View) (e : Ev) : Int × Bool := (6, !isJoin (memO o e.sd))
def rInv (o : View) (e : Ev) : Int × Bool := if isMb e && isInv e.val then (if isJoin (memO o e.key) || isBan (memO o e.key) then 7 else if lvO o e.sd < tgV o tInv then 8 else 0, true) else (0, false)
def rBan (o : View) (e : Ev) : Int × Bool := if isMb e && isBan e.val then (if lvO o e.sd < tgV o tBan then 8 else ovK o e, true) else (0, false)
def rRem (o : View) (e : Ev) : Int × Bool := if isMb e && isLea e.val then (if (isBan (memO o e.key) && decide (lvO o e.sd < tgV o tBan)) || decide (lvO o e.sd < tgV o tKic) then 8 else ovK o e, true) else (0, false)
def rUnd (o : View) (e : Ev) : Int × Bool := (8, decide (lvO o e.sd < ndV o e))
def rKey (e : Ev) : Int × Bool := (11, atB e.key && !(e.key.toList == e.sd.toList))
def rReg (o : View) (e : Ev) : Int × Bool := match o tPow tNil with
  | some p => if isPow e then (12, !pwB p e (lvO o e.sd)) else (0, false)
  | none => (0, false)
/-- what rule k says. -/
def rlV (o : View) (e : Ev) : Nat → Int × Bool
  | 0 => rCre o e
  | 1 => rWit o
  | 2 => rJoi o e
  | 3 => rLea o e
  | 4 => rOut o e
  | 5 => rInv o e
  | 6 => rBan o e
  | 7 => rRem o e
  | 8 => rUnd o e
  | 9 => rKey e
  | _ => rReg o e
/-- what the first of m rules from i on says that speaks. -/
def vdF (f : Nat → Int × Bool) : Nat → Nat → Int
  | _, 0 => 0
  | i, m + 1 => if (f i).2 then (f i).1 else vdF f (i + 1) m
theorem vdF_go {f : Nat → Int × Bool} {i m : Nat} (h : (f i).2 = false) : vdF f i (m + 1) = vdF f (i + 1) m := by rw [vdF, h]; rfl
theorem vdF_is {f : Nat → Int × Bool} {i m : Nat} (h : (f i).2 = true) : vdF f i (m + 1) = (f i).1 := by rw [vdF, h]; rfl

theorem val_of {e : Ev} (h : e.code = 0) (hm : isMb e = true) : e.val.toList = [106, 111, 105, 110] ∨ e.val.toList = [105, 110, 118, 105, 116, 101] ∨ e.val.toList = [108, 101, 97, 118, 101] ∨ e.val.toList = [98, 97, 110] := by
  have := ev_mem h hm
  unfold memB at this
  simp only [Bool.or_eq_true, beq_iff_eq] at this
  rcases this with h1 | h1 | h1 | h1
  all_goals simp [h1]

theorem rReg_eq (o : View) (e : Ev) : (if (rReg o e).2 then (rReg o e).1 else 0) = match o tPow tNil with
    | some p => if isPow e && !pwB p e (lvO o e.sd) then 12 else 0
    | none => 0 := by
  unfold rReg
  generalize lvO o e.sd = z
  generalize o tPow tNil = q
  cases q with
  | none => rfl
  | some p => cases isPow e <;> cases pwB p e z <;> rfl

theorem vd_al {o : View} {e : Ev} (h : e.code = 0) : vdF (rlV o e) 0 11 = alV o e := by
  simp only [vdF, rlV, alV]
  unfold rCre
  cases hcr : isCr e
  case true => simp
  case false =>
    cases hc : (o tCre tNil).isNone
    case true => simp [rWit, hc]
    case false =>
      cases hm : isMb e
      case true =>
        rcases val_of h hm with hv | hv | hv | hv
        · simp [rWit, hc, rJoi, hm, isJn, hv]
        · simp [rWit, hc, rJoi, rLea, rOut, rInv, meV, hm, isJn, isLea, isInv, isBan, hv]
        · cases hs : e.sd.toList == e.key.toList
          · simp [rWit, hc, rJoi, rLea, rOut, rInv, rBan, rRem, meV, hm, isJn, isLea, isInv, hv, hs, ovK]
            have hb : isBan e.val = false := by unfold isBan; rw [hv]; decide
            cases isJoin (memO o e.sd) <;> simp [hb]
            cases isBan (memO o e.key) <;> by_cases h1 : lvO o e.sd < tgV o tBan <;> by_cases h2 : lvO o e.sd < tgV o tKic <;> simp [h1, h2]
          · simp [rWit, hc, rJoi, rLea, hm, isJn, isLea, hv, hs]
        · have hb : isBan e.val = true := by unfold isBan; rw [hv]; decide
          simp [rWit, hc, rJoi, rLea, rOut, rInv, rBan, meV, hm, isJn, isLea, isInv, hb, hv, ovK]
      case false =>
        rw [rReg_eq]
        simp [rWit, hc, rJoi, rLea, rOut, rInv, rBan, rRem, rUnd, rKey, tlV, hm] <;> rfl
end Go.Proofs.YtnkpikknkooblaaGreat
