import Derived.Test.YtnkpikknkooblaaGreatSetA
import Derived.Test.YtnkpikknkooblaaGreatCmA
import Derived.Test.YtnkpikknkooblaaGreatCsA
import Derived.Maps.RangeWalk
import Derived.DeepKeys4
/-
  Changes on lists in order: plain facts.
-/
namespace Go.Proofs.YtnkpikknkooblaaGreat
open Go.RowKit

theorem befB_ff {a b : Ent} : befB a b = false ↔ ¬ Lt a b := by
  rw [← befB_iff]; cases befB a b <;> simp
theorem takeW_filter {e : Ent} : ∀ {l : List Ent}, SrtE l → l.takeWhile (fun x => befB x e) = l.filter fun x => befB x e
  | [], _ => rfl
  | a :: l, h => by
    obtain ⟨h1, h2⟩ := List.pairwise_cons.1 h
    cases hb : befB a e
    · rw [List.takeWhile_cons_of_neg (by simp [hb]), List.filter_cons_of_neg (by simp [hb])]
      symm
      rw [List.filter_eq_nil_iff]
      intro x hx hx2
      exact befB_ff.1 hb ((h1 x hx).trans ((befB_iff _ _).1 hx2))
    · rw [List.takeWhile_cons_of_pos (by exact hb), List.filter_cons_of_pos (by exact hb), takeW_filter h2]
/-- e is put in. -/
def kept (e : Ent) (keep : Bool) : Bool := keep || !e.id.toList.isEmpty
theorem setL_eq {l : List Ent} (h : SrtE l) (e : Ent) (keep : Bool) : setL l e keep = (l.filter fun x => befB x e) ++ ((if kept e keep then [e] else []) ++ l.filter fun x => befB e x) := by
  unfold setL kept
  rw [takeW_filter h]
theorem srt_mid {l : List Ent} (h : SrtE l) (e : Ent) (m : List Ent) (hm : m = [] ∨ ∃ y, m = [y] ∧ y.ty = e.ty ∧ y.key = e.key) : SrtE ((l.filter fun x => befB x e) ++ (m ++ l.filter fun x => befB e x)) := by
  have hle : ∀ y : Ent, y.ty = e.ty ∧ y.key = e.key → ∀ x, (Lt x e → Lt x y) ∧ (Lt e x → Lt y x) := fun y hy x => by unfold Lt; rw [hy.1, hy.2]; exact ⟨id, id⟩
  refine List.pairwise_append.2 ⟨List.Pairwise.filter _ h, List.pairwise_append.2 ⟨?_, List.Pairwise.filter _ h, ?_⟩, ?_⟩
  · rcases hm with rfl | ⟨y, rfl, _⟩
    · exact List.Pairwise.nil
    · exact List.pairwise_singleton _ _
  · intro a ha b hb
    rcases hm with rfl | ⟨y, rfl, hy⟩
    · cases ha
    · rw [List.mem_singleton] at ha
      subst ha
      exact (hle _ hy b).2 ((befB_iff _ _).1 (List.mem_filter.1 hb).2)
  · intro a ha b hb
    have ha2 := (befB_iff _ _).1 (List.mem_filter.1 ha).2
    rcases List.mem_append.1 hb with hb | hb
    · rcases hm with rfl | ⟨y, rfl, hy⟩
      · cases hb
      · rw [List.mem_singleton] at hb
        subst hb
        exact (hle _ hy a).1 ha2
    · exact ha2.trans ((befB_iff _ _).1 (List.mem_filter.1 hb).2)
theorem setL_srt {l : List Ent} (h : SrtE l) (e : Ent) (keep : Bool) : SrtE (setL l e keep) := by
  rw [setL_eq h]
  refine srt_mid h e _ ?_
  split
  · exact Or.inr ⟨e, rfl, rfl, rfl⟩
  · exact Or.inl rfl
theorem setL_in {l : List Ent} (h : SrtE l) (e : Ent) (keep : Bool) (x : Ent) : x ∈ setL l e keep ↔ (x ∈ l ∧ ¬ (x.ty = e.ty ∧ x.key = e.key)) ∨ (x = e ∧ kept e keep = true) := by
  rw [setL_eq h, List.mem_append, List.mem_append, List.mem_filter, List.mem_filter, befB_iff, befB_iff]
  constructor
  · rintro (⟨h1, h2⟩ | h1 | ⟨h1, h2⟩)
    · exact Or.inl ⟨h1, h2.ne⟩
    · split at h1
      · rename_i hk; exact Or.inr ⟨by simpa using h1, hk⟩
      · cases h1
    · exact Or.inl ⟨h1, fun e' => h2.ne ⟨e'.1.symm, e'.2.symm⟩⟩
  · rintro (⟨h1, h2⟩ | ⟨rfl, hk⟩)
    · rcases tri x e with ⟨h3, _⟩ | ⟨h3, _⟩ | ⟨h3, _⟩
      · exact Or.inl ⟨h1, h3⟩
      · exact absurd h3 h2
      · exact Or.inr (Or.inr ⟨h1, h3⟩)
    · exact Or.inr (Or.inl (by rw [if_pos hk]; simp))
theorem setL_look {l : List Ent} (h : SrtE l) (e : Ent) (keep : Bool) (s : Ent) :
    lookE (setL l e keep) s = if e.ty = s.ty ∧ e.key = s.key then (if kept e keep = true then some e else none) else lookE l s := by
  have hs := setL_srt h e keep
  by_cases he : e.ty = s.ty ∧ e.key = s.key
  · rw [if_pos he]
    by_cases hk : kept e keep = true
    · rw [if_pos hk]
      exact lookE_mem hs ((setL_in h e keep e).2 (Or.inr ⟨rfl, hk⟩)) he
    · rw [if_neg hk]
      refine lookE_none.2 fun x hx hxs => ?_
      rcases (setL_in h e keep x).1 hx with ⟨_, h2⟩ | ⟨_, h2⟩
      · exact h2 ⟨hxs.1.trans he.1.symm, hxs.2.trans he.2.symm⟩
      · exact hk h2
  · rw [if_neg he]
    cases hl : lookE l s with
    | none =>
      refine lookE_none.2 fun x hx hxs => ?_
      rcases (setL_in h e keep x).1 hx with ⟨h1, _⟩ | ⟨rfl, _⟩
      · exact lookE_none.1 hl x h1 hxs
      · exact he hxs
    | some y =>
      obtain ⟨h1, h2⟩ := lookE_some hl
      exact lookE_mem hs ((setL_in h e keep y).2 (Or.inl ⟨h1, fun e' => he ⟨e'.1.symm.trans h2.1, e'.2.symm.trans h2.2⟩⟩)) h2
theorem split3 {l : List Ent} (h : SrtE l) (e : Ent) : l = (l.filter fun x => befB x e) ++ ((lookE l e).toList ++ l.filter fun x => befB e x) := by
  refine srt_ext h (srt_mid h e _ ?_) fun x => ?_
  · cases hl : lookE l e with
    | none => exact Or.inl rfl
    | some y => exact Or.inr ⟨y, rfl, (lookE_some hl).2⟩
  · rw [List.mem_append, List.mem_append, List.mem_filter, List.mem_filter, befB_iff, befB_iff]
    constructor
    · intro hx
      rcases tri x e with ⟨h3, _⟩ | ⟨h3, _⟩ | ⟨h3, _⟩
      · exact Or.inl ⟨hx, h3⟩
      · exact Or.inr (Or.inl (by rw [lookE_mem h hx h3]; simp))
      · exact Or.inr (Or.inr ⟨hx, h3⟩)
    · rintro (⟨h1, _⟩ | h1 | ⟨h1, _⟩)
      · exact h1
      · cases hl : lookE l e with
        | none => rw [hl] at h1; cases h1
        | some y =>
          rw [hl] at h1
          have : x = y := by simpa using h1
          subst this
          exact (lookE_some hl).1
      · exact h1
theorem setL_length {l : List Ent} (h : SrtE l) (e : Ent) (keep : Bool) : ((setL l e keep).length : Int) = l.length + (if kept e keep = true then 1 else 0) - (if (lookE l e).isSome = true then 1 else 0) := by
  have e1 : (setL l e keep).length = (l.filter fun x => befB x e).length + ((if kept e keep then [e] else []).length + (l.filter fun x => befB e x).length) := by rw [setL_eq h, List.length_append, List.length_append]
  have e2 : l.length = (l.filter fun x => befB x e).length + ((lookE l e).toList.length + (l.filter fun x => befB e x).length) := by
    conv => lhs; rw [split3 h e]
    rw [List.length_append, List.length_append]
  rw [e1]
  have e3 : (if kept e keep then [e] else []).length = if kept e keep = true then 1 else 0 := by split <;> rfl
  have e4 : (lookE l e).toList.length = if (lookE l e).isSome = true then 1 else 0 := by cases lookE l e <;> rfl
  rw [e4] at e2
  rw [e3]
  split <;> split at e2 <;> simp_all <;> omega

/-! ### patL -/

theorem take_srt {l : List Ent} (h : SrtE l) (k : Nat) : SrtE (l.take k) := List.Pairwise.sublist (List.take_sublist k l) h
theorem patL_srt {l ch : List Ent} (h : SrtE l) : ∀ k, SrtE (patL l ch k)
  | 0 => h
  | k + 1 => setL_srt (patL_srt h k) _ _
/-- what a change makes of a slot. -/
def chgTo (o : Option Ent) (was : Option Ent) : Option Ent := match o with | some e => if e.id.toList.isEmpty then none else some e | none => was
theorem kept_ff (e : Ent) : kept e false = !e.id.toList.isEmpty := by simp [kept]
theorem patL_look {l ch : List Ent} (h : SrtE l) (hc : SrtE ch) (s : Ent) : ∀ k, k ≤ ch.length → lookE (patL l ch k) s = chgTo (lookE (ch.take k) s) (lookE l s)
  | 0, _ => by rw [List.take_zero]; rfl
  | k + 1, hk => by
    have ih := patL_look h hc s k (by omega)
    unfold patL
    rw [setL_look (patL_srt h k), ih, kept_ff]
    have ht := take_snocE ch k (by omega)
    by_cases he : (eAt ch k).ty = s.ty ∧ (eAt ch k).key = s.key
    · rw [if_pos he]
      have : lookE (ch.take (k + 1)) s = some (eAt ch k) := lookE_mem (take_srt hc _) (by rw [ht]; simp) he
      rw [this]
      cases h9 : (eAt ch k).id.toList.isEmpty <;> simp [chgTo, h9]
    · rw [if_neg he]
      have : lookE (ch.take (k + 1)) s = lookE (ch.take k) s := by
        unfold lookE
        rw [ht, List.find?_append]
        have hn : samB (eAt ch k) s = false := by
          cases hq : samB (eAt ch k) s
          · rfl
          · exact absurd ((samB_iff _ _).1 hq) he
        rw [List.find?_cons, hn]
        simp
      rw [this]
theorem patL_lookAll {l ch : List Ent} (h : SrtE l) (hc : SrtE ch) (s : Ent) : lookE (patL l ch ch.length) s = chgTo (lookE ch s) (lookE l s) := by
  rw [patL_look h hc s _ (Nat.le_refl _), List.take_length]
theorem take_fresh {ch : List Ent} (hc : SrtE ch) {k : Nat} (hk : k < ch.length) : lookE (ch.take k) (eAt ch k) = none := by
  refine lookE_none.2 fun x hx e => ?_
  obtain ⟨j, hj, rfl⟩ := List.mem_iff_getElem.1 hx
  rw [List.length_take] at hj
  rw [List.getElem_take, ← eAt_get ch j (by omega)] at e
  exact (srt_at hc (by omega) hk).ne e
/-- one change more. -/
theorem patL_len1 {l ch : List Ent} (h : SrtE l) (hc : SrtE ch) {k : Nat} (hk : k < ch.length) :
    ((patL l ch (k + 1)).length : Int) = (patL l ch k).length + (if (eAt ch k).id.toList.isEmpty = true then 0 else 1) - (if (lookE l (eAt ch k)).isSome = true then 1 else 0) := by
  have e1 : lookE (patL l ch k) (eAt ch k) = lookE l (eAt ch k) := by rw [patL_look h hc _ k (by omega), take_fresh hc hk]; rfl
  show ((setL (patL l ch k) (eAt ch k) false).length : Int) = _
  rw [setL_length (patL_srt h k), e1, kept_ff]
  cases (eAt ch k).id.toList.isEmpty <;> simp

/-! ### all Ids -/

def Ids (l : List Ent) : Prop := ∀ x ∈ l, x.id.toList.isEmpty = false
theorem patL_ids {l ch : List Ent} (h : SrtE l) (hi : Ids l) : ∀ k, Ids (patL l ch k)
  | 0 => hi
  | k + 1 => fun x hx => by
    unfold patL at hx
    rcases (setL_in (patL_srt h k) _ _ x).1 hx with ⟨h1, _⟩ | ⟨rfl, h2⟩
    · exact patL_ids h hi k x h1
    · rw [kept_ff] at h2; simpa using h2

/-! ### layers: the topmost first -/

def stOf : List (List Ent) → List Ent
  | [] => []
  | S :: R => match R with
    | [] => S
    | _ :: _ => patL (stOf R) S S.length
/-- layers as they come of a valid store. -/
def ChOk : List (List Ent) → Prop
  | [] => False
  | S :: R => SrtE S ∧ S.length ≤ 600 ∧ AllOk S ∧ match R with
    | [] => Ids S
    | _ :: _ => ChOk R
theorem stOf_ok : ∀ {L : List (List Ent)}, ChOk L → SrtE (stOf L) ∧ Ids (stOf L) ∧ AllOk (stOf L)
  | [], h => h.elim
  | [S], h => ⟨h.1, h.2.2.2, h.2.2.1⟩
  | S :: T :: R, h => by
    obtain ⟨h1, _, h3, h4⟩ := h
    obtain ⟨i1, i2, i3⟩ := stOf_ok (L := T :: R) h4
    exact ⟨patL_srt i1 _, patL_ids i1 i2 _, patL_ok i3 h3 _ (Nat.le_refl _)⟩
/-- a slot looked up, layer by layer: the Id, and how many layers were looked at. -/
def lkL : List (List Ent) → Ent → ByteArray × Nat
  | [], _ => (⟨#[]⟩, 0)
  | S :: R, s => match lookE S s with
    | some e => (e.id, 1)
    | none => ((lkL R s).1, (lkL R s).2 + 1)
theorem empty_id : (⟨#[]⟩ : ByteArray).toList.isEmpty = true := by rw [ByteArray.toList_eq]; rfl
theorem ba_empty {b : ByteArray} (h : b.toList.isEmpty = true) : b = ⟨#[]⟩ := ba_eq (by rw [ByteArray.toList_eq, List.isEmpty_iff] at h; exact h)
theorem lkL_st : ∀ {L : List (List Ent)}, ChOk L → ∀ s, (lkL L s).1 = match lookE (stOf L) s with | some e => e.id | none => ⟨#[]⟩
  | [], h, _ => h.elim
  | [S], h, s => by
    show (lkL [S] s).1 = match lookE S s with | some e => e.id | none => ⟨#[]⟩
    unfold lkL
    cases lookE S s <;> rfl
  | S :: T :: R, h, s => by
    obtain ⟨h1, _, _, h4⟩ := h
    have ih := lkL_st (L := T :: R) h4 s
    have hl : lookE (stOf (S :: T :: R)) s = chgTo (lookE S s) (lookE (stOf (T :: R)) s) := patL_lookAll (stOf_ok (L := T :: R) h4).1 h1 s
    rw [hl]
    unfold lkL
    cases hS : lookE S s with
    | none => exact ih
    | some e =>
      cases he : e.id.toList.isEmpty
      · simp [chgTo, he]
      · simp only [chgTo, he, if_true]; exact ba_empty he
theorem lkL_some {L : List (List Ent)} (h : ChOk L) (s : Ent) : (lkL L s).1.toList.isEmpty = !(lookE (stOf L) s).isSome := by
  rw [lkL_st h]
  cases hl : lookE (stOf L) s with
  | none => exact empty_id
  | some e => exact (stOf_ok h).2.1 e (lookE_some hl).1
end Go.Proofs.YtnkpikknkooblaaGreat
/-
  A map from slots to entries, by what it knows.
-/
namespace Go.Proofs.YtnkpikknkooblaaGreat
open Go.RowKit Go.Maps Go.ChangeMaps

theorem Tryz.laidM : laidOutB Tryz.prog = true := by kernel_rfl
theorem rowSlot : (121 : TypeId) < Tryz.prog.types.size := of_decide_eq_true (by kernel_rfl)
theorem wideSlot : (match Tryz.prog.underlying 121 with | some (.array _ _) | some (.struct _) => true | _ => false) = true := by kernel_rfl
theorem cellsSlot : Tryz.prog.cellsOf 121 = 2 := by kernel_rfl
theorem cellsStrM : Tryz.prog.cellsOf 9 = 1 := by kernel_rfl
theorem keyTSlot : Tryz.prog.keyType 121 = true := by kernel_rfl
set_option maxRecDepth 100000 in
theorem lawSlot : Keyed Tryz.prog 121 := Keyed.of_law (deep_law_laid Tryz.laidM (m := 2) (by omega) rowSlot (by kernel_rfl) wideSlot)
theorem zeroEnt (w : World) : (zeroValue 58).run Tryz.prog w = .ok (.agg #[.string ⟨#[]⟩, .string ⟨#[]⟩, .string ⟨#[]⟩]) w := by kernel_rfl

def slotL (s : Ent) : Lit := .string (keyBytes [.string s.ty.data.toList, .string s.key.data.toList])
/-- the slot's texts are of a size that a text can have. -/
def SOk (s : Ent) : Prop := s.ty.size ≤ maxLen ∧ s.key.size ≤ maxLen
theorem keyLits_str {m : Nat} {s : ByteArray} (h : s.size ≤ maxLen) : Tryz.prog.keyLits (m + 1) 9 [.string s] = some [.string s.data.toList] := by
  unfold Program.keyLits
  simp only [Tryz.underlying9]
  rw [if_pos h]
set_option maxRecDepth 100000 in
theorem keyOf_slot {s : Ent} (h : SOk s) : keyOf Tryz.prog 121 (slotV s) = some (slotL s) := by
  obtain ⟨m, hm⟩ : ∃ m, Tryz.prog.types.size = m + 1 := ⟨Tryz.prog.types.size - 1, (Nat.sub_add_cancel (Nat.succ_le_of_lt (Nat.lt_of_le_of_lt (Nat.zero_le _) rowSlot))).symm⟩
  have hfm : (slotV s).formed Tryz.prog 121 = true := by simp [Value.formed, Tryz.underlying121, cellsSlot]
  have hl : Tryz.prog.keyLits (Tryz.prog.types.size + 1) 121 (slotV s).cells.toList = some [.string s.ty.data.toList, .string s.key.data.toList] := by
    rw [hm]
    have e : (slotV s).cells.toList = [.string s.ty, .string s.key] := rfl
    rw [e]
    unfold Program.keyLits
    simp only [Tryz.underlying121]
    rw [if_pos ⟨by rw [cellsSlot]; rfl, by first | decide | kernel_rfl⟩]
    simp only [cellsStrM, List.mapM_cons, List.mapM_nil, List.drop_zero, List.drop_succ_cons, List.take_succ_cons, List.take_zero]
    rw [keyLits_str h.1, keyLits_str h.2]
    rfl
  unfold keyOf
  rw [Tryz.underlying121]
  simp only []
  rw [keyTSlot, hfm, hl]
  rfl
theorem slotL_key (s : Ent) : WideAt.IsKeyLit (slotL s) := trivial
set_option maxRecDepth 100000 in
theorem slotL_iff {s t : Ent} (hs : SOk s) (ht : SOk t) : slotL s = slotL t ↔ s.ty = t.ty ∧ s.key = t.key := by
  constructor
  · intro h
    have h1 := keyOf_slot hs
    rw [h] at h1
    have := lawSlot.inj h1 (keyOf_slot ht)
    injection this with this
    have e := Array.mk.inj this
    injection e with e1 e2
    injection e2 with e2 _
    injection e1 with e1
    injection e2 with e2
    exact ⟨e1, e2⟩
  · rintro ⟨h1, h2⟩
    unfold slotL
    rw [h1, h2]
theorem same_slot {s t : Ent} (hs : SOk s) (ht : SOk t) : (slotL t).sameKey (slotL s) = samB s t := by
  rw [Bool.eq_iff_iff, samB_iff]
  constructor
  · intro h
    exact (slotL_iff hs ht).1 (WideAt.sameKey_eq h).symm
  · intro h
    rw [(slotL_iff hs ht).2 h]
    exact WideAt.sameKey_self (slotL_key t)

def entD (e : Ent) : DataW Unit := .agg [.lit (.string e.ty.data.toList), .lit (.string e.key.data.toList), .lit (.string e.id.data.toList)]
/-- how an entry's value reads. -/
def entR : Value → Option (DataW Unit × List MemPlace)
  | .agg cs => match cs.toList with
    | [.string a, .string b, .string c] => some (entD ⟨a, b, c⟩, [])
    | _ => none
  | _ => none
theorem entR_mk (e : Ent) : entR (entV e) = some (entD e, []) := rfl
theorem entR_inv {v : Value} {z : DataW Unit × List MemPlace} (h : entR v = some z) : ∃ e : Ent, v = entV e ∧ z = (entD e, []) := by
  unfold entR at h
  split at h
  · rename_i cs
    split at h
    · rename_i a b c hc
      refine ⟨⟨a, b, c⟩, ?_, ?_⟩
      · obtain ⟨cs⟩ := cs
        simp only at hc
        rw [hc]
      · injection h with h
        exact h.symm
    · cases h
  · cases h
theorem entD_inj {a b : Ent} (h : entD a = entD b) : a = b := by
  unfold entD at h
  injection h with h
  injection h with h1 h
  injection h with h2 h
  injection h with h3 _
  injection h1 with h1; injection h1 with h1
  injection h2 with h2; injection h2 with h2
  injection h3 with h3; injection h3 with h3
  obtain ⟨a1, a2, a3⟩ := a
  obtain ⟨b1, b2, b3⟩ := b
  have e1 := ba_eq h1
  have e2 := ba_eq h2
  have e3 := ba_eq h3
  simp only at e1 e2 e3
  rw [e1, e2, e3]

/-- D knows what F says. -/
def KD (D : DataW Unit) (F : Ent → Option Ent) : Prop :=
  (∀ kl, has D kl = true → ∃ s, SOk s ∧ kl = slotL s) ∧ ∀ s, SOk s → has D (slotL s) = (F s).isSome ∧ ∀ e, F s = some e → ∀ zd, D.atKey (slotL s) zd = entD e
def putF (F : Ent → Option Ent) (k e : Ent) : Ent → Option Ent := fun s => if samB k s = true then some e else F s
def delF (F : Ent → Option Ent) (k : Ent) : Ent → Option Ent := fun s => if samB k s = true then none else F s
theorem KD.put {D : DataW Unit} {F : Ent → Option Ent} (h : KD D F) (hD : IsMap D) {k : Ent} (hk : SOk k) (e : Ent) : KD (D.put (slotL k) (entD e)) (putF F k e) := by
  refine ⟨fun kl hkl => ?_, fun s hs => ?_⟩
  · by_cases e1 : kl = slotL k
    · exact ⟨k, hk, e1⟩
    · rw [has_put_other e1] at hkl
      exact h.1 kl hkl
  · unfold putF
    by_cases e1 : samB k s = true
    · rw [if_pos e1]
      have e2 : slotL s = slotL k := ((slotL_iff hk hs).2 ((samB_iff _ _).1 e1)).symm
      rw [e2]
      exact ⟨has_put_same hD (slotL_key k) _, fun e' he' zd => by injection he' with he'; rw [← he']; exact atKey_put_same hD (slotL_key k) _ _⟩
    · rw [if_neg e1]
      have e2 : slotL s ≠ slotL k := fun e' => e1 ((samB_iff _ _).2 ((slotL_iff hk hs).1 e'.symm))
      rw [has_put_other e2]
      exact ⟨(h.2 s hs).1, fun e' he' zd => by rw [atKey_put_other e2]; exact (h.2 s hs).2 e' he' zd⟩
theorem KD.del {D : DataW Unit} {F : Ent → Option Ent} (h : KD D F) {k : Ent} (hk : SOk k) : KD (D.del (slotL k)) (delF F k) := by
  refine ⟨fun kl hkl => ?_, fun s hs => ?_⟩
  · by_cases e1 : kl = slotL k
    · exact ⟨k, hk, e1⟩
    · rw [has_del_other e1] at hkl
      exact h.1 kl hkl
  · unfold delF
    by_cases e1 : samB k s = true
    · rw [if_pos e1]
      have e2 : slotL s = slotL k := ((slotL_iff hk hs).2 ((samB_iff _ _).1 e1)).symm
      rw [e2]
      exact ⟨has_del_same, fun e' he' => by cases he'⟩
    · rw [if_neg e1]
      have e2 : slotL s ≠ slotL k := fun e' => e1 ((samB_iff _ _).2 ((slotL_iff hk hs).1 e'.symm))
      rw [has_del_other e2]
      exact ⟨(h.2 s hs).1, fun e' he' zd => by rw [atKey_del_other e2]; exact (h.2 s hs).2 e' he' zd⟩
theorem KD.congr {D : DataW Unit} {F F' : Ent → Option Ent} (h : KD D F) (e : ∀ s, F s = F' s) : KD D F' := by
  have : F = F' := funext e
  rw [← this]; exact h

/-- block m of w is a map of at most n entries that knows what F says. -/
def MapE (w : World) (m n : Nat) (F : Ent → Option Ent) : Prop := ∃ D : DataW Unit, w.ownsMap Tryz.prog 121 entR m n D ∧ KD D F
theorem MapE.lt {w : World} {m n : Nat} {F : Ent → Option Ent} (h : MapE w m n F) : m < w.heap.size := by
  obtain ⟨D, h, _⟩ := h; exact h.lt
theorem MapE.kept {w w' : World} {m n : Nat} {F : Ent → Option Ent} (h : MapE w m n F) (hb : w'.heap[m]? = w.heap[m]?) : MapE w' m n F := by
  obtain ⟨D, ⟨es, clock, h1, r⟩, h2⟩ := h
  exact ⟨D, ⟨es, clock, hb.trans h1, r⟩, h2⟩
theorem MapE.below {w w' : World} {m n : Nat} {F : Ent → Option Ent} (h : MapE w m n F) (hb : Below w.heap.size w w') : MapE w' m n F := h.kept (hb.block m h.lt)
theorem MapE.grown {w w' : World} {m n : Nat} {F : Ent → Option Ent} {row : Option Nat} (h : MapE w m n F) (hg : w.grownBy w' row) (hne : some m ≠ row) : MapE w' m n F := h.kept (hg.block m h.lt hne)
theorem MapE.congr {w : World} {m n : Nat} {F F' : Ent → Option Ent} (h : MapE w m n F) (e : ∀ s, F s = F' s) : MapE w m n F' := by
  obtain ⟨D, h1, h2⟩ := h
  exact ⟨D, h1, h2.congr e⟩
theorem MapE.made (w : World) : MapE (w.alloc (.map #[] 0)) w.heap.size 0 (fun _ => none) :=
  ⟨.map [], World.ownsMap_made w _ _ _, (⟨fun kl h => (by cases h), fun s _ => ⟨rfl, fun e he => (by cases he)⟩⟩ : KD (.map []) (fun _ => none))⟩
/-! ### ranges -/

/-- a range over the map in block m is under way in block r: what is still to come is told by Lf. -/
def RngE (w : World) (m r n : Nat) (F : Ent → Option Ent) (Lf : Ent → Bool) (cnt : Nat) : Prop :=
  ∃ (D : DataW Unit) (left : Lit → Bool), w.ranges Tryz.prog 121 entR m r n D left cnt ∧ KD D F ∧ (∀ s, SOk s → left (slotL s) = Lf s) ∧ ∀ kl, left kl = true → has D kl = true
theorem RngE.map {w : World} {m r n : Nat} {F : Ent → Option Ent} {Lf : Ent → Bool} {cnt : Nat} (h : RngE w m r n F Lf cnt) : MapE w m n F := by
  obtain ⟨D, left, h1, h2, _⟩ := h; exact ⟨D, h1.owns, h2⟩
theorem RngE.lt {w : World} {m r n : Nat} {F : Ent → Option Ent} {Lf : Ent → Bool} {cnt : Nat} (h : RngE w m r n F Lf cnt) : r < w.heap.size ∧ r ≠ m := by
  obtain ⟨D, left, h1, h2, _⟩ := h; exact ⟨h1.lt, h1.ne⟩
theorem RngE.grown {w w' : World} {m r n : Nat} {F : Ent → Option Ent} {Lf : Ent → Bool} {cnt : Nat} {row : Option Nat} (h : RngE w m r n F Lf cnt) (hg : w.grownBy w' row) (h1 : some m ≠ row) (h2 : some r ≠ row) : RngE w' m r n F Lf cnt := by
  obtain ⟨D, left, q1, q2⟩ := h; exact ⟨D, left, q1.kept hg h1 h2, q2⟩
theorem below_grown {w w' : World} (h : Below w.heap.size w w') : w.grownBy w' none := ⟨h.os, h.tape, h.output, h.size, fun i hi _ => h.block i hi⟩
theorem RngE.below {w w' : World} {m r n : Nat} {F : Ent → Option Ent} {Lf : Ent → Bool} {cnt : Nat} (h : RngE w m r n F Lf cnt) (hb : Below w.heap.size w w') : RngE w' m r n F Lf cnt := h.grown (below_grown hb) (by simp) (by simp)
set_option maxRecDepth 100000 in
theorem rng_next {w : World} {m r n : Nat} {F : Ent → Option Ent} {Lf : Ent → Bool} {cnt : Nat} (h : RngE w m r n F Lf cnt) :
    (cnt = 0 ∧ (∀ s, SOk s → Lf s = false) ∧ (Instr.next (.pointer (some ⟨r, 0, none⟩)) false 0).run Tryz.prog w = .ok (.tuple #[.bool false]) w) ∨
    ∃ s e w' cnt', SOk s ∧ Lf s = true ∧ F s = some e ∧ (Instr.next (.pointer (some ⟨r, 0, none⟩)) false 0).run Tryz.prog w = .ok (.tuple #[.bool true, slotV s, entV e]) w' ∧
      RngE w' m r n F (fun t => Lf t && !samB s t) cnt' ∧ cnt' < cnt ∧ w.grownBy w' (some r) ∧ w'.heap.size = w.heap.size ∧ (Instr.entry (.pointer (some ⟨r, 0, none⟩))).run Tryz.prog w' = .ok (.tuple #[slotV s, entV e]) w' := by
  obtain ⟨D, left, h1, h2, h3, h4⟩ := h
  rcases h1.next lawSlot 0 with ⟨h0, hl, hrun⟩ | ⟨key, v, kl, y, w', cnt', hkey, hlk, hv, hat, hrun, hrg, hlt, hgr, hsz, hen⟩
  · exact Or.inl ⟨h0, fun s hs => by rw [← h3 s hs]; exact hl _, hrun⟩
  · obtain ⟨s, hs, rfl⟩ := h2.1 kl (h4 kl hlk)
    have ek : key = slotV s := lawSlot.inj hkey (keyOf_slot hs)
    obtain ⟨e, rfl, rfl⟩ := entR_inv hv
    subst ek
    have hsome : (F s).isSome = true := by rw [← (h2.2 s hs).1]; exact h4 _ hlk
    obtain ⟨e', he'⟩ := Option.isSome_iff_exists.1 hsome
    have ee : e' = e := by
      have q1 := (h2.2 s hs).2 e' he' (.agg [])
      rw [hat] at q1
      exact (entD_inj q1).symm
    subst ee
    refine Or.inr ⟨s, e', w', cnt', hs, by rw [← h3 s hs]; exact hlk, he', hrun, ⟨D, _, hrg, h2, fun t ht => ?_, fun kl hk => ?_⟩, hlt, hgr, hsz, hen⟩
    · show (left (slotL t) && !(slotL t).sameKey (slotL s)) = _
      rw [h3 t ht, same_slot hs ht]
    · have : left kl = true := by
        have hk' : (left kl && !kl.sameKey (slotL s)) = true := hk
        rw [Bool.and_eq_true] at hk'
        exact hk'.1
      exact h4 kl this
end Go.Proofs.YtnkpikknkooblaaGreat
/-
  A map from slots to pointers.
-/
namespace Go.Proofs.YtnkpikknkooblaaGreat
open Go.RowKit Go.Maps Go.ChangeMaps

/-- how a pointer reads. -/
def evR : Value → Option (DataW Unit × List MemPlace)
  | .pointer none => some (.agg [], [])
  | .pointer (some ⟨b, o, none⟩) => some (.agg [.lit (.int .i64 (b : Int)), .lit (.int .i64 (o : Int))], [])
  | _ => none
theorem evR_inj {v v' : Value} {d : DataW Unit} {p p' : List MemPlace} (h : evR v = some (d, p)) (h' : evR v' = some (d, p')) : v = v' := by
  unfold evR at h h'
  split at h
  · injection h with h
    injection h with h _
    subst h
    split at h'
    · rfl
    · injection h' with h'
      injection h' with h' _
      injection h' with h'
      cases h'
    · cases h'
  · rename_i b o
    injection h with h
    injection h with h _
    subst h
    split at h'
    · injection h' with h'
      injection h' with h' _
      injection h' with h'
      cases h'
    · rename_i b' o'
      injection h' with h'
      injection h' with h' _
      injection h' with h'
      injection h' with h1 h2
      injection h2 with h2 _
      injection h1 with h1
      injection h1 with _ h1
      injection h2 with h2
      injection h2 with _ h2
      have e1 : b' = b := by omega
      have e2 : o' = o := by omega
      rw [e1, e2]
    · cases h'
  · cases h

/-- block m of w is a map of at most n pointers, at slot s the pointer F s. -/
def MapV (w : World) (m n : Nat) (F : Ent → Value) : Prop := ∃ D : DataW Unit, w.ownsMap Tryz.prog 121 evR m n D ∧ ∀ s, SOk s → ∃ p, evR (F s) = some (D.atKey (slotL s) (.agg []), p)
theorem MapV.lt {w : World} {m n : Nat} {F : Ent → Value} (h : MapV w m n F) : m < w.heap.size := by
  obtain ⟨D, h, _⟩ := h; exact h.lt
theorem MapV.kept {w w' : World} {m n : Nat} {F : Ent → Value} (h : MapV w m n F) (hb : w'.heap[m]? = w.heap[m]?) : MapV w' m n F := by
  obtain ⟨D, ⟨es, clock, h1, r⟩, h2⟩ := h
  exact ⟨D, ⟨es, clock, hb.trans h1, r⟩, h2⟩
theorem MapV.below {w w' : World} {m n : Nat} {F : Ent → Value} (h : MapV w m n F) (hb : Below w.heap.size w w') : MapV w' m n F := h.kept (hb.block m h.lt)
theorem MapV.made (w : World) : MapV (w.alloc (.map #[] 0)) w.heap.size 0 (fun _ => .pointer none) :=
  ⟨.map [], World.ownsMap_made w _ _ _, fun _ _ => ⟨[], rfl⟩⟩
def putV (F : Ent → Value) (k : Ent) (v : Value) : Ent → Value := fun s => if samB k s = true then v else F s
set_option maxRecDepth 100000 in
theorem mapV_put {w : World} {m n : Nat} {F : Ent → Value} (h : MapV w m n F) (hn : n < maxLen) {k : Ent} (hk : SOk k) (b o : Nat) :
    ∃ w', (Instr.mapUpdate 73 (.map (some m)) (slotV k) (.pointer (some ⟨b, o, none⟩))).run Tryz.prog w = .ok () w' ∧ MapV w' m (n + 1) (putV F k (.pointer (some ⟨b, o, none⟩))) ∧ w.grownBy w' (some m) := by
  obtain ⟨D, h1, h2⟩ := h
  obtain ⟨w', hrun, hown, hgr⟩ := h1.update lawSlot Tryz.underlying73 hn (keyOf_slot hk) (show evR (.pointer (some ⟨b, o, none⟩)) = some (.agg [.lit (.int .i64 (b : Int)), .lit (.int .i64 (o : Int))], []) from rfl)
  refine ⟨w', hrun, ⟨_, hown, fun s hs => ?_⟩, hgr⟩
  unfold putV
  by_cases e1 : samB k s = true
  · rw [if_pos e1]
    have e2 : slotL s = slotL k := ((slotL_iff hk hs).2 ((samB_iff _ _).1 e1)).symm
    exact ⟨[], by rw [e2, atKey_put_same h1.isMap (slotL_key k)]; rfl⟩
  · rw [if_neg e1]
    have e2 : slotL s ≠ slotL k := fun e' => e1 ((samB_iff _ _).2 ((slotL_iff hk hs).1 e'.symm))
    obtain ⟨p, hp⟩ := h2 s hs
    exact ⟨p, by rw [atKey_put_other e2]; exact hp⟩
theorem zeroPtr (w : World) : (zeroValue 113).run Tryz.prog w = .ok (.pointer none) w := by kernel_rfl
set_option maxRecDepth 100000 in
theorem mapV_get {w : World} {m n : Nat} {F : Ent → Value} (h : MapV w m n F) {k : Ent} (hk : SOk k) :
    (Instr.lookup 73 (.map (some m)) (slotV k) false).run Tryz.prog w = .ok (F k) w := by
  obtain ⟨D, h1, h2⟩ := h
  obtain ⟨v, ps, hrun, hv⟩ := h1.lookup lawSlot Tryz.underlying73 (zeroPtr w) (show evR (.pointer none) = some (.agg [], []) from rfl) (keyOf_slot hk)
  obtain ⟨p, hp⟩ := h2 k hk
  rw [evR_inj hp hv]
  exact hrun
end Go.Proofs.YtnkpikknkooblaaGreat
