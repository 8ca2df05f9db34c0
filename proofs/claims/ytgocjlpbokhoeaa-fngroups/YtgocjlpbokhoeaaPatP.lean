import Derived.Test.YtgocjlpbokhoeaaPtLM
import Derived.Test.YtgocjlpbokhoeaaCmpP
namespace Go.Proofs.Ytgocjlpbokhoeaa
open Go.RowKit
theorem befB_ff {a b : Ent} : befB a b = false ↔ ¬ Lt a b := by
  rw [← befB_iff]; cases befB a b <;> simp
theorem takeW_filter {e : Ent} : ∀ {l : List Ent}, SrtE l → l.takeWhile (fun x => befB x e) = l.filter fun x => befB x e
  | [], _ => rfl
  | a :: l, h => by
    obtain ⟨h1, h2⟩ := List.pairwise_cons.1 h
    cases hb : befB a e
    · rw [List.takeWhile_cons_of_neg (by simp [hb]), List.filter_cons_of_neg (by simp [hb])]
      symm
      rw [List.filter_eq_nil_iff]
      intro x hx hx2
      exact befB_ff.1 hb ((h1 x hx).trans ((befB_iff _ _).1 hx2))
    · rw [List.takeWhile_cons_of_pos (by exact hb), List.filter_cons_of_pos (by exact hb), takeW_filter h2]
def kept (e : Ent) (keep : Bool) : Bool := keep || !e.id.toList.isEmpty
theorem setL_eq {l : List Ent} (h : SrtE l) (e : Ent) (keep : Bool) : setL l e keep = (l.filter fun x => befB x e) ++ ((if kept e keep then [e] else []) ++ l.filter fun x => befB e x) := by
  unfold setL kept
  rw [takeW_filter h]
theorem srt_mid {l : List Ent} (h : SrtE l) (e : Ent) (m : List Ent) (hm : m = [] ∨ ∃ y, m = [y] ∧ y.ty = e.ty ∧ y.key = e.key) : SrtE ((l.filter fun x => befB x e) ++ (m ++ l.filter fun x => befB e x)) := by
  have hle : ∀ y : Ent, y.ty = e.ty ∧ y.key = e.key → ∀ x, (Lt x e → Lt x y) ∧ (Lt e x → Lt y x) := fun y hy x => by unfold Lt; rw [hy.1, hy.2]; exact ⟨id, id⟩
  refine List.pairwise_append.2 ⟨List.Pairwise.filter _ h, List.pairwise_append.2 ⟨?_, List.Pairwise.filter _ h, ?_⟩, ?_⟩
  · rcases hm with rfl | ⟨y, rfl, _⟩
    · exact List.Pairwise.nil
    · exact List.pairwise_singleton _ _
  · intro a ha b hb
    rcases hm with rfl | ⟨y, rfl, hy⟩
    · cases ha
    · rw [List.mem_singleton] at ha
      subst ha
      exact (hle _ hy b).2 ((befB_iff _ _).1 (List.mem_filter.1 hb).2)
  · intro a ha b hb
    have ha2 := (befB_iff _ _).1 (List.mem_filter.1 ha).2
    rcases List.mem_append.1 hb with hb | hb
    · rcases hm with rfl | ⟨y, rfl, hy⟩
      · cases hb
      · rw [List.mem_singleton] at hb
        subst hb
        exact (hle _ hy a).1 ha2
    · exact ha2.trans ((befB_iff _ _).1 (List.mem_filter.1 hb).2)
theorem setL_srt {l : List Ent} (h : SrtE l) (e : Ent) (keep : Bool) : SrtE (setL l e keep) := by
  rw [setL_eq h]
  refine srt_mid h e _ ?_
  split
  · exact Or.inr ⟨e, rfl, rfl, rfl⟩
  · exact Or.inl rfl
theorem setL_in {l : List Ent} (h : SrtE l) (e : Ent) (keep : Bool) (x : Ent) : x ∈ setL l e keep ↔ (x ∈ l ∧ ¬ (x.ty = e.ty ∧ x.key = e.key)) ∨ (x = e ∧ kept e keep = true) := by
  rw [setL_eq h, List.mem_append, List.mem_append, List.mem_filter, List.mem_filter, befB_iff, befB_iff]
  constructor
  · rintro (⟨h1, h2⟩ | h1 | ⟨h1, h2⟩)
    · exact Or.inl ⟨h1, h2.ne⟩
    · split at h1
      · rename_i hk; exact Or.inr ⟨by simpa using h1, hk⟩
      · cases h1
    · exact Or.inl ⟨h1, fun e' => h2.ne ⟨e'.1.symm, e'.2.symm⟩⟩
  · rintro (⟨h1, h2⟩ | ⟨rfl, hk⟩)
    · rcases tri x e with ⟨h3, _⟩ | ⟨h3, _⟩ | ⟨h3, _⟩
      · exact Or.inl ⟨h1, h3⟩
      · exact absurd h3 h2
      · exact Or.inr (Or.inr ⟨h1, h3⟩)
    · exact Or.inr (Or.inl (by rw [if_pos hk]; simp))
theorem setL_look {l : List Ent} (h : SrtE l) (e : Ent) (keep : Bool) (s : Ent) :
    lookE (setL l e keep) s = if e.ty = s.ty ∧ e.key = s.key then (if kept e keep = true then some e else none) else lookE l s := by
  have hs := setL_srt h e keep
  by_cases he : e.ty = s.ty ∧ e.key = s.key
  · rw [if_pos he]
    by_cases hk : kept e keep = true
    · rw [if_pos hk]
      exact lookE_mem hs ((setL_in h e keep e).2 (Or.inr ⟨rfl, hk⟩)) he
    · rw [if_neg hk]
      refine lookE_none.2 fun x hx hxs => ?_
      rcases (setL_in h e keep x).1 hx with ⟨_, h2⟩ | ⟨_, h2⟩
      · exact h2 ⟨hxs.1.trans he.1.symm, hxs.2.trans he.2.symm⟩
      · exact hk h2
  · rw [if_neg he]
    cases hl : lookE l s with
    | none =>
      refine lookE_none.2 fun x hx hxs => ?_
      rcases (setL_in h e keep x).1 hx with ⟨h1, _⟩ | ⟨rfl, _⟩
      · exact lookE_none.1 hl x h1 hxs
      · exact he hxs
    | some y =>
      obtain ⟨h1, h2⟩ := lookE_some hl
      exact lookE_mem hs ((setL_in h e keep y).2 (Or.inl ⟨h1, fun e' => he ⟨e'.1.symm.trans h2.1, e'.2.symm.trans h2.2⟩⟩)) h2
theorem split3 {l : List Ent} (h : SrtE l) (e : Ent) : l = (l.filter fun x => befB x e) ++ ((lookE l e).toList ++ l.filter fun x => befB e x) := by
  refine srt_ext h (srt_mid h e _ ?_) fun x => ?_
  · cases hl : lookE l e with
    | none => exact Or.inl rfl
    | some y => exact Or.inr ⟨y, rfl, (lookE_some hl).2⟩
  · rw [List.mem_append, List.mem_append, List.mem_filter, List.mem_filter, befB_iff, befB_iff]
    constructor
    · intro hx
      rcases tri x e with ⟨h3, _⟩ | ⟨h3, _⟩ | ⟨h3, _⟩
      · exact Or.inl ⟨hx, h3⟩
      · exact Or.inr (Or.inl (by rw [lookE_mem h hx h3]; simp))
      · exact Or.inr (Or.inr ⟨hx, h3⟩)
    · rintro (⟨h1, _⟩ | h1 | ⟨h1, _⟩)
      · exact h1
      · cases hl : lookE l e with
        | none => rw [hl] at h1; cases h1
        | some y =>
          rw [hl] at h1
          have : x = y := by simpa using h1
          subst this
          exact (lookE_some hl).1
      · exact h1
theorem setL_length {l : List Ent} (h : SrtE l) (e : Ent) (keep : Bool) : ((setL l e keep).length : Int) = l.length + (if kept e keep = true then 1 else 0) - (if (lookE l e).isSome = true then 1 else 0) := by
  have e1 : (setL l e keep).length = (l.filter fun x => befB x e).length + ((if kept e keep then [e] else []).length + (l.filter fun x => befB e x).length) := by rw [setL_eq h, List.length_append, List.length_append]
  have e2 : l.length = (l.filter fun x => befB x e).length + ((lookE l e).toList.length + (l.filter fun x => befB e x).length) := by
    conv => lhs; rw [split3 h e]
    rw [List.length_append, List.length_append]
  rw [e1]
  have e3 : (if kept e keep then [e] else []).length = if kept e keep = true then 1 else 0 := by split <;> rfl
  have e4 : (lookE l e).toList.length = if (lookE l e).isSome = true then 1 else 0 := by cases lookE l e <;> rfl
  rw [e4] at e2
  rw [e3]
  split <;> split at e2 <;> simp_all <;> omega
theorem take_srt {l : List Ent} (h : SrtE l) (k : Nat) : SrtE (l.take k) := List.Pairwise.sublist (List.take_sublist k l) h
theorem patL_srt {l ch : List Ent} (h : SrtE l) : ∀ k, SrtE (patL l ch k)
  | 0 => h
  | k + 1 => setL_srt (patL_srt h k) _ _
def chgTo (o : Option Ent) (was : Option Ent) : Option Ent := match o with | some e => if e.id.toList.isEmpty then none else some e | none => was
theorem kept_ff (e : Ent) : kept e false = !e.id.toList.isEmpty := by simp [kept]
theorem patL_look {l ch : List Ent} (h : SrtE l) (hc : SrtE ch) (s : Ent) : ∀ k, k ≤ ch.length → lookE (patL l ch k) s = chgTo (lookE (ch.take k) s) (lookE l s)
  | 0, _ => by rw [List.take_zero]; rfl
  | k + 1, hk => by
    have ih := patL_look h hc s k (by omega)
    unfold patL
    rw [setL_look (patL_srt h k), ih, kept_ff]
    have ht := take_snocE ch k (by omega)
    by_cases he : (eAt ch k).ty = s.ty ∧ (eAt ch k).key = s.key
    · rw [if_pos he]
      have : lookE (ch.take (k + 1)) s = some (eAt ch k) := lookE_mem (take_srt hc _) (by rw [ht]; simp) he
      rw [this]
      cases h9 : (eAt ch k).id.toList.isEmpty <;> simp [chgTo, h9]
    · rw [if_neg he]
      have : lookE (ch.take (k + 1)) s = lookE (ch.take k) s := by
        unfold lookE
        rw [ht, List.find?_append]
        have hn : samB (eAt ch k) s = false := by
          cases hq : samB (eAt ch k) s
          · rfl
          · exact absurd ((samB_iff _ _).1 hq) he
        rw [List.find?_cons, hn]
        simp
      rw [this]
theorem patL_lookAll {l ch : List Ent} (h : SrtE l) (hc : SrtE ch) (s : Ent) : lookE (patL l ch ch.length) s = chgTo (lookE ch s) (lookE l s) := by
  rw [patL_look h hc s _ (Nat.le_refl _), List.take_length]
theorem take_fresh {ch : List Ent} (hc : SrtE ch) {k : Nat} (hk : k < ch.length) : lookE (ch.take k) (eAt ch k) = none := by
  refine lookE_none.2 fun x hx e => ?_
  obtain ⟨j, hj, rfl⟩ := List.mem_iff_getElem.1 hx
  rw [List.length_take] at hj
  rw [List.getElem_take, ← eAt_get ch j (by omega)] at e
  exact (srt_at hc (by omega) hk).ne e
theorem patL_len1 {l ch : List Ent} (h : SrtE l) (hc : SrtE ch) {k : Nat} (hk : k < ch.length) :
    ((patL l ch (k + 1)).length : Int) = (patL l ch k).length + (if (eAt ch k).id.toList.isEmpty = true then 0 else 1) - (if (lookE l (eAt ch k)).isSome = true then 1 else 0) := by
  have e1 : lookE (patL l ch k) (eAt ch k) = lookE l (eAt ch k) := by rw [patL_look h hc _ k (by omega), take_fresh hc hk]; rfl
  show ((setL (patL l ch k) (eAt ch k) false).length : Int) = _
  rw [setL_length (patL_srt h k), e1, kept_ff]
  cases (eAt ch k).id.toList.isEmpty <;> simp
def Ids (l : List Ent) : Prop := ∀ x ∈ l, x.id.toList.isEmpty = false
theorem patL_ids {l ch : List Ent} (h : SrtE l) (hi : Ids l) : ∀ k, Ids (patL l ch k)
  | 0 => hi
  | k + 1 => fun x hx => by
    unfold patL at hx
    rcases (setL_in (patL_srt h k) _ _ x).1 hx with ⟨h1, _⟩ | ⟨rfl, h2⟩
    · exact patL_ids h hi k x h1
    · rw [kept_ff] at h2; simpa using h2
def stOf : List (List Ent) → List Ent
  | [] => []
  | S :: R => match R with
    | [] => S
    | _ :: _ => patL (stOf R) S S.length
def ChOk : List (List Ent) → Prop
  | [] => False
  | S :: R => SrtE S ∧ S.length ≤ 600 ∧ AllOk S ∧ match R with
    | [] => Ids S
    | _ :: _ => ChOk R
theorem stOf_ok : ∀ {L : List (List Ent)}, ChOk L → SrtE (stOf L) ∧ Ids (stOf L) ∧ AllOk (stOf L)
  | [], h => h.elim
  | [S], h => ⟨h.1, h.2.2.2, h.2.2.1⟩
  | S :: T :: R, h => by
    obtain ⟨h1, _, h3, h4⟩ := h
    obtain ⟨i1, i2, i3⟩ := stOf_ok (L := T :: R) h4
    exact ⟨patL_srt i1 _, patL_ids i1 i2 _, patL_ok i3 h3 _ (Nat.le_refl _)⟩
def lkL : List (List Ent) → Ent → ByteArray × Nat
  | [], _ => (⟨#[]⟩, 0)
  | S :: R, s => match lookE S s with
    | some e => (e.id, 1)
    | none => ((lkL R s).1, (lkL R s).2 + 1)
theorem empty_id : (⟨#[]⟩ : ByteArray).toList.isEmpty = true := by rw [ByteArray.toList_eq]; rfl
theorem ba_empty {b : ByteArray} (h : b.toList.isEmpty = true) : b = ⟨#[]⟩ := ba_eq (by rw [ByteArray.toList_eq, List.isEmpty_iff] at h; exact h)
theorem lkL_st : ∀ {L : List (List Ent)}, ChOk L → ∀ s, (lkL L s).1 = match lookE (stOf L) s with | some e => e.id | none => ⟨#[]⟩
  | [], h, _ => h.elim
  | [S], h, s => by
    show (lkL [S] s).1 = match lookE S s with | some e => e.id | none => ⟨#[]⟩
    unfold lkL
    cases lookE S s <;> rfl
  | S :: T :: R, h, s => by
    obtain ⟨h1, _, _, h4⟩ := h
    have ih := lkL_st (L := T :: R) h4 s
    have hl : lookE (stOf (S :: T :: R)) s = chgTo (lookE S s) (lookE (stOf (T :: R)) s) := patL_lookAll (stOf_ok (L := T :: R) h4).1 h1 s
    rw [hl]
    unfold lkL
    cases hS : lookE S s with
    | none => exact ih
    | some e =>
      cases he : e.id.toList.isEmpty
      · simp [chgTo, he]
      · simp only [chgTo, he, if_true]; exact ba_empty he
theorem lkL_some {L : List (List Ent)} (h : ChOk L) (s : Ent) : (lkL L s).1.toList.isEmpty = !(lookE (stOf L) s).isSome := by
  rw [lkL_st h]
  cases hl : lookE (stOf L) s with
  | none => exact empty_id
  | some e => exact (stOf_ok h).2.1 e (lookE_some hl).1
end Go.Proofs.Ytgocjlpbokhoeaa
