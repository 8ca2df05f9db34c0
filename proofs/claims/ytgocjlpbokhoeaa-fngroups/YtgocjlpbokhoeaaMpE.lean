import Derived.Test.YtgocjlpbokhoeaaCsIM
import Derived.Test.YtgocjlpbokhoeaaPatP
import Derived.Maps.RangeWalk
import Derived.DeepKeys4
namespace Go.Proofs.Ytgocjlpbokhoeaa
open Go.RowKit Go.Maps Go.ChangeMaps
theorem Try.laidM : laidOutB Try.prog = true := by kernel_rfl
theorem rowSlot : (69 : TypeId) < Try.prog.types.size := of_decide_eq_true (by kernel_rfl)
theorem wideSlot : (match Try.prog.underlying 69 with | some (.array _ _) | some (.struct _) => true | _ => false) = true := by kernel_rfl
theorem cellsSlot : Try.prog.cellsOf 69 = 2 := by kernel_rfl
theorem cellsStrM : Try.prog.cellsOf 9 = 1 := by kernel_rfl
theorem keyTSlot : Try.prog.keyType 69 = true := by kernel_rfl
set_option maxRecDepth 100000 in
theorem lawSlot : Keyed Try.prog 69 := Keyed.of_law (deep_law_laid Try.laidM (m := 2) (by omega) rowSlot (by kernel_rfl) wideSlot)
theorem zeroEnt (w : World) : (zeroValue 38).run Try.prog w = .ok (.agg #[.string ⟨#[]⟩, .string ⟨#[]⟩, .string ⟨#[]⟩]) w := by kernel_rfl
def slotL (s : Ent) : Lit := .string (keyBytes [.string s.ty.data.toList, .string s.key.data.toList])
def SOk (s : Ent) : Prop := s.ty.size ≤ maxLen ∧ s.key.size ≤ maxLen
theorem keyLits_str {m : Nat} {s : ByteArray} (h : s.size ≤ maxLen) : Try.prog.keyLits (m + 1) 9 [.string s] = some [.string s.data.toList] := by
  unfold Program.keyLits
  simp only [Try.underlying9]
  rw [if_pos h]
set_option maxRecDepth 100000 in
theorem keyOf_slot {s : Ent} (h : SOk s) : keyOf Try.prog 69 (slotV s) = some (slotL s) := by
  obtain ⟨m, hm⟩ : ∃ m, Try.prog.types.size = m + 1 := ⟨Try.prog.types.size - 1, (Nat.sub_add_cancel (Nat.succ_le_of_lt (Nat.lt_of_le_of_lt (Nat.zero_le _) rowSlot))).symm⟩
  have hfm : (slotV s).formed Try.prog 69 = true := by simp [Value.formed, Try.underlying69, cellsSlot]
  have hl : Try.prog.keyLits (Try.prog.types.size + 1) 69 (slotV s).cells.toList = some [.string s.ty.data.toList, .string s.key.data.toList] := by
    rw [hm]
    have e : (slotV s).cells.toList = [.string s.ty, .string s.key] := rfl
    rw [e]
    unfold Program.keyLits
    simp only [Try.underlying69]
    rw [if_pos ⟨by rw [cellsSlot]; rfl, by first | decide | kernel_rfl⟩]
    simp only [cellsStrM, List.mapM_cons, List.mapM_nil, List.drop_zero, List.drop_succ_cons, List.take_succ_cons, List.take_zero]
    rw [keyLits_str h.1, keyLits_str h.2]
    rfl
  unfold keyOf
  rw [Try.underlying69]
  simp only []
  rw [keyTSlot, hfm, hl]
  rfl
theorem slotL_key (s : Ent) : WideAt.IsKeyLit (slotL s) := trivial
set_option maxRecDepth 100000 in
theorem slotL_iff {s t : Ent} (hs : SOk s) (ht : SOk t) : slotL s = slotL t ↔ s.ty = t.ty ∧ s.key = t.key := by
  constructor
  · intro h
    have h1 := keyOf_slot hs
    rw [h] at h1
    have := lawSlot.inj h1 (keyOf_slot ht)
    injection this with this
    have e := Array.mk.inj this
    injection e with e1 e2
    injection e2 with e2 _
    injection e1 with e1
    injection e2 with e2
    exact ⟨e1, e2⟩
  · rintro ⟨h1, h2⟩
    unfold slotL
    rw [h1, h2]
theorem same_slot {s t : Ent} (hs : SOk s) (ht : SOk t) : (slotL t).sameKey (slotL s) = samB s t := by
  rw [Bool.eq_iff_iff, samB_iff]
  constructor
  · intro h
    exact (slotL_iff hs ht).1 (WideAt.sameKey_eq h).symm
  · intro h
    rw [(slotL_iff hs ht).2 h]
    exact WideAt.sameKey_self (slotL_key t)
def entD (e : Ent) : DataW Unit := .agg [.lit (.string e.ty.data.toList), .lit (.string e.key.data.toList), .lit (.string e.id.data.toList)]
def entR : Value → Option (DataW Unit × List MemPlace)
  | .agg cs => match cs.toList with
    | [.string a, .string b, .string c] => some (entD ⟨a, b, c⟩, [])
    | _ => none
  | _ => none
theorem entR_mk (e : Ent) : entR (entV e) = some (entD e, []) := rfl
theorem entR_inv {v : Value} {z : DataW Unit × List MemPlace} (h : entR v = some z) : ∃ e : Ent, v = entV e ∧ z = (entD e, []) := by
  unfold entR at h
  split at h
  · rename_i cs
    split at h
    · rename_i a b c hc
      refine ⟨⟨a, b, c⟩, ?_, ?_⟩
      · obtain ⟨cs⟩ := cs
        simp only at hc
        rw [hc]
      · injection h with h
        exact h.symm
    · cases h
  · cases h
theorem entD_inj {a b : Ent} (h : entD a = entD b) : a = b := by
  unfold entD at h
  injection h with h
  injection h with h1 h
  injection h with h2 h
  injection h with h3 _
  injection h1 with h1; injection h1 with h1
  injection h2 with h2; injection h2 with h2
  injection h3 with h3; injection h3 with h3
  obtain ⟨a1, a2, a3⟩ := a
  obtain ⟨b1, b2, b3⟩ := b
  have e1 := ba_eq h1
  have e2 := ba_eq h2
  have e3 := ba_eq h3
  simp only at e1 e2 e3
  rw [e1, e2, e3]
def KD (D : DataW Unit) (F : Ent → Option Ent) : Prop :=
  (∀ kl, has D kl = true → ∃ s, SOk s ∧ kl = slotL s) ∧ ∀ s, SOk s → has D (slotL s) = (F s).isSome ∧ ∀ e, F s = some e → ∀ zd, D.atKey (slotL s) zd = entD e
def putF (F : Ent → Option Ent) (k e : Ent) : Ent → Option Ent := fun s => if samB k s = true then some e else F s
def delF (F : Ent → Option Ent) (k : Ent) : Ent → Option Ent := fun s => if samB k s = true then none else F s
theorem KD.put {D : DataW Unit} {F : Ent → Option Ent} (h : KD D F) (hD : IsMap D) {k : Ent} (hk : SOk k) (e : Ent) : KD (D.put (slotL k) (entD e)) (putF F k e) := by
  refine ⟨fun kl hkl => ?_, fun s hs => ?_⟩
  · by_cases e1 : kl = slotL k
    · exact ⟨k, hk, e1⟩
    · rw [has_put_other e1] at hkl
      exact h.1 kl hkl
  · unfold putF
    by_cases e1 : samB k s = true
    · rw [if_pos e1]
      have e2 : slotL s = slotL k := ((slotL_iff hk hs).2 ((samB_iff _ _).1 e1)).symm
      rw [e2]
      exact ⟨has_put_same hD (slotL_key k) _, fun e' he' zd => by injection he' with he'; rw [← he']; exact atKey_put_same hD (slotL_key k) _ _⟩
    · rw [if_neg e1]
      have e2 : slotL s ≠ slotL k := fun e' => e1 ((samB_iff _ _).2 ((slotL_iff hk hs).1 e'.symm))
      rw [has_put_other e2]
      exact ⟨(h.2 s hs).1, fun e' he' zd => by rw [atKey_put_other e2]; exact (h.2 s hs).2 e' he' zd⟩
theorem KD.del {D : DataW Unit} {F : Ent → Option Ent} (h : KD D F) {k : Ent} (hk : SOk k) : KD (D.del (slotL k)) (delF F k) := by
  refine ⟨fun kl hkl => ?_, fun s hs => ?_⟩
  · by_cases e1 : kl = slotL k
    · exact ⟨k, hk, e1⟩
    · rw [has_del_other e1] at hkl
      exact h.1 kl hkl
  · unfold delF
    by_cases e1 : samB k s = true
    · rw [if_pos e1]
      have e2 : slotL s = slotL k := ((slotL_iff hk hs).2 ((samB_iff _ _).1 e1)).symm
      rw [e2]
      exact ⟨has_del_same, fun e' he' => by cases he'⟩
    · rw [if_neg e1]
      have e2 : slotL s ≠ slotL k := fun e' => e1 ((samB_iff _ _).2 ((slotL_iff hk hs).1 e'.symm))
      rw [has_del_other e2]
      exact ⟨(h.2 s hs).1, fun e' he' zd => by rw [atKey_del_other e2]; exact (h.2 s hs).2 e' he' zd⟩
theorem KD.congr {D : DataW Unit} {F F' : Ent → Option Ent} (h : KD D F) (e : ∀ s, F s = F' s) : KD D F' := by
  have : F = F' := funext e
  rw [← this]; exact h
def MapE (w : World) (m n : Nat) (F : Ent → Option Ent) : Prop := ∃ D : DataW Unit, w.ownsMap Try.prog 69 entR m n D ∧ KD D F
theorem MapE.lt {w : World} {m n : Nat} {F : Ent → Option Ent} (h : MapE w m n F) : m < w.heap.size := by
  obtain ⟨D, h, _⟩ := h; exact h.lt
theorem MapE.kept {w w' : World} {m n : Nat} {F : Ent → Option Ent} (h : MapE w m n F) (hb : w'.heap[m]? = w.heap[m]?) : MapE w' m n F := by
  obtain ⟨D, ⟨es, clock, h1, r⟩, h2⟩ := h
  exact ⟨D, ⟨es, clock, hb.trans h1, r⟩, h2⟩
theorem MapE.below {w w' : World} {m n : Nat} {F : Ent → Option Ent} (h : MapE w m n F) (hb : Below w.heap.size w w') : MapE w' m n F := h.kept (hb.block m h.lt)
theorem MapE.congr {w : World} {m n : Nat} {F F' : Ent → Option Ent} (h : MapE w m n F) (e : ∀ s, F s = F' s) : MapE w m n F' := by
  obtain ⟨D, h1, h2⟩ := h
  exact ⟨D, h1, h2.congr e⟩
theorem MapE.made (w : World) : MapE (w.alloc (.map #[] 0)) w.heap.size 0 (fun _ => none) :=
  ⟨.map [], World.ownsMap_made w _ _ _, (⟨fun kl h => (by cases h), fun s _ => ⟨rfl, fun e he => (by cases he)⟩⟩ : KD (.map []) (fun _ => none))⟩
set_option maxRecDepth 100000 in
theorem mapE_put {w : World} {m n : Nat} {F : Ent → Option Ent} (h : MapE w m n F) (hn : n < maxLen) {k : Ent} (hk : SOk k) (e : Ent) :
    ∃ w', (Instr.mapUpdate 87 (.map (some m)) (slotV k) (entV e)).run Try.prog w = .ok () w' ∧ MapE w' m (n + 1) (putF F k e) ∧ w.grownBy w' (some m) := by
  obtain ⟨D, h1, h2⟩ := h
  obtain ⟨w', hrun, hown, hgr⟩ := h1.update lawSlot Try.underlying87 hn (keyOf_slot hk) (entR_mk e)
  exact ⟨w', hrun, ⟨_, hown, h2.put h1.isMap hk e⟩, hgr⟩
set_option maxRecDepth 100000 in
theorem mapE_look {w : World} {m n : Nat} {F : Ent → Option Ent} (h : MapE w m n F) {k : Ent} (hk : SOk k) :
    ∃ e : Ent, (Instr.lookup 87 (.map (some m)) (slotV k) true).run Try.prog w = .ok (.tuple #[entV e, .bool (F k).isSome]) w ∧ ∀ e', F k = some e' → e = e' := by
  obtain ⟨D, h1, h2⟩ := h
  obtain ⟨v, ps, hrun, hv⟩ := h1.look_ok lawSlot Try.underlying87 (zeroEnt w) (entR_mk ⟨⟨#[]⟩, ⟨#[]⟩, ⟨#[]⟩⟩) (keyOf_slot hk)
  obtain ⟨e, rfl, hz⟩ := entR_inv hv
  rw [(h2.2 k hk).1] at hrun
  refine ⟨e, hrun, fun e' he' => ?_⟩
  injection hz with hz _
  rw [(h2.2 k hk).2 e' he'] at hz
  exact (entD_inj hz).symm
set_option maxRecDepth 100000 in
theorem mapE_get {w : World} {m n : Nat} {F : Ent → Option Ent} (h : MapE w m n F) {k : Ent} (hk : SOk k) :
    ∃ e : Ent, (Instr.lookup 87 (.map (some m)) (slotV k) false).run Try.prog w = .ok (entV e) w ∧ ∀ e', F k = some e' → e = e' := by
  obtain ⟨D, h1, h2⟩ := h
  obtain ⟨v, ps, hrun, hv⟩ := h1.lookup lawSlot Try.underlying87 (zeroEnt w) (entR_mk ⟨⟨#[]⟩, ⟨#[]⟩, ⟨#[]⟩⟩) (keyOf_slot hk)
  obtain ⟨e, rfl, hz⟩ := entR_inv hv
  refine ⟨e, hrun, fun e' he' => ?_⟩
  injection hz with hz _
  rw [(h2.2 k hk).2 e' he'] at hz
  exact (entD_inj hz).symm
set_option maxRecDepth 100000 in
theorem mapE_del {w : World} {m n : Nat} {F : Ent → Option Ent} (h : MapE w m n F) {k : Ent} (hk : SOk k) (ty : TypeId) :
    ∃ w', (Builtin.delete_ #[87, 69] ty #[.map (some m), slotV k]).run Try.prog w = .ok (.tuple #[]) w' ∧ MapE w' m n (delF F k) ∧ w.grownBy w' (some m) := by
  obtain ⟨D, h1, h2⟩ := h
  obtain ⟨w', hrun, hown, ht⟩ := h1.drop lawSlot Try.underlying87 (keyOf_slot hk) ty
  exact ⟨w', hrun, ⟨_, hown, h2.del hk⟩, ht.grown⟩
def RngE (w : World) (m r n : Nat) (F : Ent → Option Ent) (Lf : Ent → Bool) (cnt : Nat) : Prop :=
  ∃ (D : DataW Unit) (left : Lit → Bool), w.ranges Try.prog 69 entR m r n D left cnt ∧ KD D F ∧ (∀ s, SOk s → left (slotL s) = Lf s) ∧ ∀ kl, left kl = true → has D kl = true
theorem RngE.map {w : World} {m r n : Nat} {F : Ent → Option Ent} {Lf : Ent → Bool} {cnt : Nat} (h : RngE w m r n F Lf cnt) : MapE w m n F := by
  obtain ⟨D, left, h1, h2, _⟩ := h; exact ⟨D, h1.owns, h2⟩
theorem RngE.grown {w w' : World} {m r n : Nat} {F : Ent → Option Ent} {Lf : Ent → Bool} {cnt : Nat} {row : Option Nat} (h : RngE w m r n F Lf cnt) (hg : w.grownBy w' row) (h1 : some m ≠ row) (h2 : some r ≠ row) : RngE w' m r n F Lf cnt := by
  obtain ⟨D, left, q1, q2⟩ := h; exact ⟨D, left, q1.kept hg h1 h2, q2⟩
theorem below_grown {w w' : World} (h : Below w.heap.size w w') : w.grownBy w' none := ⟨h.os, h.tape, h.output, h.size, fun i hi _ => h.block i hi⟩
theorem RngE.below {w w' : World} {m r n : Nat} {F : Ent → Option Ent} {Lf : Ent → Bool} {cnt : Nat} (h : RngE w m r n F Lf cnt) (hb : Below w.heap.size w w') : RngE w' m r n F Lf cnt := h.grown (below_grown hb) (by simp) (by simp)
set_option maxRecDepth 100000 in
theorem rng_start {w : World} {m n : Nat} {F : Ent → Option Ent} (h : MapE w m n F) :
    ∃ w' cnt, (Instr.range 87 (.map (some m))).run Try.prog w = .ok (.pointer (some ⟨w.heap.size, 0, none⟩)) w' ∧ RngE w' m w.heap.size n F (fun s => (F s).isSome) cnt ∧ Below w.heap.size w w' ∧ w'.heap.size = w.heap.size + 1 ∧ cnt ≤ n := by
  obtain ⟨D, h1, h2⟩ := h
  obtain ⟨w', hrun, hr, hg, hs⟩ := h1.range lawSlot Try.underlying87
  exact ⟨w', _, hrun, ⟨D, _, hr, h2, fun s hs => (h2.2 s hs).1, fun _ h => h⟩, ⟨hg.os, hg.tape, hg.output, hg.size, fun k hk => hg.block k hk (by simp)⟩, hs, h1.size_le⟩
set_option maxRecDepth 100000 in
theorem rng_next {w : World} {m r n : Nat} {F : Ent → Option Ent} {Lf : Ent → Bool} {cnt : Nat} (h : RngE w m r n F Lf cnt) :
    (cnt = 0 ∧ (∀ s, SOk s → Lf s = false) ∧ (Instr.next (.pointer (some ⟨r, 0, none⟩)) false 0).run Try.prog w = .ok (.tuple #[.bool false]) w) ∨
    ∃ s e w' cnt', SOk s ∧ Lf s = true ∧ F s = some e ∧ (Instr.next (.pointer (some ⟨r, 0, none⟩)) false 0).run Try.prog w = .ok (.tuple #[.bool true, slotV s, entV e]) w' ∧
      RngE w' m r n F (fun t => Lf t && !samB s t) cnt' ∧ cnt' < cnt ∧ w.grownBy w' (some r) ∧ w'.heap.size = w.heap.size ∧ (Instr.entry (.pointer (some ⟨r, 0, none⟩))).run Try.prog w' = .ok (.tuple #[slotV s, entV e]) w' := by
  obtain ⟨D, left, h1, h2, h3, h4⟩ := h
  rcases h1.next lawSlot 0 with ⟨h0, hl, hrun⟩ | ⟨key, v, kl, y, w', cnt', hkey, hlk, hv, hat, hrun, hrg, hlt, hgr, hsz, hen⟩
  · exact Or.inl ⟨h0, fun s hs => by rw [← h3 s hs]; exact hl _, hrun⟩
  · obtain ⟨s, hs, rfl⟩ := h2.1 kl (h4 kl hlk)
    have ek : key = slotV s := lawSlot.inj hkey (keyOf_slot hs)
    obtain ⟨e, rfl, rfl⟩ := entR_inv hv
    subst ek
    have hsome : (F s).isSome = true := by rw [← (h2.2 s hs).1]; exact h4 _ hlk
    obtain ⟨e', he'⟩ := Option.isSome_iff_exists.1 hsome
    have ee : e' = e := by
      have q1 := (h2.2 s hs).2 e' he' (.agg [])
      rw [hat] at q1
      exact (entD_inj q1).symm
    subst ee
    refine Or.inr ⟨s, e', w', cnt', hs, by rw [← h3 s hs]; exact hlk, he', hrun, ⟨D, _, hrg, h2, fun t ht => ?_, fun kl hk => ?_⟩, hlt, hgr, hsz, hen⟩
    · show (left (slotL t) && !(slotL t).sameKey (slotL s)) = _
      rw [h3 t ht, same_slot hs ht]
    · have : left kl = true := by
        have hk' : (left kl && !kl.sameKey (slotL s)) = true := hk
        rw [Bool.and_eq_true] at hk'
        exact hk'.1
      exact h4 kl this
set_option maxRecDepth 100000 in
theorem rng_del {w : World} {m r n : Nat} {F : Ent → Option Ent} {Lf : Ent → Bool} {cnt : Nat} (h : RngE w m r n F Lf cnt) {k : Ent} (hk : SOk k) (ty : TypeId) :
    ∃ w' cnt', (Builtin.delete_ #[87, 69] ty #[.map (some m), slotV k]).run Try.prog w = .ok (.tuple #[]) w' ∧ RngE w' m r n (delF F k) (fun t => Lf t && !samB k t) cnt' ∧ cnt' ≤ cnt ∧ w.grownBy w' (some m) := by
  obtain ⟨D, left, h1, h2, h3, h4⟩ := h
  obtain ⟨w', cnt', hrun, hrg, hle, ht⟩ := h1.drop lawSlot Try.underlying87 (keyOf_slot hk) ty
  refine ⟨w', cnt', hrun, ⟨_, _, hrg, h2.del hk, fun t ht => ?_, fun kl hkl => ?_⟩, hle, ht.grown⟩
  · show (left (slotL t) && !(slotL t).sameKey (slotL k)) = _
    rw [h3 t ht, same_slot hk ht]
  · have hkl' : (left kl && !kl.sameKey (slotL k)) = true := hkl
    rw [Bool.and_eq_true] at hkl'
    have hne : kl ≠ slotL k := fun e => by
      rw [e, WideAt.sameKey_self (slotL_key k)] at hkl'
      cases hkl'.2
    rw [has_del_other hne]
    exact h4 kl hkl'.1
end Go.Proofs.Ytgocjlpbokhoeaa
