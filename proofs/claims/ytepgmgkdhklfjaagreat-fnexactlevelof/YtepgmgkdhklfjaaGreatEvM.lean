/-
  A map from slots to pointers.
-/
import Derived.Test.YtepgmgkdhklfjaaGreatMpE
namespace Go.Proofs.YtepgmgkdhklfjaaGreat
open Go.RowKit Go.Maps Go.ChangeMaps

/-- how a pointer reads. -/
def evR : Value → Option (DataW Unit × List MemPlace)
  | .pointer none => some (.agg [], [])
  | .pointer (some ⟨b, o, none⟩) => some (.agg [.lit (.int .i64 (b : Int)), .lit (.int .i64 (o : Int))], [])
  | _ => none
theorem evR_inj {v v' : Value} {d : DataW Unit} {p p' : List MemPlace} (h : evR v = some (d, p)) (h' : evR v' = some (d, p')) : v = v' := by
  unfold evR at h h'
  split at h
  · injection h with h
    injection h with h _
    subst h
    split at h'
    · rfl
    · injection h' with h'
      injection h' with h' _
      injection h' with h'
      cases h'
    · cases h'
  · rename_i b o
    injection h with h
    injection h with h _
    subst h
    split at h'
    · injection h' with h'
      injection h' with h' _
      injection h' with h'
      cases h'
    · rename_i b' o'
      injection h' with h'
      injection h' with h' _
      injection h' with h'
      injection h' with h1 h2
      injection h2 with h2 _
      injection h1 with h1
      injection h1 with _ h1
      injection h2 with h2
      injection h2 with _ h2
      have e1 : b' = b := by omega
      have e2 : o' = o := by omega
      rw [e1, e2]
    · cases h'
  · cases h

/-- block m of w is a map of at most n pointers, at slot s the pointer F s. -/
def MapV (w : World) (m n : Nat) (F : Ent → Value) : Prop := ∃ D : DataW Unit, w.ownsMap Tryz.prog 56 evR m n D ∧ ∀ s, SOk s → ∃ p, evR (F s) = some (D.atKey (slotL s) (.agg []), p)
theorem MapV.lt {w : World} {m n : Nat} {F : Ent → Value} (h : MapV w m n F) : m < w.heap.size := by
  obtain ⟨D, h, _⟩ := h; exact h.lt
theorem MapV.kept {w w' : World} {m n : Nat} {F : Ent → Value} (h : MapV w m n F) (hb : w'.heap[m]? = w.heap[m]?) : MapV w' m n F := by
  obtain ⟨D, ⟨es, clock, h1, r⟩, h2⟩ := h
  exact ⟨D, ⟨es, clock, hb.trans h1, r⟩, h2⟩
theorem MapV.below {w w' : World} {m n : Nat} {F : Ent → Value} (h : MapV w m n F) (hb : Below w.heap.size w w') : MapV w' m n F := h.kept (hb.block m h.lt)
theorem MapV.made (w : World) : MapV (w.alloc (.map #[] 0)) w.heap.size 0 (fun _ => .pointer none) :=
  ⟨.map [], World.ownsMap_made w _ _ _, fun _ _ => ⟨[], rfl⟩⟩
def putV (F : Ent → Value) (k : Ent) (v : Value) : Ent → Value := fun s => if samB k s = true then v else F s
set_option maxRecDepth 100000 in
theorem mapV_put {w : World} {m n : Nat} {F : Ent → Value} (h : MapV w m n F) (hn : n < maxLen) {k : Ent} (hk : SOk k) (b o : Nat) :
    ∃ w', (Instr.mapUpdate 62 (.map (some m)) (slotV k) (.pointer (some ⟨b, o, none⟩))).run Tryz.prog w = .ok () w' ∧ MapV w' m (n + 1) (putV F k (.pointer (some ⟨b, o, none⟩))) ∧ w.grownBy w' (some m) := by
  obtain ⟨D, h1, h2⟩ := h
  obtain ⟨w', hrun, hown, hgr⟩ := h1.update lawSlot Tryz.underlying62 hn (keyOf_slot hk) (show evR (.pointer (some ⟨b, o, none⟩)) = some (.agg [.lit (.int .i64 (b : Int)), .lit (.int .i64 (o : Int))], []) from rfl)
  refine ⟨w', hrun, ⟨_, hown, fun s hs => ?_⟩, hgr⟩
  unfold putV
  by_cases e1 : samB k s = true
  · rw [if_pos e1]
    have e2 : slotL s = slotL k := ((slotL_iff hk hs).2 ((samB_iff _ _).1 e1)).symm
    exact ⟨[], by rw [e2, atKey_put_same h1.isMap (slotL_key k)]; rfl⟩
  · rw [if_neg e1]
    have e2 : slotL s ≠ slotL k := fun e' => e1 ((samB_iff _ _).2 ((slotL_iff hk hs).1 e'.symm))
    obtain ⟨p, hp⟩ := h2 s hs
    exact ⟨p, by rw [atKey_put_other e2]; exact hp⟩
theorem zeroPtr (w : World) : (zeroValue 58).run Tryz.prog w = .ok (.pointer none) w := by kernel_rfl
set_option maxRecDepth 100000 in
theorem mapV_get {w : World} {m n : Nat} {F : Ent → Value} (h : MapV w m n F) {k : Ent} (hk : SOk k) :
    (Instr.lookup 62 (.map (some m)) (slotV k) false).run Tryz.prog w = .ok (F k) w := by
  obtain ⟨D, h1, h2⟩ := h
  obtain ⟨v, ps, hrun, hv⟩ := h1.lookup lawSlot Tryz.underlying62 (zeroPtr w) (show evR (.pointer none) = some (.agg [], []) from rfl) (keyOf_slot hk)
  obtain ⟨p, hp⟩ := h2 k hk
  rw [evR_inj hp hv]
  exact hrun
end Go.Proofs.YtepgmgkdhklfjaaGreat
