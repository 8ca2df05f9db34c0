import Derived.Test.YtjfeloagimljoaaLawR
namespace Go.Proofs.Ytjfeloagimljoaa
open Go.RowKit

section
variable (w : World) (B o : Nat) (e : Ev) (pa : Option Addr) (cp : Nat) (aa : Option Addr) (ca : Nat) (ga : Option Addr) (cg : Nat)
/-- an event stored into ten cells. -/
abbrev put10 : World :=
  ((((((((((w.setCell ⟨B, o, none⟩ (.string e.id)).setCell ⟨B, o + 1, none⟩ (.string e.sd)).setCell ⟨B, o + 2, none⟩ (.string e.ty)).setCell ⟨B, o + 3, none⟩ (.bool e.st)).setCell ⟨B, o + 4, none⟩ (.string e.key)).setCell ⟨B, o + 5, none⟩ (.int .i64 e.tm)).setCell ⟨B, o + 6, none⟩ (.slice pa e.np cp)).setCell ⟨B, o + 7, none⟩ (.slice aa e.na ca)).setCell ⟨B, o + 8, none⟩ (.string e.val)).setCell ⟨B, o + 9, none⟩ (.slice ga e.ng cg))
theorem put10_far (i : Nat) (h : i < o ∨ o + 10 ≤ i) : (put10 w B o e pa cp aa ca ga cg).cell? ⟨B, i, none⟩ = w.cell? ⟨B, i, none⟩ := by
  rw [set_far (by omega), set_far (by omega), set_far (by omega), set_far (by omega), set_far (by omega), set_far (by omega), set_far (by omega), set_far (by omega), set_far (by omega), set_far (by omega)]
theorem put10_block (C i : Nat) (h : B ≠ C) : (put10 w B o e pa cp aa ca ga cg).cell? ⟨C, i, none⟩ = w.cell? ⟨C, i, none⟩ := by
  rw [far_block h, far_block h, far_block h, far_block h, far_block h, far_block h, far_block h, far_block h, far_block h, far_block h]
theorem put10_frozen (x : Addr) : (put10 w B o e pa cp aa ca ga cg).frozen? x = w.frozen? x := by
  rw [World.frozen?_setCell, World.frozen?_setCell, World.frozen?_setCell, World.frozen?_setCell, World.frozen?_setCell, World.frozen?_setCell, World.frozen?_setCell, World.frozen?_setCell, World.frozen?_setCell, World.frozen?_setCell]
theorem put10_size : (put10 w B o e pa cp aa ca ga cg).heap.size = w.heap.size := by simp [World.setCell]
theorem put10_cells (hf : ∀ j, j < 10 → (∃ v, w.cell? ⟨B, o + j, none⟩ = some v) ∧ w.frozen? ⟨B, o + j, none⟩ = false) : EvCells (put10 w B o e pa cp aa ca ga cg) B o e pa cp aa ca ga cg :=
  ⟨by rw [set_far (by omega), set_far (by omega), set_far (by omega), set_far (by omega), set_far (by omega), set_far (by omega), set_far (by omega), set_far (by omega), set_far (by omega)]; refine set_same ?_; exact (hf 0 (by decide)).1,
    by rw [set_far (by omega), set_far (by omega), set_far (by omega), set_far (by omega), set_far (by omega), set_far (by omega), set_far (by omega), set_far (by omega)]; refine set_same ?_; rw [set_far (by omega)]; exact (hf 1 (by decide)).1,
    by rw [set_far (by omega), set_far (by omega), set_far (by omega), set_far (by omega), set_far (by omega), set_far (by omega), set_far (by omega)]; refine set_same ?_; rw [set_far (by omega), set_far (by omega)]; exact (hf 2 (by decide)).1,
    by rw [set_far (by omega), set_far (by omega), set_far (by omega), set_far (by omega), set_far (by omega), set_far (by omega)]; refine set_same ?_; rw [set_far (by omega), set_far (by omega), set_far (by omega)]; exact (hf 3 (by decide)).1,
    by rw [set_far (by omega), set_far (by omega), set_far (by omega), set_far (by omega), set_far (by omega)]; refine set_same ?_; rw [set_far (by omega), set_far (by omega), set_far (by omega), set_far (by omega)]; exact (hf 4 (by decide)).1,
    by rw [set_far (by omega), set_far (by omega), set_far (by omega), set_far (by omega)]; refine set_same ?_; rw [set_far (by omega), set_far (by omega), set_far (by omega), set_far (by omega), set_far (by omega)]; exact (hf 5 (by decide)).1,
    by rw [set_far (by omega), set_far (by omega), set_far (by omega)]; refine set_same ?_; rw [set_far (by omega), set_far (by omega), set_far (by omega), set_far (by omega), set_far (by omega), set_far (by omega)]; exact (hf 6 (by decide)).1,
    by rw [set_far (by omega), set_far (by omega)]; refine set_same ?_; rw [set_far (by omega), set_far (by omega), set_far (by omega), set_far (by omega), set_far (by omega), set_far (by omega), set_far (by omega)]; exact (hf 7 (by decide)).1,
    by rw [set_far (by omega)]; refine set_same ?_; rw [set_far (by omega), set_far (by omega), set_far (by omega), set_far (by omega), set_far (by omega), set_far (by omega), set_far (by omega), set_far (by omega)]; exact (hf 8 (by decide)).1,
    by refine set_same ?_; rw [set_far (by omega), set_far (by omega), set_far (by omega), set_far (by omega), set_far (by omega), set_far (by omega), set_far (by omega), set_far (by omega), set_far (by omega)]; exact (hf 9 (by decide)).1⟩
theorem put10_below {A0 : World} {C : Nat} (h : Below C A0 w) (hB : C ≤ B) : Below C A0 (put10 w B o e pa cp aa ca ga cg) :=
  (((((((((h.setCell hB _).setCell hB _).setCell hB _).setCell hB _).setCell hB _).setCell hB _).setCell hB _).setCell hB _).setCell hB _).setCell hB _
theorem put10_free {n : Nat} (h : Free w B n) : Free (put10 w B o e pa cp aa ca ga cg) B n :=
  set_free (set_free (set_free (set_free (set_free (set_free (set_free (set_free (set_free (set_free h)))))))))
theorem put10_slS {b off n cap : Nat} {S : Nat → ByteArray} (h : SlS w (some ⟨b, off, none⟩) n cap S) (hB : B ≠ b) : SlS (put10 w B o e pa cp aa ca ga cg) (some ⟨b, off, none⟩) n cap S :=
  (((((((((h.set hB _).set hB _).set hB _).set hB _).set hB _).set hB _).set hB _).set hB _).set hB _).set hB _
theorem put10_slG {b off n cap : Nat} {M : Nat → ByteArray} {L : Nat → Int} (h : SlG w (some ⟨b, off, none⟩) n cap M L) (hB : B ≠ b) : SlG (put10 w B o e pa cp aa ca ga cg) (some ⟨b, off, none⟩) n cap M L :=
  (((((((((h.set hB _).set hB _).set hB _).set hB _).set hB _).set hB _).set hB _).set hB _).set hB _).set hB _
end

/-- event e lies at (B, o), its lists in blocks above B. -/
def EvNew (w : World) (B o : Nat) (e : Ev) : Prop := ∃ bp ba bg, B < bp ∧ B < ba ∧ B < bg ∧ EvCells w B o e (some ⟨bp, 0, none⟩) e.np (some ⟨ba, 0, none⟩) e.na (some ⟨bg, 0, none⟩) e.ng ∧ EvOk w e (some ⟨bp, 0, none⟩) e.np (some ⟨ba, 0, none⟩) e.na (some ⟨bg, 0, none⟩) e.ng

theorem EvNew.below {w w' : World} {B o : Nat} {e : Ev} (h : EvNew w B o e) (hb : Below w.heap.size w w') (hlt : B < w.heap.size) : EvNew w' B o e := by
  obtain ⟨bp, ba, bg, h1, h2, h3, h4, h5⟩ := h
  exact ⟨bp, ba, bg, h1, h2, h3, h4.below hb hlt, h5.below hb⟩
theorem EvNew.at {w : World} {B o : Nat} {e : Ev} (h : EvNew w B o e) : EvAt w B o e := by
  obtain ⟨bp, ba, bg, _, _, _, h4, h5⟩ := h
  exact ⟨_, _, _, _, _, _, h4, h5⟩
theorem EvNew.put {w : World} {B o o' : Nat} {e e' : Ev} {pa aa ga : Option Addr} {cp ca cg : Nat} (h : EvNew w B o e) (ho : o + 10 ≤ o') : EvNew (put10 w B o' e' pa cp aa ca ga cg) B o e := by
  obtain ⟨bp, ba, bg, h1, h2, h3, h4, h5⟩ := h
  refine ⟨bp, ba, bg, h1, h2, h3, ?_, ⟨h5.hid, h5.hsd, h5.hty, h5.hkey, h5.hval, put10_slS _ _ _ _ _ _ _ _ _ _ h5.hp (by omega), put10_slS _ _ _ _ _ _ _ _ _ _ h5.ha (by omega), put10_slG _ _ _ _ _ _ _ _ _ _ h5.hg (by omega)⟩⟩
  exact ⟨(put10_far _ _ _ _ _ _ _ _ _ _ _ (by omega)).trans h4.c0, (put10_far _ _ _ _ _ _ _ _ _ _ _ (by omega)).trans h4.c1, (put10_far _ _ _ _ _ _ _ _ _ _ _ (by omega)).trans h4.c2, (put10_far _ _ _ _ _ _ _ _ _ _ _ (by omega)).trans h4.c3, (put10_far _ _ _ _ _ _ _ _ _ _ _ (by omega)).trans h4.c4, (put10_far _ _ _ _ _ _ _ _ _ _ _ (by omega)).trans h4.c5, (put10_far _ _ _ _ _ _ _ _ _ _ _ (by omega)).trans h4.c6, (put10_far _ _ _ _ _ _ _ _ _ _ _ (by omega)).trans h4.c7, (put10_far _ _ _ _ _ _ _ _ _ _ _ (by omega)).trans h4.c8, (put10_far _ _ _ _ _ _ _ _ _ _ _ (by omega)).trans h4.c9⟩

/-- n events' cells, all zero. -/
def mkV (n : Nat) : Array Value := madeCells #[.string ByteArray.empty, .string ByteArray.empty, .string ByteArray.empty, .bool false, .string ByteArray.empty, .int .i64 0, .slice none 0 0, .slice none 0 0, .string ByteArray.empty, .slice none 0 0] (n * 10)
theorem mkV_size (n : Nat) : (mkV n).size = n * 10 := size_madeCells _ _
theorem Try.infoEvent : (Try.prog.info? 31).map (fun i => (i.zero, i.size, i.bytes)) = some (some (.agg #[.string ByteArray.empty, .string ByteArray.empty, .string ByteArray.empty, .bool false, .string ByteArray.empty, .int .i64 0, .slice none 0 0, .slice none 0 0, .string ByteArray.empty, .slice none 0 0]), 10, 168) := by kernel_rfl

/-- the lists of an event are within the reach. -/
def EvReach (e : Ev) : Prop := e.np * 16 ≤ 140737488351232 ∧ e.na * 16 ≤ 140737488351232 ∧ e.ng * 24 ≤ 140737488351232

theorem EvNew.set {w : World} {b o C j : Nat} {e : Ev} (h : EvNew w b o e) (hC : C < b) (x : Value) : EvNew (w.setCell ⟨C, j, none⟩ x) b o e := by
  obtain ⟨bp, ba, bg, h1, h2, h3, h4, h5⟩ := h
  refine ⟨bp, ba, bg, h1, h2, h3, ⟨?_, ?_, ?_, ?_, ?_, ?_, ?_, ?_, ?_, ?_⟩, ⟨h5.hid, h5.hsd, h5.hty, h5.hkey, h5.hval, h5.hp.set (by omega) _, h5.ha.set (by omega) _, h5.hg.set (by omega) _⟩⟩
  · rw [far_block (by omega)]; exact h4.c0
  · rw [far_block (by omega)]; exact h4.c1
  · rw [far_block (by omega)]; exact h4.c2
  · rw [far_block (by omega)]; exact h4.c3
  · rw [far_block (by omega)]; exact h4.c4
  · rw [far_block (by omega)]; exact h4.c5
  · rw [far_block (by omega)]; exact h4.c6
  · rw [far_block (by omega)]; exact h4.c7
  · rw [far_block (by omega)]; exact h4.c8
  · rw [far_block (by omega)]; exact h4.c9

end Go.Proofs.Ytjfeloagimljoaa
