import Derived.Test.YtihacnhmiopalaaDoorGvTZT
namespace Go.Proofs.YtihacnhmiopalaaDoor
open Go.RowKit
def oddS (v : Nat) : ByteArray :=
 match v % 10 with
 | 0 => ⟨#[]⟩
 | 1 => ⟨#[97, 32, 98]⟩
 | 2 => ⟨#[120, 44, 121]⟩
 | 3 => ⟨#[45]⟩
 | 4 => ⟨#[97, 58, 98]⟩
 | 5 => ⟨#[48, 49, 50, 51, 52, 53, 54, 55, 56, 57, 48, 49, 50, 51, 52, 53, 54, 55, 56, 57, 48, 49, 50, 51, 52, 53, 54, 55, 56, 57, 48, 49, 50, 51, 52, 53, 54, 55, 56, 57]⟩
 | 6 => ⟨#[48, 49, 50, 51, 52, 53, 54, 55, 56, 57, 48, 49, 50, 51, 52, 53, 54, 55, 56, 57, 48, 49, 50, 51, 52, 53, 54, 55, 56, 57, 48, 49, 50, 51, 52, 53, 54, 55, 56, 57, 48]⟩
 | 7 => ⟨#[61]⟩
 | 8 => ⟨#[42, 115, 116, 97, 116, 101]⟩
 | _ => ⟨#[111, 107]⟩
theorem oddS_size (v : Nat) : (oddS v).size <= 41 := by
 unfold oddS
 split <;> decide
def oddT (v : Nat) : ByteArray :=
 match v % 4 with
 | 0 => ⟨#[99, 114, 101, 97, 116, 101]⟩
 | 1 => ⟨#[109, 101, 109, 98, 101, 114]⟩
 | 2 => ⟨#[112, 111, 119, 101, 114]⟩
 | _ => ⟨#[106, 111, 105, 110, 95, 114, 117, 108, 101, 115]⟩
theorem oddT_size (v : Nat) : (oddT v).size <= 10 := by
 unfold oddT
 split <;> decide
def mx (a b : Nat) : Nat := if a < b then b else a
def spE (k v : Nat) (e : Ev) : Ev :=
 if k % 16 = 0 then { e with id := oddS v }
 else if k % 16 = 1 then { e with sd := oddS v }
 else if k % 16 = 2 then { e with ty := oddS v }
 else if k % 16 = 3 then { e with key := oddS v }
 else if k % 16 = 4 then { e with st := !e.st }
 else if k % 16 = 5 then { e with tm := 999999999999 + ((v % 3 : Nat) : Int) }
 else if k % 16 = 6 then { e with tm := - (v : Int) }
 else if k % 16 = 7 then { e with np := e.np + 1, Pv := extF e.Pv e.np (oddS v) }
 else if k % 16 = 8 then { e with na := e.na + e.na, Av := fun i => if i < e.na then e.Av i else e.Av (i - e.na) }
 else if k % 16 = 9 then { e with np := e.np + 1, Pv := extF e.Pv e.np e.id }
 else if k % 16 = 10 then { e with na := mx e.na (9 + v % 3), Av := fun i => if i < e.na then e.Av i else ⟨#[36, 102]⟩ ++ decB i }
 else if k % 16 = 11 then { e with val := oddS v }
 else if k % 16 = 12 then { e with ng := e.ng + 1, M := extF e.M e.ng (oddS v), L := extF e.L e.ng ((((v % 3 : Nat) : Int) - 1) * (1000000 + ((v / 128 : Nat) : Int))) }
 else if k % 16 = 13 then { e with ty := oddT v }
 else if k % 16 = 14 then { e with ng := mx e.ng (49 + v % 3), M := fun i => if i < e.ng then e.M i else ⟨#[122]⟩ ++ decB (1000 + i), L := fun i => if i < e.ng then e.L i else 0 }
 else { e with na := 0 }
def XeS (a : Option Addr) (n lo hi nw : Nat) : Prop := n = 0 ∨ ∃ b off, a = some ⟨b, off, none⟩ ∧ ((lo <= b ∧ b < hi) ∨ nw <= b)
def XePost (p : Nat) (wo w : World) (bs : Nat -> Nat) (m q : Nat) (e : Ev) (lo hi : Nat) (x : Ending) (w' : World) : Prop :=
 ∃ pa cp aa ca ga cg, x = .returned ((spE (nxB bs m q) (nxB bs m (nxQ m q)) e).val' pa cp aa ca ga cg) ∧ EvOk w' (spE (nxB bs m q) (nxB bs m (nxQ m q)) e) pa cp aa ca ga cg
  ∧ XeS pa (spE (nxB bs m q) (nxB bs m (nxQ m q)) e).np lo hi w.heap.size ∧ XeS aa (spE (nxB bs m q) (nxB bs m (nxQ m q)) e).na lo hi w.heap.size ∧ XeS ga (spE (nxB bs m q) (nxB bs m (nxQ m q)) e).ng lo hi w.heap.size
  ∧ w.heap.size <= w'.heap.size ∧ (∀ b, b < w.heap.size -> b ≠ p -> (b < lo ∨ hi <= b) -> w'.heap[b]? = w.heap[b]?) ∧ DwF p wo w' bs m (nxQ m (nxQ m q))
theorem QO.xe {w : World} {e : Ev} {t : Ls} (h : QO w e t) (nw : Nat) : XeS t.pa e.np t.lo t.hi nw ∧ XeS t.aa e.na t.lo t.hi nw ∧ XeS t.ga e.ng t.lo t.hi nw :=
 ⟨h.j.ip.imp id fun ⟨b, off, e, h1, h2⟩ => ⟨b, off, e, Or.inl ⟨h1, h2⟩⟩, h.j.ia.imp id fun ⟨b, off, e, h1, h2⟩ => ⟨b, off, e, Or.inl ⟨h1, h2⟩⟩, h.j.ig.imp id fun ⟨b, off, e, h1, h2⟩ => ⟨b, off, e, Or.inl ⟨h1, h2⟩⟩⟩
structure EvX (p : Nat) (wo w W : World) (bs : Nat -> Nat) (m q lo hi : Nat) (c : Nat -> Value) : Prop where
 b : ∀ o, o < 10 -> W.cell? ⟨w.heap.size, o, none⟩ = some (c o)
 z : ∀ o, o < 10 -> ∃ v, W.cell? ⟨w.heap.size + 1, o, none⟩ = some v
 f0 : ∀ o, W.frozen? ⟨w.heap.size, o, none⟩ = false
 f1 : ∀ o, W.frozen? ⟨w.heap.size + 1, o, none⟩ = false
 sz : w.heap.size + 2 <= W.heap.size
 k : ∀ b, b < w.heap.size -> b ≠ p -> (b < lo ∨ hi <= b) -> W.heap[b]? = w.heap[b]?
 dw : DwF p wo W bs m q
section
variable {p : Nat} {wo w W : World} {bs : Nat -> Nat} {m q lo hi : Nat} {c : Nat -> Value}
theorem EvX.congr (h : EvX p wo w W bs m q lo hi c) {c' : Nat -> Value} (hc : ∀ o, o < 10 -> c o = c' o) : EvX p wo w W bs m q lo hi c' := ⟨fun o ho => by rw [<- hc o ho]; exact h.b o ho, h.z, h.f0, h.f1, h.sz, h.k, h.dw⟩
theorem EvX.kept (h : EvX p wo w W bs m q lo hi c) {W' : World} {q' : Nat} (hk : ∀ b, w.heap.size <= b -> b < w.heap.size + 2 -> W'.heap[b]? = W.heap[b]?) (hs : W.heap.size <= W'.heap.size) (hl : ∀ b, b < w.heap.size -> b ≠ p -> (b < lo ∨ hi <= b) -> W'.heap[b]? = W.heap[b]?) (hd : DwF p wo W' bs m q') : EvX p wo w W' bs m q' lo hi c := by
 have hc : ∀ b o, w.heap.size <= b -> b < w.heap.size + 2 -> W'.cell? ⟨b, o, none⟩ = W.cell? ⟨b, o, none⟩ := fun b o h1 h2 => World.cell?_of_block (a := ⟨b, o, none⟩) (hk b h1 h2)
 have hz : ∀ b o, w.heap.size <= b -> b < w.heap.size + 2 -> W'.frozen? ⟨b, o, none⟩ = W.frozen? ⟨b, o, none⟩ := fun b o h1 h2 => World.frozen?_of_block (a := ⟨b, o, none⟩) (hk b h1 h2)
 exact ⟨fun o ho => (hc _ _ (by omega) (by omega)).trans (h.b o ho), fun o ho => (h.z o ho).imp fun v hv => (hc _ _ (by omega) (by omega)).trans hv, fun o => (hz _ _ (by omega) (by omega)).trans (h.f0 o), fun o => (hz _ _ (by omega) (by omega)).trans (h.f1 o), Nat.le_trans h.sz hs, fun b h1 h2 h3 => (hl b h1 h2 h3).trans (h.k b h1 h2 h3), hd⟩
theorem EvX.below (h : EvX p wo w W bs m q lo hi c) {W' : World} (hb : Below W.heap.size W W') : EvX p wo w W' bs m q lo hi c :=
 h.kept (fun b _ h2 => hb.block b (by have := h.sz; omega)) hb.size (fun b h1 _ _ => hb.block b (by have := h.sz; omega)) (h.dw.below hb)
theorem EvX.draw (h : EvX p wo w W bs m q lo hi c) (hp : p < w.heap.size) {W' : World} {q' : Nat} (hd : DwF p W W' bs m q') : EvX p wo w W' bs m q' lo hi c :=
 h.kept (fun b h1 h2 => hd.2.block b (by have := h.sz; omega) (fun e => by injection e with e; omega)) hd.size (fun b h1 h2 _ => hd.2.block b (by have := h.sz; omega) (fun e => by injection e with e; omega)) (h.dw.trans hd)
theorem EvX.grow (h : EvX p wo w W bs m q lo hi c) (hp : p < wo.heap.size) (hwo : wo.heap.size <= lo) (hhi : hi <= w.heap.size) (hww : wo.heap.size <= w.heap.size) {W' : World} {row : Option Nat} (hg : W.grownBy W' row) (hr : ∀ b, row = some b -> (lo <= b ∧ b < hi) ∨ w.heap.size + 2 <= b) : EvX p wo w W' bs m q lo hi c :=
 h.kept (fun b h1 h2 => hg.block b (by have := h.sz; omega) (fun e => by rcases hr b e.symm with r | r <;> omega)) hg.size (fun b h1 h2 h3 => hg.block b (by have := h.sz; omega) (fun e => by rcases hr b e.symm with r | r <;> omega)) (h.dw.grow hg (fun b hb => by rcases hr b hb with r | r <;> omega) hp)
theorem EvX.set (h : EvX p wo w W bs m q lo hi c) (hp : p < wo.heap.size) (hww : wo.heap.size <= w.heap.size) (o : Nat) (x : Value) : EvX p wo w (W.setCell ⟨w.heap.size, o, none⟩ x) bs m q lo hi (fun i => if i = o then x else c i) := by
 have hg := Lib.grownBy_setCell W w.heap.size o x
 refine ⟨fun i hi => ?_, fun i hi => ?_, fun i => by rw [World.frozen?_setCell]; exact h.f0 i, fun i => by rw [World.frozen?_setCell]; exact h.f1 i, Nat.le_trans h.sz hg.size, fun b h1 h2 h3 => (hg.block b (by have := h.sz; omega) (fun e => by injection e with e; omega)).trans (h.k b h1 h2 h3), h.dw.own hww hp o x⟩
 ·by_cases e : i = o
  ·subst e; rw [if_pos rfl]; exact set_same ⟨_, h.b i hi⟩
  ·rw [if_neg e, set_far (by omega)]; exact h.b i hi
 ·obtain ⟨v, hv⟩ := h.z i hi
  exact ⟨v, (World.cell?_of_block (a := ⟨w.heap.size + 1, i, none⟩) (hg.block (w.heap.size + 1) (by have := h.sz; omega) (fun e => by injection e with e; omega))).trans hv⟩
end
theorem evX_new {p : Nat} {wo w : World} {bs : Nat -> Nat} {m q lo hi : Nat} {cs : Array Value} {t : TypeId} (h : DwF p wo w bs m q) (hc : cs.size = 10) : EvX p wo w ((w.alloc (.cells cs t)).alloc (.cells #[.string ⟨#[]⟩, .string ⟨#[]⟩, .string ⟨#[]⟩, .bool false, .string ⟨#[]⟩, .int .i64 0, .slice none 0 0, .slice none 0 0, .string ⟨#[]⟩, .slice none 0 0] t)) bs m q lo hi (fun o => cs[o]?.getD undef) := by
 have hb : Below w.heap.size w ((w.alloc (.cells cs t)).alloc (.cells #[.string ⟨#[]⟩, .string ⟨#[]⟩, .string ⟨#[]⟩, .bool false, .string ⟨#[]⟩, .int .i64 0, .slice none 0 0, .slice none 0 0, .string ⟨#[]⟩, .slice none 0 0] t)) := ((Below.refl _ _).alloc (Nat.le_refl _) _).alloc (by simp) _
 refine ⟨fun o ho => ?_, fun o ho => ?_, fun o => ?_, fun o => World.frozen?_alloc_at _ _ _ _ (by simp), by simp, fun b h1 _ _ => hb.block b h1, h.below hb⟩
 ·rw [World.cell?_alloc_past _ _ _ (by simp), World.cell?_alloc_at _ _ _ _ rfl, Array.getElem?_eq_getElem (by omega)]
  rfl
 ·rw [World.cell?_alloc_at _ _ _ _ (by simp)]
  match o, ho with
  | 0, _ => exact ⟨_, rfl⟩
  | 1, _ => exact ⟨_, rfl⟩
  | 2, _ => exact ⟨_, rfl⟩
  | 3, _ => exact ⟨_, rfl⟩
  | 4, _ => exact ⟨_, rfl⟩
  | 5, _ => exact ⟨_, rfl⟩
  | 6, _ => exact ⟨_, rfl⟩
  | 7, _ => exact ⟨_, rfl⟩
  | 8, _ => exact ⟨_, rfl⟩
  | 9, _ => exact ⟨_, rfl⟩
 ·rw [World.frozen?_alloc_past _ _ _ (by simp)]
  exact World.frozen?_alloc_at _ _ _ _ rfl
end Go.Proofs.YtihacnhmiopalaaDoor
