import Derived.Test.YtihacnhmiopalaaDoorXePZT
namespace Go.Proofs.YtihacnhmiopalaaDoor
open Go.RowKit
abbrev x1T : ByteArray := ⟨#[36, 120, 49]⟩
abbrev x0T : ByteArray := ⟨#[36, 120, 48]⟩
def auT (i : Nat) : ByteArray := if i = 0 then x0T else x1T
def regO : Code -> Array Oper
 | .seq (.region _ o _) _ => o
 | .region _ o _ => o
 | _ => #[]
theorem wpO {P : Program} {md : Region.Mode} {ops ops' : Array Oper} {Q : Exit -> Act -> World -> Prop} {S : World -> Prop} {fuel : Nat} {l l' : Array Bool} {a : Act} {w : World} (e' : ops = ops') (e : l = l') (h : wpAnyH P md ops' Q S fuel l' a w) : wpAnyH P md ops Q S fuel l a w := e' ▸ e ▸ h
structure DeI (p : Nat) (w W : World) (bs : Nat -> Nat) (m q : Nat) (oA oB oV : Option Nat) : Prop where
 dw : DwF p w W bs m q
 sz : w.heap.size + 1 <= W.heap.size
 z : ∀ o, o < 10 -> ∃ v, W.cell? ⟨w.heap.size, o, none⟩ = some v
 f1 : ∀ o, W.frozen? ⟨w.heap.size, o, none⟩ = false
 a : ∀ b, oA = some b -> OwnT W (w.heap.size + 1) (.slice (some ⟨b, 0, none⟩) 1 1) 1 (fun _ => x1T)
 b : ∀ b, oB = some b -> OwnT W (w.heap.size + 1) (.slice (some ⟨b, 0, none⟩) 2 2) 2 auT
 v : ∀ b, oV = some b -> w.heap.size + 1 <= b ∧ b < W.heap.size ∧ (∀ o, o < 10 -> W.cell? ⟨b, o, none⟩ = some ((#[.string ⟨#[]⟩, .string ⟨#[]⟩, .string ⟨#[]⟩, .bool false, .string ⟨#[]⟩, .int .i64 0, .slice none 0 0, .slice none 0 0, .string ⟨#[]⟩, .slice none 0 0] : Array Value)[o]?.getD undef)) ∧ ∀ o, W.frozen? ⟨b, o, none⟩ = false
 ab : ∀ a b, oA = some a -> oB = some b -> a ≠ b
 av : ∀ a b, oA = some a -> oV = some b -> a ≠ b
 bv : ∀ a b, oB = some a -> oV = some b -> a ≠ b
section
variable {p : Nat} {w W W' : World} {bs : Nat -> Nat} {m q : Nat} {oA oB oV : Option Nat}
theorem DeI.below (h : DeI p w W bs m q oA oB oV) (hb : Below W.heap.size W W') : DeI p w W' bs m q oA oB oV :=
 ⟨h.dw.below hb, Nat.le_trans h.sz hb.size, fun o ho => (h.z o ho).imp fun v hv => (hb.cell (by exact h.sz)).trans hv, fun o => (hb.frozen (by exact h.sz)).trans (h.f1 o), fun b e => (h.a b e).below hb, fun b e => (h.b b e).below hb,
  fun b e => ⟨(h.v b e).1, Nat.lt_of_lt_of_le (h.v b e).2.1 hb.size, fun o ho => (hb.cell (by exact (h.v b e).2.1)).trans ((h.v b e).2.2.1 o ho), fun o => (hb.frozen (by exact (h.v b e).2.1)).trans ((h.v b e).2.2.2 o)⟩, h.ab, h.av, h.bv⟩
theorem DeI.dr (h : DeI p w W bs m q oA oB oV) : DeI p w W.drew bs m q oA oB oV := h.below (Below.refl _ _).drew
theorem DeI.la (h : DeI p w W bs m q oA oB oV) (b : Nat) (e : oA = some b) : b < W.heap.size := (ownsRow_blk (h.a b e) b rfl).2
theorem DeI.lb (h : DeI p w W bs m q oA oB oV) (b : Nat) (e : oB = some b) : b < W.heap.size := (ownsRow_blk (h.b b e) b rfl).2
theorem DeI.allocA (h : DeI p w W bs m q none oB oV) : DeI p w (W.alloc (.cells #[.string x1T] 9)) bs m q (some W.heap.size) oB oV := by
 have h2 := h.below ((Below.refl W.heap.size W).alloc (Nat.le_refl _) (.cells #[.string x1T] 9))
 refine ⟨h2.dw, h2.sz, h2.z, h2.f1, fun b e => ?_, h2.b, h2.v, fun a b e1 e2 => ?_, fun a b e1 e2 => ?_, h2.bv⟩
 ·injection e with e
  subst e
  exact ⟨rfl, Or.inr ⟨W.heap.size, 1, #[.string x1T], rfl, h.sz, by show (W.heap.push _)[W.heap.size]? = _; simp, Nat.le_refl _, by decide, rfl, rfl⟩⟩
 ·injection e1 with e1
  have := h.lb b e2
  omega
 ·injection e1 with e1
  have := (h.v b e2).2.1
  omega
theorem DeI.allocB (h : DeI p w W bs m q oA none oV) : DeI p w (W.alloc (.cells #[.string x0T, .string x1T] 9)) bs m q oA (some W.heap.size) oV := by
 have h2 := h.below ((Below.refl W.heap.size W).alloc (Nat.le_refl _) (.cells #[.string x0T, .string x1T] 9))
 refine ⟨h2.dw, h2.sz, h2.z, h2.f1, h2.a, fun b e => ?_, h2.v, fun a b e1 e2 => ?_, h2.av, fun a b e1 e2 => ?_⟩
 ·injection e with e
  subst e
  exact ⟨rfl, Or.inr ⟨W.heap.size, 2, #[.string x0T, .string x1T], rfl, h.sz, by show (W.heap.push _)[W.heap.size]? = _; simp, Nat.le_refl _, by decide, rfl, rfl⟩⟩
 ·injection e2 with e2
  have := h.la a e1
  omega
 ·injection e1 with e1
  have := (h.v b e2).2.1
  omega
theorem DeI.allocV (h : DeI p w W bs m q oA oB none) : DeI p w (W.alloc (.cells #[.string ⟨#[]⟩, .string ⟨#[]⟩, .string ⟨#[]⟩, .bool false, .string ⟨#[]⟩, .int .i64 0, .slice none 0 0, .slice none 0 0, .string ⟨#[]⟩, .slice none 0 0] 26)) bs m q oA oB (some W.heap.size) := by
 have h2 := h.below ((Below.refl W.heap.size W).alloc (Nat.le_refl _) (.cells #[.string ⟨#[]⟩, .string ⟨#[]⟩, .string ⟨#[]⟩, .bool false, .string ⟨#[]⟩, .int .i64 0, .slice none 0 0, .slice none 0 0, .string ⟨#[]⟩, .slice none 0 0] 26))
 refine ⟨h2.dw, h2.sz, h2.z, h2.f1, h2.a, h2.b, fun b e => ?_, h2.ab, fun a b e1 e2 => ?_, fun a b e1 e2 => ?_⟩
 ·injection e with e
  subst e
  refine ⟨h.sz, by simp, fun o ho => ?_, fun o => World.frozen?_alloc_at _ _ _ _ rfl⟩
  rw [World.cell?_alloc_at _ _ _ _ rfl]
  match o, ho with
  | 0, _ => rfl
  | 1, _ => rfl
  | 2, _ => rfl
  | 3, _ => rfl
  | 4, _ => rfl
  | 5, _ => rfl
  | 6, _ => rfl
  | 7, _ => rfl
  | 8, _ => rfl
  | 9, _ => rfl
 ·injection e2 with e2
  have := h.la a e1
  omega
 ·injection e2 with e2
  have := h.lb a e1
  omega
end
structure DeV (p : Nat) (w W : World) (bs : Nat -> Nat) (m q B : Nat) (c : Nat -> Value) : Prop where
 b : ∀ o, o < 10 -> W.cell? ⟨B, o, none⟩ = some (c o)
 z : ∀ o, o < 10 -> ∃ v, W.cell? ⟨w.heap.size, o, none⟩ = some v
 f0 : ∀ o, W.frozen? ⟨B, o, none⟩ = false
 f1 : ∀ o, W.frozen? ⟨w.heap.size, o, none⟩ = false
 lo : w.heap.size + 1 <= B
 lt : B < W.heap.size
 dw : DwF p w W bs m q
section
variable {p : Nat} {w W W' : World} {bs : Nat -> Nat} {m q q' B : Nat} {c c' : Nat -> Value}
theorem DeV.congr (h : DeV p w W bs m q B c) (hc : ∀ o, o < 10 -> c o = c' o) : DeV p w W bs m q B c' := ⟨fun o ho => by rw [<- hc o ho]; exact h.b o ho, h.z, h.f0, h.f1, h.lo, h.lt, h.dw⟩
theorem DeV.draw (h : DeV p w W bs m q B c) (hp : p < w.heap.size) (hd : DwF p W W' bs m q') : DeV p w W' bs m q' B c := by
 have hk : ∀ b, w.heap.size <= b -> b < W.heap.size -> W'.heap[b]? = W.heap[b]? := fun b h1 h2 => hd.2.block b h2 (fun e => by injection e with e; omega)
 have h1 := h.lo
 have h2 := h.lt
 exact ⟨fun o ho => (World.cell?_of_block (a := ⟨B, o, none⟩) (hk B (by omega) h2)).trans (h.b o ho), fun o ho => (h.z o ho).imp fun v hv => (World.cell?_of_block (a := ⟨w.heap.size, o, none⟩) (hk w.heap.size (Nat.le_refl _) (by omega))).trans hv, fun o => (World.frozen?_of_block (a := ⟨B, o, none⟩) (hk B (by omega) h2)).trans (h.f0 o), fun o => (World.frozen?_of_block (a := ⟨w.heap.size, o, none⟩) (hk w.heap.size (Nat.le_refl _) (by omega))).trans (h.f1 o), h1, Nat.lt_of_lt_of_le h2 hd.size, h.dw.trans hd⟩
theorem DeV.set (h : DeV p w W bs m q B c) (hp : p < w.heap.size) (o : Nat) (x : Value) : DeV p w (W.setCell ⟨B, o, none⟩ x) bs m q B (fun i => if i = o then x else c i) := by
 have h1 := h.lo
 have h2 := h.lt
 refine ⟨fun i hi => ?_, fun i hi => ?_, fun i => by rw [World.frozen?_setCell]; exact h.f0 i, fun i => by rw [World.frozen?_setCell]; exact h.f1 i, h1, by simpa [World.setCell] using h2, h.dw.own (by omega) hp o x⟩
 ·by_cases e : i = o
  ·subst e; rw [if_pos rfl]; exact set_same ⟨_, h.b i hi⟩
  ·rw [if_neg e, set_far (by omega)]; exact h.b i hi
 ·obtain ⟨v, hv⟩ := h.z i hi
  exact ⟨v, (far_block (by omega)).trans hv⟩
def fil10 (W : World) (B : Nat) (x0 x1 x2 x3 x4 x5 x6 x7 x8 x9 : Value) : World := (((((((((W.setCell ⟨B, 0, none⟩ x0).setCell ⟨B, 1, none⟩ x1).setCell ⟨B, 2, none⟩ x2).setCell ⟨B, 3, none⟩ x3).setCell ⟨B, 4, none⟩ x4).setCell ⟨B, 5, none⟩ x5).setCell ⟨B, 6, none⟩ x6).setCell ⟨B, 7, none⟩ x7).setCell ⟨B, 8, none⟩ x8).setCell ⟨B, 9, none⟩ x9
theorem DeV.fill (h : DeV p w W bs m q B c) (hp : p < w.heap.size) (x0 x1 x2 x3 x4 x5 x6 x7 x8 x9 : Value) : DeV p w (fil10 W B x0 x1 x2 x3 x4 x5 x6 x7 x8 x9) bs m q B (fun o => (#[x0, x1, x2, x3, x4, x5, x6, x7, x8, x9] : Array Value)[o]?.getD undef) :=
 ((((((((((h.set hp 0 x0).set hp 1 x1).set hp 2 x2).set hp 3 x3).set hp 4 x4).set hp 5 x5).set hp 6 x6).set hp 7 x7).set hp 8 x8).set hp 9 x9).congr (fun o ho => by
  match o, ho with
  | 0, _ => rfl
  | 1, _ => rfl
  | 2, _ => rfl
  | 3, _ => rfl
  | 4, _ => rfl
  | 5, _ => rfl
  | 6, _ => rfl
  | 7, _ => rfl
  | 8, _ => rfl
  | 9, _ => rfl
 )
theorem fil10_kb (W : World) (B : Nat) (x0 x1 x2 x3 x4 x5 x6 x7 x8 x9 : Value) : Kb B W (fil10 W B x0 x1 x2 x3 x4 x5 x6 x7 x8 x9) :=
 ((((((((((Kb.refl B W).set 0 x0).set 1 x1).set 2 x2).set 3 x3).set 4 x4).set 5 x5).set 6 x6).set 7 x7).set 8 x8).set 9 x9
theorem DeI.var {oA oB : Option Nat} (h : DeI p w W bs m q oA oB (some B)) : DeV p w W bs m q B (fun o => (#[.string ⟨#[]⟩, .string ⟨#[]⟩, .string ⟨#[]⟩, .bool false, .string ⟨#[]⟩, .int .i64 0, .slice none 0 0, .slice none 0 0, .string ⟨#[]⟩, .slice none 0 0] : Array Value)[o]?.getD undef) :=
 ⟨(h.v B rfl).2.2.1, h.z, (h.v B rfl).2.2.2, h.f1, (h.v B rfl).1, (h.v B rfl).2.1, h.dw⟩
end
theorem OwnT.less {w : World} {base g cap n k : Nat} {S : Nat -> ByteArray} (h : OwnT w base (.slice (some ⟨g, 0, none⟩) n cap) n S) (hk : k <= n) : OwnT w base (.slice (some ⟨g, 0, none⟩) k cap) k S := by
 obtain ⟨_, h2⟩ := h
 rcases h2 with ⟨h0, _⟩ | ⟨g', cap', cur, e, h1, h2, h3, h4, h5, h6⟩
 ·cases h0
 ·injection e with e1 _ e3
  injection e1 with e1
  injection e1 with e1
  subst e1 e3
  refine ⟨by simp [strs], Or.inr ⟨g, cap, cur, rfl, h1, h2, by omega, h4, h5, ?_⟩⟩
  have e2 : strs S k = (strs S n).take k := by
   unfold strs
   rw [<- List.map_take, List.take_range, Nat.min_eq_left hk]
  rw [e2, <- h6, List.take_take]
  congr 1
  omega
end Go.Proofs.YtihacnhmiopalaaDoor
