import Derived.Test.YtihacnhmiopalaaDoorXeMT
namespace Go.Proofs.YtihacnhmiopalaaDoor
open Go.RowKit
structure XeN (p : Nat) (wo w W : World) (bs : Nat -> Nat) (m q : Nat) (e : Ev) (t : Ls) (i : Nat) (M : Nat -> ByteArray) (L : Nat -> Int) (a : Option Addr) (c : Nat) : Prop where
 x : EvX p wo w W bs m q t.lo t.hi (fun o => (#[.string e.id, .string e.sd, .string e.ty, .bool e.st, .string e.key, .int .i64 e.tm, .slice t.pa e.np t.cp, .slice t.aa e.na t.ca, .string e.val, .slice a i c] : Array Value)[o]?.getD undef)
 a9 : OwnG W t.lo (.slice a i c) i M L
 p6 : OwnT W t.lo (.slice t.pa e.np t.cp) e.np e.Pv
 q7 : OwnT W t.lo (.slice t.aa e.na t.ca) e.na e.Av
 h : ∀ b, (Value.slice a i c).ownBlock = some b -> b < t.hi ∨ w.heap.size + 2 <= b
 hp : ∀ b, (Value.slice t.pa e.np t.cp).ownBlock = some b -> b < t.hi
 hq : ∀ b, (Value.slice t.aa e.na t.ca).ownBlock = some b -> b < t.hi
section
variable {p : Nat} {wo w W : World} {bs : Nat -> Nat} {m q : Nat} {e : Ev} {t : Ls} {i : Nat} {M : Nat -> ByteArray} {L : Nat -> Int} {a : Option Addr} {c : Nat}
theorem XeN.new (hQ : QO W e t) (hX : EvX p wo w W bs m q t.lo t.hi (fun o => (#[.string e.id, .string e.sd, .string e.ty, .bool e.st, .string e.key, .int .i64 e.tm, .slice t.pa e.np t.cp, .slice t.aa e.na t.ca, .string e.val, .slice t.ga e.ng t.cg] : Array Value)[o]?.getD undef)) : XeN p wo w W bs m q e t e.ng e.M e.L t.ga t.cg :=
 ⟨hX, hQ.g, hQ.p, hQ.a, fun b hb => Or.inl (hQ.h b (Or.inr (Or.inr hb))), fun b hb => hQ.h b (Or.inl hb), fun b hb => hQ.h b (Or.inr (Or.inl hb))⟩
theorem XeN.below (h : XeN p wo w W bs m q e t i M L a c) {W' : World} (hb : Below W.heap.size W W') : XeN p wo w W' bs m q e t i M L a c :=
 ⟨h.x.below hb, h.a9.below hb, h.p6.below hb, h.q7.below hb, h.h, h.hp, h.hq⟩
theorem XeN.grow (h : XeN p wo w W bs m q e t i M L a c) (hpw : p < wo.heap.size) (hwl : wo.heap.size <= t.lo) (hhi : t.hi <= w.heap.size) (hww : wo.heap.size <= w.heap.size) {X w4 : World} (hX : Below W.heap.size W X) (hgr : X.grownBy w4 (Value.slice a i c).ownBlock) : EvX p wo w w4 bs m q t.lo t.hi (fun o => (#[.string e.id, .string e.sd, .string e.ty, .bool e.st, .string e.key, .int .i64 e.tm, .slice t.pa e.np t.cp, .slice t.aa e.na t.ca, .string e.val, .slice a i c] : Array Value)[o]?.getD undef) :=
 (h.x.below hX).grow hpw hwl hhi hww hgr (fun b hb => (h.h b hb).imp (fun q => ⟨(ownsRow_blk h.a9 b hb).1, q⟩) id)
theorem XeN.step (h : XeN p wo w W bs m q e t i M L a c) (hpw : p < wo.heap.size) (hwl : wo.heap.size <= t.lo) (hhi : t.hi <= w.heap.size) (hww : wo.heap.size <= w.heap.size) {X w4 : World} {gg cq : Nat} {x : ByteArray} {z : Int} (hX : Below W.heap.size W X) (hown : w4.ownsRow t.lo 57 2 (.slice (some ⟨gg, 0, none⟩) (i + 1) cq) (i + 1) (encG M L i ++ [.string x, .int .i64 z])) (hgr : X.grownBy w4 (Value.slice a i c).ownBlock) (hat : (Value.slice a i c).ownBlock = some gg ∨ X.heap.size <= gg) :
  XeN p wo w (w4.setCell ⟨w.heap.size, 9, none⟩ (.slice (some ⟨gg, 0, none⟩) (i + 1) cq)) bs m q e t (i + 1) (extF M i x) (extF L i z) (some ⟨gg, 0, none⟩) cq := by
 have h1 := h.below hX
 have hsz := h1.x.sz
 have hkS : Kb w.heap.size w4 (w4.setCell ⟨w.heap.size, 9, none⟩ (.slice (some ⟨gg, 0, none⟩) (i + 1) cq)) := (Kb.refl _ _).set 9 _
 have hgg : gg < t.hi ∨ w.heap.size + 2 <= gg := by
  rcases hat with r | r
  ·exact h.h gg r
  ·exact Or.inr (by omega)
 have hs4 := hgr.size
 have kq : ∀ b, b < X.heap.size -> b ≠ w.heap.size -> (Value.slice a i c).ownBlock ≠ some b -> (w4.setCell ⟨w.heap.size, 9, none⟩ (.slice (some ⟨gg, 0, none⟩) (i + 1) cq)).heap[b]? = X.heap[b]? := fun b hl h2 h3 => (hkS.2 b (by omega) h2).trans (hgr.block b hl (fun e' => h3 e'.symm))
 refine ⟨((h.grow hpw hwl hhi hww hX hgr).set hpw hww 9 _).congr (fun o ho => ?_), ?_, ownsRow_k h1.p6 (fun b hb hl => kq b hl (by have := h.hp b hb; omega) (own_tne h1.p6 h1.a9 (by decide) b hb)), ownsRow_k h1.q7 (fun b hb hl => kq b hl (by have := h.hq b hb; omega) (own_tne h1.q7 h1.a9 (by decide) b hb)), fun b hb => ?_, h.hp, h.hq⟩
 ·match o, ho with
  | 0, _ => rfl
  | 1, _ => rfl
  | 2, _ => rfl
  | 3, _ => rfl
  | 4, _ => rfl
  | 5, _ => rfl
  | 6, _ => rfl
  | 7, _ => rfl
  | 8, _ => rfl
  | 9, _ => rfl
 ·unfold OwnG
  rw [<- encG_ext]
  exact ownsRow_k hown (fun b hb hl => hkS.2 b hl (fun e' => by have hq : gg = b := (by simpa [Value.ownBlock] using hb); omega))
 ·have hq : gg = b := by simpa [Value.ownBlock] using hb
  subst hq
  exact hgg
end
end Go.Proofs.YtihacnhmiopalaaDoor
