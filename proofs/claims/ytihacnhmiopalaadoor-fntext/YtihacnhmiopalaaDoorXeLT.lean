import Derived.Test.YtihacnhmiopalaaDoorXeAT
namespace Go.Proofs.YtihacnhmiopalaaDoor
open Go.RowKit
structure XeL (p : Nat) (wo w W : World) (bs : Nat -> Nat) (m q : Nat) (e : Ev) (t : Ls) (i : Nat) (S : Nat -> ByteArray) (a : Option Addr) (c : Nat) : Prop where
 x : EvX p wo w W bs m q t.lo t.hi (fun o => (#[.string e.id, .string e.sd, .string e.ty, .bool e.st, .string e.key, .int .i64 e.tm, .slice t.pa e.np t.cp, .slice a i c, .string e.val, .slice t.ga e.ng t.cg] : Array Value)[o]?.getD undef)
 a7 : OwnT W t.lo (.slice a i c) i S
 p6 : OwnT W t.lo (.slice t.pa e.np t.cp) e.np e.Pv
 g9 : OwnG W t.lo (.slice t.ga e.ng t.cg) e.ng e.M e.L
 d : ∀ b, (Value.slice t.pa e.np t.cp).ownBlock = some b -> (Value.slice a i c).ownBlock ≠ some b
 h : ∀ b, (Value.slice a i c).ownBlock = some b -> b < t.hi ∨ w.heap.size + 2 <= b
 hp : ∀ b, (Value.slice t.pa e.np t.cp).ownBlock = some b -> b < t.hi
 hg : ∀ b, (Value.slice t.ga e.ng t.cg).ownBlock = some b -> b < t.hi
section
variable {p : Nat} {wo w W : World} {bs : Nat -> Nat} {m q : Nat} {e : Ev} {t : Ls} {i : Nat} {S : Nat -> ByteArray} {a : Option Addr} {c : Nat}
theorem XeL.new (hQ : QO W e t) (hX : EvX p wo w W bs m q t.lo t.hi (fun o => (#[.string e.id, .string e.sd, .string e.ty, .bool e.st, .string e.key, .int .i64 e.tm, .slice t.pa e.np t.cp, .slice t.aa e.na t.ca, .string e.val, .slice t.ga e.ng t.cg] : Array Value)[o]?.getD undef)) : XeL p wo w W bs m q e t e.na e.Av t.aa t.ca :=
 ⟨hX, hQ.a, hQ.p, hQ.g, hQ.d, fun b hb => Or.inl (hQ.h b (Or.inr (Or.inl hb))), fun b hb => hQ.h b (Or.inl hb), fun b hb => hQ.h b (Or.inr (Or.inr hb))⟩
theorem XeL.below (h : XeL p wo w W bs m q e t i S a c) {W' : World} (hb : Below W.heap.size W W') : XeL p wo w W' bs m q e t i S a c :=
 ⟨h.x.below hb, h.a7.below hb, h.p6.below hb, h.g9.below hb, h.d, h.h, h.hp, h.hg⟩
theorem XeL.grow (h : XeL p wo w W bs m q e t i S a c) (hpw : p < wo.heap.size) (hwl : wo.heap.size <= t.lo) (hhi : t.hi <= w.heap.size) (hww : wo.heap.size <= w.heap.size) {X w4 : World} (hX : Below W.heap.size W X) (hgr : X.grownBy w4 (Value.slice a i c).ownBlock) : EvX p wo w w4 bs m q t.lo t.hi (fun o => (#[.string e.id, .string e.sd, .string e.ty, .bool e.st, .string e.key, .int .i64 e.tm, .slice t.pa e.np t.cp, .slice a i c, .string e.val, .slice t.ga e.ng t.cg] : Array Value)[o]?.getD undef) :=
 (h.x.below hX).grow hpw hwl hhi hww hgr (fun b hb => (h.h b hb).imp (fun q => ⟨(ownsRow_blk h.a7 b hb).1, q⟩) id)
theorem XeL.step (h : XeL p wo w W bs m q e t i S a c) (hpw : p < wo.heap.size) (hwl : wo.heap.size <= t.lo) (hhi : t.hi <= w.heap.size) (hww : wo.heap.size <= w.heap.size) {X w4 : World} {gg cq : Nat} {x : ByteArray} (hX : Below W.heap.size W X) (hown : w4.ownsRow t.lo 9 1 (.slice (some ⟨gg, 0, none⟩) (i + 1) cq) (i + 1) (strs S i ++ [.string x])) (hgr : X.grownBy w4 (Value.slice a i c).ownBlock) (hat : (Value.slice a i c).ownBlock = some gg ∨ X.heap.size <= gg) :
  XeL p wo w (w4.setCell ⟨w.heap.size, 7, none⟩ (.slice (some ⟨gg, 0, none⟩) (i + 1) cq)) bs m q e t (i + 1) (extF S i x) (some ⟨gg, 0, none⟩) cq := by
 have h1 := h.below hX
 have hsz := h1.x.sz
 have hkS : Kb w.heap.size w4 (w4.setCell ⟨w.heap.size, 7, none⟩ (.slice (some ⟨gg, 0, none⟩) (i + 1) cq)) := (Kb.refl _ _).set 7 _
 have hgg : gg < t.hi ∨ w.heap.size + 2 <= gg := by
  rcases hat with r | r
  ·exact h.h gg r
  ·exact Or.inr (by omega)
 have hs4 := hgr.size
 have kq : ∀ b, b < X.heap.size -> b ≠ w.heap.size -> (Value.slice a i c).ownBlock ≠ some b -> (w4.setCell ⟨w.heap.size, 7, none⟩ (.slice (some ⟨gg, 0, none⟩) (i + 1) cq)).heap[b]? = X.heap[b]? := fun b hl h2 h3 => (hkS.2 b (by omega) h2).trans (hgr.block b hl (fun e' => h3 e'.symm))
 refine ⟨((h.grow hpw hwl hhi hww hX hgr).set hpw hww 7 _).congr (fun o ho => ?_), ?_, ownsRow_k h1.p6 (fun b hb hl => kq b hl (by have := h.hp b hb; omega) (h.d b hb)), ownsRow_k h1.g9 (fun b hb hl => kq b hl (by have := h.hg b hb; omega) (own_tne h1.g9 h1.a7 (by decide) b hb)), fun b hb e' => ?_, fun b hb => ?_, h.hp, h.hg⟩
 ·match o, ho with
  | 0, _ => rfl
  | 1, _ => rfl
  | 2, _ => rfl
  | 3, _ => rfl
  | 4, _ => rfl
  | 5, _ => rfl
  | 6, _ => rfl
  | 7, _ => rfl
  | 8, _ => rfl
  | 9, _ => rfl
 ·unfold OwnT
  rw [<- strs_ext]
  exact ownsRow_k hown (fun b hb hl => hkS.2 b hl (fun e' => by have hq : gg = b := (by simpa [Value.ownBlock] using hb); omega))
 ·have hq : gg = b := by simpa [Value.ownBlock] using e'
  subst hq
  rcases hat with r | r
  ·exact h.d _ hb r
  ·have := (ownsRow_blk h1.p6 _ hb).2; omega
 ·have hq : gg = b := by simpa [Value.ownBlock] using hb
  subst hq
  exact hgg
end
end Go.Proofs.YtihacnhmiopalaaDoor
