import Derived.Test.YtihacnhmiopalaaDoorDgGT
import Derived.Test.YtihacnhmiopalaaDoorRmZT
namespace Go.Proofs.YtihacnhmiopalaaDoor
open Go.RowKit
def usr (k : Nat) : ByteArray := if k % 4 = 0 then ⟨#[64, 97]⟩ else if k % 4 = 1 then ⟨#[64, 98]⟩ else if k % 4 = 2 then ⟨#[64, 99]⟩ else ⟨#[64, 100]⟩
set_option maxRecDepth 100000 in
set_option maxHeartbeats 1000000 in
theorem userF (k : Nat) (w : World) (hk : k < 1000) : Calls Tryd.prog 28 #[.int .i64 (k : Int)] w (fun e w' => e = .returned (.string (usr k)) ∧ Below w.heap.size w w') := by
 have h4 : k % 4 < 4 := Nat.mod_lt _ (by decide)
 have hm : (k : Int) % 4 = ((k % 4 : Nat) : Int) := by omega
 unfold usr
 generalize k % 4 = q at *
 match q, h4 with
 | 0, _ => go_enter Tryd.func28, Tryd.ntmps28; go_wp2; go_ret; exact ⟨by rfl, Below.refl _ _⟩
 | 1, _ => go_enter Tryd.func28, Tryd.ntmps28; go_wp2; go_ret; exact ⟨by rfl, Below.refl _ _⟩
 | 2, _ => go_enter Tryd.func28, Tryd.ntmps28; go_wp2; go_ret; exact ⟨by rfl, Below.refl _ _⟩
 | 3, _ => go_enter Tryd.func28, Tryd.ntmps28; go_wp2; go_ret; exact ⟨by rfl, Below.refl _ _⟩
theorem usr_size (k : Nat) : (usr k).size = 2 := by
 unfold usr
 repeat' split
 all_goals rfl
def decB (n : Nat) : ByteArray := ⟨(Lib.decDigits n).toArray⟩
theorem decF (n : Nat) (h : n <= 1000) (W : World) : Calls Tryd.prog 27 #[.int .i64 (n : Int)] W fun e w' => e = .returned (.string (decB n)) ∧ Below W.heap.size W w' := decS_nat n n W (Nat.le_refl _) (by omega)
theorem decB_size (n : Nat) (h : n <= 1000) : (decB n).size <= 20 := by show (Lib.decDigits n).toArray.size <= 20; rw [List.size_toArray, Lib.decDigits_length]; exact Lib.nDigits_le20 n (by omega)
def mVal (i : Nat) : ByteArray := if i = 0 then ⟨#[106, 111, 105, 110]⟩ else if i = 1 then ⟨#[105, 110, 118, 105, 116, 101]⟩ else if i = 2 then ⟨#[108, 101, 97, 118, 101]⟩ else ⟨#[98, 97, 110]⟩
def jVal (i : Nat) : ByteArray := if i = 0 then ⟨#[112, 117, 98, 108, 105, 99]⟩ else ⟨#[105, 110, 118, 105, 116, 101]⟩
def cnE (k : Nat) (l : List (ByteArray × Int)) (e : Ev) : Ev :=
  if k % 8 < 3 then
    (if 0 < k % 8 ∨ 128 <= k then { e with st := true, ty := ⟨#[109, 101, 109, 98, 101, 114]⟩, key := usr (k / 8), val := mVal (k / 32 % 4) }
     else { e with st := true, ty := ⟨#[109, 101, 109, 98, 101, 114]⟩, key := e.sd, val := ⟨#[106, 111, 105, 110]⟩ })
  else if k % 8 = 3 then { e with st := true, ty := ⟨#[112, 111, 119, 101, 114]⟩, ng := l.length, M := gM l, L := gL l }
  else if k % 8 = 4 then { e with st := true, ty := ⟨#[106, 111, 105, 110, 95, 114, 117, 108, 101, 115]⟩, val := jVal (k / 8 % 2) }
  else if k % 8 < 7 then
    (if k % 16 = 5 then { e with st := true, ty := ⟨#[116, 111, 112, 105, 99]⟩, key := usr (k / 16), val := ⟨#[116]⟩ ++ decB (k / 16) }
     else { e with st := true, ty := ⟨#[116, 111, 112, 105, 99]⟩, val := ⟨#[116]⟩ ++ decB (k / 16) })
  else { e with st := false, ty := ⟨#[109, 115, 103]⟩ }
def cnQ (bs : Nat -> Nat) (m q k : Nat) : Nat := if k % 8 = 3 then (gDr bs m q).1 else q
def cDr (bs : Nat -> Nat) (m q : Nat) (e : Ev) : Ev := cnE (nxB bs m q) (gDr bs m (nxQ m q)).2 e
def cQr (bs : Nat -> Nat) (m q : Nat) : Nat := cnQ bs m (nxQ m q) (nxB bs m q)
def CtPost (p : Nat) (w : World) (bs : Nat -> Nat) (m q : Nat) (e : Ev) (pa : Option Addr) (cp : Nat) (aa : Option Addr) (ca : Nat) (ga : Option Addr) (cg : Nat) (x : Ending) (w' : World) : Prop :=
 ∃ ga' cg', x = .returned ((cDr bs m q e).val' pa cp aa ca ga' cg') ∧ ((ga' = ga ∧ cg' = cg ∧ (cDr bs m q e).ng = e.ng ∧ (cDr bs m q e).M = e.M ∧ (cDr bs m q e).L = e.L) ∨ OwnG w' w.heap.size (.slice ga' (cDr bs m q e).ng cg') (cDr bs m q e).ng (cDr bs m q e).M (cDr bs m q e).L) ∧ DwF p w w' bs m (cQr bs m q)
structure EvB (p : Nat) (w W : World) (bs : Nat -> Nat) (m q : Nat) (c : Nat -> Value) : Prop where
 b : ∀ o, o < 10 -> W.cell? ⟨w.heap.size, o, none⟩ = some (c o)
 z : ∀ o, o < 10 -> ∃ v, W.cell? ⟨w.heap.size + 1, o, none⟩ = some v
 f0 : ∀ o, W.frozen? ⟨w.heap.size, o, none⟩ = false
 f1 : ∀ o, W.frozen? ⟨w.heap.size + 1, o, none⟩ = false
 sz : w.heap.size + 2 <= W.heap.size
 dw : DwF p w W bs m q
theorem EvB.set {p : Nat} {w W : World} {bs : Nat -> Nat} {m q : Nat} {c : Nat -> Value} (h : EvB p w W bs m q c) (hp : p < w.heap.size) (o : Nat) (ho : o < 10) (x : Value) : EvB p w (W.setCell ⟨w.heap.size, o, none⟩ x) bs m q (fun i => if i = o then x else c i) := by
 refine ⟨fun i hi => ?_, fun i hi => ?_, fun i => by rw [World.frozen?_setCell]; exact h.f0 i, fun i => by rw [World.frozen?_setCell]; exact h.f1 i, by have := h.sz; simpa [World.setCell] using this, h.dw.own (Nat.le_refl _) hp o x⟩
 ·by_cases e : i = o
  ·subst e; rw [if_pos rfl]; exact set_same ⟨_, h.b i hi⟩
  ·rw [if_neg e, set_far (by omega)]; exact h.b i hi
 ·obtain ⟨v, hv⟩ := h.z i hi
  exact ⟨v, by rw [far_block (by omega)]; exact hv⟩
theorem EvB.below {p : Nat} {w W W' : World} {bs : Nat -> Nat} {m q : Nat} {c : Nat -> Value} (h : EvB p w W bs m q c) (hb : Below W.heap.size W W') : EvB p w W' bs m q c :=
 ⟨fun i hi => (hb.cell (by show w.heap.size < W.heap.size; have := h.sz; omega)).trans (h.b i hi), fun i hi => (h.z i hi).imp fun v hv => (hb.cell (by show w.heap.size + 1 < W.heap.size; have := h.sz; omega)).trans hv, fun i => (hb.frozen (by show w.heap.size < W.heap.size; have := h.sz; omega)).trans (h.f0 i), fun i => (hb.frozen (by show w.heap.size + 1 < W.heap.size; have := h.sz; omega)).trans (h.f1 i), Nat.le_trans h.sz hb.size, h.dw.below hb⟩
theorem EvB.draw {p : Nat} {w W W' : World} {bs : Nat -> Nat} {m q q' : Nat} {c : Nat -> Value} (h : EvB p w W bs m q c) (hp : p < w.heap.size) (hd : DwF p W W' bs m q') : EvB p w W' bs m q' c := by
 have hk : ∀ b o, w.heap.size <= b -> b < w.heap.size + 2 -> W'.cell? ⟨b, o, none⟩ = W.cell? ⟨b, o, none⟩ := fun b o h1 h2 => World.cell?_of_block (a := ⟨b, o, none⟩) (hd.2.block b (by have := h.sz; omega) (fun q => by injection q with q; omega))
 have hz : ∀ b o, w.heap.size <= b -> b < w.heap.size + 2 -> W'.frozen? ⟨b, o, none⟩ = W.frozen? ⟨b, o, none⟩ := fun b o h1 h2 => hd.2.frozen_far ⟨b, o, none⟩ (by show b < W.heap.size; have := h.sz; omega) (fun q => absurd (Option.some.inj q) (by show b ≠ p; omega))
 exact ⟨fun i hi => (hk _ _ (by omega) (by omega)).trans (h.b i hi), fun i hi => (h.z i hi).imp fun v hv => (hk _ _ (by omega) (by omega)).trans hv, fun i => (hz _ _ (by omega) (by omega)).trans (h.f0 i), fun i => (hz _ _ (by omega) (by omega)).trans (h.f1 i), Nat.le_trans h.sz hd.size, h.dw.trans hd⟩
theorem evB_new {p : Nat} {w : World} {bs : Nat -> Nat} {m q : Nat} {cs : Array Value} {t : TypeId} (h : RdF w p bs m q) (hc : cs.size = 10) : EvB p w ((w.alloc (.cells cs t)).alloc (.cells #[.string ⟨#[]⟩, .string ⟨#[]⟩, .string ⟨#[]⟩, .bool false, .string ⟨#[]⟩, .int .i64 0, .slice none 0 0, .slice none 0 0, .string ⟨#[]⟩, .slice none 0 0] 26)) bs m q (fun o => cs[o]?.getD undef) := by
 have hb : Below w.heap.size w ((w.alloc (.cells cs t)).alloc (.cells #[.string ⟨#[]⟩, .string ⟨#[]⟩, .string ⟨#[]⟩, .bool false, .string ⟨#[]⟩, .int .i64 0, .slice none 0 0, .slice none 0 0, .string ⟨#[]⟩, .slice none 0 0] 26)) := ((Below.refl _ _).alloc (Nat.le_refl _) _).alloc (by simp) _
 refine ⟨fun o ho => ?_, fun o ho => ?_, fun o => ?_, fun o => World.frozen?_alloc_at _ _ _ _ (by simp), by simp, (DwF.refl h).below hb⟩
 ·rw [World.cell?_alloc_past _ _ _ (by simp), World.cell?_alloc_at _ _ _ _ rfl, Array.getElem?_eq_getElem (by omega)]
  rfl
 ·rw [World.cell?_alloc_at _ _ _ _ (by simp)]
  match o, ho with
  | 0, _ => exact ⟨_, rfl⟩
  | 1, _ => exact ⟨_, rfl⟩
  | 2, _ => exact ⟨_, rfl⟩
  | 3, _ => exact ⟨_, rfl⟩
  | 4, _ => exact ⟨_, rfl⟩
  | 5, _ => exact ⟨_, rfl⟩
  | 6, _ => exact ⟨_, rfl⟩
  | 7, _ => exact ⟨_, rfl⟩
  | 8, _ => exact ⟨_, rfl⟩
  | 9, _ => exact ⟨_, rfl⟩
 ·rw [World.frozen?_alloc_past _ _ _ (by simp)]
  exact World.frozen?_alloc_at _ _ _ _ rfl
end Go.Proofs.YtihacnhmiopalaaDoor
