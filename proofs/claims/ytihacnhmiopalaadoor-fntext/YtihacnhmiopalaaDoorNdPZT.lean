import Derived.Lib.Bytealg
import Derived.Sort.Walk0
import Derived.Laws.OwnMore
import Derived.Maps.OwnSet
import Derived.Test.YtihacnhmiopalaaDoorEvIT
import Derived.Maps.AppendAt
import Derived.Deep.AppendSrc
import Derived.Deep.DeepCutAuto
import Derived.Deep.CutBlock
import Derived.Deep.CutRange
import Derived.Deep.RegionHeld3
import Derived.Deep.RegionLaw
import Derived.Test.YtihacnhmiopalaaDoorEvBT
import Derived.Lib.SliceRun
namespace Go.Proofs.YtihacnhmiopalaaDoor
open Go.RowKit
def isMb (e : Ev) : Bool := e.ty.toList == [109, 101, 109, 98, 101, 114]
def us (e : Ev) : List ByteArray := if isMb e = false then [e.sd] else if e.sd = e.key then [e.sd, e.sd] else if e.sd.data.toList < e.key.data.toList then [e.sd, e.key] else [e.key, e.sd]
theorem wp_append_run {P : Program} {o : Oper} {a : Act} {w : World} {K : Act -> World -> Prop} {Q : Exit -> Act -> World -> Prop} (s x : Operand) (t : TypeId) (ho : o.op = .call { callee := .builtin .append, args := #[s, x], argTypes := #[t, t] }) (v u v' : Value) (w' : World) (hr : (Builtin.append_ #[t, t] o.type #[v, u]).run P w = .ok v' w') (hs : a.eval s = v) (hx : a.eval x = u) (h : K (a.put o.dst v') w') : o.wp P a w K Q := by
 unfold Oper.wp execOp
 simp only [ho, resolve, invoke, builtin, Sem.run_bind, Sem.run_pure, Result.andThen_ok, List.map_toArray, List.map_cons, List.map_nil, hs, hx, hr]
 exact h
theorem wpList_append_run {P : Program} {ops : Array Oper} {rest : List Oper} {o : Oper} {a : Act} {w : World} {Q : Exit -> Act -> World -> Prop} (hgd : o.guard = none) (s x : Operand) (t : TypeId) (ho : o.op = .call { callee := .builtin .append, args := #[s, x], argTypes := #[t, t] }) (v u v' : Value) (w' : World) (hr : (Builtin.append_ #[t, t] o.type #[v, u]).run P w = .ok v' w') (hs : a.eval s = v) (hx : a.eval x = u) (h : wpList P ops Q rest (a.put o.dst v') w') : wpList P ops Q (o :: rest) a w :=
 wpList_plain hgd fun _ hK => wp_append_run s x t ho v u v' w' hr hs hx (hK _ _ h)
def extF {β : Type} (f : Nat -> β) (n : Nat) (x : β) : Nat -> β := fun i => if i = n then x else f i
theorem extF_at {β : Type} (f : Nat -> β) (n : Nat) (x : β) : extF f n x n = x := if_pos rfl
theorem extF_lt {β : Type} (f : Nat -> β) {n i : Nat} (x : β) (h : i < n) : extF f n x i = f i := if_neg (by omega)
section
variable {α : Type} {len : α -> Nat} {P : World -> Option Addr -> Nat -> α -> Prop} {t : TypeId}
end
theorem gNm_small (i : Nat) : (gNm i).size <= 8 := by
 unfold gNm
 split <;> decide
theorem gTo_small (bs : Nat -> Nat) (m k bits q : Nat) : ∀ i x, x ∈ (gTo bs m k bits q i).2 -> x.1.size <= 8
 | 0, x, h => by cases h
 | i + 1, x, h => by
  unfold gTo at h
  split at h
  ·rcases List.mem_append.1 h with h | h
   ·exact gTo_small bs m k bits q i x h
   ·rw [List.mem_singleton] at h; subst h; exact gNm_small i
  ·exact gTo_small bs m k bits q i x h
theorem gM_small {l : List (ByteArray × Int)} (h : ∀ x ∈ l, x.1.size <= 8) (i : Nat) : (gM l i).size <= 8 := by
 unfold gM
 by_cases hi : i < l.length
 ·rw [List.getD_eq_getElem?_getD, List.getElem?_eq_getElem hi]; exact h _ (List.getElem_mem hi)
 ·rw [List.getD_eq_getElem?_getD, List.getElem?_eq_none (by omega)]; exact Nat.zero_le _
theorem cDr_keep (bs : Nat -> Nat) (m q : Nat) (e : Ev) : (cDr bs m q e).id = e.id ∧ (cDr bs m q e).sd = e.sd ∧ (cDr bs m q e).tm = e.tm ∧ (cDr bs m q e).np = e.np ∧ (cDr bs m q e).Pv = e.Pv ∧ (cDr bs m q e).na = e.na ∧ (cDr bs m q e).Av = e.Av := by
 unfold cDr cnE
 repeat' split
 all_goals exact ⟨rfl, rfl, rfl, rfl, rfl, rfl, rfl⟩
theorem mVal_small (i : Nat) : (mVal i).size <= 100 := by
 unfold mVal
 repeat' split
 all_goals decide
theorem jVal_small (i : Nat) : (jVal i).size <= 100 := by
 unfold jVal
 repeat' split
 all_goals decide
theorem usr_small (k : Nat) : (usr k).size <= 100 := by rw [usr_size]; decide
theorem tdec_small (k : Nat) (h : k < 256) : ((⟨#[116]⟩ : ByteArray) ++ decB (k / 16)).size <= 100 := by
 rw [ByteArray.size_append]
 have := decB_size (k / 16) (by omega)
 show 1 + _ <= 100
 omega
theorem cDr_small {bs : Nat -> Nat} {m q : Nat} {e : Ev} (hk : nxB bs m q < 256) (h1 : e.sd.size <= 100) (h2 : e.key.size <= 100) (h3 : e.val.size <= 100) (h4 : ∀ i, (e.M i).size <= 100) : (cDr bs m q e).ty.size <= 100 ∧ (cDr bs m q e).key.size <= 100 ∧ (cDr bs m q e).val.size <= 100 ∧ ∀ i, ((cDr bs m q e).M i).size <= 100 := by
 unfold cDr cnE
 repeat' split
 ·exact ⟨by dsimp only; decide, usr_small _, mVal_small _, h4⟩
 ·exact ⟨by dsimp only; decide, h1, by dsimp only; decide, h4⟩
 ·exact ⟨by dsimp only; decide, h2, h3, fun i => Nat.le_trans (gM_small (gTo_small _ _ _ _ _ _) i) (by decide)⟩
 ·exact ⟨by dsimp only; decide, h2, jVal_small _, h4⟩
 ·exact ⟨by dsimp only; decide, usr_small _, tdec_small _ hk, h4⟩
 ·exact ⟨by dsimp only; decide, h2, tdec_small _ hk, h4⟩
 ·exact ⟨by dsimp only; decide, h2, h3, h4⟩

def Iv (a : Option Addr) (n lo hi : Nat) : Prop := n = 0 ∨ ∃ b off, a = some ⟨b, off, none⟩ ∧ lo <= b ∧ b < hi
def blk (a : Option Addr) : Option Nat := a.map (·.block)
structure Ls where
 pa : Option Addr
 cp : Nat
 aa : Option Addr
 ca : Nat
 ga : Option Addr
 cg : Nat
 lo : Nat
 m1 : Nat
 m2 : Nat
 hi : Nat
theorem SlS.grownI {w w' : World} {a : Option Addr} {n cap lo hi : Nat} {S : Nat -> ByteArray} {row : Option Nat} (h : SlS w a n cap S) (hg : w.grownBy w' row) (hv : Iv a n lo hi) (hr : ∀ b, row = some b -> b < lo ∨ hi <= b) : SlS w' a n cap S := by
 refine ⟨h.le, h.max, h.size, ?_⟩
 rcases hv with h0 | ⟨b, off, rfl, h1, h2⟩
 ·exact Or.inl h0
 ·refine h.cells.imp id fun ⟨b', off', e, hlt, hc⟩ => ⟨b', off', e, Nat.lt_of_lt_of_le hlt hg.size, fun i hi => ?_⟩
  have e2 : b = b' := by injection e with e; injection e
  exact (hg.cell_far _ hlt (fun e3 => by have := hr b' e3.symm; omega)).trans (hc i hi)
theorem SlG.grownI {w w' : World} {a : Option Addr} {n cap lo hi : Nat} {M : Nat -> ByteArray} {L : Nat -> Int} {row : Option Nat} (h : SlG w a n cap M L) (hg : w.grownBy w' row) (hv : Iv a n lo hi) (hr : ∀ b, row = some b -> b < lo ∨ hi <= b) : SlG w' a n cap M L := by
 refine ⟨h.le, h.max, h.size, ?_⟩
 rcases hv with h0 | ⟨b, off, rfl, h1, h2⟩
 ·exact Or.inl h0
 ·refine h.cells.imp id fun ⟨b', off', e, hlt, hc, hl⟩ => ⟨b', off', e, Nat.lt_of_lt_of_le hlt hg.size, fun i hi => ?_, fun i hi => ?_⟩
  all_goals
   have e2 : b = b' := by injection e with e; injection e
  ·exact (hg.cell_far _ hlt (fun e3 => by have := hr b' e3.symm; omega)).trans (hc i hi)
  ·exact (hg.cell_far _ hlt (fun e3 => by have := hr b' e3.symm; omega)).trans (hl i hi)
structure QC (Q : World -> Ev -> Ls -> Prop) : Prop where
 below : ∀ {w w' : World} {e : Ev} {t : Ls}, Q w e t -> Below w.heap.size w w' -> Q w' e t
 grown : ∀ {w w' : World} {e : Ev} {t : Ls} {row : Option Nat}, Q w e t -> w.grownBy w' row -> (∀ b, row = some b -> b < t.lo ∨ t.hi <= b) -> Q w' e t
 ok : ∀ {w : World} {e : Ev} {t : Ls}, Q w e t -> EvOk w e t.pa t.cp t.aa t.ca t.ga t.cg
 hi : ∀ {w : World} {e : Ev} {t : Ls}, Q w e t -> t.lo <= t.hi ∧ t.hi <= w.heap.size
structure QJ (w : World) (e : Ev) (t : Ls) : Prop where
 ok : EvOk w e t.pa t.cp t.aa t.ca t.ga t.cg
 ip : Iv t.pa e.np t.lo t.hi
 ia : Iv t.aa e.na t.lo t.hi
 ig : Iv t.ga e.ng t.lo t.hi
 hh : t.lo <= t.hi ∧ t.hi <= w.heap.size
theorem qcJ : QC QJ := ⟨fun h hb => ⟨h.ok.below hb, h.ip, h.ia, h.ig, h.hh.1, Nat.le_trans h.hh.2 hb.size⟩,
 fun h hg hr => ⟨⟨h.ok.hid, h.ok.hsd, h.ok.hty, h.ok.hkey, h.ok.hval, h.ok.hp.grownI hg h.ip hr, h.ok.ha.grownI hg h.ia hr, h.ok.hg.grownI hg h.ig hr⟩, h.ip, h.ia, h.ig, h.hh.1, Nat.le_trans h.hh.2 hg.size⟩, fun h => h.ok, fun h => h.hh⟩

end Go.Proofs.YtihacnhmiopalaaDoor
