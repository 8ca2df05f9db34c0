import Derived.Test.YtihacnhmiopalaaDoorRmZT
import Derived.Test.YtihacnhmiopalaaDoorWordZT
import Derived.Deep.DeepCutAuto
import Derived.Deep.CutBlock
import Derived.Laws.StructEq
namespace Go.Proofs.YtihacnhmiopalaaDoor
open Go.RowKit
set_option maxRecDepth 100000 in
theorem neGr (s : ByteArray) (z : Int) (w : World) : Sem.run Tryd.prog (Go.binOp BinOp.neq 57 (.agg #[.string s, .int .i64 z]) (.agg #[.string s, .int .i64 z])) w = .ok (Value.bool false) w := by
 have u9 := Tryd.underlying3
 have a9 := Tryd.isAgg3
 have z9 := Tryd.sizeOf3
 have u8 := Tryd.underlying9
 have a8 := Tryd.isAgg9
 have z8 := Tryd.sizeOf9
 have hS : Tryd.prog.underlying 57 = some (.struct (Tryd.prog.fieldsOf 57)) := by kernel_rfl
 have hp : Tryd.prog.stoodInHeld 57 = false := by kernel_rfl
 rw [run_neq_struct, show (10000 : Nat) = 9999 + 1 from rfl, run_equalIn_agg w 9999 57 _ _ hS hp]
 simp only [Program.fieldsOf, Tryd.underlying57]
 go_simp
 try simp
def SmRel (m : Nat) (w0 : World) (iv : Value) (wr : World) : Prop := ∃ k : Nat, k <= m ∧ iv = .int .i64 (k : Int) ∧ Below w0.heap.size w0 wr
set_option maxRecDepth 100000 in
set_option maxHeartbeats 4000000 in
theorem sameEv (e : Ev) {pa aa ga pa' aa' ga' : Option Addr} {cp ca cg cp' ca' cg' : Nat} (w : World) (h : EvOk w e pa cp aa ca ga cg) (h' : EvOk w e pa' cp' aa' ca' ga' cg') :
  Calls Tryd.prog 9 #[e.val' pa cp aa ca ga cg, e.val' pa' cp' aa' ca' ga' cg'] w fun x w' => x = .returned (.bool true) ∧ Below w.heap.size w w' := by
 have l1 := Nat.le_trans h.hp.le h.hp.max
 have l2 := Nat.le_trans h.ha.le h.ha.max
 have l3 := Nat.le_trans h.hg.le h.hg.max
 unfold maxLen at l1 l2 l3
 obtain ⟨wa, hwa⟩ : ∃ wa, wa = (w.alloc (.cells #[.string e.id, .string e.sd, .string e.ty, .bool e.st, .string e.key, .int .i64 e.tm, .slice pa e.np cp, .slice aa e.na ca, .string e.val, .slice ga e.ng cg] 26)).alloc (.cells #[.string e.id, .string e.sd, .string e.ty, .bool e.st, .string e.key, .int .i64 e.tm, .slice pa' e.np cp', .slice aa' e.na ca', .string e.val, .slice ga' e.ng cg'] 26) := ⟨_, rfl⟩
 have hba : Below w.heap.size w wa := by rw [hwa]; exact ((Below.refl _ _).alloc (Nat.le_refl _) _).alloc (by simp) _
 have hsa : w.heap.size + 1 < wa.heap.size := by rw [hwa]; simp
 have HC : Hid (∀ W, Below wa.heap.size wa W -> ∀ o, o < 10 -> W.cell? ⟨w.heap.size, o, none⟩ = some ((#[.string e.id, .string e.sd, .string e.ty, .bool e.st, .string e.key, .int .i64 e.tm, .slice pa e.np cp, .slice aa e.na ca, .string e.val, .slice ga e.ng cg] : Array Value)[o]?.getD undef) ∧ W.cell? ⟨w.heap.size + 1, o, none⟩ = some ((#[.string e.id, .string e.sd, .string e.ty, .bool e.st, .string e.key, .int .i64 e.tm, .slice pa' e.np cp', .slice aa' e.na ca', .string e.val, .slice ga' e.ng cg'] : Array Value)[o]?.getD undef)) := fun W hW o ho => by
  refine ⟨(hW.cell (by show w.heap.size < _; omega)).trans ?_, (hW.cell (by exact hsa)).trans ?_⟩
  ·rw [hwa, World.cell?_alloc_past _ _ _ (by simp), World.cell?_alloc_at _ _ _ _ rfl]
   match o, ho with
   | 0, _ => rfl
   | 1, _ => rfl
   | 2, _ => rfl
   | 3, _ => rfl
   | 4, _ => rfl
   | 5, _ => rfl
   | 6, _ => rfl
   | 7, _ => rfl
   | 8, _ => rfl
   | 9, _ => rfl
  ·rw [hwa, World.cell?_alloc_at _ _ _ _ (by simp)]
   match o, ho with
   | 0, _ => rfl
   | 1, _ => rfl
   | 2, _ => rfl
   | 3, _ => rfl
   | 4, _ => rfl
   | 5, _ => rfl
   | 6, _ => rfl
   | 7, _ => rfl
   | 8, _ => rfl
   | 9, _ => rfl
 have H1 : Hid (EvOk wa e pa cp aa ca ga cg) := h.below hba
 have H2 : Hid (EvOk wa e pa' cp' aa' ca' ga' cg') := h'.below hba
 have hrf : Below wa.heap.size wa wa := Below.refl _ _
 have a0 : wa.cell? ⟨w.heap.size, 0, none⟩ = some (.string e.id) := (HC.out wa hrf 0 (by decide)).1
 have b0 : wa.cell? ⟨w.heap.size + 1, 0, none⟩ = some (.string e.id) := (HC.out wa hrf 0 (by decide)).2
 have a1 : wa.cell? ⟨w.heap.size, 1, none⟩ = some (.string e.sd) := (HC.out wa hrf 1 (by decide)).1
 have b1 : wa.cell? ⟨w.heap.size + 1, 1, none⟩ = some (.string e.sd) := (HC.out wa hrf 1 (by decide)).2
 have a2 : wa.cell? ⟨w.heap.size, 2, none⟩ = some (.string e.ty) := (HC.out wa hrf 2 (by decide)).1
 have b2 : wa.cell? ⟨w.heap.size + 1, 2, none⟩ = some (.string e.ty) := (HC.out wa hrf 2 (by decide)).2
 have a3 : wa.cell? ⟨w.heap.size, 3, none⟩ = some (.bool e.st) := (HC.out wa hrf 3 (by decide)).1
 have b3 : wa.cell? ⟨w.heap.size + 1, 3, none⟩ = some (.bool e.st) := (HC.out wa hrf 3 (by decide)).2
 have a4 : wa.cell? ⟨w.heap.size, 4, none⟩ = some (.string e.key) := (HC.out wa hrf 4 (by decide)).1
 have b4 : wa.cell? ⟨w.heap.size + 1, 4, none⟩ = some (.string e.key) := (HC.out wa hrf 4 (by decide)).2
 have a5 : wa.cell? ⟨w.heap.size, 5, none⟩ = some (.int .i64 e.tm) := (HC.out wa hrf 5 (by decide)).1
 have b5 : wa.cell? ⟨w.heap.size + 1, 5, none⟩ = some (.int .i64 e.tm) := (HC.out wa hrf 5 (by decide)).2
 have a6 : wa.cell? ⟨w.heap.size, 6, none⟩ = some (.slice pa e.np cp) := (HC.out wa hrf 6 (by decide)).1
 have b6 : wa.cell? ⟨w.heap.size + 1, 6, none⟩ = some (.slice pa' e.np cp') := (HC.out wa hrf 6 (by decide)).2
 have a7 : wa.cell? ⟨w.heap.size, 7, none⟩ = some (.slice aa e.na ca) := (HC.out wa hrf 7 (by decide)).1
 have b7 : wa.cell? ⟨w.heap.size + 1, 7, none⟩ = some (.slice aa' e.na ca') := (HC.out wa hrf 7 (by decide)).2
 have a8 : wa.cell? ⟨w.heap.size, 8, none⟩ = some (.string e.val) := (HC.out wa hrf 8 (by decide)).1
 have b8 : wa.cell? ⟨w.heap.size + 1, 8, none⟩ = some (.string e.val) := (HC.out wa hrf 8 (by decide)).2
 have a9 : wa.cell? ⟨w.heap.size, 9, none⟩ = some (.slice ga e.ng cg) := (HC.out wa hrf 9 (by decide)).1
 have b9 : wa.cell? ⟨w.heap.size + 1, 9, none⟩ = some (.slice ga' e.ng cg') := (HC.out wa hrf 9 (by decide)).2
 clear h h' hrf
 go_enter Tryd.func9, Tryd.ntmps9
 go_upto_region 1 with fail
 rw [<- hwa]
 clear hwa
 go_wp2_with fail
 have HBwa : Hid (Below wa.heap.size wa wa) := Below.refl _ _
 go_loopw [5] (fun iv wr => SmRel e.np wa iv wr) (fun iv _ => e.np - (intOf iv).toNat)
 case atStart => exact ⟨0, Nat.zero_le _, rfl, Below.refl _ _⟩
 case round =>
  obtain ⟨k, hk, rfl, hbr⟩ := hrel
  have hbw := HBwa.out.trans (hbr.mono HBwa.out.size)
  have p1 : wr.cell? ⟨w.heap.size, 6, none⟩ = some (.slice pa e.np cp) := (HC.out wr hbw 6 (by decide)).1
  have p2 : wr.cell? ⟨w.heap.size + 1, 6, none⟩ = some (.slice pa' e.np cp') := (HC.out wr hbw 6 (by decide)).2
  by_cases hlt : k < e.np
  ·rcases ((H1.out.hp).below hbw).cells with h0 | ⟨x1, o1, rfl, hx1, c1⟩
   ·omega
   rcases ((H2.out.hp).below hbw).cells with h0 | ⟨x2, o2, rfl, hx2, c2⟩
   ·omega
   have d1 := c1 k hlt
   have d2 := c2 k hlt
   clear c1 c2
   have z1 : (0 : Int) <= (k : Int) := by omega
   have z2 : (k : Int) < (e.np : Int) := by omega
   go_wp2_with fail
   go_quiet (fail)
   have hwq : Below wa.heap.size wa (wr.drewN nq) := hbr.trans (Dr.below ⟨nq, rfl⟩ _)
   go_wp2_with fail
   go_roundw
   case rel => first | exact ⟨k + 1, by omega, by go_num, hwq⟩ | ((repeat apply Exists.intro); exact ⟨⟨k + 1, by omega, by go_num, hwq⟩, rfl⟩)
   case measure => simp [intOf]; omega
  ·obtain ⟨wx, hwx⟩ : ∃ wx : World, wx = wr := ⟨_, rfl⟩
   subst hwx
   have HBwx : Hid (Below wa.heap.size wa wx) := hbw
   clear hbw hbr
   have q1 : wx.cell? ⟨w.heap.size, 7, none⟩ = some (.slice aa e.na ca) := (HC.out wx HBwx.out 7 (by decide)).1
   go_wp2_with fail
   go_loopw [6] (fun iv wr => SmRel e.na wx iv wr) (fun iv _ => e.na - (intOf iv).toNat)
   case atStart => exact ⟨0, Nat.zero_le _, rfl, Below.refl _ _⟩
   case round =>
    obtain ⟨k, hk, rfl, hbr⟩ := hrel
    have hbw := HBwx.out.trans (hbr.mono HBwx.out.size)
    have p1 : wr.cell? ⟨w.heap.size, 7, none⟩ = some (.slice aa e.na ca) := (HC.out wr hbw 7 (by decide)).1
    have p2 : wr.cell? ⟨w.heap.size + 1, 7, none⟩ = some (.slice aa' e.na ca') := (HC.out wr hbw 7 (by decide)).2
    by_cases hlt : k < e.na
    ·rcases ((H1.out.ha).below hbw).cells with h0 | ⟨x1, o1, rfl, hx1, c1⟩
     ·omega
     rcases ((H2.out.ha).below hbw).cells with h0 | ⟨x2, o2, rfl, hx2, c2⟩
     ·omega
     have d1 := c1 k hlt
     have d2 := c2 k hlt
     clear c1 c2
     have z1 : (0 : Int) <= (k : Int) := by omega
     have z2 : (k : Int) < (e.na : Int) := by omega
     go_wp2_with fail
     go_quiet (fail)
     have hwq : Below wx.heap.size wx (wr.drewN nq) := hbr.trans (Dr.below ⟨nq, rfl⟩ _)
     go_wp2_with fail
     go_roundw
     case rel => first | exact ⟨k + 1, by omega, by go_num, hwq⟩ | ((repeat apply Exists.intro); exact ⟨⟨k + 1, by omega, by go_num, hwq⟩, rfl⟩)
     case measure => simp [intOf]; omega
    ·obtain ⟨wy, hwy⟩ : ∃ wy : World, wy = wr := ⟨_, rfl⟩
     subst hwy
     have HBwy : Hid (Below wa.heap.size wa wy) := hbw
     clear hbw hbr
     have q2 : wy.cell? ⟨w.heap.size, 9, none⟩ = some (.slice ga e.ng cg) := (HC.out wy HBwy.out 9 (by decide)).1
     go_wp2_with fail
     go_loopw [7] (fun iv wr => SmRel e.ng wy iv wr) (fun iv _ => e.ng - (intOf iv).toNat)
     case atStart => exact ⟨0, Nat.zero_le _, rfl, Below.refl _ _⟩
     case round =>
      obtain ⟨k, hk, rfl, hbr⟩ := hrel
      have hbw := HBwy.out.trans (hbr.mono HBwy.out.size)
      have p1 : wr.cell? ⟨w.heap.size, 9, none⟩ = some (.slice ga e.ng cg) := (HC.out wr hbw 9 (by decide)).1
      have p2 : wr.cell? ⟨w.heap.size + 1, 9, none⟩ = some (.slice ga' e.ng cg') := (HC.out wr hbw 9 (by decide)).2
      by_cases hlt : k < e.ng
      ·rcases ((H1.out.hg).below hbw).cells with h0 | ⟨x1, o1, rfl, hx1, c1, g1⟩
       ·omega
       rcases ((H2.out.hg).below hbw).cells with h0 | ⟨x2, o2, rfl, hx2, c2, g2⟩
       ·omega
       have d1 := c1 k hlt
       have d2 := c2 k hlt
       have f1 := g1 k hlt
       have f2 := g2 k hlt
       have hnS : ∀ s z W, Sem.run Tryd.prog (Go.binOp BinOp.neq 57 (.agg #[.string s, .int .i64 z]) (.agg #[.string s, .int .i64 z])) W = .ok (Value.bool false) W := fun s z W => neGr s z W
       clear c1 c2 g1 g2
       generalize e.M k = mk at *
       generalize e.L k = lk at *
       have z1 : (0 : Int) <= (k : Int) := by omega
       have z2 : (k : Int) < (e.ng : Int) := by omega
       go_wp2_with fail
       go_quiet (fail)
       have hwq : Below wy.heap.size wy (wr.drewN nq) := hbr.trans (Dr.below ⟨nq, rfl⟩ _)
       go_wp2_with fail
       go_roundw
       case rel => first | exact ⟨k + 1, by omega, by go_num, hwq⟩ | ((repeat apply Exists.intro); exact ⟨⟨k + 1, by omega, by go_num, hwq⟩, rfl⟩)
       case measure => simp [intOf]; omega
      ·go_wp2_with fail
       go_ret
       exact ⟨rfl, hba.trans (hbw.mono hba.size)⟩
end Go.Proofs.YtihacnhmiopalaaDoor
