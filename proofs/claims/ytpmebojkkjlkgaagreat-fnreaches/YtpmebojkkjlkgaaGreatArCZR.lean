import Derived.Test.YtpmebojkkjlkgaaGreatMcIR
import Derived.Shelf.Sort.Plain
import Derived.Shelf.Slices.In.SortNone
import Derived.Laws.CopyOwn
namespace Go.Proofs.YtpmebojkkjlkgaaGreat
open Go.RowKit
theorem SlP.congr {w : World} {a : Option Addr} {n cap : Nat} {C Q C' Q' : Nat -> Int} (h : SlP w a n cap C Q) (h1 : ∀ i, i < n -> C i = C' i) (h2 : ∀ i, i < n -> Q i = Q' i) : SlP w a n cap C' Q' :=
 ⟨h.le, h.max, h.cells.imp id fun ⟨b, off, e, hlt, hc, hl⟩ => ⟨b, off, e, hlt, fun i hi => by rw [<- h1 i hi]; exact hc i hi, fun i hi => by rw [<- h2 i hi]; exact hl i hi⟩⟩
theorem SlL.congr {w : World} {a : Option Addr} {n cap : Nat} {rn rn' : Nat -> Nat} {X X' : Nat -> Nat -> Int} (h : SlL w a n cap rn X) (h1 : ∀ i, i < n -> rn i = rn' i) (h2 : ∀ i, i < n -> X i = X' i) : SlL w a n cap rn' X' :=
 ⟨h.le, h.max, h.cells.imp id fun ⟨b, off, e, hlt, hc⟩ => ⟨b, off, e, hlt, fun i hi => by rw [<- h1 i hi, <- h2 i hi]; exact hc i hi⟩⟩
def CvPost (E : Nat -> Ev) (n m : Nat) (w : World) (x : Ending) (w' : World) : Prop :=
 ∃ sa sc ra rc, x = .returned (.tuple #[.agg #[.slice sa n sc, .slice ra n rc], .bool true]) ∧ SlP w' sa n sc (spC (mcF E m)) (spQ (mcF E m)) ∧ SlL w' ra n rc (mcR E m) (mcX E m) ∧ Below w.heap.size w w'
theorem cover_pre {E : Nat -> Ev} {n m cap : Nat} {a : Option Addr} (w : World) (h : roomTo E m = true) (hn : n <= m) (hs : SlV w a n cap E) : Calls Tryz.prog 6 #[.agg #[.slice a n cap]] w (CvPost E n m w) := by
 obtain ⟨h1, h2, h3⟩ := mc_pre h hn
 refine (mcI_sl w hs).mono ?_
 rintro e w' ⟨sv, rv, T, rfl, hcov, hb⟩
 have hc := hcov.out
 rw [h2] at hc
 obtain ⟨sa, sc, e1, hp⟩ := hc.sls
 obtain ⟨ra, rc, e2, hl⟩ := hc.r.sl
 subst e1 e2
 refine ⟨sa, sc, ra, rc, by rw [h1], hp.congr (fun i hi => ?_) (fun i hi => ?_), hl.congr (fun i hi => (h3 i hi).2.1) (fun i hi => funext fun c => (h3 i hi).2.2 c), hb⟩
 ·show ((mcF E n i).c : Int) = ((mcF E m i).c : Int)
  rw [(h3 i hi).1]
 ·show ((mcF E n i).q : Int) = ((mcF E m i).q : Int)
  rw [(h3 i hi).1]
def inB (n : Nat) (X : Nat -> Int) (c q : Int) : Bool := decide (1 <= q) && (decide (0 <= c) && (decide (c < n) && decide (q <= X c.toNat)))
def reachB (ns : Nat) (C Q : Nat -> Int) (nr : Nat) (rn : Nat -> Nat) (X : Nat -> Nat -> Int) (a b : Int) : Bool :=
 decide (0 <= a ∧ a < nr ∧ 0 <= b ∧ b < ns) && inB (rn a.toNat) (X a.toNat) (C b.toNat) (Q b.toNat)
theorem reachB_no {ns : Nat} {C Q : Nat -> Int} {nr : Nat} {rn : Nat -> Nat} {X : Nat -> Nat -> Int} {a b : Int} (h : ¬ (0 <= a ∧ a < nr ∧ 0 <= b ∧ b < ns)) : reachB ns C Q nr rn X a b = false := by
 unfold reachB; rw [decide_eq_false h]; rfl
theorem reachB_yes {ns : Nat} {C Q : Nat -> Int} {nr : Nat} {rn : Nat -> Nat} {X : Nat -> Nat -> Int} {i j : Nat} (hi : i < nr) (hj : j < ns) : reachB ns C Q nr rn X i j = inB (rn i) (X i) (C j) (Q j) := by
 unfold reachB; rw [decide_eq_true (by omega)]; simp
theorem SlP.at {w : World} {a : Option Addr} {n cap : Nat} {C Q : Nat -> Int} (h : SlP w a n cap C Q) {j : Nat} (hj : j < n) :
  ∃ b off, a = some ⟨b, off, none⟩ ∧ b < w.heap.size ∧ w.cell? ⟨b, off + j * 2, none⟩ = some (.int .i64 (C j)) ∧ w.cell? ⟨b, off + j * 2 + 1, none⟩ = some (.int .i64 (Q j)) := by
 rcases h.cells with h0 | ⟨b, off, e, hb, hc, hl⟩
 ·omega
 ·exact ⟨b, off, e, hb, hc j hj, hl j hj⟩
theorem SlL.at {w : World} {a : Option Addr} {n cap : Nat} {rn : Nat -> Nat} {X : Nat -> Nat -> Int} (h : SlL w a n cap rn X) {j : Nat} (hj : j < n) :
  ∃ b off, a = some ⟨b, off, none⟩ ∧ b < w.heap.size ∧ RowAt w b (off + j) (rn j) (X j) := by
 rcases h.cells with h0 | ⟨b, off, e, hb, hc⟩
 ·omega
 ·exact ⟨b, off, e, hb, hc j hj⟩
theorem SlI.at {w : World} {a : Option Addr} {n cap : Nat} {X : Nat -> Int} (h : SlI w a n cap X) {j : Nat} (hj : j < n) :
  ∃ b off, a = some ⟨b, off, none⟩ ∧ b < w.heap.size ∧ w.cell? ⟨b, off + j, none⟩ = some (.int .i64 (X j)) := by
 rcases h.cells with h0 | ⟨b, off, e, hb, hc⟩
 ·omega
 ·exact ⟨b, off, e, hb, hc j hj⟩
theorem past1 {w : World} {b o : Nat} {v : Value} (hb : b < w.heap.size) (h : w.cell? ⟨b, o, none⟩ = some v) (x : Obj) : (w.alloc x).cell? ⟨b, o, none⟩ = some v := by
 rw [World.cell?_alloc_past _ _ _ (by exact hb)]; exact h
set_option maxHeartbeats 1000000 in
theorem inI_any (ra : Option Addr) (n rc : Nat) (X : Nat -> Int) (c q : Int) (w : World) (h : SlI w ra n rc X) :
  Calls Tryz.prog 24 #[.slice ra n rc, .agg #[.int .i64 c, .int .i64 q]] w fun e w' => e = .returned (.bool (inB n X c q)) ∧ Below w.heap.size w w' := by
 have hn := Nat.le_trans h.le h.max
 unfold maxLen at hn
 have hb0 : ∀ o, Below w.heap.size w (w.alloc o) := fun o => (Below.refl _ _).alloc (Nat.le_refl _) _
 by_cases hc : 0 <= c ∧ c < n
 ·obtain ⟨j, rfl⟩ : ∃ j : Nat, c = j := ⟨c.toNat, by omega⟩
  obtain ⟨b, off, rfl, hb, hj⟩ := h.at (j := j) (by omega)
  have hj1 := past1 hb hj
  have hin : Hid (inB n X j q = (decide (1 <= q) && decide (q <= X j))) := by
   unfold Hid
   unfold inB; rw [decide_eq_true (p := (0:Int) <= j) (by omega), decide_eq_true (p := (j:Int) < n) (by omega)]; simp
  by_cases hq : 1 <= q
  ·have hqd := decide_eq_true hq
   have hv : Hid (decide (q <= X j) = inB n X j q) := by unfold Hid; rw [hin.out, hqd]; rfl
   go_enter Tryz.func24, Tryz.ntmps24
   go_wp2_with fail
   go_quiet (fail)
   go_wp2
   go_ret
   exact ⟨ret_bool hv.out, (hb0 _).trans (Dr.below ⟨_, rfl⟩ _)⟩
  ·have hqd := decide_eq_false hq
   have hv : Hid (false = inB n X j q) := by unfold Hid; rw [hin.out, hqd]; rfl
   go_enter Tryz.func24, Tryz.ntmps24
   go_wp2_with fail
   go_quiet (fail)
   go_wp2
   go_ret
   exact ⟨ret_bool hv.out, (hb0 _).trans (Dr.below ⟨_, rfl⟩ _)⟩
 ·have hin : Hid (inB n X c q = false) := by
   unfold Hid
   unfold inB
   by_cases h1 : 0 <= c
   ·rw [decide_eq_false (p := c < (n : Int)) (by omega)]; simp
   ·rw [decide_eq_false (p := (0:Int) <= c) (by omega)]; simp
  go_enter Tryz.func24, Tryz.ntmps24
  go_wp2
  all_goals
   go_ret
   exact ⟨ret_bool hin.out.symm, hb0 _⟩
section
variable {na : Nat -> Nat} {rs : Nat -> Nat -> Nat} {n : Nat} (H : ∀ k, k < n -> ∀ j, j < na k -> rs k j < k)
include H
omit H in
theorem RR.trans {a p k : Nat} (h1 : RR na rs a p) (h2 : RR na rs p k) : RR na rs a k := by
 induction h2 with
 | refl => exact h1
 | ext _ hj ih => exact RR.ext ih hj
theorem sp_rr : ∀ p, p < n -> ∀ k, k < n -> (sp na rs k).c = (sp na rs p).c -> (sp na rs k).q <= (sp na rs p).q -> RR na rs p k := by
 intro p
 induction p using Nat.strongRecOn with
 | _ p ih =>
  intro hp k hk hc hq
  by_cases e : k = p
  ·subst e; exact RR.refl
  have hkp : k < p := by
   by_cases h : k < p
   ·exact h
   ·have := (sp_inv H n (Nat.le_refl _)).2 p k (by omega) hk hc.symm
    omega
  have hlt := (sp_inv H n (Nat.le_refl _)).2 k p hkp hp hc
  have e1 := sp_eq na rs (H p hp)
  cases hn : nxtTo (sp na rs) p (rs p) (na p) with
  | none =>
   rw [hn] at e1
   have e2 : sp na rs p = ⟨chN na rs p, 1⟩ := e1
   have := ((sp_inv H p (by omega)).1 k hkp).1
   rw [e2] at hc
   have hc' : (sp na rs k).c = chN na rs p := hc
   omega
  | some s =>
   rw [hn] at e1
   have e2 : sp na rs p = s := e1
   obtain ⟨j, hj, _, hs⟩ := nxtTo_of hn
   have hr := H p hp j hj
   rw [e2, hs] at hc hlt
   have hlt' : (sp na rs k).q < (sp na rs (rs p j)).q + 1 := hlt
   exact RR.behind hj (ih (rs p j) hr (by omega) k hk hc (by omega))
theorem rc_iff {i k : Nat} (hi : i < n) (hk : k < n) : (sp na rs k).q <= rc na rs i (sp na rs k).c ↔ RR na rs i k := by
 constructor
 ·intro h
  have h1 := ((sp_inv H n (Nat.le_refl _)).1 k hk).2
  rcases rc_hit H i hi (sp na rs k).c with h0 | ⟨p, hp, hc, hq⟩
  ·omega
  ·have hpi := RR.le H hi hp
   have h2 := sp_rr H p (by omega) k hk hc.symm (by omega)
   exact RR.trans hp h2
 ·exact rc_up H i hi k
end
theorem reach_room {E : Nat -> Ev} {n i k : Nat} (h : roomTo E n = true) (hi : i < n) (hk : k < n) : reachB n (spC (mcF E n)) (spQ (mcF E n)) n (mcR E n) (mcX E n) (i : Int) (k : Int) = true ↔ i = k ∨ Chn E n (fun _ => (E i).id) 1 (E k).id := by
 have H := rsE_lt h
 have hq1 := ((sp_inv H n (Nat.le_refl _)).1 k hk).2
 rw [reachB_yes hi hk]
 have key : inB (mcR E n i) (mcX E n i) (spC (mcF E n) k) (spQ (mcF E n) k) = true ↔ (sp (naE E) (rsE E n) k).q <= rc (naE E) (rsE E n) i (sp (naE E) (rsE E n) k).c := by
  have hz : ∀ c, chN (naE E) (rsE E n) (i + 1) <= c -> rc (naE E) (rsE E n) i c = 0 := fun c hc => rc_zero H hi hc
  show (decide ((1 : Int) <= ((sp (naE E) (rsE E n) k).q : Int)) && (decide ((0 : Int) <= ((sp (naE E) (rsE E n) k).c : Int)) && (decide (((sp (naE E) (rsE E n) k).c : Int) < ((chN (naE E) (rsE E n) (i + 1) : Nat) : Int)) && decide (((sp (naE E) (rsE E n) k).q : Int) <= ((rc (naE E) (rsE E n) i (((sp (naE E) (rsE E n) k).c : Int)).toNat : Nat) : Int))))) = true ↔ _
  rw [Int.toNat_natCast]
  generalize sp (naE E) (rsE E n) k = s at *
  simp only [Bool.and_eq_true, decide_eq_true_eq]
  constructor
  ·rintro ⟨_, _, _, h4⟩
   omega
  ·intro h4
   by_cases hc : chN (naE E) (rsE E n) (i + 1) <= s.c
   ·have := hz s.c hc
    omega
   ·exact ⟨by omega, by omega, by omega, by omega⟩
 rw [key, rc_iff H hi hk]
 constructor
 ·intro hr
  rcases rr_chn h hi hr with e | e
  ·exact Or.inl e.symm
  ·exact Or.inr e
 ·rintro (e | e)
  ·subst e; exact RR.refl
  ·exact chn_rr h hi e k hk rfl
end Go.Proofs.YtpmebojkkjlkgaaGreat
namespace Go.Proofs
open Go.Shelf
def Tryz.lays190_ren : Go.Shelf.Ren := ⟨fun | 190 => 36 | 125 => 53 | 258 => 52 | 128 => 84 | 129 => 85 | 302 => 75 | 303 => 76 | 304 => 77 | 305 => 78 | 306 => 79 | 307 => 80 | 308 => 81 | 309 => 82 | 310 => 83 | 333 => 101 | 329 => 102 | 330 => 103 | 334 => 104 | 335 => 105 | 336 => 106 | 344 => 122 | n => n, fun | 31 => 38 | 9 => 9 | 3 => 3 | 46 => 106 | 0 => 0 | 51 => 135 | 53 => 137 | 4 => 4 | 183 => 128 | 182 => 127 | 131 => 103 | 5 => 5 | 218 => 160 | 222 => 164 | 228 => 177 | 229 => 178 | n => n, fun | n => n⟩
theorem Tryz.lays190 : Go.Proofs.Lays.n190 Tryz.prog Tryz.lays190_ren := {
 mixed := by kernel_rfl
 f125 := Tryz.func53.trans (congrArg some (by kernel_rfl))
 f128 := Tryz.func84.trans (congrArg some (by kernel_rfl))
 f129 := Tryz.func85.trans (congrArg some (by kernel_rfl))
 f190 := Tryz.func36.trans (congrArg some (by kernel_rfl))
 f258 := Tryz.func52.trans (congrArg some (by kernel_rfl))
 f302 := Tryz.func75.trans (congrArg some (by kernel_rfl))
 f303 := Tryz.func76.trans (congrArg some (by kernel_rfl))
 f304 := Tryz.func77.trans (congrArg some (by kernel_rfl))
 f305 := Tryz.func78.trans (congrArg some (by kernel_rfl))
 f306 := Tryz.func79.trans (congrArg some (by kernel_rfl))
 f307 := Tryz.func80.trans (congrArg some (by kernel_rfl))
 f308 := Tryz.func81.trans (congrArg some (by kernel_rfl))
 f309 := Tryz.func82.trans (congrArg some (by kernel_rfl))
 f310 := Tryz.func83.trans (congrArg some (by kernel_rfl))
 f329 := Tryz.func102.trans (congrArg some (by kernel_rfl))
 f330 := Tryz.func103.trans (congrArg some (by kernel_rfl))
 f333 := Tryz.func101.trans (congrArg some (by kernel_rfl))
 f334 := Tryz.func104.trans (congrArg some (by kernel_rfl))
 f335 := Tryz.func105.trans (congrArg some (by kernel_rfl))
 f336 := Tryz.func106.trans (congrArg some (by kernel_rfl))
 f344 := Tryz.func122.trans (congrArg some (by kernel_rfl))
 t0 := Tryz.underlying0
 a0 := Tryz.isAgg0
 z0 := Tryz.sizeOf0
 v0 := Tryz.zeroValue0
 t3 := Tryz.underlying3
 a3 := Tryz.isAgg3
 z3 := Tryz.sizeOf3
 v3 := Tryz.zeroValue3
 t4 := Tryz.underlying4
 a4 := Tryz.isAgg4
 z4 := Tryz.sizeOf4
 v4 := Tryz.zeroValue4
 t5 := Tryz.underlying5
 a5 := Tryz.isAgg5
 z5 := Tryz.sizeOf5
 v5 := Tryz.zeroValue5
 t9 := Tryz.underlying9
 a9 := Tryz.isAgg9
 z9 := Tryz.sizeOf9
 v9 := Tryz.zeroValue9
 t31 := Tryz.underlying38
 a31 := Tryz.isAgg38
 z31 := Tryz.sizeOf38
 v31 := Tryz.zeroValue38
 t46 := Tryz.underlying106
 a46 := Tryz.isAgg106
 z46 := Tryz.sizeOf106
 v46 := Tryz.zeroValue106
 t51 := Tryz.underlying135
 a51 := Tryz.isAgg135
 z51 := Tryz.sizeOf135
 v51 := Tryz.zeroValue135
 t53 := Tryz.underlying137
 a53 := Tryz.isAgg137
 z53 := Tryz.sizeOf137
 v53 := Tryz.zeroValue137
 t131 := Tryz.underlying103
 a131 := Tryz.isAgg103
 z131 := Tryz.sizeOf103
 v131 := Tryz.zeroValue103
 t182 := Tryz.underlying127
 a182 := Tryz.isAgg127
 z182 := Tryz.sizeOf127
 v182 := Tryz.zeroValue127
 t183 := Tryz.underlying128
 a183 := Tryz.isAgg128
 z183 := Tryz.sizeOf128
 v183 := Tryz.zeroValue128
 t218 := Tryz.underlying160
 a218 := Tryz.isAgg160
 z218 := Tryz.sizeOf160
 v218 := Tryz.zeroValue160
 t222 := Tryz.underlying164
 a222 := Tryz.isAgg164
 z222 := Tryz.sizeOf164
 v222 := Tryz.zeroValue164
 t228 := Tryz.underlying177
 a228 := Tryz.isAgg177
 z228 := Tryz.sizeOf177
 v228 := Tryz.zeroValue177
 t229 := Tryz.underlying178
 a229 := Tryz.isAgg178
 z229 := Tryz.sizeOf178
 v229 := Tryz.zeroValue178 }
open Go.Sort Go.RowKit in
theorem Tryz.slices_Sort_string (blk off cap : Nat) (ss : List (List UInt8)) (w : World) (hH : Holds encStr w blk off ss.toArray) (hblk : blk < w.heap.size) (hsz : ss.length < 4611686018427387904) :
  Calls Tryz.prog 36 #[.slice (some ⟨blk, off, none⟩) ss.length cap] w fun e w' =>
   e = .returned (.tuple #[]) ∧ ∃ n os, w' = grow (putRow encStr (Sort.ahead w n) blk off (ss.mergeSort fun x y => decide (x <= y)).toArray) os := Any.slices_Sort_string Tryz.lays190 blk off cap ss w hH hblk hsz
open Go.RowKit Go.Sort in
theorem Tryz.slices_Sort_string_none (p : Option Addr) (cap : Nat) (w : World) :
  Calls Tryz.prog 36 #[.slice p 0 cap] w fun e w' => e = .returned (.tuple #[]) ∧ w' = w := Any.slices_Sort_string_none Tryz.lays190 p cap w
end Go.Proofs
namespace Go.Proofs.YtpmebojkkjlkgaaGreat
open Go.RowKit
theorem Tryz.infoBool : (Tryz.prog.info? 4).map (fun i => (i.zero, i.size, i.bytes)) = some (some (.bool false), 1, 1) := by kernel_rfl
def BlAt (w : World) (b n : Nat) (M : Nat -> Bool) : Prop := b < w.heap.size ∧ ∀ i, i < n -> w.cell? ⟨b, i, none⟩ = some (.bool (M i)) ∧ w.frozen? ⟨b, i, none⟩ = false
theorem BlAt.below {w w' : World} {b n : Nat} {M : Nat -> Bool} (h : BlAt w b n M) (hb : Below w.heap.size w w') : BlAt w' b n M :=
 ⟨Nat.lt_of_lt_of_le h.1 hb.size, fun i hi => ⟨(hb.cell (by exact h.1)).trans (h.2 i hi).1, (hb.frozen (by exact h.1)).trans (h.2 i hi).2⟩⟩
theorem BlAt.set {w : World} {b n j : Nat} {M : Nat -> Bool} (h : BlAt w b n M) (hj : j < n) (x : Bool) : BlAt (w.setCell ⟨b, j, none⟩ (.bool x)) b n (fun i => if i = j then x else M i) := by
 refine ⟨by simpa [World.setCell] using h.1, fun i hi => ⟨?_, by rw [World.frozen?_setCell]; exact (h.2 i hi).2⟩⟩
 by_cases e : i = j
 ·subst e; rw [set_same ⟨_, (h.2 i hi).1⟩]; simp
 ·rw [set_far e, (h.2 i hi).1]; simp [e]
theorem BlAt.congr {w : World} {b n : Nat} {M M' : Nat -> Bool} (h : BlAt w b n M) (he : ∀ i, i < n -> M i = M' i) : BlAt w b n M' := ⟨h.1, fun i hi => by rw [<- he i hi]; exact h.2 i hi⟩
theorem make_bool (n : Nat) (h : n <= 140737488351232) (W : World) :
  (Instr.makeSlice 66 (.int .i64 (n : Int)) (.int .i64 (n : Int))).run Tryz.prog W = .ok (.slice (some ⟨W.heap.size, 0, none⟩) n n) (W.alloc (.cells (madeCells #[.bool false] n) 4)) := by
 obtain ⟨i0, hi, hz0, hz1, hz2⟩ := info_parts Tryz.infoBool
 have := run_make (P := Tryz.prog) W 66 4 i0 (.bool false) Tryz.underlying66 hi hz0 .i64 .i64 (n : Int) (n : Int) (by omega) (by omega) (by rw [hz2]; omega) (by omega)
 rw [this, hz1]
 simp [Value.cells]
def trues (n k : Nat) : List Value := List.replicate k (.bool true) ++ List.replicate (n - k) (.bool false)
theorem trues_zero (n : Nat) : madeCells #[.bool false] n = (trues n 0).toArray := by
 apply Array.toList_inj.1
 rw [toList_madeCells_one]
 simp [trues]
theorem bl_made (W : World) (n : Nat) : BlAt (W.alloc (.cells (madeCells #[.bool false] n) 4)) W.heap.size n (fun _ => false) := by
 refine ⟨by simp, fun i hi => ⟨?_, World.frozen?_alloc_at _ _ _ _ rfl⟩⟩
 rw [World.cell?_alloc_at _ _ _ _ rfl, trues_zero]
 simp [trues, hi]
theorem hitS_step {E : Nat -> Ev} {n : Nat} {S : Nat -> ByteArray} {k j i : Nat} (h : posV E n (S k) = (j : Int)) : (if i = j then true else hitS E n S i k) = hitS E n S i (k + 1) := by
 rw [hitS, h]
 by_cases e : i = j
 ·subst e; simp
 ·have : ¬ ((j : Int) = (i : Int)) := by omega
  simp [e, this]
def rchN (E : Nat -> Ev) (n : Nat) (B : Nat -> Bool) (t p j : Nat) : Nat -> Bool := fun i => rchT E n B t i || hitS E n (E p).Av i j
theorem rchN_step {E : Nat -> Ev} {n : Nat} {B : Nat -> Bool} {t p j y i : Nat} (h : posV E n ((E p).Av j) = (y : Int)) : (if i = y then true else rchN E n B t p j i) = rchN E n B t p (j + 1) i := by
 unfold rchN
 rw [<- hitS_step h]
 by_cases e : i = y
 ·simp [e]
 ·simp [e]
theorem rchN_end {E : Nat -> Ev} {n : Nat} {B : Nat -> Bool} {t p i : Nat} (hp : p = n - 1 - t) (h : (B p || rchT E n B t p) = true) : rchN E n B t p (E p).na i = rchT E n B (t + 1) i := by
 subst hp
 unfold rchN
 rw [rchT, h]
 simp
theorem rchT_skip {E : Nat -> Ev} {n : Nat} {B : Nat -> Bool} {t p i : Nat} (hp : p = n - 1 - t) (h : (B p || rchT E n B t p) = false) : rchT E n B t i = rchT E n B (t + 1) i := by
 subst hp
 rw [rchT, h]
 simp
set_option maxRecDepth 100000 in
set_option maxHeartbeats 2000000 in
theorem chainI_sl {a : Option Addr} {n cap m : Nat} {E : Nat -> Ev} {ra : Option Addr} {rc : Nat} {ga : Option Addr} {gn gc : Nat} {S : Nat -> ByteArray} (w : World) (hroom : roomTo E n = true) (hr : SlL w ra n rc (restN E) (restV E))
  (hg : SlI w ga gn gc (fun i => posV E n (S i))) (hth : ∀ i, i < gn -> 0 <= posV E n (S i)) :
  Calls Tryz.prog 23 #[.agg #[.slice a n cap, .map (some m), .slice ra n rc], .slice ga gn gc] w fun e w' =>
   ∃ b, e = .returned (.slice (some ⟨b, 0, none⟩) n n) ∧ w.heap.size <= b ∧ BlAt w' b n (rchT E n (fun i => hitS E n S i gn) n) ∧ Below w.heap.size w w' := by
 obtain ⟨bf, hbf⟩ : ∃ bf : Nat -> Bool, bf = fun i => hitS E n S i gn := ⟨_, rfl⟩
 rw [<- hbf]
 have Hbf : Hid (bf = fun i => hitS E n S i gn) := hbf
 clear hbf
 have h300 := room_300 hroom
 have hgm := Nat.le_trans hg.le hg.max
 unfold maxLen at hgm
 obtain ⟨wb, hwb⟩ : ∃ wb, wb = w.alloc (.cells #[.slice a n cap, .map (some m), .slice ra n rc] 55) := ⟨_, rfl⟩
 have hb0 : Below w.heap.size w wb := by rw [hwb]; exact (Below.refl _ _).alloc (Nat.le_refl _) _
 have hs0 : wb.heap.size = w.heap.size + 1 := by rw [hwb]; simp
 have hbx : Hid (∀ wx, Below (w.heap.size + 1) wb wx -> ∀ o, wx.cell? ⟨w.heap.size, o, none⟩ = (#[.slice a n cap, .map (some m), .slice ra n rc] : Array Value)[o]?) := fun wx hx => by subst hwb; exact box_cells hx
 have hmk := make_bool n (by omega) wb
 rw [hs0] at hmk
 have hmk' : (Instr.makeSlice 66 (.int .i64 (n : Int)) (.int .i64 (n : Int))).run Tryz.prog (w.alloc (.cells #[.slice a n cap, .map (some m), .slice ra n rc] 55)) = .ok (.slice (some ⟨w.heap.size + 1, 0, none⟩) n n) (wb.alloc (.cells (madeCells #[.bool false] n) 4)) := by rw [<- hwb]; exact hmk
 have hbl0 := bl_made wb n
 rw [hs0] at hbl0
 have hB0 : Below (w.heap.size + 1) wb (wb.alloc (.cells (madeCells #[.bool false] n) 4)) := (Below.refl _ _).alloc (by omega) _
 have Hth : Hid (_) := hth
 have Hroom : Hid (_) := hroom
 clear hth hroom hmk hwb
 go_enter Tryz.func23, Tryz.ntmps23
 go_wp2_with fail
 clear hmk'
 go_loopw [18] (fun i wr => ∃ k : Nat, k <= gn ∧ i = .int .i64 k ∧ BlAt wr (w.heap.size + 1) n (fun i => hitS E n S i k) ∧ Below (w.heap.size + 1) wb wr) (fun i _ => gn - (intOf i).toNat)
 case atStart => exact ⟨0, Nat.zero_le _, rfl, hbl0, hB0⟩
 case round =>
  clear hbl0 hB0
  obtain ⟨k, hk, rfl, hbl, hB⟩ := hrel
  have hbw := hb0.trans (hB.mono (by omega))
  by_cases hlt : k < gn
  ·rcases hg.cells with h0 | ⟨bg, og, rfl, hbg, hcg⟩
   ·omega
   obtain ⟨j, hj, e, _⟩ : ∃ j, j < n ∧ posV E n (S k) = (j : Int) ∧ True := by
    have := posV_bd E (S k) n
    have := Hth.out k hlt
    exact ⟨(posV E n (S k)).toNat, by omega, by omega, trivial⟩
   have hck : wr.cell? ⟨bg, og + k, none⟩ = some (.int .i64 (j : Int)) := by rw [<- e]; exact (hbw.cell (by exact hbg)).trans (hcg k hlt)
   have hm1 := (hbl.2 j hj).1
   have hm2 := (hbl.2 j hj).2
   have Hbl : Hid (BlAt (wr.setCell ⟨w.heap.size + 1, j, none⟩ (.bool true)) (w.heap.size + 1) n (fun i => hitS E n S i (k + 1))) := (hbl.set hj true).congr (fun i _ => hitS_step e)
   clear hcg hbl e
   go_wp2
   go_roundw
   case rel => exact ⟨k + 1, by omega, by go_num, Hbl.out, hB.setCell (Nat.le_refl _) _⟩
   case measure => simp [intOf]; omega
  ·have hkn : gn = k := by omega
   subst hkn
   obtain ⟨W, rfl⟩ : ∃ W : World, W = wr := ⟨_, rfl⟩
   have hmk := make_bool n (by omega) W
   have c0 := hbx.out _ hB 0
   have hbl2 := bl_made W n
   have hW2 : Below W.heap.size W (W.alloc (.cells (madeCells #[.bool false] n) 4)) := (Below.refl _ _).alloc (Nat.le_refl _) _
   have hsW : w.heap.size + 1 + 1 <= W.heap.size := hbl.1
   have c01 := (hW2.cell (by show w.heap.size < _; omega)).trans c0
   rw [<- Hbf.out] at hbl
   go_wp2_with fail
   clear hmk c01
   go_loopw [9] (fun iv wr => ∃ t : Nat, t <= n ∧ iv = .int .i64 ((n : Int) - 1 - (t : Int)) ∧ BlAt wr W.heap.size n (rchT E n bf t) ∧ Below W.heap.size W wr) (fun iv _ => (intOf iv + 1).toNat)
   case atStart => exact ⟨0, Nat.zero_le _, by first | rfl | go_num | simp, hbl2, hW2⟩
   case round =>
    clear hbl2 hW2
    obtain ⟨t, ht, rfl, hbt, hBt⟩ := hrel
    have c0t := hbx.out _ (hB.trans (hBt.mono (by omega))) 0
    have c2t := hbx.out _ (hB.trans (hBt.mono (by omega))) 2
    have hbegt := hbl.below hBt
    by_cases hlt2 : t < n
    ·obtain ⟨p, hp, ep⟩ : ∃ p : Nat, p = n - 1 - t ∧ (n : Int) - 1 - (t : Int) = (p : Int) := ⟨n - 1 - t, rfl, by omega⟩
     rw [ep]
     have hpn : p < n := by omega
     have m1 := (hbegt.2 p hpn).1
     have m2 := (hbt.2 p hpn).1
     have Hnext : Hid (IntKind.i64.wrap ((p : Int) - 1) = (n : Int) - 1 - ((t + 1 : Nat) : Int)) := by unfold Hid; rw [IntKind.wrap_i64]; omega
     cases hq : (bf p || rchT E n bf t p)
     case false =>
      rw [Bool.or_eq_false_iff] at hq
      rw [hq.1] at m1
      rw [hq.2] at m2
      have Hbt : Hid (BlAt wr W.heap.size n (rchT E n bf (t + 1))) := hbt.congr (fun i _ => rchT_skip hp (by rw [hq.1, hq.2]; rfl))
      have HP : Hid (_) := hp
      clear hq hp ep
      go_wp2
      have hp := HP.out
      exact ⟨⟨t + 1, by omega, congrArg _ (by omega), Hbt.out, hBt⟩, by simp only [intOf]; omega⟩
     case true =>
      have Hend : Hid (∀ i, rchN E n bf t p (E p).na i = rchT E n bf (t + 1) i) := fun i => rchN_end hp hq
      have hbt0 : BlAt wr W.heap.size n (rchN E n bf t p 0) := hbt.congr (fun i _ => by simp [rchN, hitS])
      rcases hr.cells with h0 | ⟨br, orr, rfl, hbr, hcr⟩
      ·omega
      obtain ⟨xa, xc, hx, hxs⟩ := hcr p hpn
      have hxr : wr.cell? ⟨br, orr + p, none⟩ = some (.slice xa (restN E p) xc) := ((hbw.trans (hBt.mono hbw.size)).cell (by exact hbr)).trans hx
      have hna : (E p).na <= maxLen := Nat.le_trans hxs.le hxs.max
      unfold maxLen at hna
      have HP : Hid (_) := hp
      obtain ⟨wo, rfl⟩ : ∃ wo : World, wo = wr := ⟨_, rfl⟩
      clear hp ep hcr hx hbt
      cases hq1 : bf p
      case true =>
       rw [hq1] at m1
       clear hq hq1
       go_wp2_with fail
       go_loopw [56] (fun jv wi => ∃ j : Nat, j <= (E p).na ∧ jv = .int .i64 j ∧ BlAt wi W.heap.size n (rchN E n bf t p j) ∧ Below W.heap.size W wi) (fun jv _ => (E p).na - (intOf jv).toNat)
       case atStart => exact ⟨0, Nat.zero_le _, rfl, hbt0, hBt⟩
       case round =>
        clear hbt0 hBt
        obtain ⟨j, hj, rfl, hbj, hBj⟩ := hrel
        by_cases hlj : j < (E p).na
        ·rcases hxs.cells with h0 | ⟨bx, ox, rfl, hbx', hcx⟩
         ·exact absurd h0 (by show ¬ (E p).na = 0; omega)
         obtain ⟨y, hy, ey, _⟩ := auth_there Hroom.out hpn hlj
         have hyr : posV E p ((E p).Av j) = (y : Int) := (room_auth Hroom.out hpn hlj).2.2.trans ey
         have hcy : wr.cell? ⟨bx, ox + j, none⟩ = some (.int .i64 (y : Int)) := by rw [<- hyr]; exact ((hbw.trans (hBj.mono hbw.size)).cell (by exact hbx')).trans (hcx j hlj)
         have hyn : y < n := by omega
         have n1 := (hbj.2 y hyn).1
         have n2 := (hbj.2 y hyn).2
         have Hbl : Hid (BlAt (wr.setCell ⟨W.heap.size, y, none⟩ (.bool true)) W.heap.size n (rchN E n bf t p (j + 1))) := (hbj.set hyn true).congr (fun i _ => rchN_step ey)
         clear hcx hbj ey hyr
         go_wp2
         refine ⟨⟨j + 1, by omega, by go_num, Hbl.out, hBj.setCell (Nat.le_refl _) _⟩, by simp [intOf]; omega⟩
        ·have hjn : (E p).na = j := by omega
         subst hjn
         go_wp2
         have hp := HP.out
         exact ⟨⟨t + 1, by omega, congrArg _ (by omega), hbj.congr (fun i _ => Hend.out i), hBj⟩, by simp only [intOf]; omega⟩
      case false =>
       rw [hq1, Bool.false_or] at hq
       rw [hq1] at m1
       rw [hq] at m2
       clear hq hq1
       go_wp2_with fail
       go_loopw [56] (fun jv wi => ∃ j : Nat, j <= (E p).na ∧ jv = .int .i64 j ∧ BlAt wi W.heap.size n (rchN E n bf t p j) ∧ Below W.heap.size W wi) (fun jv _ => (E p).na - (intOf jv).toNat)
       case atStart => exact ⟨0, Nat.zero_le _, rfl, hbt0, hBt⟩
       case round =>
        clear hbt0 hBt
        obtain ⟨j, hj, rfl, hbj, hBj⟩ := hrel
        by_cases hlj : j < (E p).na
        ·rcases hxs.cells with h0 | ⟨bx, ox, rfl, hbx', hcx⟩
         ·exact absurd h0 (by show ¬ (E p).na = 0; omega)
         obtain ⟨y, hy, ey, _⟩ := auth_there Hroom.out hpn hlj
         have hyr : posV E p ((E p).Av j) = (y : Int) := (room_auth Hroom.out hpn hlj).2.2.trans ey
         have hcy : wr.cell? ⟨bx, ox + j, none⟩ = some (.int .i64 (y : Int)) := by rw [<- hyr]; exact ((hbw.trans (hBj.mono hbw.size)).cell (by exact hbx')).trans (hcx j hlj)
         have hyn : y < n := by omega
         have n1 := (hbj.2 y hyn).1
         have n2 := (hbj.2 y hyn).2
         have Hbl : Hid (BlAt (wr.setCell ⟨W.heap.size, y, none⟩ (.bool true)) W.heap.size n (rchN E n bf t p (j + 1))) := (hbj.set hyn true).congr (fun i _ => rchN_step ey)
         clear hcx hbj ey hyr
         go_wp2
         refine ⟨⟨j + 1, by omega, by go_num, Hbl.out, hBj.setCell (Nat.le_refl _) _⟩, by simp [intOf]; omega⟩
        ·have hjn : (E p).na = j := by omega
         subst hjn
         go_wp2
         have hp := HP.out
         exact ⟨⟨t + 1, by omega, congrArg _ (by omega), hbj.congr (fun i _ => Hend.out i), hBj⟩, by simp only [intOf]; omega⟩
    ·have htn : n = t := by omega
     subst htn
     have e1 : (n : Int) - 1 - (n : Int) = -1 := by omega
     rw [e1]
     go_wp2
     go_ret
     exact ⟨_, rfl, by omega, hbt, hbw.trans (hBt.mono hbw.size)⟩
end Go.Proofs.YtpmebojkkjlkgaaGreat
