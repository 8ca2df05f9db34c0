/-
  markRoom with the values that it writes.
-/
import Derived.Test.YtpdnocfefmobjaaHdX
namespace Go.Proofs.Ytpdnocfefmobjaa
open Go.RowKit

/-- where the lists of an event lie, and between which blocks. -/
structure Ls where
  pa : Option Addr
  cp : Nat
  aa : Option Addr
  ca : Nat
  ga : Option Addr
  cg : Nat
  lo : Nat
  m1 : Nat
  m2 : Nat
  hi : Nat
theorem SlS.grownI {w w' : World} {a : Option Addr} {n cap lo hi : Nat} {S : Nat → ByteArray} {row : Option Nat} (h : SlS w a n cap S) (hg : w.grownBy w' row) (hv : Iv a n lo hi) (hr : ∀ b, row = some b → b < lo ∨ hi ≤ b) : SlS w' a n cap S := by
  refine ⟨h.le, h.max, h.size, ?_⟩
  rcases hv with h0 | ⟨b, off, rfl, h1, h2⟩
  · exact Or.inl h0
  · refine h.cells.imp id fun ⟨b', off', e, hlt, hc⟩ => ⟨b', off', e, Nat.lt_of_lt_of_le hlt hg.size, fun i hi => ?_⟩
    have e2 : b = b' := by injection e with e; injection e
    exact (hg.cell_far _ hlt (fun e3 => by have := hr b' e3.symm; omega)).trans (hc i hi)
theorem SlG.grownI {w w' : World} {a : Option Addr} {n cap lo hi : Nat} {M : Nat → ByteArray} {L : Nat → Int} {row : Option Nat} (h : SlG w a n cap M L) (hg : w.grownBy w' row) (hv : Iv a n lo hi) (hr : ∀ b, row = some b → b < lo ∨ hi ≤ b) : SlG w' a n cap M L := by
  refine ⟨h.le, h.max, h.size, ?_⟩
  rcases hv with h0 | ⟨b, off, rfl, h1, h2⟩
  · exact Or.inl h0
  · refine h.cells.imp id fun ⟨b', off', e, hlt, hc, hl⟩ => ⟨b', off', e, Nat.lt_of_lt_of_le hlt hg.size, fun i hi => ?_, fun i hi => ?_⟩
    all_goals
      have e2 : b = b' := by injection e with e; injection e
    · exact (hg.cell_far _ hlt (fun e3 => by have := hr b' e3.symm; omega)).trans (hc i hi)
    · exact (hg.cell_far _ hlt (fun e3 => by have := hr b' e3.symm; omega)).trans (hl i hi)
theorem SlW.grownI {w w' : World} {a : Option Addr} {n sz base lo hi : Nat} {row : Option Nat} (h : SlW w base a n sz) (hg : w.grownBy w' row) (hv : Iv a n lo hi) (hr : ∀ b, row = some b → b < lo ∨ hi ≤ b) : SlW w' base a n sz := by
  rcases hv with h0 | ⟨b, off, rfl, h1, h2⟩
  · exact Or.inl h0
  · refine h.imp id fun ⟨b', off', e, q1, q2, hc⟩ => ⟨b', off', e, q1, Nat.lt_of_lt_of_le q2 hg.size, fun i hi => ?_⟩
    have e2 : b = b' := by injection e with e; injection e
    rw [hg.cell_far _ (by exact q2) (fun e3 => by have := hr b' e3.symm; omega), hg.frozen_far _ (by exact q2) (fun e3 => by have := hr b' e3.symm; omega)]
    exact hc i hi
theorem EvIv.grownI {w w' : World} {e : Ev} {pa : Option Addr} {cp : Nat} {aa : Option Addr} {ca : Nat} {ga : Option Addr} {cg lo m1 m2 hi : Nat} {row : Option Nat} (h : EvIv w e pa cp aa ca ga cg lo m1 m2 hi) (hg : w.grownBy w' row) (hr : ∀ b, row = some b → b < lo ∨ hi ≤ b) : EvIv w' e pa cp aa ca ga cg lo m1 m2 hi := by
  have hh := h.hh
  have r1 : ∀ b, row = some b → b < lo ∨ m1 ≤ b := fun b hb => by have := hr b hb; omega
  have r2 : ∀ b, row = some b → b < m1 ∨ m2 ≤ b := fun b hb => by have := hr b hb; omega
  have r3 : ∀ b, row = some b → b < m2 ∨ hi ≤ b := fun b hb => by have := hr b hb; omega
  exact ⟨⟨h.ok.hid, h.ok.hsd, h.ok.hty, h.ok.hkey, h.ok.hval, h.ok.hp.grownI hg h.ip r1, h.ok.ha.grownI hg h.ia r2, h.ok.hg.grownI hg h.ig r3⟩, h.wp.grownI hg h.ip r1, h.wa.grownI hg h.ia r2, h.wg.grownI hg h.ig r3, h.ip, h.ia, h.ig, hh.1, hh.2.1, hh.2.2.1, Nat.le_trans hh.2.2.2 hg.size⟩
/-- the event's lists, and between which blocks they lie. -/
structure EvKp (w : World) (e : Ev) (pa : Option Addr) (cp : Nat) (aa : Option Addr) (ca : Nat) (ga : Option Addr) (cg lo m1 m2 hi : Nat) : Prop where
  ok : EvOk w e pa cp aa ca ga cg
  ip : Iv pa e.np lo m1
  ia : Iv aa e.na m1 m2
  ig : Iv ga e.ng m2 hi
  hh : lo ≤ m1 ∧ m1 ≤ m2 ∧ m2 ≤ hi ∧ hi ≤ w.heap.size
theorem EvIv.kp {w : World} {e : Ev} {pa : Option Addr} {cp : Nat} {aa : Option Addr} {ca : Nat} {ga : Option Addr} {cg lo m1 m2 hi : Nat} (h : EvIv w e pa cp aa ca ga cg lo m1 m2 hi) : EvKp w e pa cp aa ca ga cg lo m1 m2 hi := ⟨h.ok, h.ip, h.ia, h.ig, h.hh⟩
theorem EvKp.below {w w' : World} {e : Ev} {pa : Option Addr} {cp : Nat} {aa : Option Addr} {ca : Nat} {ga : Option Addr} {cg lo m1 m2 hi : Nat} (h : EvKp w e pa cp aa ca ga cg lo m1 m2 hi) (hb : Below w.heap.size w w') : EvKp w' e pa cp aa ca ga cg lo m1 m2 hi :=
  ⟨h.ok.below hb, h.ip, h.ia, h.ig, h.hh.1, h.hh.2.1, h.hh.2.2.1, Nat.le_trans h.hh.2.2.2 hb.size⟩
theorem EvKp.set {w : World} {e : Ev} {pa : Option Addr} {cp : Nat} {aa : Option Addr} {ca : Nat} {ga : Option Addr} {cg lo m1 m2 hi C j : Nat} (h : EvKp w e pa cp aa ca ga cg lo m1 m2 hi) (hC : C < lo ∨ hi ≤ C) (x : Value) : EvKp (w.setCell ⟨C, j, none⟩ x) e pa cp aa ca ga cg lo m1 m2 hi := by
  have hh := h.hh
  exact ⟨⟨h.ok.hid, h.ok.hsd, h.ok.hty, h.ok.hkey, h.ok.hval, h.ok.hp.setF h.ip (by omega) x, h.ok.ha.setF h.ia (by omega) x, h.ok.hg.setF h.ig (by omega) x⟩, h.ip, h.ia, h.ig, hh.1, hh.2.1, hh.2.2.1, by simpa [World.setCell] using hh.2.2.2⟩
theorem EvKp.grownI {w w' : World} {e : Ev} {pa : Option Addr} {cp : Nat} {aa : Option Addr} {ca : Nat} {ga : Option Addr} {cg lo m1 m2 hi : Nat} {row : Option Nat} (h : EvKp w e pa cp aa ca ga cg lo m1 m2 hi) (hg : w.grownBy w' row) (hr : ∀ b, row = some b → b < lo ∨ hi ≤ b) : EvKp w' e pa cp aa ca ga cg lo m1 m2 hi := by
  have hh := h.hh
  have r1 : ∀ b, row = some b → b < lo ∨ m1 ≤ b := fun b hb => by have := hr b hb; omega
  have r2 : ∀ b, row = some b → b < m1 ∨ m2 ≤ b := fun b hb => by have := hr b hb; omega
  have r3 : ∀ b, row = some b → b < m2 ∨ hi ≤ b := fun b hb => by have := hr b hb; omega
  exact ⟨⟨h.ok.hid, h.ok.hsd, h.ok.hty, h.ok.hkey, h.ok.hval, h.ok.hp.grownI hg h.ip r1, h.ok.ha.grownI hg h.ia r2, h.ok.hg.grownI hg h.ig r3⟩, h.ip, h.ia, h.ig, hh.1, hh.2.1, hh.2.2.1, Nat.le_trans hh.2.2.2 hg.size⟩
theorem Iv.row {a : Option Addr} {n lo hi : Nat} (h : Iv a n lo hi) (b : Nat) (hb : rowOf a n = some b) : lo ≤ b ∧ b < hi := by
  unfold rowOf at hb
  split at hb
  · cases hb
  · rcases h with h0 | ⟨b', off, rfl, h1, h2⟩
    · contradiction
    · have : b' = b := by simpa [blk] using hb
      omega

/-- ten cells from o on. -/
structure C10 (W : World) (B o : Nat) (f : Nat → Value) : Prop where
  c : ∀ r, r < 10 → W.cell? ⟨B, o + r, none⟩ = some (f r)
  z : ∀ r, r < 10 → W.frozen? ⟨B, o + r, none⟩ = false
  lt : B < W.heap.size
def updF (f : Nat → Value) (r : Nat) (x : Value) : Nat → Value := fun i => if i = r then x else f i
theorem C10.below {W W' : World} {B o : Nat} {f : Nat → Value} (h : C10 W B o f) (hb : Below W.heap.size W W') : C10 W' B o f :=
  ⟨fun r hr => (hb.cell (by exact h.lt)).trans (h.c r hr), fun r hr => (hb.frozen (by exact h.lt)).trans (h.z r hr), Nat.lt_of_lt_of_le h.lt hb.size⟩
theorem C10.set {W : World} {B o : Nat} {f : Nat → Value} (h : C10 W B o f) (r : Nat) (hr : r < 10) (x : Value) : C10 (W.setCell ⟨B, o + r, none⟩ x) B o (updF f r x) := by
  refine ⟨fun i hi => ?_, fun i hi => by rw [World.frozen?_setCell]; exact h.z i hi, by simpa [World.setCell] using h.lt⟩
  unfold updF
  by_cases e : i = r
  · subst e
    rw [if_pos rfl]
    exact set_same ⟨_, h.c i hi⟩
  · rw [if_neg e, set_far (by omega)]
    exact h.c i hi
theorem C10.grown {W W' : World} {B o : Nat} {f : Nat → Value} {row : Option Nat} (h : C10 W B o f) (hg : W.grownBy W' row) (hr : ∀ b, row = some b → b ≠ B) : C10 W' B o f := by
  have hne : some B ≠ row := fun e => hr B e.symm rfl
  exact ⟨fun r h1 => (hg.cell_far _ h.lt hne).trans (h.c r h1), fun r h1 => (hg.frozen_far _ h.lt hne).trans (h.z r h1), Nat.lt_of_lt_of_le h.lt hg.size⟩

/-- the other events. -/
structure OC (W : World) (B n j : Nat) (X : Nat → Ev) (T : Nat → Ls) : Prop where
  cells : ∀ i, i < n → i ≠ j → EvCells W B (i * 10) (X i) (T i).pa (T i).cp (T i).aa (T i).ca (T i).ga (T i).cg
  kp : ∀ i, i < n → i ≠ j → EvKp W (X i) (T i).pa (T i).cp (T i).aa (T i).ca (T i).ga (T i).cg (T i).lo (T i).m1 (T i).m2 (T i).hi
  iv : ∀ i, i < n → j < i → EvIv W (X i) (T i).pa (T i).cp (T i).aa (T i).ca (T i).ga (T i).cg (T i).lo (T i).m1 (T i).m2 (T i).hi
  low : ∀ i, i < n → B < (T i).lo ∨ (T i).hi ≤ B
  fz : ∀ i, W.frozen? ⟨B, i, none⟩ = false
  lt : B < W.heap.size
theorem OC.below {W W' : World} {B n j : Nat} {X : Nat → Ev} {T : Nat → Ls} (h : OC W B n j X T) (hb : Below W.heap.size W W') : OC W' B n j X T :=
  ⟨fun i h1 h2 => (h.cells i h1 h2).below hb h.lt, fun i h1 h2 => (h.kp i h1 h2).below hb, fun i h1 h2 => (h.iv i h1 h2).below hb, h.low, fun i => (hb.frozen (by exact h.lt)).trans (h.fz i), Nat.lt_of_lt_of_le h.lt hb.size⟩
theorem OC.set {W : World} {B n j : Nat} {X : Nat → Ev} {T : Nat → Ls} (h : OC W B n j X T) (r : Nat) (hr : r < 10) (x : Value) : OC (W.setCell ⟨B, j * 10 + r, none⟩ x) B n j X T := by
  refine ⟨fun i h1 h2 => ?_, fun i h1 h2 => (h.kp i h1 h2).set (h.low i h1) x, fun i h1 h2 => (h.iv i h1 h2).set (h.low i h1) x, h.low, fun i => by rw [World.frozen?_setCell]; exact h.fz i, by simpa [World.setCell] using h.lt⟩
  have q := h.cells i h1 h2
  exact ⟨by rw [set_far (by omega)]; exact q.c0, by rw [set_far (by omega)]; exact q.c1, by rw [set_far (by omega)]; exact q.c2, by rw [set_far (by omega)]; exact q.c3, by rw [set_far (by omega)]; exact q.c4, by rw [set_far (by omega)]; exact q.c5, by rw [set_far (by omega)]; exact q.c6, by rw [set_far (by omega)]; exact q.c7, by rw [set_far (by omega)]; exact q.c8, by rw [set_far (by omega)]; exact q.c9⟩
theorem OC.grown {W W' : World} {B n j : Nat} {X : Nat → Ev} {T : Nat → Ls} {row : Option Nat} (h : OC W B n j X T) (hg : W.grownBy W' row) (hB : ∀ b, row = some b → b ≠ B) (hr : ∀ i, i < n → i ≠ j → ∀ b, row = some b → b < (T i).lo ∨ (T i).hi ≤ b) : OC W' B n j X T := by
  have hne : some B ≠ row := fun e => hB B e.symm rfl
  refine ⟨fun i h1 h2 => ?_, fun i h1 h2 => (h.kp i h1 h2).grownI hg (hr i h1 h2), fun i h1 h2 => (h.iv i h1 h2).grownI hg (hr i h1 (by omega)), h.low, fun i => (hg.frozen_far _ h.lt hne).trans (h.fz i), Nat.lt_of_lt_of_le h.lt hg.size⟩
  have q := h.cells i h1 h2
  have far : ∀ o, W'.cell? ⟨B, o, none⟩ = W.cell? ⟨B, o, none⟩ := fun o => hg.cell_far _ h.lt hne
  exact ⟨(far _).trans q.c0, (far _).trans q.c1, (far _).trans q.c2, (far _).trans q.c3, (far _).trans q.c4, (far _).trans q.c5, (far _).trans q.c6, (far _).trans q.c7, (far _).trans q.c8, (far _).trans q.c9⟩

/-- a row of events at block B that may be written, the lists in blocks of their own. -/
structure RoomW (w : World) (base B n j : Nat) (X : Nat → Ev) (T : Nat → Ls) : Prop where
  cells : ∀ i, i < n → EvCells w B (i * 10) (X i) (T i).pa (T i).cp (T i).aa (T i).ca (T i).ga (T i).cg
  kp : ∀ i, i < n → EvKp w (X i) (T i).pa (T i).cp (T i).aa (T i).ca (T i).ga (T i).cg (T i).lo (T i).m1 (T i).m2 (T i).hi
  iv : ∀ i, i < n → j ≤ i → EvIv w (X i) (T i).pa (T i).cp (T i).aa (T i).ca (T i).ga (T i).cg (T i).lo (T i).m1 (T i).m2 (T i).hi
  low : ∀ i, i < n → base ≤ (T i).lo ∧ (B < (T i).lo ∨ (T i).hi ≤ B)
  hB : base ≤ B
  ord : ∀ i j, i < j → j < n → (T i).hi ≤ (T j).lo
  fz : ∀ i, w.frozen? ⟨B, i, none⟩ = false
  lt : B < w.heap.size
theorem RoomW.below {w w' : World} {base B n j : Nat} {X : Nat → Ev} {T : Nat → Ls} (h : RoomW w base B n j X T) (hb : Below w.heap.size w w') : RoomW w' base B n j X T :=
  ⟨fun i h1 => (h.cells i h1).below hb h.lt, fun i h1 => (h.kp i h1).below hb, fun i h1 h2 => (h.iv i h1 h2).below hb, h.low, h.hB, h.ord, fun i => (hb.frozen (by exact h.lt)).trans (h.fz i), Nat.lt_of_lt_of_le h.lt hb.size⟩
theorem RoomW.sl {w : World} {base B n j cap : Nat} {X : Nat → Ev} {T : Nat → Ls} (h : RoomW w base B n j X T) (h1 : n ≤ cap) (h2 : cap ≤ maxLen) : SlV w (some ⟨B, 0, none⟩) n cap X :=
  ⟨h1, h2, Or.inr ⟨B, 0, rfl, h.lt, fun i hi => by rw [Nat.zero_add]; exact ⟨_, _, _, _, _, _, h.cells i hi, (h.kp i hi).ok⟩⟩⟩
def mkX (E : Nat → Ev) (k0 j i : Nat) : Ev := if i < j then mkE (E i) (k0 + ksum E i) else E i

set_option maxRecDepth 100000 in
set_option maxHeartbeats 8000000 in
theorem markVv_any (base B n cap k0 : Nat) (E : Nat → Ev) (T : Nat → Ls) (w : World) (hn : n ≤ maxLen) (hs : k0 + ksum E n ≤ 100000000) (h : RoomW w base B n 0 E T) :
    Calls Try.prog 29 #[.slice (some ⟨B, 0, none⟩) n cap, .int .i64 (k0 : Int)] w fun e w' =>
      e = .returned (.int .i64 ((k0 + ksum E n : Nat) : Int)) ∧ RoomW w' base B n n (mkX E k0 n) T ∧ Below base w w' := by
  unfold maxLen at hn
  have HO : Hid (∀ i j, i < j → j < n → (T i).hi ≤ (T j).lo) := h.ord
  have HL : Hid (∀ i, i < n → base ≤ (T i).lo ∧ (B < (T i).lo ∨ (T i).hi ≤ B)) := h.low
  have hbB : base ≤ B := h.hB
  have hR0 : Hid (RoomW w base B n 0 (mkX E k0 0) T) := by
    have : mkX E k0 0 = E := by funext i; unfold mkX; rw [if_neg (Nat.not_lt_zero _)]
    rw [this]
    exact h
  clear h
  go_enter Try.func29, Try.ntmps29
  go_wp2_with fail
  go_loopw [1, 5] (fun kv iv wr => ∃ j : Nat, j ≤ n ∧ kv = .int .i64 ((k0 + ksum E j : Nat) : Int) ∧ iv = .int .i64 (j : Int) ∧ Hid (RoomW wr base B n j (mkX E k0 j) T) ∧ Below base w wr) (fun _ iv _ => n - (intOf iv).toNat)
  case atStart => exact ⟨0, Nat.zero_le _, rfl, rfl, hR0, Below.refl _ _⟩
  case round =>
    obtain ⟨j, hj, rfl, rfl, hR, hbel⟩ := hrel
    by_cases hlt : j < n
    · have hsj := ksum_at E n j hlt
      have hss : ksum E (j + 1) = ksum E j + (E j).num := rfl
      have hnum : (E j).num = 7 + (E j).np + (E j).na + (E j).ng * 2 := rfl
      obtain ⟨K, hK⟩ : ∃ K, Hid (K = k0 + ksum E j) := ⟨_, rfl⟩
      have hKb : K + 7 + (E j).np + (E j).na + (E j).ng * 2 ≤ 100000000 := by have := hK.out; omega
      rw [← hK.out]
      have hXj : mkX E k0 j j = E j := by unfold mkX; rw [if_neg (Nat.lt_irrefl _)]
      have hc := hR.out.cells j hlt
      have hv := hR.out.iv j hlt (Nat.le_refl _)
      rw [hXj] at hc hv
      have hlo := (HL.out j hlt).2
      have hbl := (HL.out j hlt).1
      have hh := hv.hh
      have O0 : Hid (OC wr B n j (mkX E k0 j) T) := ⟨fun i h1 _ => hR.out.cells i h1, fun i h1 _ => hR.out.kp i h1, fun i h1 h2 => hR.out.iv i h1 (by omega), fun i h1 => (HL.out i h1).2, hR.out.fz, hR.out.lt⟩
      have HF : Hid (∀ b, (T j).lo ≤ b → b < (T j).hi → ∀ i, i < n → i ≠ j → b < (T i).lo ∨ (T i).hi ≤ b) := fun b h1 h2 i hi hij => by
        rcases Nat.lt_or_ge i j with h3 | h3
        · exact Or.inr (Nat.le_trans (HO.out i j h3 hlt) h1)
        · exact Or.inl (Nat.lt_of_lt_of_le h2 (HO.out j i (by omega) hi))
      have HE : Hid (∀ W, OC W B n j (mkX E k0 j) T → EvCells W B (j * 10) (mkE (E j) K) (T j).pa (T j).cp (T j).aa (T j).ca (T j).ga (T j).cg → EvKp W (mkE (E j) K) (T j).pa (T j).cp (T j).aa (T j).ca (T j).ga (T j).cg (T j).lo (T j).m1 (T j).m2 (T j).hi → RoomW W base B n (j + 1) (mkX E k0 (j + 1)) T) := fun W h1 h2 h3 => by
        have e1 : mkX E k0 (j + 1) j = mkE (E j) K := by unfold mkX; rw [if_pos (Nat.lt_succ_self _), hK.out]
        have e2 : ∀ i, i ≠ j → mkX E k0 (j + 1) i = mkX E k0 j i := fun i hi => by
          unfold mkX
          by_cases q : i < j
          · rw [if_pos q, if_pos (by omega)]
          · rw [if_neg q, if_neg (by omega)]
        refine ⟨fun i hi => ?_, fun i hi => ?_, fun i hi hj => ?_, HL.out, hbB, HO.out, h1.fz, h1.lt⟩
        · by_cases q : i = j
          · subst q; rw [e1]; exact h2
          · rw [e2 i q]; exact h1.cells i hi q
        · by_cases q : i = j
          · subst q; rw [e1]; exact h3
          · rw [e2 i q]; exact h1.kp i hi q
        · rw [e2 i (by omega)]; exact h1.iv i hi (by omega)
      obtain ⟨f0, D0⟩ : ∃ f0 : Nat → Value, Hid (C10 wr B (j * 10) f0 ∧ f0 6 = .slice (T j).pa (E j).np (T j).cp ∧ f0 7 = .slice (T j).aa (E j).na (T j).ca ∧ f0 9 = .slice (T j).ga (E j).ng (T j).cg) := by
        refine ⟨fun r => match r with | 0 => .string (E j).id | 1 => .string (E j).sd | 2 => .string (E j).ty | 3 => .bool (E j).st | 4 => .string (E j).key | 5 => .int .i64 (E j).tm | 6 => .slice (T j).pa (E j).np (T j).cp | 7 => .slice (T j).aa (E j).na (T j).ca | 8 => .string (E j).val | _ => .slice (T j).ga (E j).ng (T j).cg, ⟨fun r hr => ?_, fun r _ => hR.out.fz _, hR.out.lt⟩, rfl, rfl, rfl⟩
        match r, hr with
        | 0, _ => exact hc.c0
        | 1, _ => exact hc.c1
        | 2, _ => exact hc.c2
        | 3, _ => exact hc.c3
        | 4, _ => exact hc.c4
        | 5, _ => exact hc.c5
        | 6, _ => exact hc.c6
        | 7, _ => exact hc.c7
        | 8, _ => exact hc.c8
        | 9, _ => exact hc.c9
      have HV : Hid (EvIv wr (E j) (T j).pa (T j).cp (T j).aa (T j).ca (T j).ga (T j).cg (T j).lo (T j).m1 (T j).m2 (T j).hi) := hv
      clear hc hv hR hsj hR0 HL HO
      have hmt : ∀ i, i < 20 + (E j).np + (E j).na → Hid (∀ W, Calls Try.prog 44 #[.int .i64 ((K + i : Nat) : Int)] W fun e w' => e = .returned (.string (mkT (K + i))) ∧ Below W.heap.size W w') := fun i _ W => mkT_any (K + i) W (by omega)
      have m0 := hmt 0 (by omega)
      simp only [Nat.add_zero] at m0
      have m1 := hmt 1 (by omega)
      have m2 := hmt 2 (by omega)
      have m4 := hmt 4 (by omega)
      have m6 : Hid (∀ W, Calls Try.prog 44 #[.int .i64 ((K + 6 + (E j).np + (E j).na : Nat) : Int)] W fun e w' => e = .returned (.string (mkT (K + 6 + (E j).np + (E j).na))) ∧ Below W.heap.size W w') := fun W => mkT_any _ W (by omega)
      clear hmt
      obtain ⟨D0c, g6, g7, g9⟩ := D0.out
      clear D0
      have D0h : Hid (C10 wr B (j * 10) f0) := D0c
      clear D0c
      go_wp2_with fail
      go_fit (m0.out _)
      rintro e w1 ⟨rfl, hb1⟩
      have D1 : Hid (C10 w1 B (j * 10) _) := D0h.out.below hb1
      have O1 : Hid (OC w1 B n j (mkX E k0 j) T) := O0.out.below hb1
      have V1 : Hid (EvIv w1 (E j) (T j).pa (T j).cp (T j).aa (T j).ca (T j).ga (T j).cg (T j).lo (T j).m1 (T j).m2 (T j).hi) := HV.out.below hb1
      have L1 : Below base w w1 := hbel.trans (hb1.mono (by have := D0h.out.lt; omega))
      have y0 : w1.cell? ⟨B, j * 10, none⟩ = _ := D1.out.c 0 (by decide)
      have z0 : w1.frozen? ⟨B, j * 10, none⟩ = false := D1.out.z 0 (by decide)
      have D1s : Hid (C10 (w1.setCell ⟨B, j * 10, none⟩ (.string (mkT K))) B (j * 10) _) := D1.out.set 0 (by decide) (.string (mkT K))
      have O1s : Hid (OC (w1.setCell ⟨B, j * 10, none⟩ (.string (mkT K))) B n j (mkX E k0 j) T) := O1.out.set 0 (by decide) (.string (mkT K))
      have V1s : Hid (EvIv (w1.setCell ⟨B, j * 10, none⟩ (.string (mkT K))) (E j) (T j).pa (T j).cp (T j).aa (T j).ca (T j).ga (T j).cg (T j).lo (T j).m1 (T j).m2 (T j).hi) := V1.out.set hlo (.string (mkT K))
      have L1s : Below base w (w1.setCell ⟨B, j * 10, none⟩ (.string (mkT K))) := L1.setCell (by exact hbB) _
      go_wp2_with fail
      go_fit (m1.out _)
      rintro e w2 ⟨rfl, hb2⟩
      have D2 : Hid (C10 w2 B (j * 10) _) := D1s.out.below hb2
      have O2 : Hid (OC w2 B n j (mkX E k0 j) T) := O1s.out.below hb2
      have V2 : Hid (EvIv w2 (E j) (T j).pa (T j).cp (T j).aa (T j).ca (T j).ga (T j).cg (T j).lo (T j).m1 (T j).m2 (T j).hi) := V1s.out.below hb2
      have L2 : Below base w w2 := L1s.trans (hb2.mono (by have := D1s.out.lt; omega))
      clear y0 z0
      have y1 : w2.cell? ⟨B, j * 10 + 1, none⟩ = _ := D2.out.c 1 (by decide)
      have z1 : w2.frozen? ⟨B, j * 10 + 1, none⟩ = false := D2.out.z 1 (by decide)
      have D2s : Hid (C10 (w2.setCell ⟨B, j * 10 + 1, none⟩ (.string (mkT (K + 1)))) B (j * 10) _) := D2.out.set 1 (by decide) (.string (mkT (K + 1)))
      have O2s : Hid (OC (w2.setCell ⟨B, j * 10 + 1, none⟩ (.string (mkT (K + 1)))) B n j (mkX E k0 j) T) := O2.out.set 1 (by decide) (.string (mkT (K + 1)))
      have V2s : Hid (EvIv (w2.setCell ⟨B, j * 10 + 1, none⟩ (.string (mkT (K + 1)))) (E j) (T j).pa (T j).cp (T j).aa (T j).ca (T j).ga (T j).cg (T j).lo (T j).m1 (T j).m2 (T j).hi) := V2.out.set hlo (.string (mkT (K + 1)))
      have L2s : Below base w (w2.setCell ⟨B, j * 10 + 1, none⟩ (.string (mkT (K + 1)))) := L2.setCell (by exact hbB) _
      go_wp2_with fail
      go_fit (m2.out _)
      rintro e w3 ⟨rfl, hb3⟩
      have D3 : Hid (C10 w3 B (j * 10) _) := D2s.out.below hb3
      have O3 : Hid (OC w3 B n j (mkX E k0 j) T) := O2s.out.below hb3
      have V3 : Hid (EvIv w3 (E j) (T j).pa (T j).cp (T j).aa (T j).ca (T j).ga (T j).cg (T j).lo (T j).m1 (T j).m2 (T j).hi) := V2s.out.below hb3
      have L3 : Below base w w3 := L2s.trans (hb3.mono (by have := D2s.out.lt; omega))
      clear y1 z1
      have y2 : w3.cell? ⟨B, j * 10 + 2, none⟩ = _ := D3.out.c 2 (by decide)
      have z2 : w3.frozen? ⟨B, j * 10 + 2, none⟩ = false := D3.out.z 2 (by decide)
      have y3 : w3.cell? ⟨B, j * 10 + 3, none⟩ = _ := D3.out.c 3 (by decide)
      have z3 : w3.frozen? ⟨B, j * 10 + 3, none⟩ = false := D3.out.z 3 (by decide)
      have D3s : Hid (C10 (w3.setCell ⟨B, j * 10 + 2, none⟩ (.string (mkT (K + 2)))) B (j * 10) _) := D3.out.set 2 (by decide) (.string (mkT (K + 2)))
      have O3s : Hid (OC (w3.setCell ⟨B, j * 10 + 2, none⟩ (.string (mkT (K + 2)))) B n j (mkX E k0 j) T) := O3.out.set 2 (by decide) (.string (mkT (K + 2)))
      have V3s : Hid (EvIv (w3.setCell ⟨B, j * 10 + 2, none⟩ (.string (mkT (K + 2)))) (E j) (T j).pa (T j).cp (T j).aa (T j).ca (T j).ga (T j).cg (T j).lo (T j).m1 (T j).m2 (T j).hi) := V3.out.set hlo (.string (mkT (K + 2)))
      have L3s : Below base w (w3.setCell ⟨B, j * 10 + 2, none⟩ (.string (mkT (K + 2)))) := L3.setCell (by exact hbB) _
      have D3t : Hid (C10 ((w3.setCell ⟨B, j * 10 + 2, none⟩ (.string (mkT (K + 2)))).setCell ⟨B, j * 10 + 3, none⟩ (.bool (((K : Int) + 1 + 1 + 1) % 3 == 0))) B (j * 10) _) := D3s.out.set 3 (by decide) (.bool (((K : Int) + 1 + 1 + 1) % 3 == 0))
      have O3t : Hid (OC ((w3.setCell ⟨B, j * 10 + 2, none⟩ (.string (mkT (K + 2)))).setCell ⟨B, j * 10 + 3, none⟩ (.bool (((K : Int) + 1 + 1 + 1) % 3 == 0))) B n j (mkX E k0 j) T) := O3s.out.set 3 (by decide) (.bool (((K : Int) + 1 + 1 + 1) % 3 == 0))
      have V3t : Hid (EvIv ((w3.setCell ⟨B, j * 10 + 2, none⟩ (.string (mkT (K + 2)))).setCell ⟨B, j * 10 + 3, none⟩ (.bool (((K : Int) + 1 + 1 + 1) % 3 == 0))) (E j) (T j).pa (T j).cp (T j).aa (T j).ca (T j).ga (T j).cg (T j).lo (T j).m1 (T j).m2 (T j).hi) := V3s.out.set hlo (.bool (((K : Int) + 1 + 1 + 1) % 3 == 0))
      have L3t : Below base w ((w3.setCell ⟨B, j * 10 + 2, none⟩ (.string (mkT (K + 2)))).setCell ⟨B, j * 10 + 3, none⟩ (.bool (((K : Int) + 1 + 1 + 1) % 3 == 0))) := L3s.setCell (by exact hbB) _
      go_wp2_with fail
      go_fit (m4.out _)
      rintro e w4 ⟨rfl, hb4⟩
      have D4 : Hid (C10 w4 B (j * 10) _) := D3t.out.below hb4
      have O4 : Hid (OC w4 B n j (mkX E k0 j) T) := O3t.out.below hb4
      have V4 : Hid (EvIv w4 (E j) (T j).pa (T j).cp (T j).aa (T j).ca (T j).ga (T j).cg (T j).lo (T j).m1 (T j).m2 (T j).hi) := V3t.out.below hb4
      have L4 : Below base w w4 := L3t.trans (hb4.mono (by have := D3t.out.lt; omega))
      clear y2 z2 y3 z3
      have y4 : w4.cell? ⟨B, j * 10 + 4, none⟩ = _ := D4.out.c 4 (by decide)
      have z4 : w4.frozen? ⟨B, j * 10 + 4, none⟩ = false := D4.out.z 4 (by decide)
      have y5 : w4.cell? ⟨B, j * 10 + 5, none⟩ = _ := D4.out.c 5 (by decide)
      have z5 : w4.frozen? ⟨B, j * 10 + 5, none⟩ = false := D4.out.z 5 (by decide)
      have y6 : w4.cell? ⟨B, j * 10 + 6, none⟩ = some (.slice (T j).pa (E j).np (T j).cp) := (D4.out.c 6 (by decide)).trans (congrArg some g6)
      have D4s : Hid (C10 (w4.setCell ⟨B, j * 10 + 4, none⟩ (.string (mkT (K + 4)))) B (j * 10) _) := D4.out.set 4 (by decide) (.string (mkT (K + 4)))
      have O4s : Hid (OC (w4.setCell ⟨B, j * 10 + 4, none⟩ (.string (mkT (K + 4)))) B n j (mkX E k0 j) T) := O4.out.set 4 (by decide) (.string (mkT (K + 4)))
      have V4s : Hid (EvIv (w4.setCell ⟨B, j * 10 + 4, none⟩ (.string (mkT (K + 4)))) (E j) (T j).pa (T j).cp (T j).aa (T j).ca (T j).ga (T j).cg (T j).lo (T j).m1 (T j).m2 (T j).hi) := V4.out.set hlo (.string (mkT (K + 4)))
      have L4s : Below base w (w4.setCell ⟨B, j * 10 + 4, none⟩ (.string (mkT (K + 4)))) := L4.setCell (by exact hbB) _
      have D4t : Hid (C10 ((w4.setCell ⟨B, j * 10 + 4, none⟩ (.string (mkT (K + 4)))).setCell ⟨B, j * 10 + 5, none⟩ (.int .i64 ((K : Int) + 1 + 1 + 1 + 1 + 1))) B (j * 10) _) := D4s.out.set 5 (by decide) (.int .i64 ((K : Int) + 1 + 1 + 1 + 1 + 1))
      have O4t : Hid (OC ((w4.setCell ⟨B, j * 10 + 4, none⟩ (.string (mkT (K + 4)))).setCell ⟨B, j * 10 + 5, none⟩ (.int .i64 ((K : Int) + 1 + 1 + 1 + 1 + 1))) B n j (mkX E k0 j) T) := O4s.out.set 5 (by decide) (.int .i64 ((K : Int) + 1 + 1 + 1 + 1 + 1))
      have V4t : Hid (EvIv ((w4.setCell ⟨B, j * 10 + 4, none⟩ (.string (mkT (K + 4)))).setCell ⟨B, j * 10 + 5, none⟩ (.int .i64 ((K : Int) + 1 + 1 + 1 + 1 + 1))) (E j) (T j).pa (T j).cp (T j).aa (T j).ca (T j).ga (T j).cg (T j).lo (T j).m1 (T j).m2 (T j).hi) := V4s.out.set hlo (.int .i64 ((K : Int) + 1 + 1 + 1 + 1 + 1))
      have L4t : Below base w ((w4.setCell ⟨B, j * 10 + 4, none⟩ (.string (mkT (K + 4)))).setCell ⟨B, j * 10 + 5, none⟩ (.int .i64 ((K : Int) + 1 + 1 + 1 + 1 + 1))) := L4s.setCell (by exact hbB) _
      have hP : Hid (Calls Try.prog 30 #[.slice (T j).pa (E j).np (T j).cp, .int .i64 ((K + 6 : Nat) : Int)] ((w4.setCell ⟨B, j * 10 + 4, none⟩ (.string (mkT (K + 4)))).setCell ⟨B, j * 10 + 5, none⟩ (.int .i64 ((K : Int) + 1 + 1 + 1 + 1 + 1))) fun e w' => e = .returned (.int .i64 ((K + 6 + (E j).np : Nat) : Int)) ∧ SlS w' (T j).pa (E j).np (T j).cp (fun i => mkT (K + 6 + i)) ∧ World.grownBy ((w4.setCell ⟨B, j * 10 + 4, none⟩ (.string (mkT (K + 4)))).setCell ⟨B, j * 10 + 5, none⟩ (.int .i64 ((K : Int) + 1 + 1 + 1 + 1 + 1))) w' (rowOf (T j).pa (E j).np)) := markS_sl (k0 := K + 6) _ (by omega) (by omega) V4t.out.ok.hp V4t.out.wp
      go_wp2_with fail
      go_fit hP.out
      rintro e w5 ⟨rfl, s5, gr5⟩
      have R5 : ∀ b, rowOf (T j).pa (E j).np = some b → (T j).lo ≤ b ∧ b < (T j).m1 := fun b hb => V4t.out.ip.row b hb
      have D5 : Hid (C10 w5 B (j * 10) _) := D4t.out.grown gr5 (fun b hb => by have := R5 b hb; omega)
      have O5 : Hid (OC w5 B n j (mkX E k0 j) T) := O4t.out.grown gr5 (fun b hb => by have := R5 b hb; omega) (fun i h1 h2 b hb => HF.out b (R5 b hb).1 (by have := R5 b hb; omega) i h1 h2)
      have A5 := V4t.out.ok.ha.grownI gr5 V4t.out.ia (fun b hb => by have := R5 b hb; omega)
      have B5 := V4t.out.wa.grownI gr5 V4t.out.ia (fun b hb => by have := R5 b hb; omega)
      have G5 := V4t.out.ok.hg.grownI gr5 V4t.out.ig (fun b hb => by have := R5 b hb; omega)
      have I5 := V4t.out.wg.grownI gr5 V4t.out.ig (fun b hb => by have := R5 b hb; omega)
      have L5 : Below base w w5 := L4t.grown gr5 (by have := O4t.out.lt; omega) (fun b hb => by have := R5 b hb; omega)
      have H5 : Hid (SlS w5 (T j).pa (E j).np (T j).cp (fun i => mkT (K + 6 + i))) := s5
      have HA5 : Hid (SlS w5 (T j).aa (E j).na (T j).ca (E j).Av ∧ SlW w5 (T j).m1 (T j).aa (E j).na 1) := ⟨A5, B5⟩
      have HG5 : Hid (SlG w5 (T j).ga (E j).ng (T j).cg (E j).M (E j).L ∧ SlW w5 (T j).m2 (T j).ga (E j).ng 2) := ⟨G5, I5⟩
      have y7 : w5.cell? ⟨B, j * 10 + 7, none⟩ = some (.slice (T j).aa (E j).na (T j).ca) := (D5.out.c 7 (by decide)).trans (congrArg some g7)
      clear y4 z4 y5 z5 y6 hP s5 A5 B5 G5 I5
      have hA : Hid (Calls Try.prog 30 #[.slice (T j).aa (E j).na (T j).ca, .int .i64 ((K + 6 + (E j).np : Nat) : Int)] w5 fun e w' => e = .returned (.int .i64 ((K + 6 + (E j).np + (E j).na : Nat) : Int)) ∧ SlS w' (T j).aa (E j).na (T j).ca (fun i => mkT (K + 6 + (E j).np + i)) ∧ w5.grownBy w' (rowOf (T j).aa (E j).na)) := markS_sl (k0 := K + 6 + (E j).np) _ (by omega) (by omega) HA5.out.1 HA5.out.2
      go_wp2_with fail
      go_fit hA.out
      rintro e w6 ⟨rfl, s6, gr6⟩
      have R6 : ∀ b, rowOf (T j).aa (E j).na = some b → (T j).m1 ≤ b ∧ b < (T j).m2 := fun b hb => HV.out.ia.row b hb
      have D6 : Hid (C10 w6 B (j * 10) _) := D5.out.grown gr6 (fun b hb => by have := R6 b hb; omega)
      have O6 : Hid (OC w6 B n j (mkX E k0 j) T) := O5.out.grown gr6 (fun b hb => by have := R6 b hb; omega) (fun i h1 h2 b hb => HF.out b (by have := R6 b hb; omega) (by have := R6 b hb; omega) i h1 h2)
      have H6 : Hid (SlS w6 (T j).pa (E j).np (T j).cp (fun i => mkT (K + 6 + i)) ∧ SlS w6 (T j).aa (E j).na (T j).ca (fun i => mkT (K + 6 + (E j).np + i)) ∧ SlG w6 (T j).ga (E j).ng (T j).cg (E j).M (E j).L ∧ SlW w6 (T j).m2 (T j).ga (E j).ng 2) := ⟨H5.out.grownI gr6 HV.out.ip (fun b hb => by have := R6 b hb; omega), s6, HG5.out.1.grownI gr6 HV.out.ig (fun b hb => by have := R6 b hb; omega), HG5.out.2.grownI gr6 HV.out.ig (fun b hb => by have := R6 b hb; omega)⟩
      have L6 : Below base w w6 := L5.grown gr6 (by have := O5.out.lt; omega) (fun b hb => by have := R6 b hb; omega)
      clear y7 hA s6 H5 HA5 HG5
      go_wp2_with fail
      go_fit (m6.out _)
      rintro e w7 ⟨rfl, hb7⟩
      have D7 : Hid (C10 w7 B (j * 10) _) := D6.out.below hb7
      have O7 : Hid (OC w7 B n j (mkX E k0 j) T) := O6.out.below hb7
      have L7 : Below base w w7 := L6.trans (hb7.mono (by have := D6.out.lt; omega))
      have y8 : w7.cell? ⟨B, j * 10 + 8, none⟩ = _ := D7.out.c 8 (by decide)
      have z8 : w7.frozen? ⟨B, j * 10 + 8, none⟩ = false := D7.out.z 8 (by decide)
      have y9 : w7.cell? ⟨B, j * 10 + 9, none⟩ = some (.slice (T j).ga (E j).ng (T j).cg) := (D7.out.c 9 (by decide)).trans (congrArg some g9)
      have D7s : Hid (C10 (w7.setCell ⟨B, j * 10 + 8, none⟩ (.string (mkT (K + 6 + (E j).np + (E j).na)))) B (j * 10) _) := D7.out.set 8 (by decide) (.string (mkT (K + 6 + (E j).np + (E j).na)))
      have O7s : Hid (OC (w7.setCell ⟨B, j * 10 + 8, none⟩ (.string (mkT (K + 6 + (E j).np + (E j).na)))) B n j (mkX E k0 j) T) := O7.out.set 8 (by decide) (.string (mkT (K + 6 + (E j).np + (E j).na)))
      have L7s : Below base w (w7.setCell ⟨B, j * 10 + 8, none⟩ (.string (mkT (K + 6 + (E j).np + (E j).na)))) := L7.setCell (by exact hbB) _
      have H7 : Hid (SlS (w7.setCell ⟨B, j * 10 + 8, none⟩ (.string (mkT (K + 6 + (E j).np + (E j).na)))) (T j).pa (E j).np (T j).cp (fun i => mkT (K + 6 + i)) ∧ SlS (w7.setCell ⟨B, j * 10 + 8, none⟩ (.string (mkT (K + 6 + (E j).np + (E j).na)))) (T j).aa (E j).na (T j).ca (fun i => mkT (K + 6 + (E j).np + i)) ∧ SlG (w7.setCell ⟨B, j * 10 + 8, none⟩ (.string (mkT (K + 6 + (E j).np + (E j).na)))) (T j).ga (E j).ng (T j).cg (E j).M (E j).L ∧ SlW (w7.setCell ⟨B, j * 10 + 8, none⟩ (.string (mkT (K + 6 + (E j).np + (E j).na)))) (T j).m2 (T j).ga (E j).ng 2) := ⟨(H6.out.1.below hb7).setF HV.out.ip (by omega) _, (H6.out.2.1.below hb7).setF HV.out.ia (by omega) _, (H6.out.2.2.1.below hb7).setF HV.out.ig (by omega) _, (H6.out.2.2.2.below hb7).setF HV.out.ig (by omega) _⟩
      have hG : Hid (Calls Try.prog 31 #[.slice (T j).ga (E j).ng (T j).cg, .int .i64 ((K + 6 + (E j).np + (E j).na + 1 : Nat) : Int)] (w7.setCell ⟨B, j * 10 + 8, none⟩ (.string (mkT (K + 6 + (E j).np + (E j).na)))) fun e w' => e = .returned (.int .i64 ((K + 6 + (E j).np + (E j).na + 1 + (E j).ng * 2 : Nat) : Int)) ∧ SlG w' (T j).ga (E j).ng (T j).cg (mgM (K + 6 + (E j).np + (E j).na + 1)) (mgL (K + 6 + (E j).np + (E j).na + 1)) ∧ World.grownBy (w7.setCell ⟨B, j * 10 + 8, none⟩ (.string (mkT (K + 6 + (E j).np + (E j).na)))) w' (rowOf (T j).ga (E j).ng)) := markG_sl (k0 := K + 6 + (E j).np + (E j).na + 1) _ (by omega) (by omega) H7.out.2.2.1 H7.out.2.2.2
      go_wp2_with fail
      go_fit hG.out
      rintro e w8 ⟨rfl, s8, gr8⟩
      have R8 : ∀ b, rowOf (T j).ga (E j).ng = some b → (T j).m2 ≤ b ∧ b < (T j).hi := fun b hb => HV.out.ig.row b hb
      have D8 : Hid (C10 w8 B (j * 10) _) := D7s.out.grown gr8 (fun b hb => by have := R8 b hb; omega)
      have O8 : Hid (OC w8 B n j (mkX E k0 j) T) := O7s.out.grown gr8 (fun b hb => by have := R8 b hb; omega) (fun i h1 h2 b hb => HF.out b (by have := R8 b hb; omega) (by have := R8 b hb; omega) i h1 h2)
      have L8 : Below base w w8 := L7s.grown gr8 (by have := O7s.out.lt; omega) (fun b hb => by have := R8 b hb; omega)
      have hz8 : (T j).hi ≤ w8.heap.size := by have q1 := hb1.size; have q2 := hb2.size; have q3 := hb3.size; have q4 := hb4.size; have q5 := gr5.size; have q6 := gr6.size; have q7 := hb7.size; have q8 := gr8.size; simp [World.setCell] at q1 q2 q3 q4 q5 q6 q7 q8; omega
      have hfin : Hid (RoomW w8 base B n (j + 1) (mkX E k0 (j + 1)) T) := by
        refine HE.out w8 O8.out ?_ ?_
        · exact ⟨(D8.out.c 0 (by decide)).trans rfl, (D8.out.c 1 (by decide)).trans rfl, (D8.out.c 2 (by decide)).trans rfl, (D8.out.c 3 (by decide)).trans rfl, (D8.out.c 4 (by decide)).trans rfl, (D8.out.c 5 (by decide)).trans rfl, (D8.out.c 6 (by decide)).trans (congrArg some g6), (D8.out.c 7 (by decide)).trans (congrArg some g7), (D8.out.c 8 (by decide)).trans rfl, (D8.out.c 9 (by decide)).trans (congrArg some g9)⟩
        · have q1 := H7.out.1.grownI gr8 HV.out.ip (fun b hb => by have := R8 b hb; omega)
          have q2 := H7.out.2.1.grownI gr8 HV.out.ia (fun b hb => by have := R8 b hb; omega)
          have hm : ∀ k, k ≤ 1000000000000 → (mkT k).size ≤ maxLen := fun k hk => Nat.le_trans (mkT_size hk) (by decide)
          exact ⟨⟨hm _ (by omega), hm _ (by omega), hm _ (by omega), hm _ (by omega), hm _ (by omega), q1, q2, s8⟩, HV.out.ip, HV.out.ia, HV.out.ig, hh.1, hh.2.1, hh.2.2.1, hz8⟩
      go_wp2
      go_roundw
      case rel => exact ⟨j + 1, by omega, by rw [hss, hnum]; have := hK.out; congr 1; omega, by go_num, hfin, L8⟩
      case measure => simp [intOf]; omega
    · have hje : j = n := by omega
      subst hje
      go_wp2
      go_ret
      exact ⟨by first | rfl | (congr 2), hR.out, hbel⟩
end Go.Proofs.Ytpdnocfefmobjaa
